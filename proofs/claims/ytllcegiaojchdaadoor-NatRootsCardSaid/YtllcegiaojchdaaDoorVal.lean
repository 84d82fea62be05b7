/- Plain facts on numbers written as lists of digits, the lowest first: no condition, no program. -/

namespace Go.Proofs.YtllcegiaojchdaaDoor
namespace V

def val (B : Nat) : List Nat → Nat
  | [] => 0
  | x :: r => x + B * val B r

/-- The last digit, if there is one, is not zero. -/
def Nrm (xs : List Nat) : Prop := 0 < xs.length → xs.getD (xs.length - 1) 0 ≠ 0

/-- Every digit is below the base. -/
def Dig (B : Nat) (xs : List Nat) : Prop := ∀ x ∈ xs, x < B

theorem val_cons (B x : Nat) (r : List Nat) : val B (x :: r) = x + B * val B r := rfl
theorem val_one (B x : Nat) : val B [x] = x := by simp [val]
theorem val_append (B : Nat) (xs ys : List Nat) : val B (xs ++ ys) = val B xs + B ^ xs.length * val B ys := by
  induction xs with
  | nil => simp [val]
  | cons x r ih =>
    simp only [List.cons_append, val, ih, List.length_cons, Nat.pow_succ, Nat.mul_add]
    rw [Nat.mul_comm (B ^ r.length) B, Nat.mul_assoc, Nat.add_assoc]
theorem val_snoc (B : Nat) (xs : List Nat) (y : Nat) : val B (xs ++ [y]) = val B xs + B ^ xs.length * y := by
  rw [val_append, val_one]
theorem val_zeros (B n : Nat) : val B (List.replicate n 0) = 0 := by
  induction n with
  | zero => rfl
  | succ n ih => simp [List.replicate_succ, val, ih]
theorem val_lt (B : Nat) (xs : List Nat) (h : Dig B xs) : val B xs < B ^ xs.length := by
  induction xs with
  | nil => simp [val]
  | cons x r ih =>
    have hx : x < B := h x (by simp)
    have hr := ih (fun y hy => h y (by simp [hy]))
    simp only [val, List.length_cons, Nat.pow_succ]
    have h1 : B * (val B r + 1) ≤ B * B ^ r.length := Nat.mul_le_mul_left _ hr
    rw [Nat.mul_comm (B ^ r.length) B]
    rw [Nat.mul_add] at h1
    omega
theorem take_succ (xs : List Nat) (k : Nat) (h : k < xs.length) : xs.take (k + 1) = xs.take k ++ [xs.getD k 0] := by
  rw [List.take_succ_eq_append_getElem h]
  simp [List.getD_eq_getElem?_getD, List.getElem?_eq_getElem h]
theorem drop_eq (xs : List Nat) (k : Nat) (h : k < xs.length) : xs.drop k = xs.getD k 0 :: xs.drop (k + 1) := by
  rw [List.drop_eq_getElem_cons h]
  simp [List.getD_eq_getElem?_getD, List.getElem?_eq_getElem h]
theorem val_take_succ (B : Nat) (xs : List Nat) (k : Nat) (h : k < xs.length) : val B (xs.take (k + 1)) = val B (xs.take k) + B ^ k * xs.getD k 0 := by
  rw [take_succ xs k h, val_snoc, List.length_take, Nat.min_eq_left (by omega)]
theorem val_drop (B : Nat) (xs : List Nat) (k : Nat) (h : k < xs.length) : val B (xs.drop k) = xs.getD k 0 + B * val B (xs.drop (k + 1)) := by
  rw [drop_eq xs k h, val_cons]
theorem val_split (B : Nat) (xs : List Nat) (k : Nat) (h : k ≤ xs.length) : val B xs = val B (xs.take k) + B ^ k * val B (xs.drop k) := by
  have e : val B xs = val B (xs.take k ++ xs.drop k) := by rw [List.take_append_drop]
  rw [e, val_append, List.length_take, Nat.min_eq_left h]
theorem dig_getD {B : Nat} {xs : List Nat} (h : Dig B xs) (hB : 0 < B) (k : Nat) : xs.getD k 0 < B := by
  rw [List.getD_eq_getElem?_getD]
  rcases Nat.lt_or_ge k xs.length with hk | hk
  · rw [List.getElem?_eq_getElem hk]; exact h _ (List.getElem_mem hk)
  · rw [List.getElem?_eq_none hk]; exact hB
theorem Dig.take {B : Nat} {xs : List Nat} (h : Dig B xs) (k : Nat) : Dig B (xs.take k) := fun x hx => h x (List.mem_of_mem_take hx)
theorem Dig.drop {B : Nat} {xs : List Nat} (h : Dig B xs) (k : Nat) : Dig B (xs.drop k) := fun x hx => h x (List.mem_of_mem_drop hx)
theorem Dig.snoc {B : Nat} {xs : List Nat} (h : Dig B xs) {d : Nat} (hd : d < B) : Dig B (xs ++ [d]) := by
  intro x hx
  rcases List.mem_append.1 hx with h1 | h1
  · exact h x h1
  · simp at h1; omega
theorem Dig.tail {B x : Nat} {xs : List Nat} (h : Dig B (x :: xs)) : Dig B xs := fun y hy => h y (by simp [hy])
theorem Nrm.tail {x : Nat} {xs : List Nat} (h : Nrm (x :: xs)) : Nrm xs := by
  intro hl
  have := h (by simp)
  cases xs with
  | nil => simp at hl
  | cons y r => simpa [List.getD_eq_getElem?_getD] using this
theorem nrm_nil : Nrm [] := fun h => by simp at h
theorem val_zero {B : Nat} (hB : 0 < B) {xs : List Nat} (hn : Nrm xs) (h : val B xs = 0) : xs = [] := by
  induction xs with
  | nil => rfl
  | cons x r ih =>
    simp only [val] at h
    have hr : val B r = 0 := by
      rcases Nat.eq_zero_or_pos (val B r) with h0 | h0
      · exact h0
      · have := Nat.mul_pos hB h0; omega
    have hx : x = 0 := by omega
    have := ih hn.tail hr
    subst this
    have := hn (by simp)
    simp at this
    omega
theorem val_inj {B : Nat} {xs ys : List Nat} (hx : Dig B xs) (hy : Dig B ys) (nx : Nrm xs) (ny : Nrm ys) (h : val B xs = val B ys) : xs = ys := by
  induction xs generalizing ys with
  | nil =>
    cases ys with
    | nil => rfl
    | cons y r =>
      have hB : 0 < B := Nat.lt_of_le_of_lt (Nat.zero_le _) (hy y (by simp))
      exact (val_zero hB ny (by rw [← h]; rfl)).symm
  | cons x r ih =>
    have hxB : x < B := hx x (by simp)
    have hB : 0 < B := by omega
    cases ys with
    | nil => exact val_zero hB nx (by rw [h]; rfl)
    | cons y s =>
      have hyB : y < B := hy y (by simp)
      simp only [val] at h
      have hm : x = y := by
        have := congrArg (· % B) h
        simpa [Nat.add_mul_mod_self_left, Nat.mod_eq_of_lt hxB, Nat.mod_eq_of_lt hyB] using this
      subst hm
      have hv : val B r = val B s := Nat.eq_of_mul_eq_mul_left hB (by omega)
      rw [ih hx.tail hy.tail nx.tail ny.tail hv]
/-- A number whose last digit is not zero is at least the power. -/
theorem val_ge {B : Nat} {xs : List Nat} (hn : Nrm xs) (hl : 0 < xs.length) : B ^ (xs.length - 1) ≤ val B xs := by
  rw [val_split B xs (xs.length - 1) (by omega), val_drop B xs (xs.length - 1) (by omega)]
  have h1 := hn hl
  have h2 : B ^ (xs.length - 1) * 1 ≤ B ^ (xs.length - 1) * (xs.getD (xs.length - 1) 0 + B * val B (xs.drop (xs.length - 1 + 1))) := Nat.mul_le_mul_left _ (by omega)
  omega
theorem val_lt_of_len {B : Nat} (hB : 0 < B) {xs ys : List Nat} (hx : Dig B xs) (ny : Nrm ys) (h : xs.length < ys.length) : val B xs < val B ys := by
  have h1 := val_lt B xs hx
  have h2 := val_ge (B := B) ny (by omega)
  have h3 : B ^ xs.length ≤ B ^ (ys.length - 1) := Nat.pow_le_pow_right hB (by omega)
  omega
theorem val_lt_of_top {B : Nat} {xs ys : List Nat} (hx : Dig B xs) (hl : xs.length = ys.length) {k : Nat} (hk : k < xs.length)
    (he : xs.drop (k + 1) = ys.drop (k + 1)) (hlt : xs.getD k 0 < ys.getD k 0) : val B xs < val B ys := by
  rw [val_split B xs k (by omega), val_split B ys k (by omega), val_drop B xs k hk, val_drop B ys k (by omega), he]
  have h1 := val_lt B (xs.take k) (hx.take k)
  rw [List.length_take, Nat.min_eq_left (by omega)] at h1
  have h2 : B ^ k * (xs.getD k 0 + B * val B (ys.drop (k + 1)) + 1) ≤ B ^ k * (ys.getD k 0 + B * val B (ys.drop (k + 1))) := Nat.mul_le_mul_left _ (by omega)
  rw [Nat.mul_add, Nat.mul_one] at h2
  omega
/-- A cut that leaves zeros alone out keeps the value. -/
theorem val_cut (B : Nat) (xs : List Nat) (k : Nat) (h : k < xs.length) (h0 : xs.getD k 0 = 0) (hv : val B (xs.take (k + 1)) = val B xs) : val B (xs.take k) = val B xs := by
  rw [val_take_succ B xs k h, h0] at hv
  simpa using hv
theorem nrm_take (xs : List Nat) (m : Nat) (hm : m ≤ xs.length) (h : 0 < m → xs.getD (m - 1) 0 ≠ 0) : Nrm (xs.take m) := by
  intro hl
  rw [List.length_take, Nat.min_eq_left hm] at hl ⊢
  have := h hl
  simpa [List.getD_eq_getElem?_getD, List.getElem?_take, show m - 1 < m by omega] using this
theorem getD_set (xs : List Nat) (i : Nat) (v : Nat) (j : Nat) (hi : i < xs.length) : (xs.set i v).getD j 0 = if j = i then v else xs.getD j 0 := by
  simp only [List.getD_eq_getElem?_getD, List.getElem?_set]
  by_cases h : i = j
  · subst h; simp [hi]
  · simp [h, Ne.symm h]
theorem set_take_drop (xs : List Nat) (i v : Nat) (hi : i < xs.length) : xs.set i v = xs.take i ++ v :: xs.drop (i + 1) := by
  rw [List.set_eq_take_append_cons_drop, if_pos hi]
theorem Dig.set {B : Nat} {xs : List Nat} (h : Dig B xs) (i : Nat) {v : Nat} (hv : v < B) : Dig B (xs.set i v) := by
  intro x hx
  rcases List.mem_or_eq_of_mem_set hx with h1 | h1
  · exact h x h1
  · omega
theorem Dig.zeros {B : Nat} (hB : 0 < B) (n : Nat) : Dig B (List.replicate n 0) := by
  intro x hx
  have := List.eq_of_mem_replicate hx
  omega
theorem Dig.append {B : Nat} {xs ys : List Nat} (h : Dig B xs) (k : Dig B ys) : Dig B (xs ++ ys) := by
  intro x hx
  rcases List.mem_append.1 hx with h1 | h1
  · exact h x h1
  · exact k x h1
theorem take_set (xs : List Nat) (k v : Nat) (h : k < xs.length) : (xs.set k v).take (k + 1) = xs.take k ++ [v] := by
  rw [set_take_drop xs k v h, List.take_append, List.length_take, Nat.min_eq_left (by omega), List.take_of_length_le (by rw [List.length_take]; omega)]
  simp
theorem val_set_take (B : Nat) (xs : List Nat) (k v : Nat) (h : k < xs.length) : val B ((xs.set k v).take (k + 1)) = val B (xs.take k) + B ^ k * v := by
  rw [take_set xs k v h, val_snoc, List.length_take, Nat.min_eq_left (by omega)]
/-- One step of a sum of two numbers. -/
theorem add_step (B k s c c' x y : Nat) (cur ls ss : List Nat) (hk : k < cur.length) (hl : k < ls.length) (hs : k < ss.length) (ex : ls.getD k 0 = x) (ey : ss.getD k 0 = y)
    (e : s + B * c' = x + y + c) (hv : val B (cur.take k) + B ^ k * c = val B (ls.take k) + val B (ss.take k)) :
    val B ((cur.set k s).take (k + 1)) + B ^ (k + 1) * c' = val B (ls.take (k + 1)) + val B (ss.take (k + 1)) := by
  rw [val_set_take B cur k s hk, val_take_succ B ls k hl, val_take_succ B ss k hs, ex, ey, Nat.pow_succ, Nat.mul_assoc]
  have h := congrArg (B ^ k * ·) e
  simp only [Nat.mul_add] at h
  omega
/-- One step of a sum beyond the end of the second number. -/
theorem add_step1 (B k s c c' x t : Nat) (cur ls : List Nat) (hk : k < cur.length) (hl : k < ls.length) (ex : ls.getD k 0 = x)
    (e : s + B * c' = x + c) (hv : val B (cur.take k) + B ^ k * c = val B (ls.take k) + t) :
    val B ((cur.set k s).take (k + 1)) + B ^ (k + 1) * c' = val B (ls.take (k + 1)) + t := by
  rw [val_set_take B cur k s hk, val_take_succ B ls k hl, ex, Nat.pow_succ, Nat.mul_assoc]
  have h := congrArg (B ^ k * ·) e
  simp only [Nat.mul_add] at h
  omega
theorem val_set (B : Nat) (xs : List Nat) (k v : Nat) (h : k < xs.length) : val B (xs.set k v) + B ^ k * xs.getD k 0 = val B xs + B ^ k * v := by
  rw [set_take_drop xs k v h, val_append, List.length_take, Nat.min_eq_left (by omega), val_cons, val_split B xs k (by omega), val_drop B xs k h]
  simp only [Nat.mul_add]
  omega
/-- One step of adding a multiple: the word k of ys times x at place i + k. -/
theorem times_step (B i k s c c' x y o : Nat) (cur ys : List Nat) (base : Nat) (hk : i + k < cur.length) (hy : k < ys.length) (ey : ys.getD k 0 = y) (eo : cur.getD (i + k) 0 = o)
    (e : s + B * c' = y * x + o + c) (hv : val B cur + B ^ (i + k) * c = base + B ^ i * (x * val B (ys.take k))) :
    val B (cur.set (i + k) s) + B ^ (i + (k + 1)) * c' = base + B ^ i * (x * val B (ys.take (k + 1))) := by
  have h1 := val_set B cur (i + k) s hk
  rw [eo] at h1
  rw [val_take_succ B ys k hy, ey]
  have h := congrArg (B ^ (i + k) * ·) e
  simp only [Nat.mul_add] at h
  rw [← Nat.add_assoc i k 1, Nat.pow_succ, Nat.mul_assoc]
  have h2 : B ^ i * (x * (val B (ys.take k) + B ^ k * y)) = B ^ i * (x * val B (ys.take k)) + B ^ (i + k) * (y * x) := by
    rw [Nat.mul_add, Nat.mul_add, Nat.pow_add]
    congr 1
    rw [Nat.mul_assoc, Nat.mul_comm x (B ^ k * y), Nat.mul_assoc]
  rw [h2]
  omega
/-- One step of a difference. -/
theorem sub_step (B k s c c' x y : Nat) (cur ls ss : List Nat) (hk : k < cur.length) (hl : k < ls.length) (hs : k < ss.length) (ex : ls.getD k 0 = x) (ey : ss.getD k 0 = y)
    (e : s + y + c = x + B * c') (hv : val B (cur.take k) + val B (ss.take k) = val B (ls.take k) + B ^ k * c) :
    val B ((cur.set k s).take (k + 1)) + val B (ss.take (k + 1)) = val B (ls.take (k + 1)) + B ^ (k + 1) * c' := by
  rw [val_set_take B cur k s hk, val_take_succ B ls k hl, val_take_succ B ss k hs, ex, ey, Nat.pow_succ, Nat.mul_assoc]
  have h := congrArg (B ^ k * ·) e
  simp only [Nat.mul_add] at h
  omega
theorem sub_step1 (B k s c c' x t : Nat) (cur ls : List Nat) (hk : k < cur.length) (hl : k < ls.length) (ex : ls.getD k 0 = x)
    (e : s + c = x + B * c') (hv : val B (cur.take k) + t = val B (ls.take k) + B ^ k * c) :
    val B ((cur.set k s).take (k + 1)) + t = val B (ls.take (k + 1)) + B ^ (k + 1) * c' := by
  rw [val_set_take B cur k s hk, val_take_succ B ls k hl, ex, Nat.pow_succ, Nat.mul_assoc]
  have h := congrArg (B ^ k * ·) e
  simp only [Nat.mul_add] at h
  omega
/-- At the end of a difference nothing is borrowed. -/
theorem sub_end {B c : Nat} {cur ls : List Nat} {t : Nat} (hc : Dig B cur) (hl : cur.length = ls.length) (ht : t ≤ val B ls) (hv : val B cur + t = val B ls + B ^ ls.length * c) (hc1 : c ≤ 1) : val B cur + t = val B ls := by
  have h1 := val_lt B cur hc
  rw [hl] at h1
  rcases Nat.eq_zero_or_pos c with h0 | h0
  · subst h0; simpa using hv
  · obtain rfl : c = 1 := by omega
    rw [Nat.mul_one] at hv
    omega
theorem small_step (B n s c c' x k t : Nat) (out xs : List Nat) (hl : out.length = n) (hn : n < xs.length) (ex : xs.getD n 0 = x) (e : s + B * c' = c + x * k)
    (hv : val B out + B ^ n * c = val B (xs.take n) * k + t) : val B (out ++ [s]) + B ^ (n + 1) * c' = val B (xs.take (n + 1)) * k + t := by
  rw [val_snoc, hl, val_take_succ B xs n hn, ex, Nat.pow_succ, Nat.mul_assoc, Nat.add_mul, Nat.mul_assoc]
  have h := congrArg (B ^ n * ·) e
  simp only [Nat.mul_add] at h
  omega
theorem flush_step (B s c c' t : Nat) (out : List Nat) (e : s + B * c' = c) (hv : val B out + B ^ out.length * c = t) : val B (out ++ [s]) + B ^ (out ++ [s]).length * c' = t := by
  rw [val_snoc, List.length_append, List.length_singleton, Nat.pow_succ, Nat.mul_assoc]
  have h := congrArg (B ^ out.length * ·) e
  simp only [Nat.mul_add] at h
  omega
theorem len_of_lt {B : Nat} (hB : 1 < B) {xs : List Nat} (hn : Nrm xs) {k : Nat} (h : val B xs < B ^ k) : xs.length ≤ k := by
  rcases Nat.lt_or_ge k xs.length with h1 | h1
  · have h2 := val_ge (B := B) hn (by omega)
    have h3 : B ^ k ≤ B ^ (xs.length - 1) := Nat.pow_le_pow_right (by omega) (by omega)
    omega
  · exact h1
theorem getD_beyond (xs : List Nat) (k : Nat) (h : xs.length ≤ k) : xs.getD k 0 = 0 := by
  rw [List.getD_eq_getElem?_getD, List.getElem?_eq_none h]; rfl
theorem val_take_any (B : Nat) (xs : List Nat) (k : Nat) : val B (xs.take (k + 1)) = val B (xs.take k) + B ^ k * xs.getD k 0 := by
  rcases Nat.lt_or_ge k xs.length with h | h
  · exact val_take_succ B xs k h
  · rw [List.take_of_length_le h, List.take_of_length_le (by omega), getD_beyond xs k h]; simp
theorem addr_step (B k s c c' x y : Nat) (out xs ys : List Nat) (hl : out.length = k) (ex : xs.getD k 0 = x) (ey : ys.getD k 0 = y) (e : s + B * c' = c + x + y)
    (hv : val B out + B ^ k * c = val B (xs.take k) + val B (ys.take k)) : val B (out ++ [s]) + B ^ (k + 1) * c' = val B (xs.take (k + 1)) + val B (ys.take (k + 1)) := by
  rw [val_snoc, hl, val_take_any, val_take_any, ex, ey, Nat.pow_succ, Nat.mul_assoc]
  have h := congrArg (B ^ k * ·) e
  simp only [Nat.mul_add] at h
  omega
theorem nrm_of_ge {B : Nat} {xs : List Nat} (hd : Dig B xs) (h' : 0 < xs.length → B ^ (xs.length - 1) ≤ val B xs) : Nrm xs := by
  intro hl h0
  have h := h' hl
  have h1 := val_take_succ B xs (xs.length - 1) (by omega)
  rw [h0, Nat.sub_add_cancel (by omega), List.take_length] at h1
  have h2 := val_lt B (xs.take (xs.length - 1)) (hd.take _)
  rw [List.length_take, Nat.min_eq_left (by omega)] at h2
  omega
theorem drop_set (xs : List Nat) (k v : Nat) (h : k < xs.length) : (xs.set k v).drop k = v :: xs.drop (k + 1) := by
  rw [set_take_drop xs k v h, List.drop_append, List.length_take, Nat.min_eq_left (by omega), List.drop_of_length_le (by rw [List.length_take]; omega)]
  simp
/-- One step of a division by a small number, from the top. -/
theorem split_step (B j k x r s r' : Nat) (cur xs : List Nat) (hc : j < cur.length) (hx : j < xs.length) (ex : xs.getD j 0 = x) (e : s * k + r' = r * B + x)
    (hv : val B (xs.drop (j + 1)) = val B (cur.drop (j + 1)) * k + r) : val B (xs.drop j) = val B ((cur.set j s).drop j) * k + r' := by
  rw [drop_set cur j s hc, val_drop B xs j hx, ex, val_cons, hv, Nat.mul_add, Nat.add_mul, Nat.mul_assoc, Nat.mul_comm B r]
  omega
end V
end Go.Proofs.YtllcegiaojchdaaDoor

