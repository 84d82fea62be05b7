/- Slices of numbers that a call makes and appends to: the words and the one law that the walks use. -/
import Derived.Test.YtllcegiaojchdaaDoorMem
import Derived.Test.YtllcegiaojchdaaDoorRows
import Derived.WalkKit
import Derived.WalkSpells
import Derived.WalkLawsBesides
import Derived.Laws.BitsAllLaws
import Derived.BigQuiet
import Derived.StillTailTactics
namespace Go.Proofs.YtllcegiaojchdaaDoor
open Go.RowKit V

theorem nums_snoc (k : IntKind) (xs : List Nat) (d : Nat) : nums k (xs ++ [d]) = nums k xs ++ [.int k (d : Nat)] := by simp [nums]

/-- The slice value v owns the list: nil and nothing, or the head of a row from block B on. -/
def Own (k : IntKind) (e : TypeId) (B : Nat) (w : World) (v : Value) (xs : List Nat) : Prop := w.ownsRow B e 1 v xs.length (nums k xs)

section
variable {k : IntKind} {e : TypeId} {B : Nat} {w w' : World} {v : Value} {xs : List Nat}
theorem Own.nil_ : Own k e B w (.slice none 0 0) [] := World.ownsRow_nil _ _ _ _
theorem Own.form (h : Own k e B w v xs) : ∃ A c, v = .slice A xs.length c ∧ xs.length ≤ c ∧ Rd k w A xs := by
  have h' := h
  rcases h.2 with ⟨rfl, h0⟩ | ⟨g, cap, cur, rfl, _, _, hc, _⟩
  · have : xs = [] := List.eq_nil_of_length_eq_zero h0
    subst this
    exact ⟨none, 0, rfl, Nat.le_refl _, Rd.nil_⟩
  · exact ⟨_, cap, rfl, hc, Rd.of_own h'⟩
theorem Own.made (hb : B ≤ w.heap.size) (n : Nat) (hn : n ≤ 1000000) : Own k e B (w.alloc (.cells (nums k (List.replicate n 0)).toArray e)) (.slice (some ⟨w.heap.size, 0, none⟩) 0 n) [] :=
  World.ownsRow_made w _ n hb (by unfold maxLen; omega) (by simp [nums])
theorem Own.alloc (h : Own k e B w v xs) (o : Obj) : Own k e B (w.alloc o) v xs := World.ownsRow.alloc h o
theorem Own.kept (h : Own k e B w v xs) (hb : Below w.heap.size w w') : Own k e B w' v xs := by
  have h' := h
  refine ⟨h.1, ?_⟩
  rcases h.2 with h2 | ⟨g, cap, cur, h1, h2, h3, h4⟩
  · exact .inl h2
  · exact .inr ⟨g, cap, cur, h1, h2, by rw [hb.block g (Array.getElem?_eq_some_iff.1 h3).1]; exact h3, h4⟩
end

section
variable {k : IntKind} {e : TypeId} {B g n c i d : Nat} {w : World} {v : Value} {xs : List Nat}
theorem Own.shape (h : Own k e B w v xs) : ∃ A c, v = .slice A xs.length c ∧ xs.length ≤ c ∧ Rd k w A xs ∧ (0 < xs.length → ∃ g, A = some ⟨g, 0, none⟩ ∧ B ≤ g) := by
  have h' := h
  rcases h.2 with ⟨rfl, h0⟩ | ⟨g, cap, cur, rfl, hB, _, hc, _⟩
  · have : xs = [] := List.eq_nil_of_length_eq_zero h0
    subst this
    exact ⟨none, 0, rfl, Nat.le_refl _, Rd.nil_, fun h => by simp at h⟩
  · exact ⟨_, cap, rfl, hc, Rd.of_own h', fun _ => ⟨g, rfl, hB⟩⟩
theorem Own.shapeN (h : Own k e B w v xs) (hn : xs.length = n) : ∃ A c, v = .slice A n c ∧ n ≤ c ∧ Rd k w A xs ∧ (0 < n → ∃ g, A = some ⟨g, 0, none⟩ ∧ B ≤ g) := by
  subst hn; exact h.shape
theorem Own.cell (h : Own k e B w (.slice (some ⟨g, 0, none⟩) n c) xs) (hn : xs.length = n) (hi : i < n) : w.cell? ⟨g, i, none⟩ = some (.int k (xs.getD i 0 : Nat)) := by
  subst hn
  rw [World.ownsRow.cellAt h i (by omega)]
  exact nums_get hi
theorem Own.frz (h : Own k e B w (.slice (some ⟨g, 0, none⟩) n c) xs) (hn : xs.length = n) : w.frozen? ⟨g, i, none⟩ = false := by
  subst hn
  exact World.ownsRow.frozenAt h i
theorem Own.set_ (h : Own k e B w (.slice (some ⟨g, 0, none⟩) n c) xs) (hn : xs.length = n) : Own k e B (w.setCell ⟨g, i, none⟩ (.int k (d : Nat))) (.slice (some ⟨g, 0, none⟩) n c) (xs.set i d) := by
  subst hn
  have := (World.ownsRow.stored h i (.int k (d : Nat))).1
  show World.ownsRow _ B e 1 _ (xs.set i d).length (nums k (xs.set i d))
  rw [List.length_set, show nums k (xs.set i d) = (nums k xs).set i (.int k (d : Nat)) by simp [nums, List.map_set]]
  exact this
end

theorem Own.take_ {k : IntKind} {e : TypeId} {B n c m : Nat} {w : World} {A : Option Addr} {xs : List Nat} (h : Own k e B w (.slice A n c) xs) (hn : xs.length = n) (hm : m ≤ n) : Own k e B w (.slice A m c) (xs.take m) := by
  subst hn
  have hl : (xs.take m).length = m := by rw [List.length_take, Nat.min_eq_left hm]
  show World.ownsRow _ _ _ _ _ _ _
  rw [hl]
  rcases h.2 with ⟨h1, h2⟩ | ⟨g, cap, cur, h1, h2, h3, h4, h5, h6, h7⟩
  · injection h1 with h1 h1' h1''
    obtain rfl : m = 0 := by omega
    exact ⟨by rw [nums_len, hl], .inl ⟨by rw [h1, h1''], rfl⟩⟩
  · injection h1 with h1 h1' h1''
    subst h1; subst h1''
    refine ⟨by rw [nums_len, hl, Nat.mul_one], .inr ⟨g, c, cur, rfl, h2, h3, by omega, h5, h6, ?_⟩⟩
    rw [Nat.mul_one] at h7 ⊢
    have e2 : nums k (xs.take m) = (nums k xs).take m := by simp [nums, List.map_take]
    rw [e2, ← h7, List.take_take, Nat.min_eq_left hm]

theorem Own.base {k : IntKind} {e : TypeId} {B B' : Nat} {w : World} {v : Value} {xs : List Nat} (h : Own k e B w v xs) (hB : B' ≤ B) : Own k e B' w v xs := by
  refine ⟨h.1, ?_⟩
  rcases h.2 with h2 | ⟨g, cap, cur, h1, h2, h3⟩
  · exact .inl h2
  · exact .inr ⟨g, cap, cur, h1, Nat.le_trans hB h2, h3⟩

theorem Own.kept2 {k : IntKind} {e : TypeId} {B : Nat} {w w' : World} {v : Value} {xs : List Nat} (h : Own k e B w v xs) (hk : ∀ g, v.ownBlock = some g → g < w.heap.size → w'.heap[g]? = w.heap[g]?) : Own k e B w' v xs := by
  have hl := World.ownsRow.lt h
  refine ⟨h.1, ?_⟩
  rcases h.2 with h2 | ⟨g, cap, cur, rfl, h2, h3, h4⟩
  · exact .inl h2
  · exact .inr ⟨g, cap, cur, rfl, h2, by rw [hk g rfl (hl g rfl).2]; exact h3, h4⟩

/-- Only the block of A has been written. -/
structure OnlyAt (A : Option Addr) (w w' : World) : Prop where
  os : w'.os = w.os
  tape : w'.tape = w.tape
  output : w'.output = w.output
  size : w'.heap.size = w.heap.size
  block : ∀ b, (∀ ad, A = some ad → ad.block ≠ b) → w'.heap[b]? = w.heap[b]?
theorem OnlyAt.refl (A : Option Addr) (w : World) : OnlyAt A w w := ⟨rfl, rfl, rfl, rfl, fun _ _ => rfl⟩
theorem OnlyAt.trans {A : Option Addr} {a b c : World} (h : OnlyAt A a b) (k : OnlyAt A b c) : OnlyAt A a c :=
  ⟨k.os.trans h.os, k.tape.trans h.tape, k.output.trans h.output, k.size.trans h.size, fun x hx => (k.block x hx).trans (h.block x hx)⟩
theorem OnlyAt.setCell {a w : World} {g i : Nat} {o : Option Addr} (h : OnlyAt o a w) (ho : o = some ⟨g, 0, none⟩) (u : Value) : OnlyAt o a (w.setCell ⟨g, i, none⟩ u) :=
  ⟨h.os, h.tape, h.output, by have := h.size; simpa [World.setCell] using this, fun b hb => (Below.heap_setCell w ⟨g, i, none⟩ u b (fun e => hb _ ho e.symm)).trans (h.block b hb)⟩
theorem OnlyAt.below {A : Option Addr} {w w' : World} {B : Nat} (h : OnlyAt A w w') (hA : ∀ ad, A = some ad → B ≤ ad.block) : Below B w w' :=
  ⟨h.os, h.tape, h.output, Nat.le_of_eq h.size.symm, fun b hb => h.block b fun ad e => by have := hA ad e; omega⟩
theorem OnlyAt.own {A : Option Addr} {w w' : World} {B : Nat} {k : IntKind} {e : TypeId} {v : Value} {xs : List Nat} (h : OnlyAt A w w') (ho : Own k e B w v xs) (hA : ∀ ad, A = some ad → ad.block < B) : Own k e B w' v xs := by
  refine ⟨ho.1, ?_⟩
  rcases ho.2 with h2 | ⟨g, cap, cur, h1, h2, h3, h4⟩
  · exact .inl h2
  · exact .inr ⟨g, cap, cur, h1, h2, by rw [h.block g (fun ad e => by have := hA ad e; omega)]; exact h3, h4⟩

/-- append(out, d) of one number, as the walk meets it: the number lies in a new block. -/
theorem wpList_app1f {P : Program} {ops : Array Oper} {rest : List Oper} {o : Oper} {a : Act} {Q : Exit → Act → World → Prop} {w w0 : World} (hgd : o.guard = none) (s x : Operand) (t e : TypeId)
    (ho : o.op = .call { callee := .builtin .append, args := #[s, x], argTypes := #[t, t] }) (k : IntKind) (bytes : Nat)
    (hinfo : (P.info? e).map (fun i => (i.zero, i.size, i.bytes)) = some (some (.int k 0), 1, bytes)) (ht : P.underlying t = some (.slice e)) (h8 : bytes ≤ 8)
    (B : Nat) (v : Value) (out : List Nat) (D : Int) (d : Nat) (hd : D = d) (hs : a.eval s = v) (hown : Own k e B w v out)
    (hx : a.eval x = .slice (some ⟨w.heap.size, 0, none⟩) 1 1) (hb : Below B w0 w) (hB : B ≤ w0.heap.size) (hlen : out.length ≤ 1000000)
    (h : ∀ v' w', Own k e B w' v' (out ++ [d]) → Below B w0 w' → (w.heap.size ≤ w'.heap.size ∧ ∀ b, b < w.heap.size → v.ownBlock ≠ some b → w'.heap[b]? = w.heap[b]?) → wpList P ops Q rest (a.put o.dst v') w') : wpList P ops Q (o :: rest) a (w.alloc (.cells #[.int k D] e)) := by
  subst hd
  obtain ⟨i0, hi, hz0, hz1, hz2⟩ := info_parts hinfo
  have hsz := hb.size
  refine wpList_append_own _ hgd s x t ho B e i0 (.int k 0) 1 bytes ht hi hz0 hz1 hz2 rfl (by decide) v out.length (nums k out) hs (World.ownsRow.alloc hown _) ⟨w.heap.size, 0, none⟩ 1 1 [.int k (d : Nat)] hx rfl
    (cell_one_new _ _ _) (by intro u hu; simp at hu; subst hu; rfl) (by unfold maxLen; omega) ?_ (by simp; omega) ?_
  · have h1 : (out.length + 1) * bytes ≤ 1000001 * 8 := Nat.mul_le_mul (by omega) h8
    omega
  · intro v' w' hown' hg _
    refine h v' w' ?_ ?_ ?_
    · show w'.ownsRow B e 1 v' (out ++ [d]).length (nums k (out ++ [d]))
      rw [nums_snoc, List.length_append]
      exact hown'
    · refine (hb.alloc (by omega) _).grown hg (by simp; omega) fun g hg => ?_
      exact (World.ownsRow.lt hown g hg).1
    · have hs := hg.size
      refine ⟨by simp at hs; omega, fun b hb hne => ?_⟩
      rw [hg.block b (by simp; omega) (fun e => hne e.symm)]
      exact Below.heap_alloc w _ b hb

/-- append(out, d) of one number, as the walk meets it: the number lies in a new block. -/
theorem wpList_app1 {P : Program} {ops : Array Oper} {rest : List Oper} {o : Oper} {a : Act} {Q : Exit → Act → World → Prop} {w w0 : World} (hgd : o.guard = none) (s x : Operand) (t e : TypeId)
    (ho : o.op = .call { callee := .builtin .append, args := #[s, x], argTypes := #[t, t] }) (k : IntKind) (bytes : Nat)
    (hinfo : (P.info? e).map (fun i => (i.zero, i.size, i.bytes)) = some (some (.int k 0), 1, bytes)) (ht : P.underlying t = some (.slice e)) (h8 : bytes ≤ 8)
    (B : Nat) (v : Value) (out : List Nat) (D : Int) (d : Nat) (hd : D = d) (hs : a.eval s = v) (hown : Own k e B w v out)
    (hx : a.eval x = .slice (some ⟨w.heap.size, 0, none⟩) 1 1) (hb : Below B w0 w) (hB : B ≤ w0.heap.size) (hlen : out.length ≤ 1000000)
    (h : ∀ v' w', Own k e B w' v' (out ++ [d]) → Below B w0 w' → wpList P ops Q rest (a.put o.dst v') w') : wpList P ops Q (o :: rest) a (w.alloc (.cells #[.int k D] e)) := by
  exact wpList_app1f hgd s x t e ho k bytes hinfo ht h8 B v out D d hd hs hown hx hb hB hlen fun v' w' h1 h2 _ => h v' w' h1 h2

/-- append(out, xs...) of a slice that reads as a list. -/
theorem wpList_appN {P : Program} {ops : Array Oper} {rest : List Oper} {o : Oper} {a : Act} {Q : Exit → Act → World → Prop} {w w0 : World} (hgd : o.guard = none) (s x : Operand) (t e : TypeId)
    (ho : o.op = .call { callee := .builtin .append, args := #[s, x], argTypes := #[t, t] }) (k : IntKind) (bytes : Nat)
    (hinfo : (P.info? e).map (fun i => (i.zero, i.size, i.bytes)) = some (some (.int k 0), 1, bytes)) (ht : P.underlying t = some (.slice e)) (h8 : bytes ≤ 8)
    (B : Nat) (v : Value) (out xs : List Nat) (hs : a.eval s = v) (hown : Own k e B w v out) (ad : Addr) (n c : Nat) (hn : xs.length = n)
    (hx : a.eval x = .slice (some ad) n c) (hr : Rd k w (some ad) xs) (hb : Below B w0 w) (hB : B ≤ w0.heap.size) (hlen : out.length + n ≤ 1000000)
    (h : ∀ v' w', Own k e B w' v' (out ++ xs) → Below B w0 w' → wpList P ops Q rest (a.put o.dst v') w') : wpList P ops Q (o :: rest) a w := by
  subst hn
  obtain ⟨i0, hi, hz0, hz1, hz2⟩ := info_parts hinfo
  have hsz := hb.size
  refine wpList_append_own _ hgd s x t ho B e i0 (.int k 0) 1 bytes ht hi hz0 hz1 hz2 rfl (by decide) v out.length (nums k out) hs hown ad xs.length c (nums k xs) hx (by rw [nums_len, Nat.mul_one])
    (fun j u hu => ?_) (fun u hu => ?_) (by unfold maxLen; omega) ?_ (by omega) ?_
  · have hj : j < xs.length := by
      rcases Nat.lt_or_ge j xs.length with h1 | h1
      · exact h1
      · rw [List.getElem?_eq_none (by rw [nums_len]; exact h1)] at hu; cases hu
    rw [nums_get hj] at hu
    obtain ⟨ad', e, _, hc⟩ := hr (by omega)
    injection e with e
    subst e
    injection hu with hu
    rw [hc j hj, hu]
  · unfold nums at hu
    obtain ⟨q, _, rfl⟩ := List.mem_map.1 hu
    rfl
  · have h1 : (out.length + xs.length) * bytes ≤ 1000000 * 8 := Nat.mul_le_mul hlen h8
    omega
  · intro v' w' hown' hg _
    refine h v' w' ?_ ?_
    · show w'.ownsRow B e 1 v' (out ++ xs).length (nums k (out ++ xs))
      rw [List.length_append, show nums k (out ++ xs) = nums k out ++ nums k xs by simp [nums]]
      exact hown'
    · refine hb.grown hg (by omega) fun g hg => ?_
      exact (World.ownsRow.lt hown g hg).1

theorem info_i64 : (Tryd.prog.info? 3).map (fun i => (i.zero, i.size, i.bytes)) = some (some (.int .i64 0), 1, 8) := by kernel_rfl

/-- make(Nat, 0, n) as the walk writes it. -/
theorem make_cap (n : Nat) (N : Int) (hN : N = n) (hn : n ≤ 1000000) (w : World) :
    (Instr.makeSlice 26 (.int .i64 0) (.int .i64 N)).run Tryd.prog w = .ok (.slice (some ⟨w.heap.size, 0, none⟩) 0 n) (w.alloc (.cells (nums .i64 (List.replicate n 0)).toArray 3)) := by
  subst hN
  obtain ⟨i0, hi, hz0, hz1, hz2⟩ := info_parts info_i64
  have hr := run_make (P := Tryd.prog) w 26 3 i0 _ Tryd.underlying26 hi hz0 .i64 .i64 0 n (by omega) (by omega) (by rw [hz2]; omega) (by omega)
  have e : madeCells (Value.cells (.int .i64 0)) (n * 1) = (nums .i64 (List.replicate n 0)).toArray := by
    apply Array.toList_inj.1
    rw [show Value.cells (.int .i64 0) = #[.int .i64 0] from rfl, Nat.mul_one, toList_madeCells_one]
    simp [nums]
  rw [hr, Int.toNat_natCast, hz1, e]
  rfl
/-- make(Nat, n) as the walk writes it. -/
theorem make_nat (n : Nat) (N : Int) (hN : N = n) (hn : n ≤ 1000000) (w : World) :
    (Instr.makeSlice 26 (.int .i64 N) (.int .i64 N)).run Tryd.prog w = .ok (.slice (some ⟨w.heap.size, 0, none⟩) n n) (w.alloc (.cells (nums .i64 (List.replicate n 0)).toArray 3)) := by
  subst hN
  obtain ⟨i0, hi, hz0, hz1, hz2⟩ := info_parts info_i64
  have hr := run_make (P := Tryd.prog) w 26 3 i0 _ Tryd.underlying26 hi hz0 .i64 .i64 n n (by omega) (by omega) (by rw [hz2]; omega) (by omega)
  have e : madeCells (Value.cells (.int .i64 0)) (n * 1) = (nums .i64 (List.replicate n 0)).toArray := by
    apply Array.toList_inj.1
    rw [show Value.cells (.int .i64 0) = #[.int .i64 0] from rfl, Nat.mul_one, toList_madeCells_one]
    simp [nums]
  rw [hr, Int.toNat_natCast, hz1, e]
end Go.Proofs.YtllcegiaojchdaaDoor

