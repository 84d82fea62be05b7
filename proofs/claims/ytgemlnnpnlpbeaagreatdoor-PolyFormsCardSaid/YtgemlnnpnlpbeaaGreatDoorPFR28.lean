/- poly's functions of two polynomials that checkPair refuses. -/
import Derived.Test.YtgemlnnpnlpbeaaGreatDoorPFR27
import Derived.Deep.DrawnRows
attribute [local go_sem ↓] Go.wp_at_zero Go.wp_at_succ
namespace Go.Proofs.YtgemlnnpnlpbeaaGreatDoor
open Go.RowKit V

set_option maxRecDepth 100000 in
set_option maxHeartbeats 800000 in
theorem padd_bad (n n2 : Int) (A B : Option Addr) (l m c d : Nat) (r : Int) (w : World) (hr : r = 1 ∨ r = 3) (hp : ∀ W, Below w.heap.size w W → Calls Tryz.prog 51 #[.agg #[.int .i64 n, .slice A l c], .agg #[.int .i64 n2, .slice B m d]] W (Gives (.int .i64 r) W)) :
    Calls Tryz.prog 12 #[.agg #[.int .i64 n, .slice A l c], .agg #[.int .i64 n2, .slice B m d]] w (PolyErr r w) := by
  have hb0 : Below w.heap.size w (((w.alloc (.cells #[.int .i64 n, .slice A l c] 24)).alloc (.cells #[.int .i64 n2, .slice B m d] 24)).alloc (.cells #[.int .i64 0, .slice none 0 0] 24)) := (((Below.refl _ _).alloc (Nat.le_refl _) _).alloc (by simp) _).alloc (by simp; omega) _
  have k3 : Blk2c 24 (((w.alloc (.cells #[.int .i64 n, .slice A l c] 24)).alloc (.cells #[.int .i64 n2, .slice B m d] 24)).alloc (.cells #[.int .i64 0, .slice none 0 0] 24)) (w.heap.size + 1 + 1) (.int .i64 0) (.slice none 0 0) := by
    have := Blk2c.new 24 ((w.alloc (.cells #[.int .i64 n, .slice A l c] 24)).alloc (.cells #[.int .i64 n2, .slice B m d] 24)) (.int .i64 0) (.slice none 0 0)
    rwa [show ((w.alloc (.cells #[.int .i64 n, .slice A l c] 24)).alloc (.cells #[.int .i64 n2, .slice B m d] 24)).heap.size = w.heap.size + 1 + 1 by simp] at this
  have hne : (r == 0) = false := beq_eq_false_iff_ne.2 (by omega)
  clear hr
  go_enter Tryz.func12, Tryz.ntmps12
  go_wp2_with fail
  refine (hp _ hb0).mono ?_
  rintro e w1 ⟨rfl, hb1⟩
  have hb2 := hb0.trans (hb1.mono hb0.size)
  have kk := k3.below hb1
  obtain ⟨p0, p1, p2, p3, p4⟩ := kk.facts
  go_wp2_with fail
  refine bodyPost_ret (v := .tuple #[.agg #[.int .i64 0, .slice none 0 0], .int .i64 r]) (by simp [results, Tryz.results12, go_sem, p0, p1]) rfl ?_
  exact ⟨rfl, (hb2.setCell (by show w.heap.size ≤ w.heap.size + 1 + 1; omega) _).setCell (by show w.heap.size ≤ w.heap.size + 1 + 1; omega) _⟩
set_option maxRecDepth 100000 in
set_option maxHeartbeats 800000 in
theorem psub_bad (n n2 : Int) (A B : Option Addr) (l m c d : Nat) (r : Int) (w : World) (hr : r = 1 ∨ r = 3) (hp : ∀ W, Below w.heap.size w W → Calls Tryz.prog 51 #[.agg #[.int .i64 n, .slice A l c], .agg #[.int .i64 n2, .slice B m d]] W (Gives (.int .i64 r) W)) :
    Calls Tryz.prog 13 #[.agg #[.int .i64 n, .slice A l c], .agg #[.int .i64 n2, .slice B m d]] w (PolyErr r w) := by
  have hb0 : Below w.heap.size w (((w.alloc (.cells #[.int .i64 n, .slice A l c] 24)).alloc (.cells #[.int .i64 n2, .slice B m d] 24)).alloc (.cells #[.int .i64 0, .slice none 0 0] 24)) := (((Below.refl _ _).alloc (Nat.le_refl _) _).alloc (by simp) _).alloc (by simp; omega) _
  have k3 : Blk2c 24 (((w.alloc (.cells #[.int .i64 n, .slice A l c] 24)).alloc (.cells #[.int .i64 n2, .slice B m d] 24)).alloc (.cells #[.int .i64 0, .slice none 0 0] 24)) (w.heap.size + 1 + 1) (.int .i64 0) (.slice none 0 0) := by
    have := Blk2c.new 24 ((w.alloc (.cells #[.int .i64 n, .slice A l c] 24)).alloc (.cells #[.int .i64 n2, .slice B m d] 24)) (.int .i64 0) (.slice none 0 0)
    rwa [show ((w.alloc (.cells #[.int .i64 n, .slice A l c] 24)).alloc (.cells #[.int .i64 n2, .slice B m d] 24)).heap.size = w.heap.size + 1 + 1 by simp] at this
  have hne : (r == 0) = false := beq_eq_false_iff_ne.2 (by omega)
  clear hr
  go_enter Tryz.func13, Tryz.ntmps13
  go_wp2_with fail
  refine (hp _ hb0).mono ?_
  rintro e w1 ⟨rfl, hb1⟩
  have hb2 := hb0.trans (hb1.mono hb0.size)
  have kk := k3.below hb1
  obtain ⟨p0, p1, p2, p3, p4⟩ := kk.facts
  go_wp2_with fail
  refine bodyPost_ret (v := .tuple #[.agg #[.int .i64 0, .slice none 0 0], .int .i64 r]) (by simp [results, Tryz.results13, go_sem, p0, p1]) rfl ?_
  exact ⟨rfl, (hb2.setCell (by show w.heap.size ≤ w.heap.size + 1 + 1; omega) _).setCell (by show w.heap.size ≤ w.heap.size + 1 + 1; omega) _⟩
set_option maxRecDepth 100000 in
set_option maxHeartbeats 800000 in
theorem pmul_bad (n n2 : Int) (A B : Option Addr) (l m c d : Nat) (r : Int) (w : World) (hr : r = 1 ∨ r = 3) (hp : ∀ W, Below w.heap.size w W → Calls Tryz.prog 51 #[.agg #[.int .i64 n, .slice A l c], .agg #[.int .i64 n2, .slice B m d]] W (Gives (.int .i64 r) W)) :
    Calls Tryz.prog 14 #[.agg #[.int .i64 n, .slice A l c], .agg #[.int .i64 n2, .slice B m d]] w (PolyErr r w) := by
  have hb0 : Below w.heap.size w (((w.alloc (.cells #[.int .i64 n, .slice A l c] 24)).alloc (.cells #[.int .i64 n2, .slice B m d] 24)).alloc (.cells #[.int .i64 0, .slice none 0 0] 24)) := (((Below.refl _ _).alloc (Nat.le_refl _) _).alloc (by simp) _).alloc (by simp; omega) _
  have k3 : Blk2c 24 (((w.alloc (.cells #[.int .i64 n, .slice A l c] 24)).alloc (.cells #[.int .i64 n2, .slice B m d] 24)).alloc (.cells #[.int .i64 0, .slice none 0 0] 24)) (w.heap.size + 1 + 1) (.int .i64 0) (.slice none 0 0) := by
    have := Blk2c.new 24 ((w.alloc (.cells #[.int .i64 n, .slice A l c] 24)).alloc (.cells #[.int .i64 n2, .slice B m d] 24)) (.int .i64 0) (.slice none 0 0)
    rwa [show ((w.alloc (.cells #[.int .i64 n, .slice A l c] 24)).alloc (.cells #[.int .i64 n2, .slice B m d] 24)).heap.size = w.heap.size + 1 + 1 by simp] at this
  have hne : (r == 0) = false := beq_eq_false_iff_ne.2 (by omega)
  clear hr
  go_enter Tryz.func14, Tryz.ntmps14
  go_wp2_with fail
  refine (hp _ hb0).mono ?_
  rintro e w1 ⟨rfl, hb1⟩
  have hb2 := hb0.trans (hb1.mono hb0.size)
  have kk := k3.below hb1
  obtain ⟨p0, p1, p2, p3, p4⟩ := kk.facts
  go_wp2_with fail
  refine bodyPost_ret (v := .tuple #[.agg #[.int .i64 0, .slice none 0 0], .int .i64 r]) (by simp [results, Tryz.results14, go_sem, p0, p1]) rfl ?_
  exact ⟨rfl, (hb2.setCell (by show w.heap.size ≤ w.heap.size + 1 + 1; omega) _).setCell (by show w.heap.size ≤ w.heap.size + 1 + 1; omega) _⟩
set_option maxRecDepth 100000 in
set_option maxHeartbeats 800000 in
theorem pdivide_bad (n n2 : Int) (A B : Option Addr) (l m c d : Nat) (r : Int) (w : World) (hr : r = 1 ∨ r = 3) (hp : ∀ W, Below w.heap.size w W → Calls Tryz.prog 51 #[.agg #[.int .i64 n, .slice A l c], .agg #[.int .i64 n2, .slice B m d]] W (Gives (.int .i64 r) W)) :
    Calls Tryz.prog 44 #[.agg #[.int .i64 n, .slice A l c], .agg #[.int .i64 n2, .slice B m d]] w (PolyErr r w) := by
  have hb0 : Below w.heap.size w (((w.alloc (.cells #[.int .i64 n, .slice A l c] 24)).alloc (.cells #[.int .i64 n2, .slice B m d] 24)).alloc (.cells #[.int .i64 0, .slice none 0 0] 24)) := (((Below.refl _ _).alloc (Nat.le_refl _) _).alloc (by simp) _).alloc (by simp; omega) _
  have k3 : Blk2c 24 (((w.alloc (.cells #[.int .i64 n, .slice A l c] 24)).alloc (.cells #[.int .i64 n2, .slice B m d] 24)).alloc (.cells #[.int .i64 0, .slice none 0 0] 24)) (w.heap.size + 1 + 1) (.int .i64 0) (.slice none 0 0) := by
    have := Blk2c.new 24 ((w.alloc (.cells #[.int .i64 n, .slice A l c] 24)).alloc (.cells #[.int .i64 n2, .slice B m d] 24)) (.int .i64 0) (.slice none 0 0)
    rwa [show ((w.alloc (.cells #[.int .i64 n, .slice A l c] 24)).alloc (.cells #[.int .i64 n2, .slice B m d] 24)).heap.size = w.heap.size + 1 + 1 by simp] at this
  have hne : (r == 0) = false := beq_eq_false_iff_ne.2 (by omega)
  clear hr
  go_enter Tryz.func44, Tryz.ntmps44
  go_wp2_with fail
  refine (hp _ hb0).mono ?_
  rintro e w1 ⟨rfl, hb1⟩
  have hb2 := hb0.trans (hb1.mono hb0.size)
  have kk := k3.below hb1
  obtain ⟨p0, p1, p2, p3, p4⟩ := kk.facts
  go_wp2_with fail
  refine bodyPost_ret (v := .tuple #[.agg #[.int .i64 0, .slice none 0 0], .int .i64 r]) (by simp [results, Tryz.results44, go_sem, p0, p1]) rfl ?_
  exact ⟨rfl, (hb2.setCell (by show w.heap.size ≤ w.heap.size + 1 + 1; omega) _).setCell (by show w.heap.size ≤ w.heap.size + 1 + 1; omega) _⟩
set_option maxRecDepth 100000 in
set_option maxHeartbeats 800000 in
theorem psubst_bad (n n2 : Int) (A B : Option Addr) (l m c d : Nat) (r : Int) (i : Int) (w : World) (hr : r = 1 ∨ r = 3) (hp : ∀ W, Below w.heap.size w W → Calls Tryz.prog 51 #[.agg #[.int .i64 n, .slice A l c], .agg #[.int .i64 n2, .slice B m d]] W (Gives (.int .i64 r) W)) :
    Calls Tryz.prog 45 #[.agg #[.int .i64 n, .slice A l c], .int .i64 i, .agg #[.int .i64 n2, .slice B m d]] w (PolyErr r w) := by
  have hb0 : Below w.heap.size w (((w.alloc (.cells #[.int .i64 n, .slice A l c] 24)).alloc (.cells #[.int .i64 n2, .slice B m d] 24)).alloc (.cells #[.int .i64 0, .slice none 0 0] 24)) := (((Below.refl _ _).alloc (Nat.le_refl _) _).alloc (by simp) _).alloc (by simp; omega) _
  have k3 : Blk2c 24 (((w.alloc (.cells #[.int .i64 n, .slice A l c] 24)).alloc (.cells #[.int .i64 n2, .slice B m d] 24)).alloc (.cells #[.int .i64 0, .slice none 0 0] 24)) (w.heap.size + 1 + 1) (.int .i64 0) (.slice none 0 0) := by
    have := Blk2c.new 24 ((w.alloc (.cells #[.int .i64 n, .slice A l c] 24)).alloc (.cells #[.int .i64 n2, .slice B m d] 24)) (.int .i64 0) (.slice none 0 0)
    rwa [show ((w.alloc (.cells #[.int .i64 n, .slice A l c] 24)).alloc (.cells #[.int .i64 n2, .slice B m d] 24)).heap.size = w.heap.size + 1 + 1 by simp] at this
  have hne : (r == 0) = false := beq_eq_false_iff_ne.2 (by omega)
  clear hr
  go_enter Tryz.func45, Tryz.ntmps45
  go_wp2_with fail
  refine (hp _ hb0).mono ?_
  rintro e w1 ⟨rfl, hb1⟩
  have hb2 := hb0.trans (hb1.mono hb0.size)
  have kk := k3.below hb1
  obtain ⟨p0, p1, p2, p3, p4⟩ := kk.facts
  go_wp2_with fail
  refine bodyPost_ret (v := .tuple #[.agg #[.int .i64 0, .slice none 0 0], .int .i64 r]) (by simp [results, Tryz.results45, go_sem, p0, p1]) rfl ?_
  exact ⟨rfl, (hb2.setCell (by show w.heap.size ≤ w.heap.size + 1 + 1; omega) _).setCell (by show w.heap.size ≤ w.heap.size + 1 + 1; omega) _⟩
set_option maxRecDepth 100000 in
set_option maxHeartbeats 800000 in
theorem pequal_bad (n n2 : Int) (A B : Option Addr) (l m c d : Nat) (r : Int) (w : World) (hr : r = 1 ∨ r = 3) (hp : ∀ W, Below w.heap.size w W → Calls Tryz.prog 51 #[.agg #[.int .i64 n, .slice A l c], .agg #[.int .i64 n2, .slice B m d]] W (Gives (.int .i64 r) W)) :
    Calls Tryz.prog 16 #[.agg #[.int .i64 n, .slice A l c], .agg #[.int .i64 n2, .slice B m d]] w (Gives (.tuple #[.bool false, .int .i64 r]) w) := by
  have hb0 : Below w.heap.size w ((w.alloc (.cells #[.int .i64 n, .slice A l c] 24)).alloc (.cells #[.int .i64 n2, .slice B m d] 24)) := ((Below.refl _ _).alloc (Nat.le_refl _) _).alloc (by simp) _
  have hne : (r == 0) = false := beq_eq_false_iff_ne.2 (by omega)
  clear hr
  go_enter Tryz.func16, Tryz.ntmps16
  go_wp2_with fail
  refine (hp _ hb0).mono ?_
  rintro e w1 ⟨rfl, hb1⟩
  have hb2 := hb0.trans (hb1.mono hb0.size)
  go_wp2_with fail
  refine bodyPost_ret (v := .tuple #[.bool false, .int .i64 r]) (by simp [results, Tryz.results16, go_sem]) rfl ?_
  exact ⟨rfl, hb2⟩
end Go.Proofs.YtgemlnnpnlpbeaaGreatDoor


/- A polynomial in normal form, unpacked and stored, is valid. -/
namespace Go.Proofs.YtgemlnnpnlpbeaaGreatDoor
open Go.RowKit V

/-- The exponents as signed words. -/
def exI (m n : Nat) : List Int := (exL m n).map fun (x : Nat) => (x : Int)
theorem exI_len (m n : Nat) : (exI m n).length = n := by rw [exI, List.length_map, exL_len]
theorem exI_get (m n k : Nat) (h : k < n) : (exI m n)[k]? = some ((ex m k : Nat) : Int) := by
  rw [exI, List.getElem?_map, exL, List.getElem?_map, List.getElem?_range h]
  rfl
theorem div_step (a k : Nat) (h : k < 8) : a / 256 ^ (7 - k) = 256 * (a / 256 ^ (8 - k)) + ex a k := by
  have e : 8 - k = (7 - k) + 1 := by omega
  unfold ex
  rw [e, Nat.pow_succ, ← Nat.div_div_eq_div_mul]
  omega
theorem lex_pos {n a b : Nat} (hn : n ≤ 8) (hab : b / 256 ^ (8 - n) < a / 256 ^ (8 - n)) : ∀ j k, k + j = n → a / 256 ^ (8 - k) = b / 256 ^ (8 - k) → 0 < lexI ((exI a n).drop k) ((exI b n).drop k)
  | 0, k, h, e => by
    have : k = n := by omega
    subst this
    omega
  | j + 1, k, h, e => by
    have hk : k < n := by omega
    rw [lexI_step (exI_get a n k hk) (exI_get b n k hk)]
    have ha := div_step a k (by omega)
    have hb := div_step b k (by omega)
    rw [e] at ha
    by_cases h1 : ex a k < ex b k
    · exfalso
      have hlt : a / 256 ^ (7 - k) ≤ b / 256 ^ (7 - k) := by omega
      have key : ∀ x : Nat, x / 256 ^ (8 - n) = x / 256 ^ (8 - n) := fun _ => rfl
      have hlt2 : a / 256 ^ (7 - k) < b / 256 ^ (7 - k) := by omega
      -- a < b, so the quotients are in order
      have hab2 : a < b := by
        rcases Nat.lt_or_ge a b with h | h
        · exact h
        · have := Nat.div_le_div_right (c := 256 ^ (7 - k)) h
          omega
      have := Nat.div_le_div_right (c := 256 ^ (8 - n)) (Nat.le_of_lt hab2)
      omega
    · by_cases h2 : ex b k < ex a k
      · rw [if_neg (by omega), if_pos (by omega)]
        decide
      · rw [if_neg (by omega), if_neg (by omega)]
        refine lex_pos hn hab j (k + 1) (by omega) ?_
        have e3 : 8 - (k + 1) = 7 - k := by omega
        rw [e3, ha, hb]
        omega
/-- Only the first n variables stand in the monomial. -/
def On (n m : Nat) : Prop := m % 256 ^ (8 - n) = 0
theorem lex_on {n a b : Nat} (hn : n ≤ 8) (ha : a < 18446744073709551616) (hb : b < 18446744073709551616) (oa : On n a) (ob : On n b) (h : b < a) : 0 < lexI (exI a n) (exI b n) := by
  have e : b / 256 ^ (8 - n) < a / 256 ^ (8 - n) := by
    rcases Nat.lt_or_ge (b / 256 ^ (8 - n)) (a / 256 ^ (8 - n)) with h1 | h1
    · exact h1
    · have e1 := Nat.div_add_mod a (256 ^ (8 - n))
      have e2 := Nat.div_add_mod b (256 ^ (8 - n))
      unfold On at oa ob
      rw [oa] at e1
      rw [ob] at e2
      have := Nat.mul_le_mul_left (256 ^ (8 - n)) h1
      omega
  exact lex_pos hn e n 0 (by omega) (by rw [Nat.div_eq_of_lt (by simpa using ha), Nat.div_eq_of_lt (by simpa using hb)])
theorem exL_sum (m : Nat) : ∀ n, (exL m n).sum = degTo m n
  | 0 => rfl
  | n + 1 => by
    rw [exL_succ, List.sum_append, exL_sum m n]
    simp [degTo]
theorem degTo_mono (m : Nat) : ∀ {n k : Nat}, n ≤ k → degTo m n ≤ degTo m k
  | n, 0, h => by
    have : n = 0 := by omega
    subst this
    exact Nat.le_refl _
  | n, k + 1, h => by
    rcases Nat.lt_or_ge n (k + 1) with h1 | h1
    · have := degTo_mono m (n := n) (k := k) (by omega)
      simp only [degTo]
      omega
    · have : n = k + 1 := by omega
      subst this
      exact Nat.le_refl _
/-- A polynomial in n variables, in normal form, of limited size. -/
structure PIn (n : Nat) (p : PL) : Prop where
  nv : n ≤ 8
  nf : NF p
  len : p.length ≤ 4000
  fits : ∀ t ∈ p, TFits t.1 t.2
  words : Words p
  on : ∀ t ∈ p, On n t.1
theorem up_get (n : Nat) (p : PL) {j : Nat} {e : List Nat} {q : Rat} (h : (up n p)[j]? = some (e, q)) : ∃ m, p[j]? = some (m, q) ∧ e = exL m n := by
  rw [up, List.getElem?_map] at h
  cases hp : p[j]? with
  | none => rw [hp] at h; cases h
  | some t =>
    rw [hp] at h
    simp only [Option.map_some, Option.some.injEq, Prod.mk.injEq] at h
    exact ⟨t.1, by rw [← h.2], h.1.symm⟩
theorem RL.Is.raw_ {w : World} {a : RL} {q : Rat} (h : a.Is w q) : a.Raw w := ⟨h.rn, h.rd, h.cn, h.cd, h.mn.1, h.md.1⟩
theorem ARd.raw {w : World} {A : Option Addr} {ms : List MM} {n : Nat} {p : PL} (h : ARd w A ms (up n p)) : PRaw w A ms (p.map fun t => exI t.1 n) := by
  refine ⟨h.rd, by rw [h.hs.1, up, List.length_map, List.length_map], fun j m hm => ?_⟩
  obtain ⟨es, q, h1, h2, h3, h4, h5, _⟩ := h.hs.2 j m hm
  obtain ⟨x, h6, rfl⟩ := up_get n p h1
  exact ⟨exI x n, by rw [List.getElem?_map, h6]; rfl, h2.ints, by rw [h3, exL_len, exI_len], h4, h5.raw_⟩
theorem ARd.val {w : World} {A : Option Addr} {ms : List MM} {n : Nat} {p : PL} (h : ARd w A ms (up n p)) (hp : PIn n p) : PVal n ms (p.map fun t => exI t.1 n) := by
  have hl : ms.length = p.length := by rw [h.hs.1, up, List.length_map]
  have hnv := hp.nv
  refine ⟨by omega, by omega, by rw [hl]; exact hp.len, fun j e m _ he hm => ?_, fun j a b _ ha hb => ?_⟩
  · obtain ⟨es, q, h1, h2, h3, h4, h5, l1, l2⟩ := h.hs.2 j m hm
    obtain ⟨x, h6, rfl⟩ := up_get n p h1
    rw [List.getElem?_map, h6] at he
    injection he with he
    subst he
    have hx := List.mem_of_getElem? h6
    refine ⟨EV.of_nat (exL_len x n) ?_, ?_, l1, l2, h5.okv (by omega) (by omega)⟩
    · rw [exL_sum]
      exact Nat.le_trans (degTo_mono x hp.nv) (hp.fits _ hx).1
    · rcases Nat.eq_zero_or_pos m.c.ns.length with h0 | h0
      · exfalso
        have hz := h5.q.2.1
        rw [List.eq_nil_of_length_eq_zero h0] at hz
        have : q = 0 := by
          have hz2 : q.num.natAbs = 0 := by rw [← hz]; rfl
          exact Rat.num_eq_zero.1 (Int.natAbs_eq_zero.1 hz2)
        exact hp.nf.nz _ hx this
      · exact h0
  · rw [List.getElem?_map] at ha hb
    cases h1 : p[j]? with
    | none => rw [h1] at ha; cases ha
    | some x =>
      cases h2 : p[j + 1]? with
      | none => rw [h2] at hb; cases hb
      | some y =>
        rw [h1] at ha
        rw [h2] at hb
        injection ha with ha
        injection hb with hb
        subst ha hb
        obtain ⟨i1, e1⟩ := List.getElem?_eq_some_iff.1 h1
        obtain ⟨i2, e2⟩ := List.getElem?_eq_some_iff.1 h2
        have hlt := List.pairwise_iff_getElem.1 hp.nf.desc j (j + 1) i1 i2 (by omega)
        rw [e1, e2] at hlt
        exact lex_on hp.nv (hp.words _ (List.mem_of_getElem? h1)) (hp.words _ (List.mem_of_getElem? h2)) (hp.on _ (List.mem_of_getElem? h1)) (hp.on _ (List.mem_of_getElem? h2)) hlt
theorem packTo_exL {m n : Nat} (hm : m < 18446744073709551616) (hn : n ≤ 8) : ∀ k, k ≤ n → packTo (exL m n) k = 256 ^ (8 - k) * (m / 256 ^ (8 - k))
  | 0, _ => by
    show 0 = _
    rw [Nat.div_eq_of_lt (by simpa using hm), Nat.mul_zero]
  | k + 1, h => by
    have ih := packTo_exL hm hn k (by omega)
    simp only [packTo]
    rw [ih, exL_get m n k (by omega)]
    have e := div_step m k (by omega)
    have e1 : 8 - (k + 1) = 7 - k := by omega
    have e2 : 256 ^ (8 - k) = 256 ^ (7 - k) * 256 := by rw [← Nat.pow_succ]; congr 1; omega
    rw [e1, e, Nat.mul_add, e2, Nat.mul_assoc, Nat.mul_comm (ex m k)]
theorem pk_up {n : Nat} {p : PL} (h : PIn n p) : pk (up n p) = p := by
  unfold pk up
  rw [List.map_map]
  conv => rhs; rw [← List.map_id p]
  refine List.map_congr_left fun t ht => ?_
  · show (packL (exL t.1 n), t.2) = t
    have hl : packL (exL t.1 n) = t.1 := by
      unfold packL
      rw [exL_len, packTo_exL (h.words t ht) h.nv n (Nat.le_refl _)]
      have := Nat.div_add_mod t.1 (256 ^ (8 - n))
      have ho := h.on t ht
      unfold On at ho
      omega
    rw [hl]
theorem eok_up {n : Nat} {p : PL} (h : PIn n p) : EOk n (up n p) := ⟨h.nv, fun t ht => by
  obtain ⟨x, hx, rfl⟩ := List.mem_map.1 ht
  exact ⟨exL_len _ _, by
    show (exL x.1 n).sum ≤ 40
    rw [exL_sum]
    exact Nat.le_trans (degTo_mono x.1 h.nv) (h.fits x hx).1⟩⟩
end Go.Proofs.YtgemlnnpnlpbeaaGreatDoor


/- poly.load, with what is known of the slice's capacity. -/
attribute [local go_sem ↓] Go.wp_at_zero Go.wp_at_succ
namespace Go.Proofs.YtgemlnnpnlpbeaaGreatDoor
open Go.RowKit V

def PolyC (p : List (Nat × Rat)) (w : World) (e : Ending) (w' : World) : Prop :=
  ∃ A c ts, e = .returned (.slice A (ts : List TM).length c) ∧ ts.length ≤ c ∧ PRd w' A ts p ∧ Below w.heap.size w w' ∧ (A = none → c = 0) ∧ c = ts.length
set_option maxRecDepth 100000 in
set_option maxHeartbeats 1600000 in
theorem ploadc (N : Int) (A : Option Addr) (c n : Nat) (ms : List MM) (p : AL) (w : World) (hx : ARd w A ms p) (bx : ms.length ≤ 100000) (he : EOk n p) :
    Calls Tryz.prog 54 #[.agg #[.int .i64 N, .slice A ms.length c]] w (PolyC (pk p) w) := by
  have HE := Lib.hid he
  have HL := Lib.hid hx.hs.1
  have hmk := fun W => make_terms ms.length (ms.length : Int) rfl (by omega) W
  clear he
  go_enter Tryz.func54, Tryz.ntmps54
  go_wp2
  clear hmk
  go_loopw [4, 5, 13] (fun _ _ i wr => ∃ ts : List TM, ts.length ≤ ms.length ∧ i = .int .i64 ts.length ∧ TRow wr (w.heap.size + 1) (ts ++ List.replicate (ms.length - ts.length) TM0) ∧ THolds wr ts ((pk p).take ts.length) ∧ Below w.heap.size w wr) (fun _ _ i _ => ms.length - (intOf i).toNat)
  case atStart =>
    refine ⟨[], Nat.zero_le _, rfl, ?_, THolds.nil _, ((Below.refl _ _).alloc (Nat.le_refl _) _).alloc (by simp) _⟩
    have := TRow.new (w.alloc (.cells #[.int .i64 N, .slice A ms.length c] 24)) (List.replicate ms.length TM0)
    simpa using this
  case round =>
    obtain ⟨ts, hk, rfl, hrow, hth, hbw⟩ := hrel
    by_cases hlt : ts.length < ms.length
    · obtain ⟨ad, m, rfl, hb, hm, hc⟩ := (hx.below hbw).rd.ask hlt
      obtain ⟨es, q, hp, hr, hn, hnc, hci, hcl1, hcl2⟩ := (hx.below hbw).hs.2 _ m hm.out
      obtain ⟨c0, c1, c2, c3⟩ := hc
      have kb := Blk4.new 79 wr (.slice m.X es.length m.xc) (.bool m.c.s) (.slice m.c.N m.c.ns.length m.c.nc) (.slice m.c.D m.c.ds.length m.c.dc)
      have hb1 : Below wr.heap.size wr (wr.alloc (.cells #[.slice m.X es.length m.xc, .bool m.c.s, .slice m.c.N m.c.ns.length m.c.nc, .slice m.c.D m.c.ds.length m.c.dc] 79)) := (Below.refl _ _).alloc (Nat.le_refl _) _
      have hes : es.length ≤ 8 ∧ ∀ x ∈ es, x < 256 := HE.out.small (getD_mem hp)
      have HES := Lib.hid hes.2
      have hel := hes.1
      have HP : Hid ((pk p)[ts.length]? = some (packL es, q)) := by show _ = _; simp [pk, hp]
      clear hes hp
      go_wp2_with fail
      obtain ⟨w1, hwe⟩ : ∃ x, wr.alloc (.cells #[.slice m.X es.length m.xc, .bool m.c.s, .slice m.c.N m.c.ns.length m.c.nc, .slice m.c.D m.c.ds.length m.c.dc] 79) = x := ⟨_, rfl⟩
      rw [hwe] at kb hb1 ⊢
      have hr1 := hr.below hb1
      have hci1 := hci.below hb1
      have hrow1 := hrow.keep hb1
      have hlt0 := hrow.lt
      have hne1 : ¬ wr.heap.size = w.heap.size + 1 := by omega
      have hne2 : ¬ w.heap.size + 1 = wr.heap.size := by omega
      have hw1 := hbw.trans (hb1.mono hbw.size)
      have hth1 := hth.below hb1
      have hwz := hw1.size
      have hrl := hrow1.lt
      have hgr := kb.lt
      clear hwe hr hci hrow hbw hth c0 c1 c2 c3 hb1 hb
      obtain ⟨a0, a1, a2, a3, a4, a5, a6, a7, a8⟩ := kb.facts
      have hk0 : (0 : Int) ≤ (ts.length : Int) := Int.natCast_nonneg _
      have hk1 : (ts.length : Int) < (ms.length : Int) := by omega
      have hget : (ts ++ List.replicate (ms.length - ts.length) TM0)[ts.length]? = some TM0 := by
        rw [List.getElem?_append_right (Nat.le_refl _), Nat.sub_self, List.getElem?_replicate, if_pos (by omega)]
      go_region_held3 (fun w' => w'.cell? ⟨wr.heap.size, 0, none⟩ = some (.slice m.X es.length m.xc) ∧ w'.cell? ⟨wr.heap.size, 1, none⟩ = some (.bool m.c.s) ∧ w'.cell? ⟨wr.heap.size, 2, none⟩ = some (.slice m.c.N m.c.ns.length m.c.nc) ∧ w'.cell? ⟨wr.heap.size, 3, none⟩ = some (.slice m.c.D m.c.ds.length m.c.dc)) (first | (with_reducible exact ⟨‹_›, ‹_›, ‹_›, ‹_›⟩) | go_keep)
        (first
        | (go_at_call 106
           refine (ppack m.X m.xc es _ (by first | exact hr1 | exact hr1.drew | exact hr1.below hbx | exact (hr1.below hbx).drew) hel HES.out).mono ?_
           rintro e wp ⟨rfl, rfl⟩)
        | (go_at_call 59
           refine (wOf m.c q _ (by first | exact hci1 | exact hci1.below (below_drew_ (Below.refl _ _) 1)) (by omega) (by omega)).mono ?_
           rintro e wx_ ⟨r, rfl, hrn, hl1, hl2, hbx⟩
           have hbq : Below w1.heap.size w1 wx_ := by first | exact below_of_drew hbx (Nat.le_refl _) | exact hbx
           obtain ⟨b0, b1, b2, b3, b4, b5, b6, b7, b8⟩ := (kb.below hbq).facts
           have hrow2 := hrow1.keep hbq
           obtain ⟨r0, r1, r2, r3⟩ := hrow2.tcell hget
           have f0 := hrow2.frozen (ts.length * 4)
           have f1 := hrow2.frozen (ts.length * 4 + 1)
           have f2 := hrow2.frozen (ts.length * 4 + 2)
           have f3 := hrow2.frozen (ts.length * 4 + 3)))
      all_goals
        go_wp2
        go_roundw
        case rel =>
          exact fill_step wx_ w (w.heap.size + 1) ts ms.length (packL es) r q (pk p) hlt hrow2 (hth1.below hbq) HP.out hrn (Nat.le_trans hl1 (by omega)) (Nat.le_trans hl2 (by omega)) (hw1.trans (hbq.mono hw1.size)) (Nat.le_succ _)
        case measure => simp [intOf]; omega
    · obtain he : ts.length = ms.length := by omega
      have HE2 := Lib.hid he
      clear he
      go_wp2
      go_ret
      have e1 : ts.length = ms.length := HE2.out
      rw [e1, Nat.sub_self, List.replicate_zero, List.append_nil] at hrow
      rw [e1, List.take_of_length_le (by simp [pk, ← HL.out])] at hth
      exact ⟨some ⟨w.heap.size + 1, 0, none⟩, ms.length, ts, by rw [e1]; rfl, by omega, ⟨hrow.rd, hth⟩, hbw, (fun h => by cases h), e1.symm⟩
end Go.Proofs.YtgemlnnpnlpbeaaGreatDoor


/- poly.Add of valid polynomials. -/
attribute [local go_sem ↓] Go.wp_at_zero Go.wp_at_succ
namespace Go.Proofs.YtgemlnnpnlpbeaaGreatDoor
open Go.RowKit V

theorem box3p (w : World) (a b a2 b2 r s : Value) :
    Blk2c 24 (((w.alloc (.cells #[a, b] 24)).alloc (.cells #[a2, b2] 24)).alloc (.cells #[r, s] 24)) w.heap.size a b ∧ Blk2c 24 (((w.alloc (.cells #[a, b] 24)).alloc (.cells #[a2, b2] 24)).alloc (.cells #[r, s] 24)) (w.heap.size + 1) a2 b2 ∧
    Blk2c 24 (((w.alloc (.cells #[a, b] 24)).alloc (.cells #[a2, b2] 24)).alloc (.cells #[r, s] 24)) (w.heap.size + 1 + 1) r s := by
  refine ⟨((Blk2c.new _ w a b).alloc _).alloc _, ?_, ?_⟩
  · have := (Blk2c.new 24 (w.alloc (.cells #[a, b] 24)) a2 b2).alloc (.cells #[r, s] 24)
    rwa [show (w.alloc (.cells #[a, b] 24)).heap.size = w.heap.size + 1 by simp] at this
  · have := Blk2c.new 24 ((w.alloc (.cells #[a, b] 24)).alloc (.cells #[a2, b2] 24)) r s
    rwa [show ((w.alloc (.cells #[a, b] 24)).alloc (.cells #[a2, b2] 24)).heap.size = w.heap.size + 1 + 1 by simp] at this
theorem cells22 {t u : TypeId} {w : World} {g h : Nat} {a b x y : Value} (k : Blk2c t w g a b) (j : Blk2c u w h x y) : w.cell? ⟨g, 0, none⟩ = some a ∧ w.cell? ⟨g, 1, none⟩ = some b ∧ w.cell? ⟨h, 0, none⟩ = some x ∧ w.cell? ⟨h, 1, none⟩ = some y := ⟨k.facts.c0, k.facts.c1, j.facts.c0, j.facts.c1⟩
set_option maxRecDepth 100000 in
set_option maxHeartbeats 1600000 in
theorem padd_ok (n : Nat) (A B : Option Addr) (c d : Nat) (ms ns : List MM) (P Q : PL) (w : World) (ha : ARd w A ms (up n P)) (hb : ARd w B ns (up n Q)) (hP : PIn n P) (hQ : PIn n Q) (hadd : ∀ t ∈ P, ∀ u ∈ Q, AddOk t.2 u.2) (hws : Words (addL P Q)) (hfit : ∀ t ∈ addL P Q, TFits t.1 t.2) (hlen : (addL P Q).length ≤ 4000) :
    Calls Tryz.prog 12 #[.agg #[.int .i64 n, .slice A ms.length c], .agg #[.int .i64 n, .slice B ns.length d]] w (StoreOk n (addL P Q) w) := by
  have HA := Lib.hid ha
  have HB := Lib.hid hb
  have hnv := hP.nv
  have hba : Below w.heap.size w (((w.alloc (.cells #[.int .i64 n, .slice A ms.length c] 24)).alloc (.cells #[.int .i64 n, .slice B ns.length d] 24)).alloc (.cells #[.int .i64 0, .slice none 0 0] 24)) := (((Below.refl _ _).alloc (Nat.le_refl _) _).alloc (by simp) _).alloc (by simp; omega) _
  have HCP := Lib.hid (ppair_ok (n : Int) A B c d ms ns _ _ _ (ha.raw.below hba) (hb.raw.below hba) (ha.val hP) (hb.val hQ))
  obtain ⟨k1, k2, k3⟩ := box3p w (.int .i64 n) (.slice A ms.length c) (.int .i64 n) (.slice B ns.length d) (.int .i64 0) (.slice none 0 0)
  have hml : ms.length ≤ 4000 := by rw [ha.hs.1, up, List.length_map]; exact hP.len
  have hnl : ns.length ≤ 4000 := by rw [hb.hs.1, up, List.length_map]; exact hQ.len
  have HP := Lib.hid hP
  have HQ := Lib.hid hQ
  have HPK := Lib.hid (pk_up hP)
  have HQK := Lib.hid (pk_up hQ)
  clear ha hb hP hQ
  have HADD := Lib.hid hadd
  have HWS := Lib.hid hws
  have HFIT := Lib.hid hfit
  have HLEN := Lib.hid hlen
  clear hadd hws hfit hlen
  go_enter Tryz.func12, Tryz.ntmps12
  go_wp2_with fail
  refine HCP.out.mono ?_
  rintro e w1 ⟨rfl, hb1⟩
  have hb2 := hba.trans (hb1.mono hba.size)
  have j1 := k1.below hb1
  have j2 := k2.below hb1
  have j3 := k3.below hb1
  have HS0 := cells22 j1 j2
  have HBW := Lib.hid hb2
  clear hba hb1 k1 k2 k3 HCP
  go_upto_region 4 with fail
  obtain ⟨p0, p1, p2, p3, p4⟩ := j3.facts
  refine wp_region_held_drew (S := fun w' => w'.cell? ⟨w.heap.size, 0, none⟩ = some (.int .i64 n) ∧ w'.cell? ⟨w.heap.size, 1, none⟩ = some (.slice A ms.length c) ∧ w'.cell? ⟨w.heap.size + 1, 0, none⟩ = some (.int .i64 n) ∧ w'.cell? ⟨w.heap.size + 1, 1, none⟩ = some (.slice B ns.length d)) (by kernel_rfl) ?_ (fun hHeld => ?_)
  · first | exact HS0 | go_keep
  refine wpAnyH_take (i := 0) (v := ?v0) rfl (by kernel_rfl) (by kernel_rfl) (by kernel_rfl) (fun _ _ _ h => h) (Or.inl ⟨by rfl, ?hy0⟩) (by assumption) ?rest0
  case hy0 =>
    intro w hSw
    (try dsimp only at hSw)
    go_simp
    all_goals with_reducible rfl
  simp only [Act.put, List.getElem_toArray, List.getElem_cons_zero, List.setIfInBounds_toArray, List.set_cons_zero, List.set_cons_succ]
  refine wpAnyH_take (i := 1) (v := ?v1) rfl (by kernel_rfl) (by kernel_rfl) (by kernel_rfl) (fun _ _ _ h => h) (Or.inl ⟨by rfl, ?hy1⟩) (by assumption) ?rest1
  case hy1 =>
    intro w hSw
    (try dsimp only at hSw)
    go_simp
    all_goals with_reducible rfl
  simp only [Act.put, List.getElem_toArray, List.getElem_cons_zero, List.getElem_cons_succ, List.setIfInBounds_toArray, List.set_cons_zero, List.set_cons_succ]
  refine wpAnyH_take (i := 2) (v := ?v2) rfl (by kernel_rfl) (by kernel_rfl) (by kernel_rfl) (fun _ _ _ h => h) (Or.inl ⟨by rfl, ?hy2⟩) (by assumption) ?rest2
  case hy2 =>
    intro w hSw
    (try dsimp only at hSw)
    go_simp
    all_goals with_reducible rfl
  simp only [Act.put, List.getElem_toArray, List.getElem_cons_zero, List.getElem_cons_succ, List.setIfInBounds_toArray, List.set_cons_zero, List.set_cons_succ]
  refine wpAnyH_take (i := 4) (v := ?v4) rfl (by kernel_rfl) (by kernel_rfl) (by kernel_rfl) (fun _ _ _ h => h) (Or.inl ⟨by rfl, ?hy4⟩) (by assumption) ?rest4
  case hy4 =>
    intro w hSw
    (try dsimp only at hSw)
    go_simp
    all_goals with_reducible rfl
  simp only [Act.put, List.getElem_toArray, List.getElem_cons_zero, List.getElem_cons_succ, List.setIfInBounds_toArray, List.set_cons_zero, List.set_cons_succ]
  refine wpAnyH_ready (rs := [3]) (by kernel_rfl) (by simp) ?_
  refine AllReadyH.cons (o := _) rfl (fun K hK => ?_) AllReadyH.nil
  go_simp
  go_at_call 54
  refine (ploadc n A c n ms (up n P) _ (HA.out.below (by first | exact HBW.out | exact below_drew_ HBW.out 1)) (by omega) (eok_up HP.out)).mono ?_
  rintro e x1 ⟨X, xc, xs, rfl, hxc, hx, hbx, hxn, hxe⟩
  have hq1 : Below w1.heap.size w1 x1 := by first | exact hbx | exact below_of_drew hbx (Nat.le_refl _)
  have HS_ := cells22 (j1.below hq1) (j2.below hq1)
  rw [HPK.out] at hx
  have HX := Lib.hid hx
  have HXL := Lib.hid hx.hs.1
  have HXI := Lib.hid (And.intro hxc (And.intro hxn hxe))
  clear hx hxc hxn hxe
  go_wp2_with fail
  refine hK.out _ _ ?_ (fun hHeld => ?_)
  · first | exact HS_ | go_keep
  clear hK K
  try simp only [Act.put, List.getElem_toArray, List.getElem_cons_zero, List.getElem_cons_succ, List.setIfInBounds_toArray, List.set_cons_zero, List.set_cons_succ]
  refine wpAnyH_ready (rs := [5]) (by kernel_rfl) (by simp) ?_
  refine AllReadyH.cons (o := _) rfl (fun K hK => ?_) AllReadyH.nil
  go_simp
  go_at_call 54
  refine (ploadc n B d n ns (up n Q) _ (HB.out.below (HBW.out.trans (hq1.mono HBW.out.size))) (by omega) (eok_up HQ.out)).mono ?_
  rintro e x2 ⟨Y, yc, ys, rfl, hyc, hy, hby, hyn, hye⟩
  have hq2 := hq1.trans (hby.mono hq1.size)
  clear HS_
  have HS_ := cells22 (j1.below hq2) (j2.below hq2)
  rw [HQK.out] at hy
  have HY := Lib.hid hy
  have HYL := Lib.hid hy.hs.1
  have HX2 := Lib.hid (HX.out.below hby)
  have HYI := Lib.hid (And.intro hyc (And.intro hyn hye))
  clear hy hyc hyn hye
  go_wp2_with fail
  refine hK.out _ _ ?_ (fun hHeld => ?_)
  · first | exact HS_ | go_keep
  clear hK K
  try simp only [Act.put, List.getElem_toArray, List.getElem_cons_zero, List.getElem_cons_succ, List.setIfInBounds_toArray, List.set_cons_zero, List.set_cons_succ]
  refine wpAnyH_ready (rs := [6]) (by kernel_rfl) (by simp) ?_
  refine AllReadyH.cons (o := _) rfl (fun K hK => ?_) AllReadyH.nil
  go_simp
  go_at_call 53
  have HSU := psum X Y xc yc xs ys P Q x2 HX2.out HY.out (by rw [HXL.out]; exact Nat.le_trans HP.out.len (by decide)) (by rw [HYL.out]; exact Nat.le_trans HQ.out.len (by decide)) HXI.out.1 HYI.out.1 (by rw [HXI.out.2.2, HXL.out]; exact Nat.le_trans HP.out.len (by decide)) (by rw [HYI.out.2.2, HYL.out]; exact Nat.le_trans HQ.out.len (by decide)) HXI.out.2.1 HYI.out.2.1 HP.out.words HQ.out.words HADD.out
  refine HSU.mono ?_
  clear HSU
  rintro e x3 ⟨Z, zc, zs, rfl, hzc, hz, hbz⟩
  have hq3 := hq2.trans (hbz.mono hq2.size)
  clear HS_
  have HS_ := cells22 (j1.below hq3) (j2.below hq3)
  have HZ := Lib.hid hz
  have HZL := Lib.hid hz.hs.1
  clear hz
  go_wp2_with fail
  refine hK.out _ _ ?_ (fun hHeld => ?_)
  · first | exact HS_ | go_keep
  clear hK K
  try simp only [Act.put, List.getElem_toArray, List.getElem_cons_zero, List.getElem_cons_succ, List.setIfInBounds_toArray, List.set_cons_zero, List.set_cons_succ]
  refine wpAnyH_ready (rs := [7]) (by kernel_rfl) (by simp) ?_
  refine AllReadyH.cons (o := _) rfl (fun K hK => ?_) AllReadyH.nil
  go_simp
  go_at_call 52
  refine (pstore_ok n Z zc zs _ _ HZ.out (by rw [HZL.out]; exact HLEN.out) hnv HWS.out HFIT.out).mono ?_
  rintro e x4 ⟨C, cc, us, rfl, hcc, hat, hbu⟩
  have hq4 := hq3.trans (hbu.mono hq3.size)
  clear HS_
  have HS_ := cells22 (j1.below hq4) (j2.below hq4)
  have HAT := Lib.hid hat
  clear hat
  have kz4 := j3.below hq4
  obtain ⟨g0, g1, g2, g3, g4⟩ := kz4.facts
  go_wp2_with fail
  refine hK.out _ _ ?_ (fun hHeld => ?_)
  · first | exact HS_ | go_keep
  clear hK K
  try simp only [Act.put, List.getElem_toArray, List.getElem_cons_zero, List.getElem_cons_succ, List.setIfInBounds_toArray, List.set_cons_zero, List.set_cons_succ]
  refine wpAnyH_take (i := 8) (v := ?v8) rfl (by kernel_rfl) (by kernel_rfl) (by kernel_rfl) (fun _ _ _ h => h) (Or.inl ⟨by rfl, ?hy8⟩) (by assumption) ?rest8
  case hy8 =>
    intro w hSw
    (try dsimp only at hSw)
    go_simp
    all_goals with_reducible rfl
  simp only [Act.put, List.getElem_toArray, List.getElem_cons_zero, List.getElem_cons_succ, List.setIfInBounds_toArray, List.set_cons_zero, List.set_cons_succ]
  refine wpAnyH_take (i := 9) (v := ?v9) rfl (by kernel_rfl) (by kernel_rfl) (by kernel_rfl) (fun _ _ _ h => h) (Or.inl ⟨by rfl, ?hy9⟩) (by assumption) ?rest9
  case hy9 =>
    intro w hSw
    (try dsimp only at hSw)
    go_simp
    all_goals with_reducible rfl
  simp only [Act.put, List.getElem_toArray, List.getElem_cons_zero, List.getElem_cons_succ, List.setIfInBounds_toArray, List.set_cons_zero, List.set_cons_succ]
  refine wpAnyH_ready (rs := [10]) (by kernel_rfl) (by simp) ?_
  refine AllReadyH.cons (o := _) rfl (fun K hK => ?_) AllReadyH.nil
  go_simp
  refine hK.out _ _ ?_ (fun hHeld => ?_)
  · first | exact cells22 (((j1.below hq4).far (by omega) _).far (by omega) _) (((j2.below hq4).far (by omega) _).far (by omega) _) | go_keep
  clear hK K
  try simp only [Act.put, List.getElem_toArray, List.getElem_cons_zero, List.getElem_cons_succ, List.setIfInBounds_toArray, List.set_cons_zero, List.set_cons_succ]
  refine wpAnyH_take (i := 11) (v := ?v11) rfl (by kernel_rfl) (by kernel_rfl) (by kernel_rfl) (fun _ _ _ h => h) (Or.inl ⟨by rfl, ?hy11⟩) (by assumption) ?rest11
  case hy11 =>
    intro w hSw
    (try dsimp only at hSw)
    go_simp
    all_goals with_reducible rfl
  simp only [Act.put, List.getElem_toArray, List.getElem_cons_zero, List.getElem_cons_succ, List.setIfInBounds_toArray, List.set_cons_zero, List.set_cons_succ]
  refine wpAnyH_done (by kernel_rfl) ?_ _
  go_wp2_with fail
  refine bodyPost_ret (v := .tuple #[.agg #[.int .i64 n, .slice C us.length cc], .int .i64 0]) (by simp [results, Tryz.results12, go_sem, g0, g1]) rfl ?_
  exact ⟨C, cc, us, rfl, hcc, HAT.out.put2 kz4.ty (by decide) (by decide) _ _, ((HBW.out.trans (hq4.mono HBW.out.size)).setCell (by show w.heap.size ≤ w.heap.size + 1 + 1; omega) _).setCell (by show w.heap.size ≤ w.heap.size + 1 + 1; omega) _⟩
end Go.Proofs.YtgemlnnpnlpbeaaGreatDoor

