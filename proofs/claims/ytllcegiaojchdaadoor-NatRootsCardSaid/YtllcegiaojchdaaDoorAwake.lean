/- nat.DivMod over nat.divide's contract; isochronelaw01.awake answers true. -/
import Derived.Test.YtllcegiaojchdaaDoorText
import Derived.Test.YtllcegiaojchdaaDoorDiv1
import Derived.Test.YtllcegiaojchdaaDoorIs
namespace Go.Proofs.YtllcegiaojchdaaDoor
open Go.RowKit V

/-- Quotient, remainder and error 0. -/
def DivMP (xs ys : List Nat) (w : World) (e : Ending) (w' : World) : Prop :=
  ∃ Q qc q R rc r, e = .returned (.tuple #[.slice Q (q : List Nat).length qc, .slice R (r : List Nat).length rc, .int .i64 0]) ∧ Rd .u32 w' Q q ∧ Rd .u32 w' R r ∧ Mag q ∧ Mag r ∧ q.length ≤ qc ∧ r.length ≤ rc ∧
    Hid (V32 xs = V32 q * V32 ys + V32 r) ∧ Hid (V32 r < V32 ys) ∧ Below w.heap.size w w'

set_option maxHeartbeats 400000 in
theorem DivMod_ok (A B : Option Addr) (c d : Nat) (xs ys : List Nat) (w : World) (hx : Rd .u32 w A xs) (hy : Rd .u32 w B ys) (ox : Ok xs) (oy : Ok ys) (hpos : 0 < ys.length)
    (hdiv : Calls Tryd.prog 33 #[.slice A xs.length c, .slice B ys.length d] w (DivP xs ys w)) :
    Calls Tryd.prog 9 #[.slice A xs.length c, .slice B ys.length d] w (DivMP xs ys w) := by
  have HD := Lib.hid hdiv
  clear hdiv
  have hb1 : ((ys.length : Int) == 0) = false := beq_eq_false_iff_ne.2 (by omega)
  go_enter Tryd.func9, Tryd.ntmps9
  go_wp2_with (first
    | (go_at_call 32; (with_reducible refine (valid_yes A c xs _ hx ox).mono ?_); rintro e w1 ⟨rfl, rfl⟩)
    | (go_at_call 32; (with_reducible refine (valid_yes B d ys _ hy oy).mono ?_); rintro e w1 ⟨rfl, rfl⟩)
    | (go_at_call 33; refine HD.out.mono ?_; rintro e w1 ⟨Q, qc, q, R, rc, r, rfl, h1, h2, h3, h4, h5, h6, h7, h8, h9⟩))
  go_ret3
  exact ⟨Q, qc, q, R, rc, r, rfl, h1, h2, h3, h4, h5, h6, h7, h8, h9⟩

/-- A new block of the numbers of a literal. -/
abbrev lit (w : World) (xs : List Nat) : World := w.alloc (.cells (nums .u32 xs).toArray 55)
theorem lit_rd (w : World) (xs : List Nat) : Rd .u32 (lit w xs) (some ⟨w.heap.size, 0, none⟩) xs := (Row.new (k := .u32) (t := 55) w xs).rd
theorem lit_below {B : Nat} {w0 w : World} (h : Below B w0 w) (hB : B ≤ w.heap.size) (xs : List Nat) : Below B w0 (lit w xs) := h.alloc hB _

theorem below_drew_ {B : Nat} {a w : World} (h : Below B a w) (n : Nat) : Below B a (w.drewN n) := ⟨h.os, h.tape, h.output, h.size, h.block⟩
theorem lit_size (w : World) (xs : List Nat) : (lit w xs).heap.size = w.heap.size + 1 := by simp
theorem two_lits (w : World) (xs ys : List Nat) : Rd .u32 (lit (lit w xs) ys) (some ⟨w.heap.size, 0, none⟩) xs ∧ Rd .u32 (lit (lit w xs) ys) (some ⟨w.heap.size + 1, 0, none⟩) ys := by
  refine ⟨(lit_rd w xs).alloc _, ?_⟩
  have h := lit_rd (lit w xs) ys
  rw [lit_size] at h
  exact h
theorem two_below {B : Nat} {w0 w w' : World} {xs ys : List Nat} (h : Below B w0 w) (hB : B ≤ w.heap.size) (k : Below (lit (lit w xs) ys).heap.size (lit (lit w xs) ys) w') : Below B w0 w' :=
  ((h.alloc hB _).alloc (by rw [lit_size]; omega) _).trans (k.mono (by rw [lit_size, lit_size]; omega))
theorem one_below {B : Nat} {w0 w w' : World} {xs : List Nat} (h : Below B w0 w) (hB : B ≤ w.heap.size) (k : Below (lit w xs).heap.size (lit w xs) w') : Below B w0 w' :=
  (h.alloc hB _).trans (k.mono (by rw [lit_size]; omega))

theorem mag_one (a : Nat) (h : a < 4294967296) (h0 : a ≠ 0) : Mag [a] := ⟨fun x hx => by simp at hx; omega, fun _ => by simpa using h0⟩
theorem mag_two (a b : Nat) (h : a < 4294967296) (h2 : b < 4294967296) (h0 : b ≠ 0) : Mag [a, b] := ⟨fun x hx => by simp at hx; omega, fun _ => by simpa using h0⟩
theorem V32_one (a : Nat) : V32 [a] = a := by unfold V32; simp [val]
theorem V32_two (a b : Nat) : V32 [a, b] = a + 4294967296 * b := by unfold V32; simp [val]
theorem dec_awake : Lib.decDigits 4294967296 = [52, 50, 57, 52, 57, 54, 55, 50, 57, 54] := by simp [Lib.decDigits]

set_option maxRecDepth 100000 in
set_option maxHeartbeats 1000000 in
theorem awake_yes (w : World) (htab : Lib.TabBelow Tryd.prog w.heap.size w "internal/strconv.uint64pow10" .u64 Lib.pow10Tab) :
    Calls Tryd.prog 6 #[] w (Yes w) := by
  have HT := Lib.hid htab
  clear htab
  go_enter Tryd.func6, Tryd.ntmps6
  go_wp2_with fail
  obtain ⟨hA, hB⟩ := two_lits w [4294967295] [1]
  refine (Add_ok (some ⟨w.heap.size, 0, none⟩) (some ⟨w.heap.size + 1, 0, none⟩) 1 1 [4294967295] [1] (lit (lit w [4294967295]) [1]) hA hB (mag_one _ (by omega) (by omega)) (mag_one _ (by omega) (by omega)) (by simp) (by simp)).mono ?_
  rintro e w1 ⟨S, sc, zs, hzs, hzc, hb1, ⟨hvz, hmz⟩, hor⟩
  obtain rfl : zs = [0, 1] := hmz.eq (mag_two 0 1 (by omega) (by omega) (by omega)) (by rw [hvz, V32_one, V32_one, V32_two])
  obtain ⟨_, rfl⟩ : 2 ≤ 4096 ∧ e = .returned (.tuple #[.slice S 2 sc, .int .i64 0]) := by
    rcases hor with h | h
    · exact h
    · exact absurd h.1 (by simp)
  have hbw1 : Below w.heap.size w w1 := two_below (Below.refl _ _) (Nat.le_refl _) hb1
  clear hor hA hB hvz hb1
  have HA := Lib.hid hzs
  clear hzs
  go_wp2_with fail
  obtain ⟨hA, hB⟩ := two_lits w1 [7] [2]
  have hv7 : V32 [2] ≤ V32 [7] := by rw [V32_one, V32_one]; omega
  refine (DivMod_ok (some ⟨w1.heap.size, 0, none⟩) (some ⟨w1.heap.size + 1, 0, none⟩) 1 1 [7] [2] (lit (lit w1 [7]) [2]) hA hB ⟨by simp, (mag_one _ (by omega) (by omega)).2⟩ ⟨by simp, (mag_one _ (by omega) (by omega)).2⟩ (by simp)
    (div_one (some ⟨w1.heap.size, 0, none⟩) (some ⟨w1.heap.size + 1, 0, none⟩) 1 1 [7] [2] _ hA hB (by simp) (mag_one _ (by omega) (by omega)) (mag_one _ (by omega) (by omega)) hv7 rfl)).mono ?_
  rintro e w2 ⟨Q, qc, q, R, rc, r, rfl, hq, hr, hmq, hmr, hqc, hrc, hdiv, hrem, hb2⟩
  have hd := hdiv.out
  have hm := hrem.out
  rw [V32_one, V32_one] at hd
  rw [V32_one] at hm
  obtain rfl : q = [3] := hmq.eq (mag_one 3 (by omega) (by omega)) (by rw [V32_one]; omega)
  obtain rfl : r = [1] := hmr.eq (mag_one 1 (by omega) (by omega)) (by rw [V32_one] at hd ⊢; omega)
  have hbw2 : Below w.heap.size w w2 := two_below hbw1 hbw1.size hb2
  have HA2 : Hid (Rd .u32 w2 S [0, 1]) := HA.out.below (two_below (Below.refl _ _) (Nat.le_refl _) hb2)
  have HQ := Lib.hid hq
  have HR := Lib.hid hr
  clear hdiv hrem hd hm hv7 hA hB hq hr HA
  go_wp2_with fail
  have hL := lit_rd w2 [0, 1]
  have htab3 : Lib.TabBelow Tryd.prog (lit w2 [0, 1]).heap.size (lit w2 [0, 1]) "internal/strconv.uint64pow10" .u64 Lib.pow10Tab := fun w' h => HT.out w' (one_below hbw2 hbw2.size h)
  refine (text_any (some ⟨w2.heap.size, 0, none⟩) 2 [0, 1] (lit w2 [0, 1]) hL (mag_two 0 1 (by omega) (by omega) (by omega)) (by simp) htab3).mono ?_
  rintro e w3 ⟨he, hb3⟩
  rw [V32_two, show 0 + 4294967296 * 1 = 4294967296 from rfl, dec_awake] at he
  subst he
  have hbw3 : Below w.heap.size w w3 := one_below hbw2 hbw2.size hb3
  have hk3 : Below w2.heap.size w2 w3 := one_below (Below.refl _ _) (Nat.le_refl _) hb3
  have HA3 : Hid (Rd .u32 w3 S [0, 1]) := HA2.out.below hk3
  have HQ3 : Hid (Rd .u32 w3 Q [3]) := HQ.out.below hk3
  have HR3 : Hid (Rd .u32 w3 R [1]) := HR.out.below hk3
  clear htab3 hL HA2 HQ HR hk3
  go_wp2_with fail
  refine (equal_yes S (some ⟨w3.heap.size, 0, none⟩) sc 2 2 [0, 1] (lit w3 [0, 1]) rfl (HA3.out.alloc _) (lit_rd w3 _) (by omega)).mono ?_
  rintro e w4 ⟨rfl, n4, rfl⟩
  have hbw4 : Below w.heap.size w ((lit w3 [0, 1]).drewN n4) := below_drew_ (lit_below hbw3 hbw3.size _) n4
  have HQ4 : Hid (Rd .u32 ((lit w3 [0, 1]).drewN n4) Q [3]) := (HQ3.out.alloc _).drewN n4
  have HR4 : Hid (Rd .u32 ((lit w3 [0, 1]).drewN n4) R [1]) := (HR3.out.alloc _).drewN n4
  obtain ⟨w4, hw4⟩ : ∃ w4, w4 = (lit w3 [0, 1]).drewN n4 := ⟨_, rfl⟩
  rw [← hw4] at hbw4 HQ4 HR4 ⊢
  clear hw4 HQ3 HR3 HA3 hb3 hbw3
  go_wp2_with fail
  refine (equal_yes Q (some ⟨w4.heap.size, 0, none⟩) qc 1 1 [3] (lit w4 [3]) rfl (HQ4.out.alloc _) (lit_rd w4 _) (by omega)).mono ?_
  rintro e w5 ⟨rfl, n5, rfl⟩
  have hbw5 : Below w.heap.size w ((lit w4 [3]).drewN n5) := below_drew_ (lit_below hbw4 hbw4.size _) n5
  have HR5 : Hid (Rd .u32 ((lit w4 [3]).drewN n5) R [1]) := (HR4.out.alloc _).drewN n5
  obtain ⟨w5, hw5⟩ : ∃ w5, w5 = (lit w4 [3]).drewN n5 := ⟨_, rfl⟩
  rw [← hw5] at hbw5 HR5 ⊢
  clear hw5 HQ4 HR4 hbw4
  go_wp2_with fail
  refine (equal_yes R (some ⟨w5.heap.size, 0, none⟩) rc 1 1 [1] (lit w5 [1]) rfl (HR5.out.alloc _) (lit_rd w5 _) (by omega)).mono ?_
  rintro e w6 ⟨rfl, n6, rfl⟩
  have hbw6 : Below w.heap.size w ((lit w5 [1]).drewN n6) := below_drew_ (lit_below hbw5 hbw5.size _) n6
  obtain ⟨w6, hw6⟩ : ∃ w6, w6 = (lit w5 [1]).drewN n6 := ⟨_, rfl⟩
  rw [← hw6] at hbw6 ⊢
  clear hw6 HR5 hbw5
  go_wp2
  go_ret
  exact ⟨rfl, hbw6⟩
end Go.Proofs.YtllcegiaojchdaaDoor

