/- isochronelaw01.NatPowers answers true for all arguments. -/
import Derived.Test.YtgfojfiopcooeaaDoorPow
namespace Go.Proofs.YtgfojfiopcooeaaDoor
open Go.RowKit V

theorem exists_bits (v : Nat) : ∃ b, IsBits v b := by
  by_cases h : v = 0
  · exact ⟨0, by rw [h]; exact bits_zero⟩
  · exact ⟨Nat.log2 v + 1, Nat.lt_log2_self, fun _ => Nat.log2_self_le h⟩

set_option maxHeartbeats 400000 in
theorem equal_len (A B : Option Addr) (c d n m : Nat) (w : World) (h : n ≠ m) :
    Calls Tryd.prog 39 #[.slice A n c, .slice B m d] w (Plain (.bool false) w) := by
  have hb : ((n : Int) != (m : Int)) = true := by simp; omega
  go_enter Tryd.func39, Tryd.ntmps39
  go_wp2
  go_ret
  exact ⟨rfl, rfl⟩

/-- The answer is false; what was there is as it was. -/
def No (w : World) (e : Ending) (w' : World) : Prop := e = .returned (.bool false) ∧ Below w.heap.size w w'

set_option maxHeartbeats 400000 in
theorem is_len (A B : Option Addr) (c d n : Nat) (ns : List Nat) (w : World) (hn : Rd .i64 w B ns) (bn : ns.length ≤ 100000) (nn : Nm ns) (h : ∀ ys, Mag ys → V32 ys = VD ns → n ≠ ys.length) :
    Calls Tryd.prog 19 #[.slice A n c, .slice B ns.length d] w (No w) := by
  go_enter Tryd.func19, Tryd.ntmps19
  go_wp2_with fail
  refine (words_any B d ns _ hn bn nn).mono ?_
  rintro e w1 ⟨Y, yc, ys, rfl, hyc, hy, hb, hvy, hmy⟩
  have hne := h ys hmy hvy
  clear h hvy
  go_wp2_with fail
  refine (equal_len A Y c yc n _ _ hne).mono ?_
  rintro e w2 ⟨rfl, rfl⟩
  go_wp2
  go_ret
  exact ⟨rfl, hb⟩

/-- A slice and an error, whatever they are. -/
def SomeP (w : World) (e : Ending) (w' : World) : Prop := ∃ A c m en, e = .returned (.tuple #[.slice A m c, .int .i64 en]) ∧ Below w.heap.size w w'
theorem FitP.some {Q : List Nat → Prop} {w w' : World} {e : Ending} (h : FitP Q w e w') : SomeP w e w' := by
  obtain ⟨A, c, zs, h1, h2, h3, h4, h5⟩ := h
  rcases h5 with h5 | h5
  · exact ⟨A, c, _, _, h5.2, h3⟩
  · exact ⟨none, 0, _, _, h5.2, h3⟩
theorem ErrP.some {n : Int} {w w' : World} {e : Ending} (h : ErrP n w e w') : SomeP w e w' := ⟨none, 0, _, _, h.1, h.2⟩

theorem V32_nil : V32 [] = 0 := rfl
theorem quot_small {b : Nat} (hb : b ≤ 128) (hb1 : 2 ≤ b) : 60 ≤ 131071 / (b - 1) := by
  rw [Nat.le_div_iff_mul_le (by omega)]; omega
theorem two_le_of {xs : List Nat} (mx : Mag xs) (h : xs.length = 1 → xs.getD 0 0 ≠ 1) (h0 : 0 < xs.length) : 2 ≤ V32 xs := by
  have h1 := V32_pos mx h0
  rcases Nat.lt_or_ge 1 xs.length with h2 | h2
  · have h3 := val_ge (B := 4294967296) mx.2 h0
    have h4 : 4294967296 ^ 1 ≤ 4294967296 ^ (xs.length - 1) := Nat.pow_le_pow_right (by omega) (by omega)
    unfold V32; omega
  · have h3 : xs.length = 1 := by omega
    have h4 := h h3
    have h5 : V32 xs = xs.getD 0 0 := by
      have := one_of_len h3
      rw [this]; simp [V32, val]
    omega

set_option maxRecDepth 100000 in
set_option maxHeartbeats 1600000 in
theorem powers_neg (A : Option Addr) (ca : Nat) (xs : List Nat) (n : Int) (w : World) (hx : Rd .u32 w A xs) (hs : SmallOk xs [] 4) (hn : n < 0)
    (htab : Lib.TabBelow Tryd.prog w.heap.size w "internal/strconv.uint64pow10" .u64 Lib.pow10Tab) :
    Calls Tryd.prog 5 #[.slice A (xs : List Nat).length ca, .int .i64 n] w (Yes w) := by
  have HT := Lib.hid htab
  clear htab
  go_enter Tryd.func5, Tryd.ntmps5
  go_wp2_with fail
  refine (awake_yes w HT.out).mono ?_
  rintro e w1 ⟨rfl, hb1⟩
  have hx1 := hx.below hb1
  have hw1 := hb1
  clear hx
  go_wp2_with fail
  refine (small_yes A none ca 0 4 xs [] _ hx1 Rd.nil_ hs).mono ?_
  rintro e w' ⟨rfl, rfl⟩
  go_wp2_with fail
  refine (Pow_neg A ca n xs _ hx1 hs.2.2.1 hn).mono ?_
  rintro e w2 ⟨rfl, hb2⟩
  have hx2 := hx1.below hb2
  have hw2 := hw1.trans (hb2.mono hw1.size)
  clear hx1 hw1 hb2
  go_wp2
  all_goals go_ret
  all_goals exact ⟨rfl, hw2⟩

set_option maxRecDepth 100000 in
set_option maxHeartbeats 1600000 in
theorem powers_z0 (A : Option Addr) (ca : Nat)  (w : World) (hx : Rd .u32 w A []) 
    (htab : Lib.TabBelow Tryd.prog w.heap.size w "internal/strconv.uint64pow10" .u64 Lib.pow10Tab) :
    Calls Tryd.prog 5 #[.slice A ([] : List Nat).length ca, .int .i64 0] w (Yes w) := by
  have HT := Lib.hid htab
  clear htab
  have hs : SmallOk [] [] 4 := ⟨by simp, by simp, ⟨by simp, nrm_nil⟩, ⟨by simp, nrm_nil⟩⟩
  go_enter Tryd.func5, Tryd.ntmps5
  go_wp2_with fail
  refine (awake_yes w HT.out).mono ?_
  rintro e w1 ⟨rfl, hb1⟩
  have hx1 := hx.below hb1
  have hw1 := hb1
  clear hx
  go_wp2_with fail
  refine (small_yes A none ca 0 4 [] [] _ hx1 Rd.nil_ hs).mono ?_
  rintro e w' ⟨rfl, rfl⟩
  go_wp2_with fail
  refine (Pow_zero A ca [] _ hx1 hs.2.2.1).mono ?_
  rintro e w2 ⟨S, sc, ss, hS2, hsc, hb2, hqs, rfl⟩
  have hx2 := hx1.below hb2
  have hw2 := hw1.trans (hb2.mono hw1.size)
  clear hx1 hw1 hb2
  obtain rfl : ss = [1] := hqs.2.eq (mag_one 1 (by omega) (by omega)) (by rw [hqs.1, V32_one])
  clear hqs
  go_wp2_with fail
  refine (of_any A ca [] _ hx2 (by simp) mag_nil.1).mono ?_
  rintro e w3 ⟨X, xc, nx, rfl, hxc, hX3, hb3, hvx, hnx, hlx⟩
  have hx3 := hx2.below hb3
  have hS3 := hS2.below hb3
  have hw3 := hw2.trans (hb3.mono hw2.size)
  clear hx2 hS2 hw2 hb3
  have hlx2 : nx.length ≤ 0 := hlx
  have HVX := Lib.hid hvx
  clear hvx hlx
  go_wp2_with fail
  refine (is_len S X sc xc 1 nx _ hX3 (by omega) hnx (fun ys my e => by rw [HVX.out] at e; have := V32_pos my; rw [V32_nil] at e; omega)).mono ?_
  rintro e w4 ⟨rfl, hb4⟩
  have hx4 := hx3.below hb4
  have hS4 := hS3.below hb4
  have hX4 := hX3.below hb4
  have hw4 := hw3.trans (hb4.mono hw3.size)
  clear hx3 hS3 hX3 hw3 hb4
  go_wp2_with fail
  refine (int_any 1 _ (by omega)).mono ?_
  rintro e w5 ⟨I, ic, ni, rfl, hic, hI5, hb5, hvi, hni, hli⟩
  have hx5 := hx4.below hb5
  have hS5 := hS4.below hb5
  have hX5 := hX4.below hb5
  have hw5 := hw4.trans (hb5.mono hw4.size)
  clear hx4 hS4 hX4 hw4 hb5
  have HVI : Hid (V32 [1] = VD ni) := by show _ = _; rw [V32_one, hvi]
  clear hvi
  go_wp2_with fail
  refine (is_yes S I sc ic [1] ni _ hS5 hI5 (by omega) (by simp) (mag_one 1 (by omega) (by omega)) hni HVI.out).mono ?_
  rintro e w6 ⟨rfl, hb6⟩
  have hx6 := hx5.below hb6
  have hS6 := hS5.below hb6
  have hX6 := hX5.below hb6
  have hI6 := hI5.below hb6
  have hw6 := hw5.trans (hb6.mono hw5.size)
  clear hx5 hS5 hX5 hI5 hw5 hb6
  go_wp2
  all_goals go_ret
  all_goals exact ⟨rfl, hw6⟩

set_option maxRecDepth 100000 in
set_option maxHeartbeats 1600000 in
theorem powers_zn (A : Option Addr) (ca : Nat) (n : Int) (w : World) (hx : Rd .u32 w A []) (hn : 1 ≤ n)
    (htab : Lib.TabBelow Tryd.prog w.heap.size w "internal/strconv.uint64pow10" .u64 Lib.pow10Tab) :
    Calls Tryd.prog 5 #[.slice A ([] : List Nat).length ca, .int .i64 n] w (Yes w) := by
  have HT := Lib.hid htab
  clear htab
  have hs : SmallOk [] [] 4 := ⟨by simp, by simp, ⟨by simp, nrm_nil⟩, ⟨by simp, nrm_nil⟩⟩
  go_enter Tryd.func5, Tryd.ntmps5
  go_wp2_with fail
  refine (awake_yes w HT.out).mono ?_
  rintro e w1 ⟨rfl, hb1⟩
  have hx1 := hx.below hb1
  have hw1 := hb1
  clear hx
  go_wp2_with fail
  refine (small_yes A none ca 0 4 [] [] _ hx1 Rd.nil_ hs).mono ?_
  rintro e w' ⟨rfl, rfl⟩
  go_wp2_with fail
  refine (Pow_one A ca n [] _ hx1 hs.2.2.1 mag_nil.1 hn (by rw [V32_nil]; omega)).mono ?_
  rintro e w2 ⟨S, sc, ss, hS2, hsc, hb2, rfl, rfl⟩
  have hx2 := hx1.below hb2
  have hw2 := hw1.trans (hb2.mono hw1.size)
  clear hx1 hw1 hb2
  go_wp2_with fail
  refine (of_any A ca [] _ hx2 (by simp) mag_nil.1).mono ?_
  rintro e w3 ⟨X, xc, nx, rfl, hxc, hX3, hb3, hvx, hnx, hlx⟩
  have hx3 := hx2.below hb3
  have hS3 := hS2.below hb3
  have hw3 := hw2.trans (hb3.mono hw2.size)
  clear hx2 hS2 hw2 hb3
  have hlx2 : nx.length ≤ 0 := hlx
  have HVX := Lib.hid hvx
  clear hvx hlx
  go_wp2_with fail
  refine (is_yes S X sc xc [] nx _ hS3 hX3 (by omega) (by simp) mag_nil hnx HVX.out.symm).mono ?_
  rintro e w4 ⟨rfl, hb4⟩
  have hx4 := hx3.below hb4
  have hS4 := hS3.below hb4
  have hX4 := hX3.below hb4
  have hw4 := hw3.trans (hb4.mono hw3.size)
  clear hx3 hS3 hX3 hw3 hb4
  go_wp2
  all_goals go_ret
  all_goals exact ⟨rfl, hw4⟩

set_option maxRecDepth 100000 in
set_option maxHeartbeats 1600000 in
theorem powers_o0 (A : Option Addr) (ca : Nat)  (w : World) (hx : Rd .u32 w A [1]) 
    (htab : Lib.TabBelow Tryd.prog w.heap.size w "internal/strconv.uint64pow10" .u64 Lib.pow10Tab) :
    Calls Tryd.prog 5 #[.slice A ([1] : List Nat).length ca, .int .i64 0] w (Yes w) := by
  have HT := Lib.hid htab
  clear htab
  have m1 : Mag [1] := mag_one 1 (by omega) (by omega)
  have hs : SmallOk [1] [] 4 := ⟨by simp, by simp, ⟨by simp, m1.2⟩, ⟨by simp, nrm_nil⟩⟩
  go_enter Tryd.func5, Tryd.ntmps5
  go_wp2_with fail
  refine (awake_yes w HT.out).mono ?_
  rintro e w1 ⟨rfl, hb1⟩
  have hx1 := hx.below hb1
  have hw1 := hb1
  clear hx
  go_wp2_with fail
  refine (small_yes A none ca 0 4 [1] [] _ hx1 Rd.nil_ hs).mono ?_
  rintro e w' ⟨rfl, rfl⟩
  go_wp2_with fail
  refine (Pow_zero A ca [1] _ hx1 hs.2.2.1).mono ?_
  rintro e w2 ⟨S, sc, ss, hS2, hsc, hb2, hqs, rfl⟩
  have hx2 := hx1.below hb2
  have hw2 := hw1.trans (hb2.mono hw1.size)
  clear hx1 hw1 hb2
  obtain rfl : ss = [1] := hqs.2.eq m1 (by rw [hqs.1, V32_one])
  clear hqs
  obtain ⟨ad, y, rfl, hby, ey, cy⟩ := hx2.ask (i := 0) (by simp)
  rw [add_zero_] at cy
  obtain rfl : y = 1 := ey.out.symm
  go_wp2_with fail
  refine (of_any (some ad) ca [1] _ hx2 (by simp) m1.1).mono ?_
  rintro e w3 ⟨X, xc, nx, rfl, hxc, hX3, hb3, hvx, hnx, hlx⟩
  have hx3 := hx2.below hb3
  have hS3 := hS2.below hb3
  have hw3 := hw2.trans (hb3.mono hw2.size)
  clear hx2 hS2 hw2 hb3
  have hlx2 : nx.length ≤ 4 := hlx
  have HVX := Lib.hid hvx
  clear hvx hlx
  go_wp2_with fail
  refine (is_yes S X sc xc [1] nx _ hS3 hX3 (by omega) (by simp) m1 hnx HVX.out.symm).mono ?_
  rintro e w4 ⟨rfl, hb4⟩
  have hx4 := hx3.below hb4
  have hS4 := hS3.below hb4
  have hX4 := hX3.below hb4
  have hw4 := hw3.trans (hb4.mono hw3.size)
  clear hx3 hS3 hX3 hw3 hb4
  go_wp2_with fail
  refine (int_any 1 _ (by omega)).mono ?_
  rintro e w5 ⟨I, ic, ni, rfl, hic, hI5, hb5, hvi, hni, hli⟩
  have hx5 := hx4.below hb5
  have hS5 := hS4.below hb5
  have hX5 := hX4.below hb5
  have hw5 := hw4.trans (hb5.mono hw4.size)
  clear hx4 hS4 hX4 hw4 hb5
  have HVI : Hid (V32 [1] = VD ni) := by show _ = _; rw [V32_one, hvi]
  clear hvi
  go_wp2_with fail
  refine (is_yes S I sc ic [1] ni _ hS5 hI5 (by omega) (by simp) m1 hni HVI.out).mono ?_
  rintro e w6 ⟨rfl, hb6⟩
  have hx6 := hx5.below hb6
  have hS6 := hS5.below hb6
  have hX6 := hX5.below hb6
  have hI6 := hI5.below hb6
  have hw6 := hw5.trans (hb6.mono hw5.size)
  clear hx5 hS5 hX5 hI5 hw5 hb6
  go_wp2
  all_goals go_ret
  all_goals exact ⟨rfl, hw6⟩

set_option maxRecDepth 100000 in
set_option maxHeartbeats 1600000 in
theorem powers_on (A : Option Addr) (ca : Nat) (n : Int) (w : World) (hx : Rd .u32 w A [1]) (hn : 1 ≤ n)
    (htab : Lib.TabBelow Tryd.prog w.heap.size w "internal/strconv.uint64pow10" .u64 Lib.pow10Tab) :
    Calls Tryd.prog 5 #[.slice A ([1] : List Nat).length ca, .int .i64 n] w (Yes w) := by
  have HT := Lib.hid htab
  clear htab
  have m1 : Mag [1] := mag_one 1 (by omega) (by omega)
  have hs : SmallOk [1] [] 4 := ⟨by simp, by simp, ⟨by simp, m1.2⟩, ⟨by simp, nrm_nil⟩⟩
  go_enter Tryd.func5, Tryd.ntmps5
  go_wp2_with fail
  refine (awake_yes w HT.out).mono ?_
  rintro e w1 ⟨rfl, hb1⟩
  have hx1 := hx.below hb1
  have hw1 := hb1
  clear hx
  go_wp2_with fail
  refine (small_yes A none ca 0 4 [1] [] _ hx1 Rd.nil_ hs).mono ?_
  rintro e w' ⟨rfl, rfl⟩
  go_wp2_with fail
  refine (Pow_one A ca n [1] _ hx1 hs.2.2.1 m1.1 hn (by rw [V32_one]; omega)).mono ?_
  rintro e w2 ⟨S, sc, ss, hS2, hsc, hb2, rfl, rfl⟩
  have hx2 := hx1.below hb2
  have hw2 := hw1.trans (hb2.mono hw1.size)
  clear hx1 hw1 hb2
  obtain ⟨ad, y, rfl, hby, ey, cy⟩ := hx2.ask (i := 0) (by simp)
  rw [add_zero_] at cy
  obtain rfl : y = 1 := ey.out.symm
  go_wp2_with fail
  refine (of_any (some ad) ca [1] _ hx2 (by simp) m1.1).mono ?_
  rintro e w3 ⟨X, xc, nx, rfl, hxc, hX3, hb3, hvx, hnx, hlx⟩
  have hx3 := hx2.below hb3
  have hS3 := hS2.below hb3
  have hw3 := hw2.trans (hb3.mono hw2.size)
  clear hx2 hS2 hw2 hb3
  have hlx2 : nx.length ≤ 4 := hlx
  have HVX := Lib.hid hvx
  clear hvx hlx
  go_wp2_with fail
  refine (is_yes S X sc xc [1] nx _ hS3 hX3 (by omega) (by simp) m1 hnx HVX.out.symm).mono ?_
  rintro e w4 ⟨rfl, hb4⟩
  have hx4 := hx3.below hb4
  have hS4 := hS3.below hb4
  have hX4 := hX3.below hb4
  have hw4 := hw3.trans (hb4.mono hw3.size)
  clear hx3 hS3 hX3 hw3 hb4
  go_wp2
  all_goals go_ret
  all_goals exact ⟨rfl, hw4⟩

set_option maxRecDepth 100000 in
set_option maxHeartbeats 1600000 in
theorem powers_low2 (A : Option Addr) (ca : Nat) (xs : List Nat) (n : Nat) (w : World) (hx : Rd .u32 w A xs) (dx : Dig 4294967296 xs) (hs : SmallOk xs [] 4) (hl2 : 2 ≤ xs.length) (hn : n ≤ 60) (hv128 : V32 xs < 2 ^ 128) (hpow : ∀ W, Rd .u32 W A xs → Calls Tryd.prog 27 #[.slice A xs.length ca, .int .i64 n] W (OkP (fun zs => V32 zs = V32 xs ^ n ∧ Mag zs) W))
    (htab : Lib.TabBelow Tryd.prog w.heap.size w "internal/strconv.uint64pow10" .u64 Lib.pow10Tab) :
    Calls Tryd.prog 5 #[.slice A (xs : List Nat).length ca, .int .i64 n] w (Yes w) := by
  have HT := Lib.hid htab
  clear htab
  have hpos : 0 < xs.length := by omega
  have mx : Mag xs := ⟨dx, hs.2.2.1.2⟩
  have ox : Ok xs := hs.2.2.1
  have h1 := hs.1
  have hb0 : ((xs.length : Int) == 0) = false := beq_eq_false_iff_ne.2 (by omega)
  go_enter Tryd.func5, Tryd.ntmps5
  go_wp2_with fail
  refine (awake_yes w HT.out).mono ?_
  rintro e w1 ⟨rfl, hb1⟩
  have hx1 := hx.below hb1
  have hw1 := hb1
  clear hx
  go_wp2_with fail
  refine (small_yes A none ca 0 4 xs [] _ hx1 Rd.nil_ hs).mono ?_
  rintro e w' ⟨rfl, rfl⟩
  go_wp2_with fail
  refine (hpow _ hx1).mono ?_
  rintro e w2 ⟨S, sc, ss, hS2, hsc, hb2, hqs, rfl⟩
  have hx2 := hx1.below hb2
  have hw2 := hw1.trans (hb2.mono hw1.size)
  clear hx1 hw1 hb2
  have HQS := Lib.hid hqs
  have hls := pow_len_le (k := 240) hqs.2 hqs.1 hv128 (by omega) (by omega)
  clear hqs
  have hb1 : ((xs.length : Int) == 1) = false := beq_eq_false_iff_ne.2 (by omega)
  go_wp2_with fail
  refine (of_any A ca xs _ hx2 (by omega) dx).mono ?_
  rintro e w3 ⟨X, xc, nx, rfl, hxc, hX3, hb3, hvx, hnx, hlx⟩
  have hx3 := hx2.below hb3
  have hS3 := hS2.below hb3
  have hw3 := hw2.trans (hb3.mono hw2.size)
  clear hx2 hS2 hw2 hb3
  have HVX := Lib.hid hvx
  clear hvx
  go_wp2_with fail
  refine (rpow_any X xc n nx _ hX3 (by omega) (by omega) hnx).mono ?_
  rintro e w4 ⟨U, uc, nu, rfl, huc, hU4, hb4, hvu, hnu, hlu⟩
  have hx4 := hx3.below hb4
  have hS4 := hS3.below hb4
  have hX4 := hX3.below hb4
  have hw4 := hw3.trans (hb4.mono hw3.size)
  clear hx3 hS3 hX3 hw3 hb4
  have HVU : Hid (V32 ss = VD nu) := by show _ = _; rw [HQS.out.1, hvu, HVX.out]
  clear hvu
  go_wp2_with fail
  refine (is_yes S U sc uc ss nu _ hS4 hU4 (by omega) (by omega) HQS.out.2 hnu HVU.out).mono ?_
  rintro e w5 ⟨rfl, hb5⟩
  have hx5 := hx4.below hb5
  have hS5 := hS4.below hb5
  have hX5 := hX4.below hb5
  have hU5 := hU4.below hb5
  have hw5 := hw4.trans (hb5.mono hw4.size)
  clear hx4 hS4 hX4 hU4 hw4 hb5
  go_wp2
  all_goals go_ret
  all_goals exact ⟨rfl, hw5⟩

set_option maxRecDepth 100000 in
set_option maxHeartbeats 1600000 in
theorem powers_mid2 (A : Option Addr) (ca : Nat) (xs : List Nat) (n : Int) (w : World) (hx : Rd .u32 w A xs) (_ : Dig 4294967296 xs) (hs : SmallOk xs [] 4) (hl2 : 2 ≤ xs.length) (hn : 60 < n) (hn2 : n < 131072) (hpow : ∀ W, Rd .u32 W A xs → Calls Tryd.prog 27 #[.slice A xs.length ca, .int .i64 n] W (SomeP W))
    (htab : Lib.TabBelow Tryd.prog w.heap.size w "internal/strconv.uint64pow10" .u64 Lib.pow10Tab) :
    Calls Tryd.prog 5 #[.slice A (xs : List Nat).length ca, .int .i64 n] w (Yes w) := by
  have HT := Lib.hid htab
  clear htab
  have hpos : 0 < xs.length := by omega
  have hb0 : ((xs.length : Int) == 0) = false := beq_eq_false_iff_ne.2 (by omega)
  go_enter Tryd.func5, Tryd.ntmps5
  go_wp2_with fail
  refine (awake_yes w HT.out).mono ?_
  rintro e w1 ⟨rfl, hb1⟩
  have hx1 := hx.below hb1
  have hw1 := hb1
  clear hx
  go_wp2_with fail
  refine (small_yes A none ca 0 4 xs [] _ hx1 Rd.nil_ hs).mono ?_
  rintro e w' ⟨rfl, rfl⟩
  go_wp2_with fail
  refine (hpow _ hx1).mono ?_
  rintro e w2 ⟨S, sc, m, en, rfl, hb2⟩
  have hx2 := hx1.below hb2
  have hw2 := hw1.trans (hb2.mono hw1.size)
  clear hx1 hw1 hb2
  have hb1 : ((xs.length : Int) == 1) = false := beq_eq_false_iff_ne.2 (by omega)
  go_wp2
  all_goals go_ret
  all_goals exact ⟨rfl, hw2⟩

set_option maxRecDepth 100000 in
set_option maxHeartbeats 1600000 in
theorem powers_far2 (A : Option Addr) (ca : Nat) (xs : List Nat) (n : Int) (w : World) (hx : Rd .u32 w A xs) (_ : Dig 4294967296 xs) (hs : SmallOk xs [] 4) (hl2 : 2 ≤ xs.length) (hn : 131072 ≤ n) (hpow : ∀ W, Rd .u32 W A xs → Calls Tryd.prog 27 #[.slice A xs.length ca, .int .i64 n] W (ErrP 2 W))
    (htab : Lib.TabBelow Tryd.prog w.heap.size w "internal/strconv.uint64pow10" .u64 Lib.pow10Tab) :
    Calls Tryd.prog 5 #[.slice A (xs : List Nat).length ca, .int .i64 n] w (Yes w) := by
  have HT := Lib.hid htab
  clear htab
  have hpos : 0 < xs.length := by omega
  have hb0 : ((xs.length : Int) == 0) = false := beq_eq_false_iff_ne.2 (by omega)
  go_enter Tryd.func5, Tryd.ntmps5
  go_wp2_with fail
  refine (awake_yes w HT.out).mono ?_
  rintro e w1 ⟨rfl, hb1⟩
  have hx1 := hx.below hb1
  have hw1 := hb1
  clear hx
  go_wp2_with fail
  refine (small_yes A none ca 0 4 xs [] _ hx1 Rd.nil_ hs).mono ?_
  rintro e w' ⟨rfl, rfl⟩
  go_wp2_with fail
  refine (hpow _ hx1).mono ?_
  rintro e w2 ⟨rfl, hb2⟩
  have hx2 := hx1.below hb2
  have hw2 := hw1.trans (hb2.mono hw1.size)
  clear hx1 hw1 hb2
  have hb1 : ((xs.length : Int) == 1) = false := beq_eq_false_iff_ne.2 (by omega)
  go_wp2
  all_goals go_ret
  all_goals exact ⟨rfl, hw2⟩

set_option maxRecDepth 100000 in
set_option maxHeartbeats 1600000 in
theorem powers_low1 (A : Option Addr) (ca : Nat) (xs : List Nat) (n : Nat) (w : World) (hx : Rd .u32 w A xs) (dx : Dig 4294967296 xs) (hs : SmallOk xs [] 4) (hl1 : Hid (xs.length = 1)) (hne : Hid (xs.getD 0 0 ≠ 1)) (hn : n ≤ 60) (hv128 : V32 xs < 2 ^ 128) (hpow : ∀ W, Rd .u32 W A xs → Calls Tryd.prog 27 #[.slice A xs.length ca, .int .i64 n] W (OkP (fun zs => V32 zs = V32 xs ^ n ∧ Mag zs) W))
    (htab : Lib.TabBelow Tryd.prog w.heap.size w "internal/strconv.uint64pow10" .u64 Lib.pow10Tab) :
    Calls Tryd.prog 5 #[.slice A (xs : List Nat).length ca, .int .i64 n] w (Yes w) := by
  have HT := Lib.hid htab
  clear htab
  have hpos : 0 < xs.length := by have := hl1.out; omega
  have hb1 : ((xs.length : Int) == 1) = true := by simp [hl1.out]
  have mx : Mag xs := ⟨dx, hs.2.2.1.2⟩
  have ox : Ok xs := hs.2.2.1
  have h1 := hs.1
  have hb0 : ((xs.length : Int) == 0) = false := beq_eq_false_iff_ne.2 (by omega)
  go_enter Tryd.func5, Tryd.ntmps5
  go_wp2_with fail
  refine (awake_yes w HT.out).mono ?_
  rintro e w1 ⟨rfl, hb1⟩
  have hx1 := hx.below hb1
  have hw1 := hb1
  clear hx
  go_wp2_with fail
  refine (small_yes A none ca 0 4 xs [] _ hx1 Rd.nil_ hs).mono ?_
  rintro e w' ⟨rfl, rfl⟩
  go_wp2_with fail
  refine (hpow _ hx1).mono ?_
  rintro e w2 ⟨S, sc, ss, hS2, hsc, hb2, hqs, rfl⟩
  have hx2 := hx1.below hb2
  have hw2 := hw1.trans (hb2.mono hw1.size)
  clear hx1 hw1 hb2
  have HQS := Lib.hid hqs
  have hls := pow_len_le (k := 240) hqs.2 hqs.1 hv128 (by omega) (by omega)
  clear hqs
  obtain ⟨ad, y, rfl, hby, ey, cy⟩ := hx2.ask (i := 0) (by omega)
  rw [add_zero_] at cy
  have hy1 : ((y : Int) == 1) = false := beq_eq_false_iff_ne.2 (by have := hne.out; rw [ey.out] at this; omega)
  go_wp2_with fail
  refine (of_any (some ad) ca xs _ hx2 (by omega) dx).mono ?_
  rintro e w3 ⟨X, xc, nx, rfl, hxc, hX3, hb3, hvx, hnx, hlx⟩
  have hx3 := hx2.below hb3
  have hS3 := hS2.below hb3
  have hw3 := hw2.trans (hb3.mono hw2.size)
  clear hx2 hS2 hw2 hb3
  have HVX := Lib.hid hvx
  clear hvx
  go_wp2_with fail
  refine (rpow_any X xc n nx _ hX3 (by omega) (by omega) hnx).mono ?_
  rintro e w4 ⟨U, uc, nu, rfl, huc, hU4, hb4, hvu, hnu, hlu⟩
  have hx4 := hx3.below hb4
  have hS4 := hS3.below hb4
  have hX4 := hX3.below hb4
  have hw4 := hw3.trans (hb4.mono hw3.size)
  clear hx3 hS3 hX3 hw3 hb4
  have HVU : Hid (V32 ss = VD nu) := by show _ = _; rw [HQS.out.1, hvu, HVX.out]
  clear hvu
  go_wp2_with fail
  refine (is_yes S U sc uc ss nu _ hS4 hU4 (by omega) (by omega) HQS.out.2 hnu HVU.out).mono ?_
  rintro e w5 ⟨rfl, hb5⟩
  have hx5 := hx4.below hb5
  have hS5 := hS4.below hb5
  have hX5 := hX4.below hb5
  have hU5 := hU4.below hb5
  have hw5 := hw4.trans (hb5.mono hw4.size)
  clear hx4 hS4 hX4 hU4 hw4 hb5
  go_wp2
  all_goals go_ret
  all_goals exact ⟨rfl, hw5⟩

set_option maxRecDepth 100000 in
set_option maxHeartbeats 1600000 in
theorem powers_mid1 (A : Option Addr) (ca : Nat) (xs : List Nat) (n : Int) (w : World) (hx : Rd .u32 w A xs) (_ : Dig 4294967296 xs) (hs : SmallOk xs [] 4) (hl1 : Hid (xs.length = 1)) (hne : Hid (xs.getD 0 0 ≠ 1)) (hn : 60 < n) (hn2 : n < 131072) (hpow : ∀ W, Rd .u32 W A xs → Calls Tryd.prog 27 #[.slice A xs.length ca, .int .i64 n] W (SomeP W))
    (htab : Lib.TabBelow Tryd.prog w.heap.size w "internal/strconv.uint64pow10" .u64 Lib.pow10Tab) :
    Calls Tryd.prog 5 #[.slice A (xs : List Nat).length ca, .int .i64 n] w (Yes w) := by
  have HT := Lib.hid htab
  clear htab
  have hpos : 0 < xs.length := by have := hl1.out; omega
  have hb1 : ((xs.length : Int) == 1) = true := by simp [hl1.out]
  have hb0 : ((xs.length : Int) == 0) = false := beq_eq_false_iff_ne.2 (by omega)
  go_enter Tryd.func5, Tryd.ntmps5
  go_wp2_with fail
  refine (awake_yes w HT.out).mono ?_
  rintro e w1 ⟨rfl, hb1⟩
  have hx1 := hx.below hb1
  have hw1 := hb1
  clear hx
  go_wp2_with fail
  refine (small_yes A none ca 0 4 xs [] _ hx1 Rd.nil_ hs).mono ?_
  rintro e w' ⟨rfl, rfl⟩
  go_wp2_with fail
  refine (hpow _ hx1).mono ?_
  rintro e w2 ⟨S, sc, m, en, rfl, hb2⟩
  have hx2 := hx1.below hb2
  have hw2 := hw1.trans (hb2.mono hw1.size)
  clear hx1 hw1 hb2
  obtain ⟨ad, y, rfl, hby, ey, cy⟩ := hx2.ask (i := 0) (by omega)
  rw [add_zero_] at cy
  have hy1 : ((y : Int) == 1) = false := beq_eq_false_iff_ne.2 (by have := hne.out; rw [ey.out] at this; omega)
  go_wp2
  all_goals go_ret
  all_goals exact ⟨rfl, hw2⟩

set_option maxRecDepth 100000 in
set_option maxHeartbeats 1600000 in
theorem powers_far1 (A : Option Addr) (ca : Nat) (xs : List Nat) (n : Int) (w : World) (hx : Rd .u32 w A xs) (_ : Dig 4294967296 xs) (hs : SmallOk xs [] 4) (hl1 : Hid (xs.length = 1)) (hne : Hid (xs.getD 0 0 ≠ 1)) (hn : 131072 ≤ n) (hpow : ∀ W, Rd .u32 W A xs → Calls Tryd.prog 27 #[.slice A xs.length ca, .int .i64 n] W (ErrP 2 W))
    (htab : Lib.TabBelow Tryd.prog w.heap.size w "internal/strconv.uint64pow10" .u64 Lib.pow10Tab) :
    Calls Tryd.prog 5 #[.slice A (xs : List Nat).length ca, .int .i64 n] w (Yes w) := by
  have HT := Lib.hid htab
  clear htab
  have hpos : 0 < xs.length := by have := hl1.out; omega
  have hb1 : ((xs.length : Int) == 1) = true := by simp [hl1.out]
  have hb0 : ((xs.length : Int) == 0) = false := beq_eq_false_iff_ne.2 (by omega)
  go_enter Tryd.func5, Tryd.ntmps5
  go_wp2_with fail
  refine (awake_yes w HT.out).mono ?_
  rintro e w1 ⟨rfl, hb1⟩
  have hx1 := hx.below hb1
  have hw1 := hb1
  clear hx
  go_wp2_with fail
  refine (small_yes A none ca 0 4 xs [] _ hx1 Rd.nil_ hs).mono ?_
  rintro e w' ⟨rfl, rfl⟩
  go_wp2_with fail
  refine (hpow _ hx1).mono ?_
  rintro e w2 ⟨rfl, hb2⟩
  have hx2 := hx1.below hb2
  have hw2 := hw1.trans (hb2.mono hw1.size)
  clear hx1 hw1 hb2
  obtain ⟨ad, y, rfl, hby, ey, cy⟩ := hx2.ask (i := 0) (by omega)
  rw [add_zero_] at cy
  have hy1 : ((y : Int) == 1) = false := beq_eq_false_iff_ne.2 (by have := hne.out; rw [ey.out] at this; omega)
  go_wp2
  all_goals go_ret
  all_goals exact ⟨rfl, hw2⟩

set_option maxHeartbeats 400000 in
theorem powers_no (A : Option Addr) (ca : Nat) (xs : List Nat) (n : Int) (w : World) (hx : Rd .u32 w A xs) (hs : ¬ SmallOk xs [] 4)
    (htab : Lib.TabBelow Tryd.prog w.heap.size w "internal/strconv.uint64pow10" .u64 Lib.pow10Tab) :
    Calls Tryd.prog 5 #[.slice A xs.length ca, .int .i64 n] w (Yes w) := by
  have HT := Lib.hid htab
  clear htab
  go_enter Tryd.func5, Tryd.ntmps5
  go_wp2_with fail
  refine (awake_yes w HT.out).mono ?_
  rintro e w1 ⟨rfl, hw1⟩
  have hx1 := hx.below hw1
  go_wp2_with fail
  refine (small_no A none ca 0 4 xs [] _ hx1 Rd.nil_ hs).mono ?_
  rintro e w1' ⟨rfl, rfl⟩
  go_wp2
  go_ret
  exact ⟨rfl, hw1⟩

theorem powers_big (A : Option Addr) (ca : Nat) (xs : List Nat) (n : Nat) (w : World) (hx : Rd .u32 w A xs) (dx : Dig 4294967296 xs) (hs : SmallOk xs [] 4) (hpos : 0 < xs.length) (hne : xs.length = 1 → xs.getD 0 0 ≠ 1)
    (htab : Lib.TabBelow Tryd.prog w.heap.size w "internal/strconv.uint64pow10" .u64 Lib.pow10Tab) :
    Calls Tryd.prog 5 #[.slice A xs.length ca, .int .i64 n] w (Yes w) := by
  have mx : Mag xs := ⟨dx, hs.2.2.1.2⟩
  have ox : Ok xs := hs.2.2.1
  have hv := two_le_of mx hne hpos
  obtain ⟨b, hb⟩ := exists_bits (V32 xs)
  have hb1 := bits_large hb hv
  have hb2 : b ≤ 128 := bits_words mx hs.1 hb
  have hq := quot_small hb2 hb1
  have hv128 : V32 xs < 2 ^ 128 := by have := V32_lt mx hs.1; rw [pow_words] at this; exact this
  have hq2 : 131071 / (b - 1) ≤ 131071 := Nat.div_le_self _ _
  by_cases h60 : n ≤ 60
  · have hpow : ∀ W, Rd .u32 W A xs → Calls Tryd.prog 27 #[.slice A xs.length ca, .int .i64 n] W (OkP (fun zs => V32 zs = V32 xs ^ n ∧ Mag zs) W) := fun W hW => by
      rcases Nat.eq_zero_or_pos n with h0 | h0
      · subst h0
        exact (Pow_zero A ca xs W hW ox).mono fun e w' ⟨Z, zc, zs, h1, h2, h3, h4, h5⟩ => ⟨Z, zc, zs, h1, h2, h3, ⟨by rw [h4.1, Nat.pow_zero], h4.2⟩, h5⟩
      · exact (Pow_fit A ca n b xs W hW ox dx h0 hv hb (by omega)).mono fun e w' hf => hf.small fun zs hz => Nat.le_trans (pow_len_le (k := 240) hz.2 hz.1 hv128 (by omega) (by omega)) (by omega)
    by_cases h2 : 2 ≤ xs.length
    · exact powers_low2 A ca xs n w hx dx hs h2 h60 hv128 hpow htab
    · exact powers_low1 A ca xs n w hx dx hs (by show xs.length = 1; omega) (hne (by omega)) h60 hv128 hpow htab
  · by_cases hf : n < 131072
    · have hpow : ∀ W, Rd .u32 W A xs → Calls Tryd.prog 27 #[.slice A xs.length ca, .int .i64 n] W (SomeP W) := fun W hW => by
        rcases Nat.lt_or_ge (131071 / (b - 1)) n with h0 | h0
        · exact (Pow_lim A ca n b xs W hW ox dx hv hb h0).mono fun _ _ h => h.some
        · exact (Pow_fit A ca n b xs W hW ox dx (by omega) hv hb h0).mono fun _ _ h => h.some
      by_cases h2 : 2 ≤ xs.length
      · exact powers_mid2 A ca xs n w hx dx hs h2 (by omega) (by omega) hpow htab
      · exact powers_mid1 A ca xs n w hx dx hs (by show xs.length = 1; omega) (hne (by omega)) (by omega) (by omega) hpow htab
    · have hpow : ∀ W, Rd .u32 W A xs → Calls Tryd.prog 27 #[.slice A xs.length ca, .int .i64 n] W (ErrP 2 W) := fun W hW =>
        Pow_lim A ca n b xs W hW ox dx hv hb (by omega)
      by_cases h2 : 2 ≤ xs.length
      · exact powers_far2 A ca xs n w hx dx hs h2 (by omega) hpow htab
      · exact powers_far1 A ca xs n w hx dx hs (by show xs.length = 1; omega) (hne (by omega)) (by omega) hpow htab

theorem powers_row (A : Option Addr) (ca : Nat) (xs : List Nat) (n : Int) (_ : (Lit.int .i64 n).wf = true) (w : World) (hx : Rd .u32 w A xs) (dx : Dig 4294967296 xs)
    (htab : Lib.TabBelow Tryd.prog w.heap.size w "internal/strconv.uint64pow10" .u64 Lib.pow10Tab) :
    Calls Tryd.prog 5 #[.slice A xs.length ca, .int .i64 n] w (Yes w) := by
  by_cases hs : SmallOk xs [] 4
  · by_cases hn : n < 0
    · exact powers_neg A ca xs n w hx hs hn htab
    · obtain ⟨m, rfl⟩ := Int.eq_ofNat_of_zero_le (show 0 ≤ n by omega)
      rcases Nat.eq_zero_or_pos xs.length with h0 | h0
      · obtain rfl : xs = [] := List.eq_nil_of_length_eq_zero h0
        rcases Nat.eq_zero_or_pos m with hm | hm
        · subst hm; exact powers_z0 A ca w hx htab
        · exact powers_zn A ca m w hx (by omega) htab
      · by_cases h1 : xs.length = 1 ∧ xs.getD 0 0 = 1
        · obtain rfl : xs = [1] := by have := one_of_len h1.1; rw [h1.2] at this; exact this
          rcases Nat.eq_zero_or_pos m with hm | hm
          · subst hm; exact powers_o0 A ca w hx htab
          · exact powers_on A ca m w hx (by omega) htab
        · exact powers_big A ca xs m w hx dx hs h0 (fun h2 h3 => h1 ⟨h2, h3⟩) htab
  · exact powers_no A ca xs n w hx hs htab
end Go.Proofs.YtgfojfiopcooeaaDoor
