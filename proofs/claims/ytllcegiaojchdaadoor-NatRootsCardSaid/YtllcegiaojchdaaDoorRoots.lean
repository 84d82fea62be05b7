/- isochronelaw01.NatRoots answers true for all arguments. -/
import Derived.Test.YtllcegiaojchdaaDoorRmul
import Derived.Test.YtllcegiaojchdaaDoorRoot
namespace Go.Proofs.YtllcegiaojchdaaDoor
open Go.RowKit V

theorem root_short {rs xs : List Nat} (mr : Mag rs) (mx : Mag xs) (h : IsRoot (V32 rs) (V32 xs)) {k : Nat} (hl : xs.length ≤ k + k) : rs.length ≤ k := by
  refine len_of_lt (B := 4294967296) (by omega) mr.2 ?_
  show V32 rs < _
  rcases Nat.lt_or_ge (V32 rs) (4294967296 ^ k) with h1 | h1
  · exact h1
  · have h2 := sq_mono h1
    have h3 := V32_lt mx hl
    have h4 := h.1
    rw [← Nat.pow_add] at h2
    omega

set_option maxRecDepth 100000 in
set_option maxHeartbeats 1600000 in
theorem roots_yes (A : Option Addr) (ca : Nat) (xs : List Nat) (w : World) (hx : Rd .u32 w A xs) (dx : Dig 4294967296 xs) (hca : xs.length ≤ ca) (hs : SmallOk xs [] 30)
    (htab : Lib.TabBelow Tryd.prog w.heap.size w "internal/strconv.uint64pow10" .u64 Lib.pow10Tab) :
    Calls Tryd.prog 4 #[.slice A xs.length ca] w (Yes w) := by
  have HT := Lib.hid htab
  clear htab
  have mx : Mag xs := ⟨dx, hs.2.2.1.2⟩
  have ox : Ok xs := hs.2.2.1
  have h1 := hs.1
  go_enter Tryd.func4, Tryd.ntmps4
  go_wp2_with fail
  refine (awake_yes w HT.out).mono ?_
  rintro e w1 ⟨rfl, hb1⟩
  have hx1 := hx.below hb1
  have hw1 := hb1
  clear hx
  go_wp2_with fail
  refine (small_yes A none ca 0 30 xs [] _ hx1 Rd.nil_ hs).mono ?_
  rintro e w' ⟨rfl, rfl⟩
  go_wp2_with fail
  refine (Root_ok A ca xs _ hx1 hca ox dx).mono ?_
  rintro e w2 ⟨R, rc, rs, hR2, hrc, hb2, hqr, rfl⟩
  have hx2 := hx1.below hb2
  have hw2 := hw1.trans (hb2.mono hw1.size)
  clear hx1 hw1 hb2
  have hrl := root_short hqr.2 mx hqr.1 (k := 15) h1
  have orr : Ok rs := ⟨by omega, hqr.2.2⟩
  have HQR := Lib.hid hqr
  clear hqr
  go_wp2_with fail
  refine (rvalid_yes R rc rs _ hR2 orr).mono ?_
  rintro e w' ⟨rfl, rfl⟩
  go_wp2_with fail
  refine (of_any A ca xs _ hx2 (by omega) dx).mono ?_
  rintro e w3 ⟨X, xc, nx, rfl, hxc, hX3, hb3, hvx, hnx, hlx⟩
  have hx3 := hx2.below hb3
  have hR3 := hR2.below hb3
  have hw3 := hw2.trans (hb3.mono hw2.size)
  clear hx2 hR2 hw2 hb3
  have HVX := Lib.hid hvx
  clear hvx
  go_wp2_with fail
  refine (of_any R rc rs _ hR3 (by omega) HQR.out.2.1).mono ?_
  rintro e w4 ⟨Y, yc, ny, rfl, hyc, hY4, hb4, hvy, hny, hly⟩
  have hx4 := hx3.below hb4
  have hR4 := hR3.below hb4
  have hX4 := hX3.below hb4
  have hw4 := hw3.trans (hb4.mono hw3.size)
  clear hx3 hR3 hX3 hw3 hb4
  have HVY := Lib.hid hvy
  clear hvy
  go_wp2_with fail
  refine (int_any 1 _ (by omega)).mono ?_
  rintro e w5 ⟨I, ic, ni, rfl, hic, hI5, hb5, hvi, hni, hli⟩
  have hx5 := hx4.below hb5
  have hR5 := hR4.below hb5
  have hX5 := hX4.below hb5
  have hY5 := hY4.below hb5
  have hw5 := hw4.trans (hb5.mono hw4.size)
  clear hx4 hR4 hX4 hY4 hw4 hb5
  have HVI := Lib.hid hvi
  clear hvi
  go_wp2_with fail
  refine (radd_any Y I yc ic ny ni _ hY5 hI5 (by omega) (by omega) hny hni).mono ?_
  rintro e w6 ⟨Z, zc, nz, rfl, hzc, hZ6, hb6, hvz, hnz, hlz⟩
  have hx6 := hx5.below hb6
  have hR6 := hR5.below hb6
  have hX6 := hX5.below hb6
  have hY6 := hY5.below hb6
  have hI6 := hI5.below hb6
  have hw6 := hw5.trans (hb6.mono hw5.size)
  clear hx5 hR5 hX5 hY5 hI5 hw5 hb6
  have HVZ : Hid (VD nz = V32 rs + 1) := by show _ = _; rw [hvz, HVY.out, HVI.out]
  clear hvz
  go_wp2_with fail
  refine (rmul_any Y Y yc yc ny ny _ hY6 hY6 (by omega) hny hny).mono ?_
  rintro e w7 ⟨P, pc, np, rfl, hpc, hP7, hb7, hvp, hnp, hlp⟩
  have hx7 := hx6.below hb7
  have hR7 := hR6.below hb7
  have hX7 := hX6.below hb7
  have hY7 := hY6.below hb7
  have hI7 := hI6.below hb7
  have hZ7 := hZ6.below hb7
  have hw7 := hw6.trans (hb7.mono hw6.size)
  clear hx6 hR6 hX6 hY6 hI6 hZ6 hw6 hb7
  have HVP : Hid (VD np = V32 rs * V32 rs) := by show _ = _; rw [hvp, HVY.out]
  clear hvp
  obtain ⟨c1, hc1, hc1p⟩ : ∃ c : Int, Hid (cmpOf (VD np) (VD nx) = c) ∧ c ≤ 0 := ⟨_, Lib.hid rfl, by have := HQR.out.1.1; rw [HVP.out, HVX.out]; unfold cmpOf; split <;> (try split) <;> omega⟩
  go_wp2_with fail
  refine (rcmp_any P X pc xc np nx _ hP7 hX7 (by omega) hnp hnx).mono ?_
  rintro e w8 ⟨he, n8, hwe⟩
  have hb8 : Below w7.heap.size w7 w8 := by rw [hwe]; exact below_drew_ (Below.refl _ _) n8
  clear hwe
  have hx8 := hx7.below hb8
  have hR8 := hR7.below hb8
  have hX8 := hX7.below hb8
  have hY8 := hY7.below hb8
  have hI8 := hI7.below hb8
  have hZ8 := hZ7.below hb8
  have hP8 := hP7.below hb8
  have hw8 := hw7.trans (hb8.mono hw7.size)
  clear hx7 hR7 hX7 hY7 hI7 hZ7 hP7 hw7 hb8
  have he2 : e = .returned (.int .i64 c1) := by rw [he, ← hc1.out]
  subst he2
  clear he
  go_wp2_with fail
  refine (rmul_any Z Z zc zc nz nz _ hZ8 hZ8 (by omega) hnz hnz).mono ?_
  rintro e w9 ⟨Q, qc, nq, rfl, hqc, hQ9, hb9, hvq, hnq, hlq⟩
  have hx9 := hx8.below hb9
  have hR9 := hR8.below hb9
  have hX9 := hX8.below hb9
  have hY9 := hY8.below hb9
  have hI9 := hI8.below hb9
  have hZ9 := hZ8.below hb9
  have hP9 := hP8.below hb9
  have hw9 := hw8.trans (hb9.mono hw8.size)
  clear hx8 hR8 hX8 hY8 hI8 hZ8 hP8 hw8 hb9
  have HVQ : Hid (VD nq = (V32 rs + 1) * (V32 rs + 1)) := by show _ = _; rw [hvq, HVZ.out]
  clear hvq
  obtain ⟨c2, hc2, hc2p⟩ : ∃ c : Int, Hid (cmpOf (VD nq) (VD nx) = c) ∧ 0 < c := ⟨_, Lib.hid rfl, by have := HQR.out.1.2; rw [HVQ.out, HVX.out, cmpOf_gt (by omega)]; omega⟩
  go_wp2_with fail
  refine (rcmp_any Q X qc xc nq nx _ hQ9 hX9 (by omega) hnq hnx).mono ?_
  rintro e w10 ⟨he, n10, hwe⟩
  have hb10 : Below w9.heap.size w9 w10 := by rw [hwe]; exact below_drew_ (Below.refl _ _) n10
  clear hwe
  have hx10 := hx9.below hb10
  have hR10 := hR9.below hb10
  have hX10 := hX9.below hb10
  have hY10 := hY9.below hb10
  have hI10 := hI9.below hb10
  have hZ10 := hZ9.below hb10
  have hP10 := hP9.below hb10
  have hQ10 := hQ9.below hb10
  have hw10 := hw9.trans (hb10.mono hw9.size)
  clear hx9 hR9 hX9 hY9 hI9 hZ9 hP9 hQ9 hw9 hb10
  have he2 : e = .returned (.int .i64 c2) := by rw [he, ← hc2.out]
  subst he2
  clear he
  go_wp2
  all_goals go_ret
  all_goals exact ⟨rfl, hw10⟩

set_option maxHeartbeats 400000 in
theorem roots_no (A : Option Addr) (ca : Nat) (xs : List Nat) (w : World) (hx : Rd .u32 w A xs) (hs : ¬ SmallOk xs [] 30)
    (htab : Lib.TabBelow Tryd.prog w.heap.size w "internal/strconv.uint64pow10" .u64 Lib.pow10Tab) :
    Calls Tryd.prog 4 #[.slice A xs.length ca] w (Yes w) := by
  have HT := Lib.hid htab
  clear htab
  go_enter Tryd.func4, Tryd.ntmps4
  go_wp2_with fail
  refine (awake_yes w HT.out).mono ?_
  rintro e w1 ⟨rfl, hw1⟩
  have hx1 := hx.below hw1
  go_wp2_with fail
  refine (small_no A none ca 0 30 xs [] _ hx1 Rd.nil_ hs).mono ?_
  rintro e w1' ⟨rfl, rfl⟩
  go_wp2
  go_ret
  exact ⟨rfl, hw1⟩

theorem roots_row (A : Option Addr) (ca : Nat) (xs : List Nat) (w : World) (hx : Rd .u32 w A xs) (dx : Dig 4294967296 xs) (hca : xs.length ≤ ca)
    (htab : Lib.TabBelow Tryd.prog w.heap.size w "internal/strconv.uint64pow10" .u64 Lib.pow10Tab) :
    Calls Tryd.prog 4 #[.slice A xs.length ca] w (Yes w) := by
  by_cases hs : SmallOk xs [] 30
  · exact roots_yes A ca xs w hx dx hca hs htab
  · exact roots_no A ca xs w hx hs htab
end Go.Proofs.YtllcegiaojchdaaDoor

