/- isochronelaw01.NatRing answers true for all slices. -/
import Derived.Test.YtgfojfiopcooeaaDoorAwake
import Derived.Test.YtgfojfiopcooeaaDoorRmul
namespace Go.Proofs.YtgfojfiopcooeaaDoor
open Go.RowKit V

theorem FitP.small {Q : List Nat → Prop} {w w' : World} {e : Ending} (h : FitP Q w e w') (hq : ∀ zs, Q zs → zs.length ≤ 4096) : OkP Q w e w' := by
  obtain ⟨A, c, zs, h1, h2, h3, h4, h5⟩ := h
  have := hq zs h4
  rcases h5 with h5 | h5
  · exact ⟨A, c, zs, h1, h2, h3, h4, h5.2⟩
  · omega
theorem V32_lt {xs : List Nat} (hx : Mag xs) {k : Nat} (h : xs.length ≤ k) : V32 xs < 4294967296 ^ k :=
  Nat.lt_of_lt_of_le (val_lt 4294967296 xs hx.1) (Nat.pow_le_pow_right (by omega) h)
theorem add_len {xs ys zs : List Nat} {k : Nat} (hx : Mag xs) (hy : Mag ys) (h1 : xs.length ≤ k) (h2 : ys.length ≤ k) (hz : Mag zs) (hv : V32 zs = V32 xs + V32 ys) : zs.length ≤ k + 1 := by
  refine len_of_lt (B := 4294967296) (by omega) hz.2 ?_
  show V32 zs < _
  have a := V32_lt hx h1
  have b := V32_lt hy h2
  rw [hv, Nat.pow_succ]
  omega
theorem mul_len {xs ys zs : List Nat} {k : Nat} (hx : Mag xs) (hy : Mag ys) (h1 : xs.length ≤ k) (h2 : ys.length ≤ k) (hz : Mag zs) (hv : V32 zs = V32 xs * V32 ys) : zs.length ≤ k + k := by
  refine len_of_lt (B := 4294967296) (by omega) hz.2 ?_
  show V32 zs < _
  rw [hv, Nat.pow_add]
  exact Nat.mul_lt_mul'' (V32_lt hx h1) (V32_lt hy h2)
theorem Mag.len_le2 {xs ys : List Nat} (hx : Mag xs) (hy : Mag ys) (h : V32 xs ≤ V32 ys) : xs.length ≤ ys.length := hy.len_le hx h

set_option maxRecDepth 100000 in
set_option maxHeartbeats 1600000 in
theorem ring_lt (A B : Option Addr) (ca cb : Nat) (xs ys : List Nat) (w : World) (hx : Rd .u32 w A xs) (hy : Rd .u32 w B ys) (dx : Dig 4294967296 xs) (dy : Dig 4294967296 ys) (hs : SmallOk xs ys 40) (hlt : V32 xs < V32 ys)
    (htab : Lib.TabBelow Tryd.prog w.heap.size w "internal/strconv.uint64pow10" .u64 Lib.pow10Tab) :
    Calls Tryd.prog 3 #[.slice A xs.length ca, .slice B ys.length cb] w (Yes w) := by
  have HT := Lib.hid htab
  clear htab
  have mx : Mag xs := ⟨dx, hs.2.2.1.2⟩
  have my : Mag ys := ⟨dy, hs.2.2.2.2⟩
  have h1 := hs.1
  have h2 := hs.2.1
  obtain ⟨c, HC, hc⟩ : ∃ c : Int, Hid (cmpOf (V32 xs) (V32 ys) = c) ∧ c < 0 := ⟨_, rfl, by rw [cmpOf_lt (by omega)]; omega⟩
  go_enter Tryd.func3, Tryd.ntmps3
  go_wp2_with fail
  refine (awake_yes w HT.out).mono ?_
  rintro e w1 ⟨rfl, hw1⟩
  have hx1 := hx.below hw1
  have hy1 := hy.below hw1
  go_wp2_with fail
  refine (small_yes A B ca cb 40 xs ys _ hx1 hy1 hs).mono ?_
  rintro e w1' ⟨rfl, rfl⟩
  go_wp2_with fail
  refine (of_any A ca xs _ hx1 (by omega) dx).mono ?_
  rintro e w2 ⟨X, xc, nx, rfl, hxc, hX2, hb2, hvx, hnx, hlx⟩
  have HVX := Lib.hid hvx
  clear hvx
  have hx2 := hx1.below hb2
  have hy2 := hy1.below hb2
  have hw2 := hw1.trans (hb2.mono hw1.size)
  clear hx1 hy1 hb2 hw1
  go_wp2_with fail
  refine (of_any B cb ys _ hy2 (by omega) dy).mono ?_
  rintro e w3 ⟨Y, yc, ny, rfl, hyc, hY3, hb3, hvy, hny, hly⟩
  have HVY := Lib.hid hvy
  clear hvy
  have hx3 := hx2.below hb3
  have hy3 := hy2.below hb3
  have hX3 := hX2.below hb3
  have hw3 := hw2.trans (hb3.mono hw2.size)
  clear hx2 hy2 hX2 hb3 hw2
  go_wp2_with fail
  refine (Cmp_ok A B ca cb xs ys _ hx3 hy3 mx my (by omega) (by omega)).mono ?_
  rintro e w4 ⟨he, n4, hwe⟩
  rw [HC.out] at he
  subst he
  have hb4 : Below w3.heap.size w3 w4 := by rw [hwe]; exact below_drew_ (Below.refl _ _) n4
  clear hwe
  have hx4 := hx3.below hb4
  have hy4 := hy3.below hb4
  have hX4 := hX3.below hb4
  have hY4 := hY3.below hb4
  have hw4 := hw3.trans (hb4.mono hw3.size)
  clear hx3 hy3 hX3 hY3 hb4 hw3
  go_wp2_with fail
  refine (Add_ok A B ca cb xs ys _ hx4 hy4 mx my (by omega) (by omega)).mono ?_
  intro e w5 hf
  obtain ⟨S, sc, ss, hS5, hsc, hb5, hqs, rfl⟩ := hf.small fun zs hz => Nat.le_trans (add_len mx my h1 h2 hz.2 hz.1) (by omega)
  have hls := add_len mx my h1 h2 hqs.2 hqs.1
  have HQS := Lib.hid hqs
  clear hf hqs
  have hx5 := hx4.below hb5
  have hy5 := hy4.below hb5
  have hX5 := hX4.below hb5
  have hY5 := hY4.below hb5
  have hw5 := hw4.trans (hb5.mono hw4.size)
  clear hx4 hy4 hX4 hY4 hb5 hw4
  go_wp2_with fail
  refine (Mul_ok A B ca cb xs ys _ hx5 hy5 mx my (by omega) (by omega)).mono ?_
  intro e w6 hf
  obtain ⟨P, pc, ps, hP6, hpc, hb6, hqp, rfl⟩ := hf.small fun zs hz => Nat.le_trans (mul_len mx my h1 h2 hz.2 hz.1) (by omega)
  have hlp := mul_len mx my h1 h2 hqp.2 hqp.1
  have HQP := Lib.hid hqp
  clear hf hqp
  have hx6 := hx5.below hb6
  have hy6 := hy5.below hb6
  have hX6 := hX5.below hb6
  have hY6 := hY5.below hb6
  have hS6 := hS5.below hb6
  have hw6 := hw5.trans (hb6.mono hw5.size)
  clear hx5 hy5 hX5 hY5 hS5 hb6 hw5
  go_wp2_with fail
  refine (Sub_lt A B ca cb xs ys _ hx6 hy6 mx my (by omega) (by omega) hlt).mono ?_
  rintro e w7 ⟨rfl, hb7⟩
  have hx7 := hx6.below hb7
  have hy7 := hy6.below hb7
  have hX7 := hX6.below hb7
  have hY7 := hY6.below hb7
  have hS7 := hS6.below hb7
  have hP7 := hP6.below hb7
  have hw7 := hw6.trans (hb7.mono hw6.size)
  clear hx6 hy6 hX6 hY6 hS6 hP6 hb7 hw6
  go_wp2_with fail
  refine (rcmp_any X Y xc yc nx ny _ hX7 hY7 (by omega) hnx hny).mono ?_
  rintro e w8 ⟨he, n8, hwe⟩
  rw [HVX.out, HVY.out, HC.out] at he
  subst he
  have hb8 : Below w7.heap.size w7 w8 := by rw [hwe]; exact below_drew_ (Below.refl _ _) n8
  clear hwe
  have hx8 := hx7.below hb8
  have hy8 := hy7.below hb8
  have hX8 := hX7.below hb8
  have hY8 := hY7.below hb8
  have hS8 := hS7.below hb8
  have hP8 := hP7.below hb8
  have hw8 := hw7.trans (hb8.mono hw7.size)
  clear hx7 hy7 hX7 hY7 hS7 hP7 hb8 hw7
  go_wp2_with fail
  refine (radd_any X Y xc yc nx ny _ hX8 hY8 (by omega) (by omega) hnx hny).mono ?_
  rintro e w9 ⟨Z, zc, nz, rfl, hzc, hZ9, hb9, hvz, hnz, hlz⟩
  have HVZ : Hid (V32 ss = VD nz) := by show _ = _; rw [HQS.out.1, hvz, HVX.out, HVY.out]
  clear hvz
  have hx9 := hx8.below hb9
  have hy9 := hy8.below hb9
  have hX9 := hX8.below hb9
  have hY9 := hY8.below hb9
  have hS9 := hS8.below hb9
  have hP9 := hP8.below hb9
  have hw9 := hw8.trans (hb9.mono hw8.size)
  clear hx8 hy8 hX8 hY8 hS8 hP8 hb9 hw8
  go_wp2_with fail
  refine (is_yes S Z sc zc ss nz _ hS9 hZ9 (by omega) (by omega) HQS.out.2 hnz HVZ.out).mono ?_
  rintro e w10 ⟨rfl, hb10⟩
  have hx10 := hx9.below hb10
  have hy10 := hy9.below hb10
  have hX10 := hX9.below hb10
  have hY10 := hY9.below hb10
  have hS10 := hS9.below hb10
  have hP10 := hP9.below hb10
  have hw10 := hw9.trans (hb10.mono hw9.size)
  clear hx9 hy9 hX9 hY9 hS9 hP9 hb10 hw9
  go_wp2_with fail
  refine (rmul_any X Y xc yc nx ny _ hX10 hY10 (by omega) hnx hny).mono ?_
  rintro e w11 ⟨U, uc, nu, rfl, huc, hU11, hb11, hvu, hnu, hlu⟩
  have HVU : Hid (V32 ps = VD nu) := by show _ = _; rw [HQP.out.1, hvu, HVX.out, HVY.out]
  clear hvu
  have hx11 := hx10.below hb11
  have hy11 := hy10.below hb11
  have hX11 := hX10.below hb11
  have hY11 := hY10.below hb11
  have hS11 := hS10.below hb11
  have hP11 := hP10.below hb11
  have hw11 := hw10.trans (hb11.mono hw10.size)
  clear hx10 hy10 hX10 hY10 hS10 hP10 hb11 hw10
  go_wp2_with fail
  refine (is_yes P U pc uc ps nu _ hP11 hU11 (by omega) (by omega) HQP.out.2 hnu HVU.out).mono ?_
  rintro e w12 ⟨rfl, hb12⟩
  have hx12 := hx11.below hb12
  have hy12 := hy11.below hb12
  have hX12 := hX11.below hb12
  have hY12 := hY11.below hb12
  have hS12 := hS11.below hb12
  have hP12 := hP11.below hb12
  have hw12 := hw11.trans (hb12.mono hw11.size)
  clear hx11 hy11 hX11 hY11 hS11 hP11 hb12 hw11
  go_wp2
  go_ret
  exact ⟨rfl, hw12⟩

set_option maxRecDepth 100000 in
set_option maxHeartbeats 1600000 in
theorem ring_ge (A B : Option Addr) (ca cb : Nat) (xs ys : List Nat) (w : World) (hx : Rd .u32 w A xs) (hy : Rd .u32 w B ys) (dx : Dig 4294967296 xs) (dy : Dig 4294967296 ys) (hs : SmallOk xs ys 40) (hge : V32 ys ≤ V32 xs)
    (htab : Lib.TabBelow Tryd.prog w.heap.size w "internal/strconv.uint64pow10" .u64 Lib.pow10Tab) :
    Calls Tryd.prog 3 #[.slice A xs.length ca, .slice B ys.length cb] w (Yes w) := by
  have HT := Lib.hid htab
  clear htab
  have mx : Mag xs := ⟨dx, hs.2.2.1.2⟩
  have my : Mag ys := ⟨dy, hs.2.2.2.2⟩
  have h1 := hs.1
  have h2 := hs.2.1
  obtain ⟨c, HC, hc⟩ : ∃ c : Int, Hid (cmpOf (V32 xs) (V32 ys) = c) ∧ 0 ≤ c := ⟨_, rfl, by unfold cmpOf; split <;> (try split) <;> omega⟩
  go_enter Tryd.func3, Tryd.ntmps3
  go_wp2_with fail
  refine (awake_yes w HT.out).mono ?_
  rintro e w1 ⟨rfl, hw1⟩
  have hx1 := hx.below hw1
  have hy1 := hy.below hw1
  go_wp2_with fail
  refine (small_yes A B ca cb 40 xs ys _ hx1 hy1 hs).mono ?_
  rintro e w1' ⟨rfl, rfl⟩
  go_wp2_with fail
  refine (of_any A ca xs _ hx1 (by omega) dx).mono ?_
  rintro e w2 ⟨X, xc, nx, rfl, hxc, hX2, hb2, hvx, hnx, hlx⟩
  have HVX := Lib.hid hvx
  clear hvx
  have hx2 := hx1.below hb2
  have hy2 := hy1.below hb2
  have hw2 := hw1.trans (hb2.mono hw1.size)
  clear hx1 hy1 hb2 hw1
  go_wp2_with fail
  refine (of_any B cb ys _ hy2 (by omega) dy).mono ?_
  rintro e w3 ⟨Y, yc, ny, rfl, hyc, hY3, hb3, hvy, hny, hly⟩
  have HVY := Lib.hid hvy
  clear hvy
  have hx3 := hx2.below hb3
  have hy3 := hy2.below hb3
  have hX3 := hX2.below hb3
  have hw3 := hw2.trans (hb3.mono hw2.size)
  clear hx2 hy2 hX2 hb3 hw2
  go_wp2_with fail
  refine (Cmp_ok A B ca cb xs ys _ hx3 hy3 mx my (by omega) (by omega)).mono ?_
  rintro e w4 ⟨he, n4, hwe⟩
  rw [HC.out] at he
  subst he
  have hb4 : Below w3.heap.size w3 w4 := by rw [hwe]; exact below_drew_ (Below.refl _ _) n4
  clear hwe
  have hx4 := hx3.below hb4
  have hy4 := hy3.below hb4
  have hX4 := hX3.below hb4
  have hY4 := hY3.below hb4
  have hw4 := hw3.trans (hb4.mono hw3.size)
  clear hx3 hy3 hX3 hY3 hb4 hw3
  go_wp2_with fail
  refine (Add_ok A B ca cb xs ys _ hx4 hy4 mx my (by omega) (by omega)).mono ?_
  intro e w5 hf
  obtain ⟨S, sc, ss, hS5, hsc, hb5, hqs, rfl⟩ := hf.small fun zs hz => Nat.le_trans (add_len mx my h1 h2 hz.2 hz.1) (by omega)
  have hls := add_len mx my h1 h2 hqs.2 hqs.1
  have HQS := Lib.hid hqs
  clear hf hqs
  have hx5 := hx4.below hb5
  have hy5 := hy4.below hb5
  have hX5 := hX4.below hb5
  have hY5 := hY4.below hb5
  have hw5 := hw4.trans (hb5.mono hw4.size)
  clear hx4 hy4 hX4 hY4 hb5 hw4
  go_wp2_with fail
  refine (Mul_ok A B ca cb xs ys _ hx5 hy5 mx my (by omega) (by omega)).mono ?_
  intro e w6 hf
  obtain ⟨P, pc, ps, hP6, hpc, hb6, hqp, rfl⟩ := hf.small fun zs hz => Nat.le_trans (mul_len mx my h1 h2 hz.2 hz.1) (by omega)
  have hlp := mul_len mx my h1 h2 hqp.2 hqp.1
  have HQP := Lib.hid hqp
  clear hf hqp
  have hx6 := hx5.below hb6
  have hy6 := hy5.below hb6
  have hX6 := hX5.below hb6
  have hY6 := hY5.below hb6
  have hS6 := hS5.below hb6
  have hw6 := hw5.trans (hb6.mono hw5.size)
  clear hx5 hy5 hX5 hY5 hS5 hb6 hw5
  go_wp2_with fail
  refine (Sub_ge A B ca cb xs ys _ hx6 hy6 mx my (by omega) (by omega) hge).mono ?_
  rintro e w7 ⟨D, dc, ds, hD7, hdc, hb7, hqd, rfl⟩
  have hld := hqd.2.len_le2 mx (by have := hqd.1; omega)
  have HQD := Lib.hid hqd
  clear hqd
  have hx7 := hx6.below hb7
  have hy7 := hy6.below hb7
  have hX7 := hX6.below hb7
  have hY7 := hY6.below hb7
  have hS7 := hS6.below hb7
  have hP7 := hP6.below hb7
  have hw7 := hw6.trans (hb7.mono hw6.size)
  clear hx6 hy6 hX6 hY6 hS6 hP6 hb7 hw6
  go_wp2_with fail
  refine (rcmp_any X Y xc yc nx ny _ hX7 hY7 (by omega) hnx hny).mono ?_
  rintro e w8 ⟨he, n8, hwe⟩
  rw [HVX.out, HVY.out, HC.out] at he
  subst he
  have hb8 : Below w7.heap.size w7 w8 := by rw [hwe]; exact below_drew_ (Below.refl _ _) n8
  clear hwe
  have hx8 := hx7.below hb8
  have hy8 := hy7.below hb8
  have hX8 := hX7.below hb8
  have hY8 := hY7.below hb8
  have hS8 := hS7.below hb8
  have hP8 := hP7.below hb8
  have hD8 := hD7.below hb8
  have hw8 := hw7.trans (hb8.mono hw7.size)
  clear hx7 hy7 hX7 hY7 hS7 hP7 hD7 hb8 hw7
  go_wp2_with fail
  refine (radd_any X Y xc yc nx ny _ hX8 hY8 (by omega) (by omega) hnx hny).mono ?_
  rintro e w9 ⟨Z, zc, nz, rfl, hzc, hZ9, hb9, hvz, hnz, hlz⟩
  have HVZ : Hid (V32 ss = VD nz) := by show _ = _; rw [HQS.out.1, hvz, HVX.out, HVY.out]
  clear hvz
  have hx9 := hx8.below hb9
  have hy9 := hy8.below hb9
  have hX9 := hX8.below hb9
  have hY9 := hY8.below hb9
  have hS9 := hS8.below hb9
  have hP9 := hP8.below hb9
  have hD9 := hD8.below hb9
  have hw9 := hw8.trans (hb9.mono hw8.size)
  clear hx8 hy8 hX8 hY8 hS8 hP8 hD8 hb9 hw8
  go_wp2_with fail
  refine (is_yes S Z sc zc ss nz _ hS9 hZ9 (by omega) (by omega) HQS.out.2 hnz HVZ.out).mono ?_
  rintro e w10 ⟨rfl, hb10⟩
  have hx10 := hx9.below hb10
  have hy10 := hy9.below hb10
  have hX10 := hX9.below hb10
  have hY10 := hY9.below hb10
  have hS10 := hS9.below hb10
  have hP10 := hP9.below hb10
  have hD10 := hD9.below hb10
  have hw10 := hw9.trans (hb10.mono hw9.size)
  clear hx9 hy9 hX9 hY9 hS9 hP9 hD9 hb10 hw9
  go_wp2_with fail
  refine (rmul_any X Y xc yc nx ny _ hX10 hY10 (by omega) hnx hny).mono ?_
  rintro e w11 ⟨U, uc, nu, rfl, huc, hU11, hb11, hvu, hnu, hlu⟩
  have HVU : Hid (V32 ps = VD nu) := by show _ = _; rw [HQP.out.1, hvu, HVX.out, HVY.out]
  clear hvu
  have hx11 := hx10.below hb11
  have hy11 := hy10.below hb11
  have hX11 := hX10.below hb11
  have hY11 := hY10.below hb11
  have hS11 := hS10.below hb11
  have hP11 := hP10.below hb11
  have hD11 := hD10.below hb11
  have hw11 := hw10.trans (hb11.mono hw10.size)
  clear hx10 hy10 hX10 hY10 hS10 hP10 hD10 hb11 hw10
  go_wp2_with fail
  refine (is_yes P U pc uc ps nu _ hP11 hU11 (by omega) (by omega) HQP.out.2 hnu HVU.out).mono ?_
  rintro e w12 ⟨rfl, hb12⟩
  have hx12 := hx11.below hb12
  have hy12 := hy11.below hb12
  have hX12 := hX11.below hb12
  have hY12 := hY11.below hb12
  have hS12 := hS11.below hb12
  have hP12 := hP11.below hb12
  have hD12 := hD11.below hb12
  have hw12 := hw11.trans (hb12.mono hw11.size)
  clear hx11 hy11 hX11 hY11 hS11 hP11 hD11 hb12 hw11
  go_wp2_with fail
  refine (rsub_any X Y xc yc nx ny _ hX12 hY12 (by omega) hnx hny (by rw [HVX.out, HVY.out]; exact hge)).mono ?_
  rintro e w13 ⟨T, tc, nt, rfl, htc, hT13, hb13, hvt, hnt, hlt⟩
  have HVT : Hid (V32 ds = VD nt) := by
    have q1 := HQD.out.1
    have q2 := HVX.out
    have q3 := HVY.out
    show V32 ds = VD nt
    omega
  clear hvt
  have hx13 := hx12.below hb13
  have hy13 := hy12.below hb13
  have hX13 := hX12.below hb13
  have hY13 := hY12.below hb13
  have hS13 := hS12.below hb13
  have hP13 := hP12.below hb13
  have hD13 := hD12.below hb13
  have hw13 := hw12.trans (hb13.mono hw12.size)
  clear hx12 hy12 hX12 hY12 hS12 hP12 hD12 hb13 hw12
  go_wp2_with fail
  refine (is_yes D T dc tc ds nt _ hD13 hT13 (by omega) (by omega) HQD.out.2 hnt HVT.out).mono ?_
  rintro e w14 ⟨rfl, hb14⟩
  have hx14 := hx13.below hb14
  have hy14 := hy13.below hb14
  have hX14 := hX13.below hb14
  have hY14 := hY13.below hb14
  have hS14 := hS13.below hb14
  have hP14 := hP13.below hb14
  have hD14 := hD13.below hb14
  have hw14 := hw13.trans (hb14.mono hw13.size)
  clear hx13 hy13 hX13 hY13 hS13 hP13 hD13 hb14 hw13
  go_wp2
  go_ret
  exact ⟨rfl, hw14⟩

set_option maxHeartbeats 400000 in
theorem ring_big (A B : Option Addr) (ca cb : Nat) (xs ys : List Nat) (w : World) (hx : Rd .u32 w A xs) (hy : Rd .u32 w B ys) (hs : ¬ SmallOk xs ys 40)
    (htab : Lib.TabBelow Tryd.prog w.heap.size w "internal/strconv.uint64pow10" .u64 Lib.pow10Tab) :
    Calls Tryd.prog 3 #[.slice A xs.length ca, .slice B ys.length cb] w (Yes w) := by
  have HT := Lib.hid htab
  clear htab
  go_enter Tryd.func3, Tryd.ntmps3
  go_wp2_with fail
  refine (awake_yes w HT.out).mono ?_
  rintro e w1 ⟨rfl, hw1⟩
  have hx1 := hx.below hw1
  have hy1 := hy.below hw1
  go_wp2_with fail
  refine (small_no A B ca cb 40 xs ys _ hx1 hy1 hs).mono ?_
  rintro e w1' ⟨rfl, rfl⟩
  go_wp2
  go_ret
  exact ⟨rfl, hw1⟩

theorem ring_yes (A B : Option Addr) (ca cb : Nat) (xs ys : List Nat) (w : World) (hx : Rd .u32 w A xs) (hy : Rd .u32 w B ys) (dx : Dig 4294967296 xs) (dy : Dig 4294967296 ys)
    (htab : Lib.TabBelow Tryd.prog w.heap.size w "internal/strconv.uint64pow10" .u64 Lib.pow10Tab) :
    Calls Tryd.prog 3 #[.slice A xs.length ca, .slice B ys.length cb] w (Yes w) := by
  by_cases hs : SmallOk xs ys 40
  · rcases Nat.lt_or_ge (V32 xs) (V32 ys) with h | h
    · exact ring_lt A B ca cb xs ys w hx hy dx dy hs h htab
    · exact ring_ge A B ca cb xs ys w hx hy dx dy hs h htab
  · exact ring_big A B ca cb xs ys w hx hy hs htab
theorem ring_row (A : Option Addr) (ca : Nat) (xs : List Nat) (B : Option Addr) (cb : Nat) (ys : List Nat) (w : World) (hx : Rd .u32 w A xs) (hy : Rd .u32 w B ys) (dx : Dig 4294967296 xs) (dy : Dig 4294967296 ys)
    (htab : Lib.TabBelow Tryd.prog w.heap.size w "internal/strconv.uint64pow10" .u64 Lib.pow10Tab) :
    Calls Tryd.prog 3 #[.slice A xs.length ca, .slice B ys.length cb] w (Yes w) := ring_yes A B ca cb xs ys w hx hy dx dy htab
end Go.Proofs.YtgfojfiopcooeaaDoor
