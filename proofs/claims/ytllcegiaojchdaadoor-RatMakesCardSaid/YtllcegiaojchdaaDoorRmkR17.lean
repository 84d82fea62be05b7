/- isochronelaw02.RatMakes answers true for all arguments. -/
import Derived.Test.YtllcegiaojchdaaDoorRmkR16
namespace Go.Proofs.YtllcegiaojchdaaDoor
open Go.RowKit V

theorem u64_parts (u : Nat) (hu : u < 18446744073709551616) : ∃ hi lo : Nat, hi ≤ 4294967295 ∧ lo ≤ 4294967295 ∧ Hid ((u : Int) / 4294967296 = hi) ∧ Hid (bits BinOp.and IntKind.u64 (u : Int) 4294967295 = lo) ∧ Hid (u = hi * 2 ^ 32 + lo) := by
  refine ⟨u / 4294967296, u % 4294967296, by omega, by omega, ?_, ?_, ?_⟩
  · show _ = _; omega
  · show _ = _
    have key : bits BinOp.and IntKind.u64 (u : Int) 4294967295 = (u % 4294967296 : Nat) := by
      have h := u64_and_nat u 4294967295 hu (by omega)
      have h2 : u &&& 4294967295 = u % 4294967296 := by
        have := Nat.and_two_pow_sub_one_eq_mod u 32
        simpa using this
      rw [h2] at h
      exact h
    exact key
  · show _ = _; omega
theorem u64_neg {n : Int} {u : Nat} (h : IntKind.u64.wrap n = u) (hn : -9223372036854775808 ≤ n ∧ n ≤ 9223372036854775807) (h0 : n < 0) : (u : Int) = n + 18446744073709551616 := by
  have e : IntKind.u64.wrap n = n % 18446744073709551616 := by simp [IntKind.wrap, IntKind.signed, IntKind.bits]
  omega
theorem sgn_abs (n : Int) : sgn (decide (n < 0)) n.natAbs = n := by
  unfold sgn
  by_cases h0 : n < 0
  · simp [h0]; omega
  · simp [h0]; omega

set_option maxRecDepth 100000 in
set_option maxHeartbeats 3200000 in
theorem makes_form_n (s : Bool) (N D : Option Addr) (nc dc : Nat) (ns ds : List Nat) (n : Int) (w : World) (hx : Rd .u32 w N ns) (hy : Rd .u32 w D ds) (_dx : Dig 4294967296 ns) (_dy : Dig 4294967296 ds) (_hcd : (ds : List Nat).length ≤ dc) (_hl1 : ns.length ≤ 12) (_hl2 : (ds : List Nat).length ≤ 12) (hbad : ¬ (Ok ns ∧ Ok ds)) (h0 : n < 0) (hn : -9223372036854775808 ≤ n ∧ n ≤ 9223372036854775807)
    (htab : Lib.TabBelow Tryd.prog w.heap.size w "internal/strconv.uint64pow10" .u64 Lib.pow10Tab) :
    Calls Tryd.prog 5 #[.bool s, .slice N ns.length nc, .slice D (ds : List Nat).length dc, .int .i64 n] w (Yes w) := by
  have HT := Lib.hid htab
  have HN := Lib.hid hn
  clear htab hn
  obtain ⟨u, m, hu, hm, hmn, hum, hml, hul⟩ := u64_wrap n HN.out
  obtain ⟨hi, lo, hhi, hlo, hsh, hand, hpar⟩ := u64_parts u hul.out
  have e1 := hu.out
  have e2 := hsh.out
  have e3 := hand.out
  have hd : Hid (decide (n < 0) = true) := decide_eq_true h0
  have hd1 := hd.out
  have hneg : Hid (∀ x, x + u = 2 ^ 64 → x = n.natAbs) := by
    intro x hx
    have h1 := u64_neg hu.out HN.out h0
    omega
  go_enter Tryd.func5, Tryd.ntmps5
  go_wp2_with fail
  refine (qawake_yes w HT.out).mono ?_
  rintro e w1 ⟨rfl, hb1⟩
  have hx1 := hx.below hb1
  have hy1 := hy.below hb1
  have hw1 := hb1
  clear hx hy hb1
  go_wp2_with fail
  refine (make_form s N D nc dc ns ds _ hx1 hy1 hbad).mono ?_
  rintro e w2 ⟨rfl, hb2⟩
  have hx2 := hx1.below hb2
  have hy2 := hy1.below hb2
  have hw2 := hw1.trans (hb2.mono hw1.size)
  clear hx1 hy1 hw1 hb2
  go_wp2_with fail
  have kr3 := Blk3.new w2 (.bool false) (.slice none 0 0) (.slice none 0 0)
  have hb3 : Below w2.heap.size w2 (w2.alloc (.cells #[.bool false, .slice none 0 0, .slice none 0 0] 43)) := (Below.refl _ _).alloc (Nat.le_refl _) _
  obtain ⟨w3, hwe⟩ : ∃ x, w2.alloc (.cells #[.bool false, .slice none 0 0, .slice none 0 0] 43) = x := ⟨_, rfl⟩
  rw [hwe] at kr3 hb3 ⊢
  clear hwe
  have hx3 := hx2.below hb3
  have hy3 := hy2.below hb3
  have hw3 := hw2.trans (hb3.mono hw2.size)
  clear hx2 hy2 hw2 hb3
  refine (qfrom n _ HN.out).mono ?_
  rintro e w4 ⟨f, rfl, hf4, hfl1, hfl2, hb4⟩
  have hx4 := hx3.below hb4
  have hy4 := hy3.below hb4
  have kr4 := kr3.below hb4
  have hw4 := hw3.trans (hb4.mono hw3.size)
  clear hx3 hy3 kr3 hw3 hb4
  go_wp2_with fail
  have kf5 := Blk3.new w4 (.bool f.s) (.slice f.N f.ns.length f.nc) (.slice f.D f.ds.length f.dc)
  have hb5 : Below w4.heap.size w4 (w4.alloc (.cells #[.bool f.s, .slice f.N f.ns.length f.nc, .slice f.D f.ds.length f.dc] 43)) := (Below.refl _ _).alloc (Nat.le_refl _) _
  obtain ⟨w5, hwe⟩ : ∃ x, w4.alloc (.cells #[.bool f.s, .slice f.N f.ns.length f.nc, .slice f.D f.ds.length f.dc] 43) = x := ⟨_, rfl⟩
  rw [hwe] at kf5 hb5 ⊢
  clear hwe
  have hx5 := hx4.below hb5
  have hy5 := hy4.below hb5
  have kr5 := kr4.below hb5
  have hf5 := hf4.below hb5
  have hw5 := hw4.trans (hb5.mono hw4.size)
  clear hx4 hy4 kr4 hf4 hw4 hb5
  refine (int_any hi _ (by omega)).mono ?_
  rintro e w6 ⟨H, hc, hl, rfl, hhc, hH6, hb6, hvh, hnh, hlh⟩
  have hx6 := hx5.below hb6
  have hy6 := hy5.below hb6
  have kr6 := kr5.below hb6
  have hf6 := hf5.below hb6
  have kf6 := kf5.below hb6
  have hw6 := hw5.trans (hb6.mono hw5.size)
  clear hx5 hy5 kr5 hf5 kf5 hw5 hb6
  have HVH := Lib.hid hvh
  clear hvh
  go_wp2_with fail
  refine (int_any lo _ (by omega)).mono ?_
  rintro e w7 ⟨L, lc, ll, rfl, hlc, hL7, hb7, hvl, hnl, hll⟩
  have hx7 := hx6.below hb7
  have hy7 := hy6.below hb7
  have kr7 := kr6.below hb7
  have hf7 := hf6.below hb7
  have kf7 := kf6.below hb7
  have hH7 := hH6.below hb7
  have hw7 := hw6.trans (hb7.mono hw6.size)
  clear hx6 hy6 kr6 hf6 kf6 hH6 hw6 hb7
  have HVL := Lib.hid hvl
  clear hvl
  go_wp2_with fail
  refine (two_any 32 _ (by omega)).mono ?_
  rintro e w8 ⟨T, tc, tl, rfl, htc, hT8, hb8, hvt, hnt, hlt⟩
  have hx8 := hx7.below hb8
  have hy8 := hy7.below hb8
  have kr8 := kr7.below hb8
  have hf8 := hf7.below hb8
  have kf8 := kf7.below hb8
  have hH8 := hH7.below hb8
  have hL8 := hL7.below hb8
  have hw8 := hw7.trans (hb8.mono hw7.size)
  clear hx7 hy7 kr7 hf7 kf7 hH7 hL7 hw7 hb8
  have HVT := Lib.hid hvt
  clear hvt
  go_wp2_with fail
  refine (rmul_any H T hc tc hl tl _ hH8 hT8 (by omega) hnh hnt).mono ?_
  rintro e w9 ⟨M, mc, ml, rfl, hmc, hM9, hb9, hvm, hnm, hlm⟩
  have hx9 := hx8.below hb9
  have hy9 := hy8.below hb9
  have kr9 := kr8.below hb9
  have hf9 := hf8.below hb9
  have kf9 := kf8.below hb9
  have hH9 := hH8.below hb9
  have hL9 := hL8.below hb9
  have hT9 := hT8.below hb9
  have hw9 := hw8.trans (hb9.mono hw8.size)
  clear hx8 hy8 kr8 hf8 kf8 hH8 hL8 hT8 hw8 hb9
  have HVM := Lib.hid hvm
  clear hvm
  go_wp2_with fail
  refine (radd_any M L mc lc ml ll _ hM9 hL9 (by omega) (by omega) hnm hnl).mono ?_
  rintro e w10 ⟨Z, zc, zl, rfl, hzc, hZ10, hb10, hvz, hnz, hlz⟩
  have hx10 := hx9.below hb10
  have hy10 := hy9.below hb10
  have kr10 := kr9.below hb10
  have hf10 := hf9.below hb10
  have kf10 := kf9.below hb10
  have hH10 := hH9.below hb10
  have hL10 := hL9.below hb10
  have hT10 := hT9.below hb10
  have hM10 := hM9.below hb10
  have hw10 := hw9.trans (hb10.mono hw9.size)
  clear hx9 hy9 kr9 hf9 kf9 hH9 hL9 hT9 hM9 hw9 hb10
  have HVZ : Hid (VD zl = u) := by show _ = _; rw [hvz, HVM.out, HVL.out, HVH.out, HVT.out]; exact hpar.out.symm
  clear hvz
  go_wp2_with fail
  refine (two_any 64 _ (by omega)).mono ?_
  rintro e w11 ⟨S, sc, sl, rfl, hsc, hS11, hb11, hvs, hns, hls⟩
  have hx11 := hx10.below hb11
  have hy11 := hy10.below hb11
  have kr11 := kr10.below hb11
  have hf11 := hf10.below hb11
  have kf11 := kf10.below hb11
  have hH11 := hH10.below hb11
  have hL11 := hL10.below hb11
  have hT11 := hT10.below hb11
  have hM11 := hM10.below hb11
  have hZ11 := hZ10.below hb11
  have hw11 := hw10.trans (hb11.mono hw10.size)
  clear hx10 hy10 kr10 hf10 kf10 hH10 hL10 hT10 hM10 hZ10 hw10 hb11
  have HVS := Lib.hid hvs
  clear hvs
  go_wp2_with fail
  refine (rsub_any S Z sc zc sl zl _ hS11 hZ11 (by omega) hns hnz (by rw [HVS.out, HVZ.out]; have := hul.out; omega)).mono ?_
  rintro e w12 ⟨Y, yc, yl, rfl, hyc, hY12, hb12, hvy, hny, hly⟩
  have hx12 := hx11.below hb12
  have hy12 := hy11.below hb12
  have kr12 := kr11.below hb12
  have hf12 := hf11.below hb12
  have kf12 := kf11.below hb12
  have hH12 := hH11.below hb12
  have hL12 := hL11.below hb12
  have hT12 := hT11.below hb12
  have hM12 := hM11.below hb12
  have hZ12 := hZ11.below hb12
  have hS12 := hS11.below hb12
  have hw12 := hw11.trans (hb12.mono hw11.size)
  clear hx11 hy11 kr11 hf11 kf11 hH11 hL11 hT11 hM11 hZ11 hS11 hw11 hb12
  have HVY : Hid (VD yl = n.natAbs) := by show _ = _; rw [HVZ.out, HVS.out] at hvy; exact hneg.out _ hvy
  clear hvy
  have HQE : Hid (mkRat (sgn true (VD yl)) (VD [1]) = mkRat n 1) := by
    show _ = _
    rw [HVY.out]
    have h := sgn_abs n
    rw [hd.out] at h
    rw [h]; simp [VD, val]
  obtain ⟨f0, f1, f2, f3, f4, f5, f6⟩ := kf12.facts
  go_upto_region 11 with fail
  go_region_held3 (fun w' => w'.cell? ⟨w4.heap.size, 0, none⟩ = some (.bool f.s) ∧ w'.cell? ⟨w4.heap.size, 1, none⟩ = some (.slice f.N f.ns.length f.nc) ∧ w'.cell? ⟨w4.heap.size, 2, none⟩ = some (.slice f.D f.ds.length f.dc)) (first | exact ⟨‹_›, ‹_›, ‹_›⟩ | go_keep)
    (first
    | (go_at_call 26
       refine (rmake true Y (some ⟨w12.heap.size, 0, none⟩) yc 1 yl [1] _ (by first | exact hY12.alloc _ | exact (hY12.alloc _).drew | exact hY12.drew.alloc _) (by first | exact rd_nat1 _ 1 | exact (rd_nat1 _ 1).drew) hny nm_one (by omega) (by simp) (by simp)).mono ?_
       rintro e wm_ ⟨g, rfl, hg, hg1, hg2, hbm⟩
       rw [HQE.out] at hg
       have hbmq : Below w12.heap.size w12 wm_ := ((Below.refl _ _).alloc (Nat.le_refl _) (.cells #[.int .i64 1] 3)).trans (by first | exact hbm.mono (by simp) | exact (below_of_drew hbm (Nat.le_refl _)).mono (by simp) | exact below_of_drew hbm (by simp))
       obtain ⟨c0, c1, c2, c3, c4, c5, c6⟩ := (kf12.below hbmq).facts)
    | (go_at_call 25
       refine (qis_yes f g (mkRat n 1) _ (hf12.below hbmq) hg (by omega) (by simp at hg2; omega)).mono ?_
       rintro e wi_ ⟨rfl, hbi⟩
       have hbiq : Below w12.heap.size w12 wi_ := hbmq.trans (hbi.mono hbmq.size)
       obtain ⟨d0, d1, d2, d3, d4, d5, d6⟩ := (kf12.below hbiq).facts))
  go_wp2_with fail
  clear f0 f1 f2 f3 f4 f5 f6 c0 c1 c2 c3 c4 c5 c6 d0 d1 d2 d3 d4 d5 d6 hbi hbm hg hbmq e1 e2 e3
  obtain ⟨w13, rfl⟩ : ∃ x, x = wi_ := ⟨_, rfl⟩
  have hx13 := hx12.below hbiq
  have hy13 := hy12.below hbiq
  have kr13 := kr12.below hbiq
  have hf13 := hf12.below hbiq
  have kf13 := kf12.below hbiq
  have hH13 := hH12.below hbiq
  have hL13 := hL12.below hbiq
  have hT13 := hT12.below hbiq
  have hM13 := hM12.below hbiq
  have hZ13 := hZ12.below hbiq
  have hS13 := hS12.below hbiq
  have hY13 := hY12.below hbiq
  have hw13 := hw12.trans (hbiq.mono hw12.size)
  clear hx12 hy12 kr12 hf12 kf12 hH12 hL12 hT12 hM12 hZ12 hS12 hY12 hw12 hbiq
  obtain ⟨f0, f1, f2, f3, f4, f5, f6⟩ := kr13.facts
  by_cases h1 : Ok ns
  · refine (rvalid_yes N nc ns _ hx13 h1).mono ?_
    rintro e w' ⟨rfl, rfl⟩
    go_wp2_with fail
    refine (rvalid_no D dc ds _ hy13 (fun h2 => hbad ⟨h1, h2⟩)).mono ?_
    rintro e w' ⟨rfl, rfl⟩
    go_wp2_with fail
    refine (qnone_yes _).mono ?_
    rintro e wn ⟨rfl, hbn⟩
    go_wp2_with fail
    go_ret
    exact ⟨rfl, hw13.trans (hbn.mono hw13.size)⟩
  · refine (rvalid_no N nc ns _ hx13 h1).mono ?_
    rintro e w' ⟨rfl, rfl⟩
    go_wp2_with fail
    refine (qnone_yes _).mono ?_
    rintro e wn ⟨rfl, hbn⟩
    go_wp2_with fail
    go_ret
    exact ⟨rfl, hw13.trans (hbn.mono hw13.size)⟩

set_option maxRecDepth 100000 in
set_option maxHeartbeats 3200000 in
theorem makes_zero_n (s : Bool) (N D : Option Addr) (nc dc : Nat) (ns : List Nat) (n : Int) (w : World) (hx : Rd .u32 w N ns) (hy : Rd .u32 w D []) (_dx : Dig 4294967296 ns) (_dy : Dig 4294967296 []) (_hcd : ([] : List Nat).length ≤ dc) (_hl1 : ns.length ≤ 12) (_hl2 : ([] : List Nat).length ≤ 12) (ox : Ok ns) (h0 : n < 0) (hn : -9223372036854775808 ≤ n ∧ n ≤ 9223372036854775807)
    (htab : Lib.TabBelow Tryd.prog w.heap.size w "internal/strconv.uint64pow10" .u64 Lib.pow10Tab) :
    Calls Tryd.prog 5 #[.bool s, .slice N ns.length nc, .slice D ([] : List Nat).length dc, .int .i64 n] w (Yes w) := by
  have HT := Lib.hid htab
  have HN := Lib.hid hn
  clear htab hn
  obtain ⟨u, m, hu, hm, hmn, hum, hml, hul⟩ := u64_wrap n HN.out
  obtain ⟨hi, lo, hhi, hlo, hsh, hand, hpar⟩ := u64_parts u hul.out
  have e1 := hu.out
  have e2 := hsh.out
  have e3 := hand.out
  have hd : Hid (decide (n < 0) = true) := decide_eq_true h0
  have hd1 := hd.out
  have hneg : Hid (∀ x, x + u = 2 ^ 64 → x = n.natAbs) := by
    intro x hx
    have h1 := u64_neg hu.out HN.out h0
    omega
  go_enter Tryd.func5, Tryd.ntmps5
  go_wp2_with fail
  refine (qawake_yes w HT.out).mono ?_
  rintro e w1 ⟨rfl, hb1⟩
  have hx1 := hx.below hb1
  have hy1 := hy.below hb1
  have hw1 := hb1
  clear hx hy hb1
  go_wp2_with fail
  refine (make_zero s N D nc dc ns _ hx1 ox).mono ?_
  rintro e w2 ⟨rfl, hb2⟩
  have hx2 := hx1.below hb2
  have hy2 := hy1.below hb2
  have hw2 := hw1.trans (hb2.mono hw1.size)
  clear hx1 hy1 hw1 hb2
  go_wp2_with fail
  have kr3 := Blk3.new w2 (.bool false) (.slice none 0 0) (.slice none 0 0)
  have hb3 : Below w2.heap.size w2 (w2.alloc (.cells #[.bool false, .slice none 0 0, .slice none 0 0] 43)) := (Below.refl _ _).alloc (Nat.le_refl _) _
  obtain ⟨w3, hwe⟩ : ∃ x, w2.alloc (.cells #[.bool false, .slice none 0 0, .slice none 0 0] 43) = x := ⟨_, rfl⟩
  rw [hwe] at kr3 hb3 ⊢
  clear hwe
  have hx3 := hx2.below hb3
  have hy3 := hy2.below hb3
  have hw3 := hw2.trans (hb3.mono hw2.size)
  clear hx2 hy2 hw2 hb3
  refine (qfrom n _ HN.out).mono ?_
  rintro e w4 ⟨f, rfl, hf4, hfl1, hfl2, hb4⟩
  have hx4 := hx3.below hb4
  have hy4 := hy3.below hb4
  have kr4 := kr3.below hb4
  have hw4 := hw3.trans (hb4.mono hw3.size)
  clear hx3 hy3 kr3 hw3 hb4
  go_wp2_with fail
  have kf5 := Blk3.new w4 (.bool f.s) (.slice f.N f.ns.length f.nc) (.slice f.D f.ds.length f.dc)
  have hb5 : Below w4.heap.size w4 (w4.alloc (.cells #[.bool f.s, .slice f.N f.ns.length f.nc, .slice f.D f.ds.length f.dc] 43)) := (Below.refl _ _).alloc (Nat.le_refl _) _
  obtain ⟨w5, hwe⟩ : ∃ x, w4.alloc (.cells #[.bool f.s, .slice f.N f.ns.length f.nc, .slice f.D f.ds.length f.dc] 43) = x := ⟨_, rfl⟩
  rw [hwe] at kf5 hb5 ⊢
  clear hwe
  have hx5 := hx4.below hb5
  have hy5 := hy4.below hb5
  have kr5 := kr4.below hb5
  have hf5 := hf4.below hb5
  have hw5 := hw4.trans (hb5.mono hw4.size)
  clear hx4 hy4 kr4 hf4 hw4 hb5
  refine (int_any hi _ (by omega)).mono ?_
  rintro e w6 ⟨H, hc, hl, rfl, hhc, hH6, hb6, hvh, hnh, hlh⟩
  have hx6 := hx5.below hb6
  have hy6 := hy5.below hb6
  have kr6 := kr5.below hb6
  have hf6 := hf5.below hb6
  have kf6 := kf5.below hb6
  have hw6 := hw5.trans (hb6.mono hw5.size)
  clear hx5 hy5 kr5 hf5 kf5 hw5 hb6
  have HVH := Lib.hid hvh
  clear hvh
  go_wp2_with fail
  refine (int_any lo _ (by omega)).mono ?_
  rintro e w7 ⟨L, lc, ll, rfl, hlc, hL7, hb7, hvl, hnl, hll⟩
  have hx7 := hx6.below hb7
  have hy7 := hy6.below hb7
  have kr7 := kr6.below hb7
  have hf7 := hf6.below hb7
  have kf7 := kf6.below hb7
  have hH7 := hH6.below hb7
  have hw7 := hw6.trans (hb7.mono hw6.size)
  clear hx6 hy6 kr6 hf6 kf6 hH6 hw6 hb7
  have HVL := Lib.hid hvl
  clear hvl
  go_wp2_with fail
  refine (two_any 32 _ (by omega)).mono ?_
  rintro e w8 ⟨T, tc, tl, rfl, htc, hT8, hb8, hvt, hnt, hlt⟩
  have hx8 := hx7.below hb8
  have hy8 := hy7.below hb8
  have kr8 := kr7.below hb8
  have hf8 := hf7.below hb8
  have kf8 := kf7.below hb8
  have hH8 := hH7.below hb8
  have hL8 := hL7.below hb8
  have hw8 := hw7.trans (hb8.mono hw7.size)
  clear hx7 hy7 kr7 hf7 kf7 hH7 hL7 hw7 hb8
  have HVT := Lib.hid hvt
  clear hvt
  go_wp2_with fail
  refine (rmul_any H T hc tc hl tl _ hH8 hT8 (by omega) hnh hnt).mono ?_
  rintro e w9 ⟨M, mc, ml, rfl, hmc, hM9, hb9, hvm, hnm, hlm⟩
  have hx9 := hx8.below hb9
  have hy9 := hy8.below hb9
  have kr9 := kr8.below hb9
  have hf9 := hf8.below hb9
  have kf9 := kf8.below hb9
  have hH9 := hH8.below hb9
  have hL9 := hL8.below hb9
  have hT9 := hT8.below hb9
  have hw9 := hw8.trans (hb9.mono hw8.size)
  clear hx8 hy8 kr8 hf8 kf8 hH8 hL8 hT8 hw8 hb9
  have HVM := Lib.hid hvm
  clear hvm
  go_wp2_with fail
  refine (radd_any M L mc lc ml ll _ hM9 hL9 (by omega) (by omega) hnm hnl).mono ?_
  rintro e w10 ⟨Z, zc, zl, rfl, hzc, hZ10, hb10, hvz, hnz, hlz⟩
  have hx10 := hx9.below hb10
  have hy10 := hy9.below hb10
  have kr10 := kr9.below hb10
  have hf10 := hf9.below hb10
  have kf10 := kf9.below hb10
  have hH10 := hH9.below hb10
  have hL10 := hL9.below hb10
  have hT10 := hT9.below hb10
  have hM10 := hM9.below hb10
  have hw10 := hw9.trans (hb10.mono hw9.size)
  clear hx9 hy9 kr9 hf9 kf9 hH9 hL9 hT9 hM9 hw9 hb10
  have HVZ : Hid (VD zl = u) := by show _ = _; rw [hvz, HVM.out, HVL.out, HVH.out, HVT.out]; exact hpar.out.symm
  clear hvz
  go_wp2_with fail
  refine (two_any 64 _ (by omega)).mono ?_
  rintro e w11 ⟨S, sc, sl, rfl, hsc, hS11, hb11, hvs, hns, hls⟩
  have hx11 := hx10.below hb11
  have hy11 := hy10.below hb11
  have kr11 := kr10.below hb11
  have hf11 := hf10.below hb11
  have kf11 := kf10.below hb11
  have hH11 := hH10.below hb11
  have hL11 := hL10.below hb11
  have hT11 := hT10.below hb11
  have hM11 := hM10.below hb11
  have hZ11 := hZ10.below hb11
  have hw11 := hw10.trans (hb11.mono hw10.size)
  clear hx10 hy10 kr10 hf10 kf10 hH10 hL10 hT10 hM10 hZ10 hw10 hb11
  have HVS := Lib.hid hvs
  clear hvs
  go_wp2_with fail
  refine (rsub_any S Z sc zc sl zl _ hS11 hZ11 (by omega) hns hnz (by rw [HVS.out, HVZ.out]; have := hul.out; omega)).mono ?_
  rintro e w12 ⟨Y, yc, yl, rfl, hyc, hY12, hb12, hvy, hny, hly⟩
  have hx12 := hx11.below hb12
  have hy12 := hy11.below hb12
  have kr12 := kr11.below hb12
  have hf12 := hf11.below hb12
  have kf12 := kf11.below hb12
  have hH12 := hH11.below hb12
  have hL12 := hL11.below hb12
  have hT12 := hT11.below hb12
  have hM12 := hM11.below hb12
  have hZ12 := hZ11.below hb12
  have hS12 := hS11.below hb12
  have hw12 := hw11.trans (hb12.mono hw11.size)
  clear hx11 hy11 kr11 hf11 kf11 hH11 hL11 hT11 hM11 hZ11 hS11 hw11 hb12
  have HVY : Hid (VD yl = n.natAbs) := by show _ = _; rw [HVZ.out, HVS.out] at hvy; exact hneg.out _ hvy
  clear hvy
  have HQE : Hid (mkRat (sgn true (VD yl)) (VD [1]) = mkRat n 1) := by
    show _ = _
    rw [HVY.out]
    have h := sgn_abs n
    rw [hd.out] at h
    rw [h]; simp [VD, val]
  obtain ⟨f0, f1, f2, f3, f4, f5, f6⟩ := kf12.facts
  go_upto_region 11 with fail
  go_region_held3 (fun w' => w'.cell? ⟨w4.heap.size, 0, none⟩ = some (.bool f.s) ∧ w'.cell? ⟨w4.heap.size, 1, none⟩ = some (.slice f.N f.ns.length f.nc) ∧ w'.cell? ⟨w4.heap.size, 2, none⟩ = some (.slice f.D f.ds.length f.dc)) (first | exact ⟨‹_›, ‹_›, ‹_›⟩ | go_keep)
    (first
    | (go_at_call 26
       refine (rmake true Y (some ⟨w12.heap.size, 0, none⟩) yc 1 yl [1] _ (by first | exact hY12.alloc _ | exact (hY12.alloc _).drew | exact hY12.drew.alloc _) (by first | exact rd_nat1 _ 1 | exact (rd_nat1 _ 1).drew) hny nm_one (by omega) (by simp) (by simp)).mono ?_
       rintro e wm_ ⟨g, rfl, hg, hg1, hg2, hbm⟩
       rw [HQE.out] at hg
       have hbmq : Below w12.heap.size w12 wm_ := ((Below.refl _ _).alloc (Nat.le_refl _) (.cells #[.int .i64 1] 3)).trans (by first | exact hbm.mono (by simp) | exact (below_of_drew hbm (Nat.le_refl _)).mono (by simp) | exact below_of_drew hbm (by simp))
       obtain ⟨c0, c1, c2, c3, c4, c5, c6⟩ := (kf12.below hbmq).facts)
    | (go_at_call 25
       refine (qis_yes f g (mkRat n 1) _ (hf12.below hbmq) hg (by omega) (by simp at hg2; omega)).mono ?_
       rintro e wi_ ⟨rfl, hbi⟩
       have hbiq : Below w12.heap.size w12 wi_ := hbmq.trans (hbi.mono hbmq.size)
       obtain ⟨d0, d1, d2, d3, d4, d5, d6⟩ := (kf12.below hbiq).facts))
  go_wp2_with fail
  clear f0 f1 f2 f3 f4 f5 f6 c0 c1 c2 c3 c4 c5 c6 d0 d1 d2 d3 d4 d5 d6 hbi hbm hg hbmq e1 e2 e3
  obtain ⟨w13, rfl⟩ : ∃ x, x = wi_ := ⟨_, rfl⟩
  have hx13 := hx12.below hbiq
  have hy13 := hy12.below hbiq
  have kr13 := kr12.below hbiq
  have hf13 := hf12.below hbiq
  have kf13 := kf12.below hbiq
  have hH13 := hH12.below hbiq
  have hL13 := hL12.below hbiq
  have hT13 := hT12.below hbiq
  have hM13 := hM12.below hbiq
  have hZ13 := hZ12.below hbiq
  have hS13 := hS12.below hbiq
  have hY13 := hY12.below hbiq
  have hw13 := hw12.trans (hbiq.mono hw12.size)
  clear hx12 hy12 kr12 hf12 kf12 hH12 hL12 hT12 hM12 hZ12 hS12 hY12 hw12 hbiq
  obtain ⟨f0, f1, f2, f3, f4, f5, f6⟩ := kr13.facts
  refine (rvalid_yes N nc ns _ hx13 ox).mono ?_
  rintro e w' ⟨rfl, rfl⟩
  go_wp2_with fail
  refine (rvalid_yes D dc [] _ hy13 ⟨by simp, nrm_nil⟩).mono ?_
  rintro e w' ⟨rfl, rfl⟩
  go_wp2_with fail
  refine (qnone_yes _).mono ?_
  rintro e wn ⟨rfl, hbn⟩
  go_wp2_with fail
  go_ret
  exact ⟨rfl, hw13.trans (hbn.mono hw13.size)⟩

set_option maxRecDepth 100000 in
set_option maxHeartbeats 3200000 in
theorem makes_ok_n (s : Bool) (N D : Option Addr) (nc dc : Nat) (ns ds : List Nat) (n : Int) (w : World) (hx : Rd .u32 w N ns) (hy : Rd .u32 w D ds) (dx : Dig 4294967296 ns) (dy : Dig 4294967296 ds) (hcd : (ds : List Nat).length ≤ dc) (hl1 : ns.length ≤ 12) (hl2 : (ds : List Nat).length ≤ 12) (ox : Ok ns) (oy : Ok ds) (hpos : 0 < ds.length) (h0 : n < 0) (hn : -9223372036854775808 ≤ n ∧ n ≤ 9223372036854775807)
    (htab : Lib.TabBelow Tryd.prog w.heap.size w "internal/strconv.uint64pow10" .u64 Lib.pow10Tab) :
    Calls Tryd.prog 5 #[.bool s, .slice N ns.length nc, .slice D (ds : List Nat).length dc, .int .i64 n] w (Yes w) := by
  have HT := Lib.hid htab
  have HN := Lib.hid hn
  clear htab hn
  obtain ⟨u, m, hu, hm, hmn, hum, hml, hul⟩ := u64_wrap n HN.out
  obtain ⟨hi, lo, hhi, hlo, hsh, hand, hpar⟩ := u64_parts u hul.out
  have e1 := hu.out
  have e2 := hsh.out
  have e3 := hand.out
  have hd : Hid (decide (n < 0) = true) := decide_eq_true h0
  have hd1 := hd.out
  have hneg : Hid (∀ x, x + u = 2 ^ 64 → x = n.natAbs) := by
    intro x hx
    have h1 := u64_neg hu.out HN.out h0
    omega
  go_enter Tryd.func5, Tryd.ntmps5
  go_wp2_with fail
  refine (qawake_yes w HT.out).mono ?_
  rintro e w1 ⟨rfl, hb1⟩
  have hx1 := hx.below hb1
  have hy1 := hy.below hb1
  have hw1 := hb1
  clear hx hy hb1
  go_wp2_with fail
  refine (make_ok s N D nc dc ns ds _ hx1 hy1 hcd dx dy ox oy hpos).mono ?_
  rintro e w2 ⟨r, rfl, hr2, hrl1, hrl2, hb2⟩
  have hx2 := hx1.below hb2
  have hy2 := hy1.below hb2
  have hw2 := hw1.trans (hb2.mono hw1.size)
  clear hx1 hy1 hw1 hb2
  go_wp2_with fail
  have kr3 := Blk3.new w2 (.bool r.s) (.slice r.N r.ns.length r.nc) (.slice r.D r.ds.length r.dc)
  have hb3 : Below w2.heap.size w2 (w2.alloc (.cells #[.bool r.s, .slice r.N r.ns.length r.nc, .slice r.D r.ds.length r.dc] 43)) := (Below.refl _ _).alloc (Nat.le_refl _) _
  obtain ⟨w3, hwe⟩ : ∃ x, w2.alloc (.cells #[.bool r.s, .slice r.N r.ns.length r.nc, .slice r.D r.ds.length r.dc] 43) = x := ⟨_, rfl⟩
  rw [hwe] at kr3 hb3 ⊢
  clear hwe
  have hx3 := hx2.below hb3
  have hy3 := hy2.below hb3
  have hr3 := hr2.below hb3
  have hw3 := hw2.trans (hb3.mono hw2.size)
  clear hx2 hy2 hr2 hw2 hb3
  refine (qfrom n _ HN.out).mono ?_
  rintro e w4 ⟨f, rfl, hf4, hfl1, hfl2, hb4⟩
  have hx4 := hx3.below hb4
  have hy4 := hy3.below hb4
  have hr4 := hr3.below hb4
  have kr4 := kr3.below hb4
  have hw4 := hw3.trans (hb4.mono hw3.size)
  clear hx3 hy3 hr3 kr3 hw3 hb4
  go_wp2_with fail
  have kf5 := Blk3.new w4 (.bool f.s) (.slice f.N f.ns.length f.nc) (.slice f.D f.ds.length f.dc)
  have hb5 : Below w4.heap.size w4 (w4.alloc (.cells #[.bool f.s, .slice f.N f.ns.length f.nc, .slice f.D f.ds.length f.dc] 43)) := (Below.refl _ _).alloc (Nat.le_refl _) _
  obtain ⟨w5, hwe⟩ : ∃ x, w4.alloc (.cells #[.bool f.s, .slice f.N f.ns.length f.nc, .slice f.D f.ds.length f.dc] 43) = x := ⟨_, rfl⟩
  rw [hwe] at kf5 hb5 ⊢
  clear hwe
  have hx5 := hx4.below hb5
  have hy5 := hy4.below hb5
  have hr5 := hr4.below hb5
  have kr5 := kr4.below hb5
  have hf5 := hf4.below hb5
  have hw5 := hw4.trans (hb5.mono hw4.size)
  clear hx4 hy4 hr4 kr4 hf4 hw4 hb5
  refine (int_any hi _ (by omega)).mono ?_
  rintro e w6 ⟨H, hc, hl, rfl, hhc, hH6, hb6, hvh, hnh, hlh⟩
  have hx6 := hx5.below hb6
  have hy6 := hy5.below hb6
  have hr6 := hr5.below hb6
  have kr6 := kr5.below hb6
  have hf6 := hf5.below hb6
  have kf6 := kf5.below hb6
  have hw6 := hw5.trans (hb6.mono hw5.size)
  clear hx5 hy5 hr5 kr5 hf5 kf5 hw5 hb6
  have HVH := Lib.hid hvh
  clear hvh
  go_wp2_with fail
  refine (int_any lo _ (by omega)).mono ?_
  rintro e w7 ⟨L, lc, ll, rfl, hlc, hL7, hb7, hvl, hnl, hll⟩
  have hx7 := hx6.below hb7
  have hy7 := hy6.below hb7
  have hr7 := hr6.below hb7
  have kr7 := kr6.below hb7
  have hf7 := hf6.below hb7
  have kf7 := kf6.below hb7
  have hH7 := hH6.below hb7
  have hw7 := hw6.trans (hb7.mono hw6.size)
  clear hx6 hy6 hr6 kr6 hf6 kf6 hH6 hw6 hb7
  have HVL := Lib.hid hvl
  clear hvl
  go_wp2_with fail
  refine (two_any 32 _ (by omega)).mono ?_
  rintro e w8 ⟨T, tc, tl, rfl, htc, hT8, hb8, hvt, hnt, hlt⟩
  have hx8 := hx7.below hb8
  have hy8 := hy7.below hb8
  have hr8 := hr7.below hb8
  have kr8 := kr7.below hb8
  have hf8 := hf7.below hb8
  have kf8 := kf7.below hb8
  have hH8 := hH7.below hb8
  have hL8 := hL7.below hb8
  have hw8 := hw7.trans (hb8.mono hw7.size)
  clear hx7 hy7 hr7 kr7 hf7 kf7 hH7 hL7 hw7 hb8
  have HVT := Lib.hid hvt
  clear hvt
  go_wp2_with fail
  refine (rmul_any H T hc tc hl tl _ hH8 hT8 (by omega) hnh hnt).mono ?_
  rintro e w9 ⟨M, mc, ml, rfl, hmc, hM9, hb9, hvm, hnm, hlm⟩
  have hx9 := hx8.below hb9
  have hy9 := hy8.below hb9
  have hr9 := hr8.below hb9
  have kr9 := kr8.below hb9
  have hf9 := hf8.below hb9
  have kf9 := kf8.below hb9
  have hH9 := hH8.below hb9
  have hL9 := hL8.below hb9
  have hT9 := hT8.below hb9
  have hw9 := hw8.trans (hb9.mono hw8.size)
  clear hx8 hy8 hr8 kr8 hf8 kf8 hH8 hL8 hT8 hw8 hb9
  have HVM := Lib.hid hvm
  clear hvm
  go_wp2_with fail
  refine (radd_any M L mc lc ml ll _ hM9 hL9 (by omega) (by omega) hnm hnl).mono ?_
  rintro e w10 ⟨Z, zc, zl, rfl, hzc, hZ10, hb10, hvz, hnz, hlz⟩
  have hx10 := hx9.below hb10
  have hy10 := hy9.below hb10
  have hr10 := hr9.below hb10
  have kr10 := kr9.below hb10
  have hf10 := hf9.below hb10
  have kf10 := kf9.below hb10
  have hH10 := hH9.below hb10
  have hL10 := hL9.below hb10
  have hT10 := hT9.below hb10
  have hM10 := hM9.below hb10
  have hw10 := hw9.trans (hb10.mono hw9.size)
  clear hx9 hy9 hr9 kr9 hf9 kf9 hH9 hL9 hT9 hM9 hw9 hb10
  have HVZ : Hid (VD zl = u) := by show _ = _; rw [hvz, HVM.out, HVL.out, HVH.out, HVT.out]; exact hpar.out.symm
  clear hvz
  go_wp2_with fail
  refine (two_any 64 _ (by omega)).mono ?_
  rintro e w11 ⟨S, sc, sl, rfl, hsc, hS11, hb11, hvs, hns, hls⟩
  have hx11 := hx10.below hb11
  have hy11 := hy10.below hb11
  have hr11 := hr10.below hb11
  have kr11 := kr10.below hb11
  have hf11 := hf10.below hb11
  have kf11 := kf10.below hb11
  have hH11 := hH10.below hb11
  have hL11 := hL10.below hb11
  have hT11 := hT10.below hb11
  have hM11 := hM10.below hb11
  have hZ11 := hZ10.below hb11
  have hw11 := hw10.trans (hb11.mono hw10.size)
  clear hx10 hy10 hr10 kr10 hf10 kf10 hH10 hL10 hT10 hM10 hZ10 hw10 hb11
  have HVS := Lib.hid hvs
  clear hvs
  go_wp2_with fail
  refine (rsub_any S Z sc zc sl zl _ hS11 hZ11 (by omega) hns hnz (by rw [HVS.out, HVZ.out]; have := hul.out; omega)).mono ?_
  rintro e w12 ⟨Y, yc, yl, rfl, hyc, hY12, hb12, hvy, hny, hly⟩
  have hx12 := hx11.below hb12
  have hy12 := hy11.below hb12
  have hr12 := hr11.below hb12
  have kr12 := kr11.below hb12
  have hf12 := hf11.below hb12
  have kf12 := kf11.below hb12
  have hH12 := hH11.below hb12
  have hL12 := hL11.below hb12
  have hT12 := hT11.below hb12
  have hM12 := hM11.below hb12
  have hZ12 := hZ11.below hb12
  have hS12 := hS11.below hb12
  have hw12 := hw11.trans (hb12.mono hw11.size)
  clear hx11 hy11 hr11 kr11 hf11 kf11 hH11 hL11 hT11 hM11 hZ11 hS11 hw11 hb12
  have HVY : Hid (VD yl = n.natAbs) := by show _ = _; rw [HVZ.out, HVS.out] at hvy; exact hneg.out _ hvy
  clear hvy
  have HQE : Hid (mkRat (sgn true (VD yl)) (VD [1]) = mkRat n 1) := by
    show _ = _
    rw [HVY.out]
    have h := sgn_abs n
    rw [hd.out] at h
    rw [h]; simp [VD, val]
  obtain ⟨f0, f1, f2, f3, f4, f5, f6⟩ := kf12.facts
  go_upto_region 11 with fail
  go_region_held3 (fun w' => w'.cell? ⟨w4.heap.size, 0, none⟩ = some (.bool f.s) ∧ w'.cell? ⟨w4.heap.size, 1, none⟩ = some (.slice f.N f.ns.length f.nc) ∧ w'.cell? ⟨w4.heap.size, 2, none⟩ = some (.slice f.D f.ds.length f.dc)) (first | exact ⟨‹_›, ‹_›, ‹_›⟩ | go_keep)
    (first
    | (go_at_call 26
       refine (rmake true Y (some ⟨w12.heap.size, 0, none⟩) yc 1 yl [1] _ (by first | exact hY12.alloc _ | exact (hY12.alloc _).drew | exact hY12.drew.alloc _) (by first | exact rd_nat1 _ 1 | exact (rd_nat1 _ 1).drew) hny nm_one (by omega) (by simp) (by simp)).mono ?_
       rintro e wm_ ⟨g, rfl, hg, hg1, hg2, hbm⟩
       rw [HQE.out] at hg
       have hbmq : Below w12.heap.size w12 wm_ := ((Below.refl _ _).alloc (Nat.le_refl _) (.cells #[.int .i64 1] 3)).trans (by first | exact hbm.mono (by simp) | exact (below_of_drew hbm (Nat.le_refl _)).mono (by simp) | exact below_of_drew hbm (by simp))
       obtain ⟨c0, c1, c2, c3, c4, c5, c6⟩ := (kf12.below hbmq).facts)
    | (go_at_call 25
       refine (qis_yes f g (mkRat n 1) _ (hf12.below hbmq) hg (by omega) (by simp at hg2; omega)).mono ?_
       rintro e wi_ ⟨rfl, hbi⟩
       have hbiq : Below w12.heap.size w12 wi_ := hbmq.trans (hbi.mono hbmq.size)
       obtain ⟨d0, d1, d2, d3, d4, d5, d6⟩ := (kf12.below hbiq).facts))
  go_wp2_with fail
  clear f0 f1 f2 f3 f4 f5 f6 c0 c1 c2 c3 c4 c5 c6 d0 d1 d2 d3 d4 d5 d6 hbi hbm hg hbmq e1 e2 e3
  obtain ⟨w13, rfl⟩ : ∃ x, x = wi_ := ⟨_, rfl⟩
  have hx13 := hx12.below hbiq
  have hy13 := hy12.below hbiq
  have hr13 := hr12.below hbiq
  have kr13 := kr12.below hbiq
  have hf13 := hf12.below hbiq
  have kf13 := kf12.below hbiq
  have hH13 := hH12.below hbiq
  have hL13 := hL12.below hbiq
  have hT13 := hT12.below hbiq
  have hM13 := hM12.below hbiq
  have hZ13 := hZ12.below hbiq
  have hS13 := hS12.below hbiq
  have hY13 := hY12.below hbiq
  have hw13 := hw12.trans (hbiq.mono hw12.size)
  clear hx12 hy12 hr12 kr12 hf12 kf12 hH12 hL12 hT12 hM12 hZ12 hS12 hY12 hw12 hbiq
  obtain ⟨f0, f1, f2, f3, f4, f5, f6⟩ := kr13.facts
  refine (rvalid_yes N nc ns _ hx13 ox).mono ?_
  rintro e w' ⟨rfl, rfl⟩
  go_wp2_with fail
  refine (rvalid_yes D dc ds _ hy13 oy).mono ?_
  rintro e w' ⟨rfl, rfl⟩
  go_upto_region 17 with fail
  go_region_held3 (fun w' => w'.cell? ⟨w2.heap.size, 0, none⟩ = some (.bool r.s) ∧ w'.cell? ⟨w2.heap.size, 1, none⟩ = some (.slice r.N r.ns.length r.nc) ∧ w'.cell? ⟨w2.heap.size, 2, none⟩ = some (.slice r.D r.ds.length r.dc)) (first | exact ⟨‹_›, ‹_›, ‹_›⟩ | go_keep)
    (first
    | (go_at_call_of 8 (Value.slice N ns.length nc)
       refine (of_any N nc ns _ (by first | exact hx13 | exact hx13.drew | exact (hx13.below hbyq) | exact (hx13.below hbyq).drew) (by omega) dx).mono ?_
       rintro e wx_ ⟨X, xc, xs, rfl, hxc, hX, hbx, hvx, mx_, hxl⟩
       have HVX := Lib.hid hvx
       clear hvx
       have hbxq : Below w13.heap.size w13 wx_ := by first | exact below_of_drew hbx (Nat.le_refl _) | exact hbx | exact hbyq.trans (hbx.mono hbyq.size) | exact hbyq.trans (below_of_drew hbx hbyq.size)
       obtain ⟨c0wx_, c1wx_, c2wx_, c3wx_, c4wx_, c5wx_, c6wx_⟩ := (kr13.below hbxq).facts)
    | (go_at_call_of 8 (Value.slice D ds.length dc)
       refine (of_any D dc ds _ (by first | exact hy13 | exact hy13.drew | exact (hy13.below hbxq) | exact (hy13.below hbxq).drew) (by omega) dy).mono ?_
       rintro e wy_ ⟨Y, yc, ys, rfl, hyc, hY, hby, hvy, my_, hyl⟩
       have HVY2 := Lib.hid hvy
       clear hvy
       have hbyq : Below w13.heap.size w13 wy_ := by first | exact below_of_drew hby (Nat.le_refl _) | exact hby | exact hbxq.trans (hby.mono hbxq.size) | exact hbxq.trans (below_of_drew hby hbxq.size)
       obtain ⟨c0wy_, c1wy_, c2wy_, c3wy_, c4wy_, c5wy_, c6wy_⟩ := (kr13.below hbyq).facts)
    | (go_at_call 26
       refine (rmake s X Y xc yc xs ys _ (by first | exact hX | exact hX.drew | exact (hX.below hby) | exact (hX.below hby).drew) (by first | exact hY | exact hY.drew | exact (hY.below hbx) | exact (hY.below hbx).drew) mx_ my_ (by omega) (by omega) (by rcases Nat.eq_zero_or_pos ys.length with h | h; (have h3 := V32_pos ⟨dy, oy.2⟩ hpos; rw [← HVY2.out, List.eq_nil_of_length_eq_zero h] at h3; simp [VD, val] at h3); exact h)).mono ?_
       rintro e wm_ ⟨g, rfl, hg, hg1, hg2, hbm⟩
       rw [HVX.out, HVY2.out] at hg
       have hbmq : Below w13.heap.size w13 wm_ := by first | exact below_of_drew hbm (Nat.le_refl _) | exact hbm | exact hbxq.trans (hbm.mono hbxq.size) | exact hbxq.trans (below_of_drew hbm hbxq.size) | exact hbyq.trans (hbm.mono hbyq.size) | exact hbyq.trans (below_of_drew hbm hbyq.size)
       obtain ⟨c0wm_, c1wm_, c2wm_, c3wm_, c4wm_, c5wm_, c6wm_⟩ := (kr13.below hbmq).facts)
    | (go_at_call 25
       refine (qis_yes r g (mkRat (sgn s (V32 ns)) (V32 ds)) _ (hr13.below hbmq) hg (by omega) (by omega)).mono ?_
       rintro e wi_ ⟨rfl, hbi⟩
       have hbiq : Below w13.heap.size w13 wi_ := by first | exact below_of_drew hbi (Nat.le_refl _) | exact hbi | exact hbmq.trans (hbi.mono hbmq.size) | exact hbmq.trans (below_of_drew hbi hbmq.size)
       obtain ⟨c0wi_, c1wi_, c2wi_, c3wi_, c4wi_, c5wi_, c6wi_⟩ := (kr13.below hbiq).facts))
  all_goals
    go_wp2_with fail
    go_ret
    exact ⟨rfl, hw13.trans (hbiq.mono hw13.size)⟩

set_option maxRecDepth 100000 in
set_option maxHeartbeats 3200000 in
theorem makes_form_p (s : Bool) (N D : Option Addr) (nc dc : Nat) (ns ds : List Nat) (n : Int) (w : World) (hx : Rd .u32 w N ns) (hy : Rd .u32 w D ds) (_dx : Dig 4294967296 ns) (_dy : Dig 4294967296 ds) (_hcd : (ds : List Nat).length ≤ dc) (_hl1 : ns.length ≤ 12) (_hl2 : (ds : List Nat).length ≤ 12) (hbad : ¬ (Ok ns ∧ Ok ds)) (h0 : 0 ≤ n) (hn : -9223372036854775808 ≤ n ∧ n ≤ 9223372036854775807)
    (htab : Lib.TabBelow Tryd.prog w.heap.size w "internal/strconv.uint64pow10" .u64 Lib.pow10Tab) :
    Calls Tryd.prog 5 #[.bool s, .slice N ns.length nc, .slice D (ds : List Nat).length dc, .int .i64 n] w (Yes w) := by
  have HT := Lib.hid htab
  have HN := Lib.hid hn
  clear htab hn
  obtain ⟨u, m, hu, hm, hmn, hum, hml, hul⟩ := u64_wrap n HN.out
  obtain ⟨hi, lo, hhi, hlo, hsh, hand, hpar⟩ := u64_parts u hul.out
  have e1 := hu.out
  have e2 := hsh.out
  have e3 := hand.out
  have hd : Hid (decide (n < 0) = false) := decide_eq_false (by omega)
  have hd1 := hd.out
  have hneg : Hid (u = n.natAbs) := by show _ = _; rw [hum.out (by omega)]; exact hmn.out
  go_enter Tryd.func5, Tryd.ntmps5
  go_wp2_with fail
  refine (qawake_yes w HT.out).mono ?_
  rintro e w1 ⟨rfl, hb1⟩
  have hx1 := hx.below hb1
  have hy1 := hy.below hb1
  have hw1 := hb1
  clear hx hy hb1
  go_wp2_with fail
  refine (make_form s N D nc dc ns ds _ hx1 hy1 hbad).mono ?_
  rintro e w2 ⟨rfl, hb2⟩
  have hx2 := hx1.below hb2
  have hy2 := hy1.below hb2
  have hw2 := hw1.trans (hb2.mono hw1.size)
  clear hx1 hy1 hw1 hb2
  go_wp2_with fail
  have kr3 := Blk3.new w2 (.bool false) (.slice none 0 0) (.slice none 0 0)
  have hb3 : Below w2.heap.size w2 (w2.alloc (.cells #[.bool false, .slice none 0 0, .slice none 0 0] 43)) := (Below.refl _ _).alloc (Nat.le_refl _) _
  obtain ⟨w3, hwe⟩ : ∃ x, w2.alloc (.cells #[.bool false, .slice none 0 0, .slice none 0 0] 43) = x := ⟨_, rfl⟩
  rw [hwe] at kr3 hb3 ⊢
  clear hwe
  have hx3 := hx2.below hb3
  have hy3 := hy2.below hb3
  have hw3 := hw2.trans (hb3.mono hw2.size)
  clear hx2 hy2 hw2 hb3
  refine (qfrom n _ HN.out).mono ?_
  rintro e w4 ⟨f, rfl, hf4, hfl1, hfl2, hb4⟩
  have hx4 := hx3.below hb4
  have hy4 := hy3.below hb4
  have kr4 := kr3.below hb4
  have hw4 := hw3.trans (hb4.mono hw3.size)
  clear hx3 hy3 kr3 hw3 hb4
  go_wp2_with fail
  have kf5 := Blk3.new w4 (.bool f.s) (.slice f.N f.ns.length f.nc) (.slice f.D f.ds.length f.dc)
  have hb5 : Below w4.heap.size w4 (w4.alloc (.cells #[.bool f.s, .slice f.N f.ns.length f.nc, .slice f.D f.ds.length f.dc] 43)) := (Below.refl _ _).alloc (Nat.le_refl _) _
  obtain ⟨w5, hwe⟩ : ∃ x, w4.alloc (.cells #[.bool f.s, .slice f.N f.ns.length f.nc, .slice f.D f.ds.length f.dc] 43) = x := ⟨_, rfl⟩
  rw [hwe] at kf5 hb5 ⊢
  clear hwe
  have hx5 := hx4.below hb5
  have hy5 := hy4.below hb5
  have kr5 := kr4.below hb5
  have hf5 := hf4.below hb5
  have hw5 := hw4.trans (hb5.mono hw4.size)
  clear hx4 hy4 kr4 hf4 hw4 hb5
  refine (int_any hi _ (by omega)).mono ?_
  rintro e w6 ⟨H, hc, hl, rfl, hhc, hH6, hb6, hvh, hnh, hlh⟩
  have hx6 := hx5.below hb6
  have hy6 := hy5.below hb6
  have kr6 := kr5.below hb6
  have hf6 := hf5.below hb6
  have kf6 := kf5.below hb6
  have hw6 := hw5.trans (hb6.mono hw5.size)
  clear hx5 hy5 kr5 hf5 kf5 hw5 hb6
  have HVH := Lib.hid hvh
  clear hvh
  go_wp2_with fail
  refine (int_any lo _ (by omega)).mono ?_
  rintro e w7 ⟨L, lc, ll, rfl, hlc, hL7, hb7, hvl, hnl, hll⟩
  have hx7 := hx6.below hb7
  have hy7 := hy6.below hb7
  have kr7 := kr6.below hb7
  have hf7 := hf6.below hb7
  have kf7 := kf6.below hb7
  have hH7 := hH6.below hb7
  have hw7 := hw6.trans (hb7.mono hw6.size)
  clear hx6 hy6 kr6 hf6 kf6 hH6 hw6 hb7
  have HVL := Lib.hid hvl
  clear hvl
  go_wp2_with fail
  refine (two_any 32 _ (by omega)).mono ?_
  rintro e w8 ⟨T, tc, tl, rfl, htc, hT8, hb8, hvt, hnt, hlt⟩
  have hx8 := hx7.below hb8
  have hy8 := hy7.below hb8
  have kr8 := kr7.below hb8
  have hf8 := hf7.below hb8
  have kf8 := kf7.below hb8
  have hH8 := hH7.below hb8
  have hL8 := hL7.below hb8
  have hw8 := hw7.trans (hb8.mono hw7.size)
  clear hx7 hy7 kr7 hf7 kf7 hH7 hL7 hw7 hb8
  have HVT := Lib.hid hvt
  clear hvt
  go_wp2_with fail
  refine (rmul_any H T hc tc hl tl _ hH8 hT8 (by omega) hnh hnt).mono ?_
  rintro e w9 ⟨M, mc, ml, rfl, hmc, hM9, hb9, hvm, hnm, hlm⟩
  have hx9 := hx8.below hb9
  have hy9 := hy8.below hb9
  have kr9 := kr8.below hb9
  have hf9 := hf8.below hb9
  have kf9 := kf8.below hb9
  have hH9 := hH8.below hb9
  have hL9 := hL8.below hb9
  have hT9 := hT8.below hb9
  have hw9 := hw8.trans (hb9.mono hw8.size)
  clear hx8 hy8 kr8 hf8 kf8 hH8 hL8 hT8 hw8 hb9
  have HVM := Lib.hid hvm
  clear hvm
  go_wp2_with fail
  refine (radd_any M L mc lc ml ll _ hM9 hL9 (by omega) (by omega) hnm hnl).mono ?_
  rintro e w10 ⟨Z, zc, zl, rfl, hzc, hZ10, hb10, hvz, hnz, hlz⟩
  have hx10 := hx9.below hb10
  have hy10 := hy9.below hb10
  have kr10 := kr9.below hb10
  have hf10 := hf9.below hb10
  have kf10 := kf9.below hb10
  have hH10 := hH9.below hb10
  have hL10 := hL9.below hb10
  have hT10 := hT9.below hb10
  have hM10 := hM9.below hb10
  have hw10 := hw9.trans (hb10.mono hw9.size)
  clear hx9 hy9 kr9 hf9 kf9 hH9 hL9 hT9 hM9 hw9 hb10
  have HVZ : Hid (VD zl = u) := by show _ = _; rw [hvz, HVM.out, HVL.out, HVH.out, HVT.out]; exact hpar.out.symm
  clear hvz
  have HVY : Hid (VD zl = n.natAbs) := by show _ = _; rw [HVZ.out]; exact hneg.out
  have HQE : Hid (mkRat (sgn false (VD zl)) (VD [1]) = mkRat n 1) := by
    show _ = _
    rw [HVY.out]
    have h := sgn_abs n
    rw [hd.out] at h
    rw [h]; simp [VD, val]
  obtain ⟨f0, f1, f2, f3, f4, f5, f6⟩ := kf10.facts
  go_upto_region 11 with fail
  go_region_held3 (fun w' => w'.cell? ⟨w4.heap.size, 0, none⟩ = some (.bool f.s) ∧ w'.cell? ⟨w4.heap.size, 1, none⟩ = some (.slice f.N f.ns.length f.nc) ∧ w'.cell? ⟨w4.heap.size, 2, none⟩ = some (.slice f.D f.ds.length f.dc)) (first | exact ⟨‹_›, ‹_›, ‹_›⟩ | go_keep)
    (first
    | (go_at_call 26
       refine (rmake false Z (some ⟨w10.heap.size, 0, none⟩) zc 1 zl [1] _ (by first | exact hZ10.alloc _ | exact (hZ10.alloc _).drew | exact hZ10.drew.alloc _) (by first | exact rd_nat1 _ 1 | exact (rd_nat1 _ 1).drew) hnz nm_one (by omega) (by simp) (by simp)).mono ?_
       rintro e wm_ ⟨g, rfl, hg, hg1, hg2, hbm⟩
       rw [HQE.out] at hg
       have hbmq : Below w10.heap.size w10 wm_ := ((Below.refl _ _).alloc (Nat.le_refl _) (.cells #[.int .i64 1] 3)).trans (by first | exact hbm.mono (by simp) | exact (below_of_drew hbm (Nat.le_refl _)).mono (by simp) | exact below_of_drew hbm (by simp))
       obtain ⟨c0, c1, c2, c3, c4, c5, c6⟩ := (kf10.below hbmq).facts)
    | (go_at_call 25
       refine (qis_yes f g (mkRat n 1) _ (hf10.below hbmq) hg (by omega) (by simp at hg2; omega)).mono ?_
       rintro e wi_ ⟨rfl, hbi⟩
       have hbiq : Below w10.heap.size w10 wi_ := hbmq.trans (hbi.mono hbmq.size)
       obtain ⟨d0, d1, d2, d3, d4, d5, d6⟩ := (kf10.below hbiq).facts))
  go_wp2_with fail
  clear f0 f1 f2 f3 f4 f5 f6 c0 c1 c2 c3 c4 c5 c6 d0 d1 d2 d3 d4 d5 d6 hbi hbm hg hbmq e1 e2 e3
  obtain ⟨w11, rfl⟩ : ∃ x, x = wi_ := ⟨_, rfl⟩
  have hx11 := hx10.below hbiq
  have hy11 := hy10.below hbiq
  have kr11 := kr10.below hbiq
  have hf11 := hf10.below hbiq
  have kf11 := kf10.below hbiq
  have hH11 := hH10.below hbiq
  have hL11 := hL10.below hbiq
  have hT11 := hT10.below hbiq
  have hM11 := hM10.below hbiq
  have hZ11 := hZ10.below hbiq
  have hw11 := hw10.trans (hbiq.mono hw10.size)
  clear hx10 hy10 kr10 hf10 kf10 hH10 hL10 hT10 hM10 hZ10 hw10 hbiq
  obtain ⟨f0, f1, f2, f3, f4, f5, f6⟩ := kr11.facts
  by_cases h1 : Ok ns
  · refine (rvalid_yes N nc ns _ hx11 h1).mono ?_
    rintro e w' ⟨rfl, rfl⟩
    go_wp2_with fail
    refine (rvalid_no D dc ds _ hy11 (fun h2 => hbad ⟨h1, h2⟩)).mono ?_
    rintro e w' ⟨rfl, rfl⟩
    go_wp2_with fail
    refine (qnone_yes _).mono ?_
    rintro e wn ⟨rfl, hbn⟩
    go_wp2_with fail
    go_ret
    exact ⟨rfl, hw11.trans (hbn.mono hw11.size)⟩
  · refine (rvalid_no N nc ns _ hx11 h1).mono ?_
    rintro e w' ⟨rfl, rfl⟩
    go_wp2_with fail
    refine (qnone_yes _).mono ?_
    rintro e wn ⟨rfl, hbn⟩
    go_wp2_with fail
    go_ret
    exact ⟨rfl, hw11.trans (hbn.mono hw11.size)⟩

set_option maxRecDepth 100000 in
set_option maxHeartbeats 3200000 in
theorem makes_zero_p (s : Bool) (N D : Option Addr) (nc dc : Nat) (ns : List Nat) (n : Int) (w : World) (hx : Rd .u32 w N ns) (hy : Rd .u32 w D []) (_dx : Dig 4294967296 ns) (_dy : Dig 4294967296 []) (_hcd : ([] : List Nat).length ≤ dc) (_hl1 : ns.length ≤ 12) (_hl2 : ([] : List Nat).length ≤ 12) (ox : Ok ns) (h0 : 0 ≤ n) (hn : -9223372036854775808 ≤ n ∧ n ≤ 9223372036854775807)
    (htab : Lib.TabBelow Tryd.prog w.heap.size w "internal/strconv.uint64pow10" .u64 Lib.pow10Tab) :
    Calls Tryd.prog 5 #[.bool s, .slice N ns.length nc, .slice D ([] : List Nat).length dc, .int .i64 n] w (Yes w) := by
  have HT := Lib.hid htab
  have HN := Lib.hid hn
  clear htab hn
  obtain ⟨u, m, hu, hm, hmn, hum, hml, hul⟩ := u64_wrap n HN.out
  obtain ⟨hi, lo, hhi, hlo, hsh, hand, hpar⟩ := u64_parts u hul.out
  have e1 := hu.out
  have e2 := hsh.out
  have e3 := hand.out
  have hd : Hid (decide (n < 0) = false) := decide_eq_false (by omega)
  have hd1 := hd.out
  have hneg : Hid (u = n.natAbs) := by show _ = _; rw [hum.out (by omega)]; exact hmn.out
  go_enter Tryd.func5, Tryd.ntmps5
  go_wp2_with fail
  refine (qawake_yes w HT.out).mono ?_
  rintro e w1 ⟨rfl, hb1⟩
  have hx1 := hx.below hb1
  have hy1 := hy.below hb1
  have hw1 := hb1
  clear hx hy hb1
  go_wp2_with fail
  refine (make_zero s N D nc dc ns _ hx1 ox).mono ?_
  rintro e w2 ⟨rfl, hb2⟩
  have hx2 := hx1.below hb2
  have hy2 := hy1.below hb2
  have hw2 := hw1.trans (hb2.mono hw1.size)
  clear hx1 hy1 hw1 hb2
  go_wp2_with fail
  have kr3 := Blk3.new w2 (.bool false) (.slice none 0 0) (.slice none 0 0)
  have hb3 : Below w2.heap.size w2 (w2.alloc (.cells #[.bool false, .slice none 0 0, .slice none 0 0] 43)) := (Below.refl _ _).alloc (Nat.le_refl _) _
  obtain ⟨w3, hwe⟩ : ∃ x, w2.alloc (.cells #[.bool false, .slice none 0 0, .slice none 0 0] 43) = x := ⟨_, rfl⟩
  rw [hwe] at kr3 hb3 ⊢
  clear hwe
  have hx3 := hx2.below hb3
  have hy3 := hy2.below hb3
  have hw3 := hw2.trans (hb3.mono hw2.size)
  clear hx2 hy2 hw2 hb3
  refine (qfrom n _ HN.out).mono ?_
  rintro e w4 ⟨f, rfl, hf4, hfl1, hfl2, hb4⟩
  have hx4 := hx3.below hb4
  have hy4 := hy3.below hb4
  have kr4 := kr3.below hb4
  have hw4 := hw3.trans (hb4.mono hw3.size)
  clear hx3 hy3 kr3 hw3 hb4
  go_wp2_with fail
  have kf5 := Blk3.new w4 (.bool f.s) (.slice f.N f.ns.length f.nc) (.slice f.D f.ds.length f.dc)
  have hb5 : Below w4.heap.size w4 (w4.alloc (.cells #[.bool f.s, .slice f.N f.ns.length f.nc, .slice f.D f.ds.length f.dc] 43)) := (Below.refl _ _).alloc (Nat.le_refl _) _
  obtain ⟨w5, hwe⟩ : ∃ x, w4.alloc (.cells #[.bool f.s, .slice f.N f.ns.length f.nc, .slice f.D f.ds.length f.dc] 43) = x := ⟨_, rfl⟩
  rw [hwe] at kf5 hb5 ⊢
  clear hwe
  have hx5 := hx4.below hb5
  have hy5 := hy4.below hb5
  have kr5 := kr4.below hb5
  have hf5 := hf4.below hb5
  have hw5 := hw4.trans (hb5.mono hw4.size)
  clear hx4 hy4 kr4 hf4 hw4 hb5
  refine (int_any hi _ (by omega)).mono ?_
  rintro e w6 ⟨H, hc, hl, rfl, hhc, hH6, hb6, hvh, hnh, hlh⟩
  have hx6 := hx5.below hb6
  have hy6 := hy5.below hb6
  have kr6 := kr5.below hb6
  have hf6 := hf5.below hb6
  have kf6 := kf5.below hb6
  have hw6 := hw5.trans (hb6.mono hw5.size)
  clear hx5 hy5 kr5 hf5 kf5 hw5 hb6
  have HVH := Lib.hid hvh
  clear hvh
  go_wp2_with fail
  refine (int_any lo _ (by omega)).mono ?_
  rintro e w7 ⟨L, lc, ll, rfl, hlc, hL7, hb7, hvl, hnl, hll⟩
  have hx7 := hx6.below hb7
  have hy7 := hy6.below hb7
  have kr7 := kr6.below hb7
  have hf7 := hf6.below hb7
  have kf7 := kf6.below hb7
  have hH7 := hH6.below hb7
  have hw7 := hw6.trans (hb7.mono hw6.size)
  clear hx6 hy6 kr6 hf6 kf6 hH6 hw6 hb7
  have HVL := Lib.hid hvl
  clear hvl
  go_wp2_with fail
  refine (two_any 32 _ (by omega)).mono ?_
  rintro e w8 ⟨T, tc, tl, rfl, htc, hT8, hb8, hvt, hnt, hlt⟩
  have hx8 := hx7.below hb8
  have hy8 := hy7.below hb8
  have kr8 := kr7.below hb8
  have hf8 := hf7.below hb8
  have kf8 := kf7.below hb8
  have hH8 := hH7.below hb8
  have hL8 := hL7.below hb8
  have hw8 := hw7.trans (hb8.mono hw7.size)
  clear hx7 hy7 kr7 hf7 kf7 hH7 hL7 hw7 hb8
  have HVT := Lib.hid hvt
  clear hvt
  go_wp2_with fail
  refine (rmul_any H T hc tc hl tl _ hH8 hT8 (by omega) hnh hnt).mono ?_
  rintro e w9 ⟨M, mc, ml, rfl, hmc, hM9, hb9, hvm, hnm, hlm⟩
  have hx9 := hx8.below hb9
  have hy9 := hy8.below hb9
  have kr9 := kr8.below hb9
  have hf9 := hf8.below hb9
  have kf9 := kf8.below hb9
  have hH9 := hH8.below hb9
  have hL9 := hL8.below hb9
  have hT9 := hT8.below hb9
  have hw9 := hw8.trans (hb9.mono hw8.size)
  clear hx8 hy8 kr8 hf8 kf8 hH8 hL8 hT8 hw8 hb9
  have HVM := Lib.hid hvm
  clear hvm
  go_wp2_with fail
  refine (radd_any M L mc lc ml ll _ hM9 hL9 (by omega) (by omega) hnm hnl).mono ?_
  rintro e w10 ⟨Z, zc, zl, rfl, hzc, hZ10, hb10, hvz, hnz, hlz⟩
  have hx10 := hx9.below hb10
  have hy10 := hy9.below hb10
  have kr10 := kr9.below hb10
  have hf10 := hf9.below hb10
  have kf10 := kf9.below hb10
  have hH10 := hH9.below hb10
  have hL10 := hL9.below hb10
  have hT10 := hT9.below hb10
  have hM10 := hM9.below hb10
  have hw10 := hw9.trans (hb10.mono hw9.size)
  clear hx9 hy9 kr9 hf9 kf9 hH9 hL9 hT9 hM9 hw9 hb10
  have HVZ : Hid (VD zl = u) := by show _ = _; rw [hvz, HVM.out, HVL.out, HVH.out, HVT.out]; exact hpar.out.symm
  clear hvz
  have HVY : Hid (VD zl = n.natAbs) := by show _ = _; rw [HVZ.out]; exact hneg.out
  have HQE : Hid (mkRat (sgn false (VD zl)) (VD [1]) = mkRat n 1) := by
    show _ = _
    rw [HVY.out]
    have h := sgn_abs n
    rw [hd.out] at h
    rw [h]; simp [VD, val]
  obtain ⟨f0, f1, f2, f3, f4, f5, f6⟩ := kf10.facts
  go_upto_region 11 with fail
  go_region_held3 (fun w' => w'.cell? ⟨w4.heap.size, 0, none⟩ = some (.bool f.s) ∧ w'.cell? ⟨w4.heap.size, 1, none⟩ = some (.slice f.N f.ns.length f.nc) ∧ w'.cell? ⟨w4.heap.size, 2, none⟩ = some (.slice f.D f.ds.length f.dc)) (first | exact ⟨‹_›, ‹_›, ‹_›⟩ | go_keep)
    (first
    | (go_at_call 26
       refine (rmake false Z (some ⟨w10.heap.size, 0, none⟩) zc 1 zl [1] _ (by first | exact hZ10.alloc _ | exact (hZ10.alloc _).drew | exact hZ10.drew.alloc _) (by first | exact rd_nat1 _ 1 | exact (rd_nat1 _ 1).drew) hnz nm_one (by omega) (by simp) (by simp)).mono ?_
       rintro e wm_ ⟨g, rfl, hg, hg1, hg2, hbm⟩
       rw [HQE.out] at hg
       have hbmq : Below w10.heap.size w10 wm_ := ((Below.refl _ _).alloc (Nat.le_refl _) (.cells #[.int .i64 1] 3)).trans (by first | exact hbm.mono (by simp) | exact (below_of_drew hbm (Nat.le_refl _)).mono (by simp) | exact below_of_drew hbm (by simp))
       obtain ⟨c0, c1, c2, c3, c4, c5, c6⟩ := (kf10.below hbmq).facts)
    | (go_at_call 25
       refine (qis_yes f g (mkRat n 1) _ (hf10.below hbmq) hg (by omega) (by simp at hg2; omega)).mono ?_
       rintro e wi_ ⟨rfl, hbi⟩
       have hbiq : Below w10.heap.size w10 wi_ := hbmq.trans (hbi.mono hbmq.size)
       obtain ⟨d0, d1, d2, d3, d4, d5, d6⟩ := (kf10.below hbiq).facts))
  go_wp2_with fail
  clear f0 f1 f2 f3 f4 f5 f6 c0 c1 c2 c3 c4 c5 c6 d0 d1 d2 d3 d4 d5 d6 hbi hbm hg hbmq e1 e2 e3
  obtain ⟨w11, rfl⟩ : ∃ x, x = wi_ := ⟨_, rfl⟩
  have hx11 := hx10.below hbiq
  have hy11 := hy10.below hbiq
  have kr11 := kr10.below hbiq
  have hf11 := hf10.below hbiq
  have kf11 := kf10.below hbiq
  have hH11 := hH10.below hbiq
  have hL11 := hL10.below hbiq
  have hT11 := hT10.below hbiq
  have hM11 := hM10.below hbiq
  have hZ11 := hZ10.below hbiq
  have hw11 := hw10.trans (hbiq.mono hw10.size)
  clear hx10 hy10 kr10 hf10 kf10 hH10 hL10 hT10 hM10 hZ10 hw10 hbiq
  obtain ⟨f0, f1, f2, f3, f4, f5, f6⟩ := kr11.facts
  refine (rvalid_yes N nc ns _ hx11 ox).mono ?_
  rintro e w' ⟨rfl, rfl⟩
  go_wp2_with fail
  refine (rvalid_yes D dc [] _ hy11 ⟨by simp, nrm_nil⟩).mono ?_
  rintro e w' ⟨rfl, rfl⟩
  go_wp2_with fail
  refine (qnone_yes _).mono ?_
  rintro e wn ⟨rfl, hbn⟩
  go_wp2_with fail
  go_ret
  exact ⟨rfl, hw11.trans (hbn.mono hw11.size)⟩

set_option maxRecDepth 100000 in
set_option maxHeartbeats 3200000 in
theorem makes_ok_p (s : Bool) (N D : Option Addr) (nc dc : Nat) (ns ds : List Nat) (n : Int) (w : World) (hx : Rd .u32 w N ns) (hy : Rd .u32 w D ds) (dx : Dig 4294967296 ns) (dy : Dig 4294967296 ds) (hcd : (ds : List Nat).length ≤ dc) (hl1 : ns.length ≤ 12) (hl2 : (ds : List Nat).length ≤ 12) (ox : Ok ns) (oy : Ok ds) (hpos : 0 < ds.length) (h0 : 0 ≤ n) (hn : -9223372036854775808 ≤ n ∧ n ≤ 9223372036854775807)
    (htab : Lib.TabBelow Tryd.prog w.heap.size w "internal/strconv.uint64pow10" .u64 Lib.pow10Tab) :
    Calls Tryd.prog 5 #[.bool s, .slice N ns.length nc, .slice D (ds : List Nat).length dc, .int .i64 n] w (Yes w) := by
  have HT := Lib.hid htab
  have HN := Lib.hid hn
  clear htab hn
  obtain ⟨u, m, hu, hm, hmn, hum, hml, hul⟩ := u64_wrap n HN.out
  obtain ⟨hi, lo, hhi, hlo, hsh, hand, hpar⟩ := u64_parts u hul.out
  have e1 := hu.out
  have e2 := hsh.out
  have e3 := hand.out
  have hd : Hid (decide (n < 0) = false) := decide_eq_false (by omega)
  have hd1 := hd.out
  have hneg : Hid (u = n.natAbs) := by show _ = _; rw [hum.out (by omega)]; exact hmn.out
  go_enter Tryd.func5, Tryd.ntmps5
  go_wp2_with fail
  refine (qawake_yes w HT.out).mono ?_
  rintro e w1 ⟨rfl, hb1⟩
  have hx1 := hx.below hb1
  have hy1 := hy.below hb1
  have hw1 := hb1
  clear hx hy hb1
  go_wp2_with fail
  refine (make_ok s N D nc dc ns ds _ hx1 hy1 hcd dx dy ox oy hpos).mono ?_
  rintro e w2 ⟨r, rfl, hr2, hrl1, hrl2, hb2⟩
  have hx2 := hx1.below hb2
  have hy2 := hy1.below hb2
  have hw2 := hw1.trans (hb2.mono hw1.size)
  clear hx1 hy1 hw1 hb2
  go_wp2_with fail
  have kr3 := Blk3.new w2 (.bool r.s) (.slice r.N r.ns.length r.nc) (.slice r.D r.ds.length r.dc)
  have hb3 : Below w2.heap.size w2 (w2.alloc (.cells #[.bool r.s, .slice r.N r.ns.length r.nc, .slice r.D r.ds.length r.dc] 43)) := (Below.refl _ _).alloc (Nat.le_refl _) _
  obtain ⟨w3, hwe⟩ : ∃ x, w2.alloc (.cells #[.bool r.s, .slice r.N r.ns.length r.nc, .slice r.D r.ds.length r.dc] 43) = x := ⟨_, rfl⟩
  rw [hwe] at kr3 hb3 ⊢
  clear hwe
  have hx3 := hx2.below hb3
  have hy3 := hy2.below hb3
  have hr3 := hr2.below hb3
  have hw3 := hw2.trans (hb3.mono hw2.size)
  clear hx2 hy2 hr2 hw2 hb3
  refine (qfrom n _ HN.out).mono ?_
  rintro e w4 ⟨f, rfl, hf4, hfl1, hfl2, hb4⟩
  have hx4 := hx3.below hb4
  have hy4 := hy3.below hb4
  have hr4 := hr3.below hb4
  have kr4 := kr3.below hb4
  have hw4 := hw3.trans (hb4.mono hw3.size)
  clear hx3 hy3 hr3 kr3 hw3 hb4
  go_wp2_with fail
  have kf5 := Blk3.new w4 (.bool f.s) (.slice f.N f.ns.length f.nc) (.slice f.D f.ds.length f.dc)
  have hb5 : Below w4.heap.size w4 (w4.alloc (.cells #[.bool f.s, .slice f.N f.ns.length f.nc, .slice f.D f.ds.length f.dc] 43)) := (Below.refl _ _).alloc (Nat.le_refl _) _
  obtain ⟨w5, hwe⟩ : ∃ x, w4.alloc (.cells #[.bool f.s, .slice f.N f.ns.length f.nc, .slice f.D f.ds.length f.dc] 43) = x := ⟨_, rfl⟩
  rw [hwe] at kf5 hb5 ⊢
  clear hwe
  have hx5 := hx4.below hb5
  have hy5 := hy4.below hb5
  have hr5 := hr4.below hb5
  have kr5 := kr4.below hb5
  have hf5 := hf4.below hb5
  have hw5 := hw4.trans (hb5.mono hw4.size)
  clear hx4 hy4 hr4 kr4 hf4 hw4 hb5
  refine (int_any hi _ (by omega)).mono ?_
  rintro e w6 ⟨H, hc, hl, rfl, hhc, hH6, hb6, hvh, hnh, hlh⟩
  have hx6 := hx5.below hb6
  have hy6 := hy5.below hb6
  have hr6 := hr5.below hb6
  have kr6 := kr5.below hb6
  have hf6 := hf5.below hb6
  have kf6 := kf5.below hb6
  have hw6 := hw5.trans (hb6.mono hw5.size)
  clear hx5 hy5 hr5 kr5 hf5 kf5 hw5 hb6
  have HVH := Lib.hid hvh
  clear hvh
  go_wp2_with fail
  refine (int_any lo _ (by omega)).mono ?_
  rintro e w7 ⟨L, lc, ll, rfl, hlc, hL7, hb7, hvl, hnl, hll⟩
  have hx7 := hx6.below hb7
  have hy7 := hy6.below hb7
  have hr7 := hr6.below hb7
  have kr7 := kr6.below hb7
  have hf7 := hf6.below hb7
  have kf7 := kf6.below hb7
  have hH7 := hH6.below hb7
  have hw7 := hw6.trans (hb7.mono hw6.size)
  clear hx6 hy6 hr6 kr6 hf6 kf6 hH6 hw6 hb7
  have HVL := Lib.hid hvl
  clear hvl
  go_wp2_with fail
  refine (two_any 32 _ (by omega)).mono ?_
  rintro e w8 ⟨T, tc, tl, rfl, htc, hT8, hb8, hvt, hnt, hlt⟩
  have hx8 := hx7.below hb8
  have hy8 := hy7.below hb8
  have hr8 := hr7.below hb8
  have kr8 := kr7.below hb8
  have hf8 := hf7.below hb8
  have kf8 := kf7.below hb8
  have hH8 := hH7.below hb8
  have hL8 := hL7.below hb8
  have hw8 := hw7.trans (hb8.mono hw7.size)
  clear hx7 hy7 hr7 kr7 hf7 kf7 hH7 hL7 hw7 hb8
  have HVT := Lib.hid hvt
  clear hvt
  go_wp2_with fail
  refine (rmul_any H T hc tc hl tl _ hH8 hT8 (by omega) hnh hnt).mono ?_
  rintro e w9 ⟨M, mc, ml, rfl, hmc, hM9, hb9, hvm, hnm, hlm⟩
  have hx9 := hx8.below hb9
  have hy9 := hy8.below hb9
  have hr9 := hr8.below hb9
  have kr9 := kr8.below hb9
  have hf9 := hf8.below hb9
  have kf9 := kf8.below hb9
  have hH9 := hH8.below hb9
  have hL9 := hL8.below hb9
  have hT9 := hT8.below hb9
  have hw9 := hw8.trans (hb9.mono hw8.size)
  clear hx8 hy8 hr8 kr8 hf8 kf8 hH8 hL8 hT8 hw8 hb9
  have HVM := Lib.hid hvm
  clear hvm
  go_wp2_with fail
  refine (radd_any M L mc lc ml ll _ hM9 hL9 (by omega) (by omega) hnm hnl).mono ?_
  rintro e w10 ⟨Z, zc, zl, rfl, hzc, hZ10, hb10, hvz, hnz, hlz⟩
  have hx10 := hx9.below hb10
  have hy10 := hy9.below hb10
  have hr10 := hr9.below hb10
  have kr10 := kr9.below hb10
  have hf10 := hf9.below hb10
  have kf10 := kf9.below hb10
  have hH10 := hH9.below hb10
  have hL10 := hL9.below hb10
  have hT10 := hT9.below hb10
  have hM10 := hM9.below hb10
  have hw10 := hw9.trans (hb10.mono hw9.size)
  clear hx9 hy9 hr9 kr9 hf9 kf9 hH9 hL9 hT9 hM9 hw9 hb10
  have HVZ : Hid (VD zl = u) := by show _ = _; rw [hvz, HVM.out, HVL.out, HVH.out, HVT.out]; exact hpar.out.symm
  clear hvz
  have HVY : Hid (VD zl = n.natAbs) := by show _ = _; rw [HVZ.out]; exact hneg.out
  have HQE : Hid (mkRat (sgn false (VD zl)) (VD [1]) = mkRat n 1) := by
    show _ = _
    rw [HVY.out]
    have h := sgn_abs n
    rw [hd.out] at h
    rw [h]; simp [VD, val]
  obtain ⟨f0, f1, f2, f3, f4, f5, f6⟩ := kf10.facts
  go_upto_region 11 with fail
  go_region_held3 (fun w' => w'.cell? ⟨w4.heap.size, 0, none⟩ = some (.bool f.s) ∧ w'.cell? ⟨w4.heap.size, 1, none⟩ = some (.slice f.N f.ns.length f.nc) ∧ w'.cell? ⟨w4.heap.size, 2, none⟩ = some (.slice f.D f.ds.length f.dc)) (first | exact ⟨‹_›, ‹_›, ‹_›⟩ | go_keep)
    (first
    | (go_at_call 26
       refine (rmake false Z (some ⟨w10.heap.size, 0, none⟩) zc 1 zl [1] _ (by first | exact hZ10.alloc _ | exact (hZ10.alloc _).drew | exact hZ10.drew.alloc _) (by first | exact rd_nat1 _ 1 | exact (rd_nat1 _ 1).drew) hnz nm_one (by omega) (by simp) (by simp)).mono ?_
       rintro e wm_ ⟨g, rfl, hg, hg1, hg2, hbm⟩
       rw [HQE.out] at hg
       have hbmq : Below w10.heap.size w10 wm_ := ((Below.refl _ _).alloc (Nat.le_refl _) (.cells #[.int .i64 1] 3)).trans (by first | exact hbm.mono (by simp) | exact (below_of_drew hbm (Nat.le_refl _)).mono (by simp) | exact below_of_drew hbm (by simp))
       obtain ⟨c0, c1, c2, c3, c4, c5, c6⟩ := (kf10.below hbmq).facts)
    | (go_at_call 25
       refine (qis_yes f g (mkRat n 1) _ (hf10.below hbmq) hg (by omega) (by simp at hg2; omega)).mono ?_
       rintro e wi_ ⟨rfl, hbi⟩
       have hbiq : Below w10.heap.size w10 wi_ := hbmq.trans (hbi.mono hbmq.size)
       obtain ⟨d0, d1, d2, d3, d4, d5, d6⟩ := (kf10.below hbiq).facts))
  go_wp2_with fail
  clear f0 f1 f2 f3 f4 f5 f6 c0 c1 c2 c3 c4 c5 c6 d0 d1 d2 d3 d4 d5 d6 hbi hbm hg hbmq e1 e2 e3
  obtain ⟨w11, rfl⟩ : ∃ x, x = wi_ := ⟨_, rfl⟩
  have hx11 := hx10.below hbiq
  have hy11 := hy10.below hbiq
  have hr11 := hr10.below hbiq
  have kr11 := kr10.below hbiq
  have hf11 := hf10.below hbiq
  have kf11 := kf10.below hbiq
  have hH11 := hH10.below hbiq
  have hL11 := hL10.below hbiq
  have hT11 := hT10.below hbiq
  have hM11 := hM10.below hbiq
  have hZ11 := hZ10.below hbiq
  have hw11 := hw10.trans (hbiq.mono hw10.size)
  clear hx10 hy10 hr10 kr10 hf10 kf10 hH10 hL10 hT10 hM10 hZ10 hw10 hbiq
  obtain ⟨f0, f1, f2, f3, f4, f5, f6⟩ := kr11.facts
  refine (rvalid_yes N nc ns _ hx11 ox).mono ?_
  rintro e w' ⟨rfl, rfl⟩
  go_wp2_with fail
  refine (rvalid_yes D dc ds _ hy11 oy).mono ?_
  rintro e w' ⟨rfl, rfl⟩
  go_upto_region 17 with fail
  go_region_held3 (fun w' => w'.cell? ⟨w2.heap.size, 0, none⟩ = some (.bool r.s) ∧ w'.cell? ⟨w2.heap.size, 1, none⟩ = some (.slice r.N r.ns.length r.nc) ∧ w'.cell? ⟨w2.heap.size, 2, none⟩ = some (.slice r.D r.ds.length r.dc)) (first | exact ⟨‹_›, ‹_›, ‹_›⟩ | go_keep)
    (first
    | (go_at_call_of 8 (Value.slice N ns.length nc)
       refine (of_any N nc ns _ (by first | exact hx11 | exact hx11.drew | exact (hx11.below hbyq) | exact (hx11.below hbyq).drew) (by omega) dx).mono ?_
       rintro e wx_ ⟨X, xc, xs, rfl, hxc, hX, hbx, hvx, mx_, hxl⟩
       have HVX := Lib.hid hvx
       clear hvx
       have hbxq : Below w11.heap.size w11 wx_ := by first | exact below_of_drew hbx (Nat.le_refl _) | exact hbx | exact hbyq.trans (hbx.mono hbyq.size) | exact hbyq.trans (below_of_drew hbx hbyq.size)
       obtain ⟨c0wx_, c1wx_, c2wx_, c3wx_, c4wx_, c5wx_, c6wx_⟩ := (kr11.below hbxq).facts)
    | (go_at_call_of 8 (Value.slice D ds.length dc)
       refine (of_any D dc ds _ (by first | exact hy11 | exact hy11.drew | exact (hy11.below hbxq) | exact (hy11.below hbxq).drew) (by omega) dy).mono ?_
       rintro e wy_ ⟨Y, yc, ys, rfl, hyc, hY, hby, hvy, my_, hyl⟩
       have HVY2 := Lib.hid hvy
       clear hvy
       have hbyq : Below w11.heap.size w11 wy_ := by first | exact below_of_drew hby (Nat.le_refl _) | exact hby | exact hbxq.trans (hby.mono hbxq.size) | exact hbxq.trans (below_of_drew hby hbxq.size)
       obtain ⟨c0wy_, c1wy_, c2wy_, c3wy_, c4wy_, c5wy_, c6wy_⟩ := (kr11.below hbyq).facts)
    | (go_at_call 26
       refine (rmake s X Y xc yc xs ys _ (by first | exact hX | exact hX.drew | exact (hX.below hby) | exact (hX.below hby).drew) (by first | exact hY | exact hY.drew | exact (hY.below hbx) | exact (hY.below hbx).drew) mx_ my_ (by omega) (by omega) (by rcases Nat.eq_zero_or_pos ys.length with h | h; (have h3 := V32_pos ⟨dy, oy.2⟩ hpos; rw [← HVY2.out, List.eq_nil_of_length_eq_zero h] at h3; simp [VD, val] at h3); exact h)).mono ?_
       rintro e wm_ ⟨g, rfl, hg, hg1, hg2, hbm⟩
       rw [HVX.out, HVY2.out] at hg
       have hbmq : Below w11.heap.size w11 wm_ := by first | exact below_of_drew hbm (Nat.le_refl _) | exact hbm | exact hbxq.trans (hbm.mono hbxq.size) | exact hbxq.trans (below_of_drew hbm hbxq.size) | exact hbyq.trans (hbm.mono hbyq.size) | exact hbyq.trans (below_of_drew hbm hbyq.size)
       obtain ⟨c0wm_, c1wm_, c2wm_, c3wm_, c4wm_, c5wm_, c6wm_⟩ := (kr11.below hbmq).facts)
    | (go_at_call 25
       refine (qis_yes r g (mkRat (sgn s (V32 ns)) (V32 ds)) _ (hr11.below hbmq) hg (by omega) (by omega)).mono ?_
       rintro e wi_ ⟨rfl, hbi⟩
       have hbiq : Below w11.heap.size w11 wi_ := by first | exact below_of_drew hbi (Nat.le_refl _) | exact hbi | exact hbmq.trans (hbi.mono hbmq.size) | exact hbmq.trans (below_of_drew hbi hbmq.size)
       obtain ⟨c0wi_, c1wi_, c2wi_, c3wi_, c4wi_, c5wi_, c6wi_⟩ := (kr11.below hbiq).facts))
  all_goals
    go_wp2_with fail
    go_ret
    exact ⟨rfl, hw11.trans (hbiq.mono hw11.size)⟩

set_option maxHeartbeats 400000 in
theorem makes_long (s : Bool) (N D : Option Addr) (nc dc : Nat) (ns ds : List Nat) (n : Int) (w : World) (h : 12 < ns.length ∨ (ns.length ≤ 12 ∧ 12 < ds.length))
    (htab : Lib.TabBelow Tryd.prog w.heap.size w "internal/strconv.uint64pow10" .u64 Lib.pow10Tab) :
    Calls Tryd.prog 5 #[.bool s, .slice N ns.length nc, .slice D ds.length dc, .int .i64 n] w (Yes w) := by
  have HT := Lib.hid htab
  clear htab
  rcases h with h | ⟨h, h2⟩
  all_goals
    go_enter Tryd.func5, Tryd.ntmps5
    go_wp2_with fail
    refine (qawake_yes w HT.out).mono ?_
    rintro e w1 ⟨rfl, hb1⟩
    go_wp2
    go_ret
    exact ⟨rfl, hb1⟩

theorem makes_row (s : Bool) (N : Option Addr) (nc : Nat) (ns : List Nat) (D : Option Addr) (dc : Nat) (ds : List Nat) (n : Int) (hn : (Lit.int .i64 n).wf = true) (w : World) (hx : Rd .u32 w N ns) (hy : Rd .u32 w D ds) (dx : Dig 4294967296 ns) (dy : Dig 4294967296 ds) (_ : ns.length ≤ nc) (hcd : ds.length ≤ dc)
    (htab : Lib.TabBelow Tryd.prog w.heap.size w "internal/strconv.uint64pow10" .u64 Lib.pow10Tab) :
    Calls Tryd.prog 5 #[.bool s, .slice N ns.length nc, .slice D ds.length dc, .int .i64 n] w (Yes w) := by
  have hn' : -9223372036854775808 ≤ n ∧ n ≤ 9223372036854775807 := by
    simp [Lit.wf, IntKind.min, IntKind.max, IntKind.signed, IntKind.bits] at hn
    omega
  by_cases hl : ns.length ≤ 12 ∧ ds.length ≤ 12
  · by_cases hok : Ok ns ∧ Ok ds
    · rcases Nat.eq_zero_or_pos ds.length with h0 | h0
      · obtain rfl : ds = [] := List.eq_nil_of_length_eq_zero h0
        by_cases hneg : n < 0
        · exact makes_zero_n s N D nc dc ns n w hx hy dx dy hcd hl.1 hl.2 hok.1 hneg hn' htab
        · exact makes_zero_p s N D nc dc ns n w hx hy dx dy hcd hl.1 hl.2 hok.1 (by omega) hn' htab
      · by_cases hneg : n < 0
        · exact makes_ok_n s N D nc dc ns ds n w hx hy dx dy hcd hl.1 hl.2 hok.1 hok.2 h0 hneg hn' htab
        · exact makes_ok_p s N D nc dc ns ds n w hx hy dx dy hcd hl.1 hl.2 hok.1 hok.2 h0 (by omega) hn' htab
    · by_cases hneg : n < 0
      · exact makes_form_n s N D nc dc ns ds n w hx hy dx dy hcd hl.1 hl.2 hok hneg hn' htab
      · exact makes_form_p s N D nc dc ns ds n w hx hy dx dy hcd hl.1 hl.2 hok (by omega) hn' htab
  · exact makes_long s N D nc dc ns ds n w (by omega) htab
end Go.Proofs.YtllcegiaojchdaaDoor

