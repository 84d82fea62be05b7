/- isochronelaw02.RatRounds answers true for all arguments: the walks. -/
import Derived.Test.YtdonbgjmcbhecaaGreatDoorRMR19
namespace Go.Proofs.YtdonbgjmcbhecaaGreatDoor
open Go.RowKit V
set_option maxRecDepth 100000 in
set_option maxHeartbeats 6400000 in
theorem rounds_no (a : RL) (n : Int) (w : World) (hraw : a.Raw w) (ha : a.Raw w) (hno : ¬ (a.Sm 6 ∧ a.Sm 6 ∧ a.Val ∧ a.Val)) (htab : Lib.TabBelow Tryz.prog w.heap.size w "internal/strconv.uint64pow10" .u64 Lib.pow10Tab) :
    Calls Tryz.prog 5 #[.agg #[.bool a.s, .slice a.N a.ns.length a.nc, .slice a.D a.ds.length a.dc], .int .i64 n] w (Yes w) := by
  have HT := Lib.hid htab
  have HNO := Lib.hid hno
  clear htab hno
  go_enter Tryz.func5, Tryz.ntmps5
  go_wp2_with fail
  have hbox := (⟨Blk3.new w (.bool a.s) (.slice a.N a.ns.length a.nc) (.slice a.D a.ds.length a.dc), (Below.refl _ _).alloc (Nat.le_refl _) _⟩ : _ ∧ Below w.heap.size w (w.alloc (.cells #[.bool a.s, .slice a.N a.ns.length a.nc, .slice a.D a.ds.length a.dc] 24)))
  obtain ⟨w1, hwe⟩ : ∃ x, w.alloc (.cells #[.bool a.s, .slice a.N a.ns.length a.nc, .slice a.D a.ds.length a.dc] 24) = x := ⟨_, rfl⟩
  rw [hwe] at hbox ⊢
  obtain ⟨ka1, hb1⟩ := hbox
  have HWE := Lib.hid hwe
  clear hwe HWE
  have hraw1 := hraw.below hb1
  have ha1 := ha.below hb1
  have hw1 := hb1
  clear hraw ha hb1
  refine (qawake_yes _ (fun w' h => HT.out w' (hw1.trans (h.mono hw1.size)))).mono ?_
  rintro e w2 ⟨rfl, hb2⟩
  have hraw2 := hraw1.below hb2
  have ha2 := ha1.below hb2
  have ka2 := ka1.below hb2
  have hw2 := hw1.trans (hb2.mono hw1.size)
  clear hraw1 ha1 ka1 hw1 hb2
  obtain ⟨a0, a1, a2, a3, a4, a5, a6⟩ := ka2.facts
  go_wp2_with fail
  refine (qsm_no a a 6 _ hraw2 hraw2 HNO.out).mono ?_
  rintro e w3 ⟨rfl, hb3⟩
  have hraw3 := hraw2.below hb3
  have ha3 := ha2.below hb3
  have ka3 := ka2.below hb3
  have hw3 := hw2.trans (hb3.mono hw2.size)
  clear hraw2 ha2 ka2 hw2 hb3
  clear a0 a1 a2 a3 a4 a5 a6
  go_wp2_with fail
  go_ret
  exact ⟨rfl, hw3⟩
set_option maxRecDepth 100000 in
set_option maxHeartbeats 6400000 in
theorem rounds_low (a : RL) (q : Rat) (n : Int) (hr : n < 0) (w : World) (hraw : a.Raw w) (ha : a.Is w q) (l1 : a.ns.length ≤ 6) (l2 : a.ds.length ≤ 6) (hva : Hid a.Val) (htab : Lib.TabBelow Tryz.prog w.heap.size w "internal/strconv.uint64pow10" .u64 Lib.pow10Tab) :
    Calls Tryz.prog 5 #[.agg #[.bool a.s, .slice a.N a.ns.length a.nc, .slice a.D a.ds.length a.dc], .int .i64 n] w (Yes w) := by
  have HT := Lib.hid htab
  have HVA := hva
  clear htab hva
  have HR : Hid (n < 0 ∨ (0 ≤ n ∧ 4000 < n)) := Lib.hid (Or.inl hr)
  go_enter Tryz.func5, Tryz.ntmps5
  go_wp2_with fail
  have hbox := (⟨Blk3.new w (.bool a.s) (.slice a.N a.ns.length a.nc) (.slice a.D a.ds.length a.dc), (Below.refl _ _).alloc (Nat.le_refl _) _⟩ : _ ∧ Below w.heap.size w (w.alloc (.cells #[.bool a.s, .slice a.N a.ns.length a.nc, .slice a.D a.ds.length a.dc] 24)))
  obtain ⟨w1, hwe⟩ : ∃ x, w.alloc (.cells #[.bool a.s, .slice a.N a.ns.length a.nc, .slice a.D a.ds.length a.dc] 24) = x := ⟨_, rfl⟩
  rw [hwe] at hbox ⊢
  obtain ⟨ka1, hb1⟩ := hbox
  have HWE := Lib.hid hwe
  clear hwe HWE
  have hraw1 := hraw.below hb1
  have ha1 := ha.below hb1
  have hw1 := hb1
  clear hraw ha hb1
  refine (qawake_yes _ (fun w' h => HT.out w' (hw1.trans (h.mono hw1.size)))).mono ?_
  rintro e w2 ⟨rfl, hb2⟩
  have hraw2 := hraw1.below hb2
  have ha2 := ha1.below hb2
  have ka2 := ka1.below hb2
  have hw2 := hw1.trans (hb2.mono hw1.size)
  clear hraw1 ha1 ka1 hw1 hb2
  obtain ⟨a0, a1, a2, a3, a4, a5, a6⟩ := ka2.facts
  go_wp2_with fail
  refine (qsm_yes a a 6 _ hraw2 hraw2 ⟨l1, l2⟩ ⟨l1, l2⟩ HVA HVA).mono ?_
  rintro e w3 ⟨rfl, hb3⟩
  have hraw3 := hraw2.below hb3
  have ha3 := ha2.below hb3
  have ka3 := ka2.below hb3
  have hw3 := hw2.trans (hb3.mono hw2.size)
  clear hraw2 ha2 ka2 hw2 hb3
  clear a0 a1 a2 a3 a4 a5 a6
  obtain ⟨a0, a1, a2, a3, a4, a5, a6⟩ := ka3.facts
  go_wp2_with fail
  refine (qof a q _ ha3 (by omega) (by omega)).mono ?_
  rintro e w4 ⟨u, rfl, hx4, hxa, hxb, hb4⟩
  have hraw4 := hraw3.below hb4
  have ha4 := ha3.below hb4
  have ka4 := ka3.below hb4
  have hw4 := hw3.trans (hb4.mono hw3.size)
  clear hraw3 ha3 ka3 hw3 hb4
  clear a0 a1 a2 a3 a4 a5 a6
  go_upto_region 6 with fail
  have kx5 := BlkT.new 30 w4 (.bool u.s) (.slice u.N u.ns.length u.nc) (.slice u.D u.ds.length u.dc)
  have hb5 : Below w4.heap.size w4 (w4.alloc (.cells #[.bool u.s, .slice u.N u.ns.length u.nc, .slice u.D u.ds.length u.dc] 30)) := (Below.refl _ _).alloc (Nat.le_refl _) _
  obtain ⟨w5, hwe⟩ : ∃ x, w4.alloc (.cells #[.bool u.s, .slice u.N u.ns.length u.nc, .slice u.D u.ds.length u.dc] 30) = x := ⟨_, rfl⟩
  rw [hwe] at kx5 hb5 ⊢
  clear hwe
  have hraw5 := hraw4.below hb5
  have ha5 := ha4.below hb5
  have ka5 := ka4.below hb5
  have hx5 := hx4.below hb5
  have hw5 := hw4.trans (hb5.mono hw4.size)
  clear hraw4 ha4 ka4 hx4 hw4 hb5
  obtain ⟨a0, a1, a2, a3, a4, a5, a6⟩ := ka5.facts
  go_wp2_with fail
  refine (qfloor_ok a q _ ha5 l1 l2).mono ?_
  rintro e w6 ⟨f, rfl, hf6, hfa, hfb, hb6⟩
  have hraw6 := hraw5.below hb6
  have ha6 := ha5.below hb6
  have ka6 := ka5.below hb6
  have hx6 := hx5.below hb6
  have kx6 := kx5.below hb6
  have hw6 := hw5.trans (hb6.mono hw5.size)
  clear hraw5 ha5 ka5 hx5 kx5 hw5 hb6
  clear a0 a1 a2 a3 a4 a5 a6
  go_upto_region 7 with fail
  have kf7 := Blk3.new w6 (.bool f.s) (.slice f.N f.ns.length f.nc) (.slice f.D f.ds.length f.dc)
  have hb7 : Below w6.heap.size w6 (w6.alloc (.cells #[.bool f.s, .slice f.N f.ns.length f.nc, .slice f.D f.ds.length f.dc] 24)) := (Below.refl _ _).alloc (Nat.le_refl _) _
  obtain ⟨w7, hwe⟩ : ∃ x, w6.alloc (.cells #[.bool f.s, .slice f.N f.ns.length f.nc, .slice f.D f.ds.length f.dc] 24) = x := ⟨_, rfl⟩
  rw [hwe] at kf7 hb7 ⊢
  clear hwe
  have hraw7 := hraw6.below hb7
  have ha7 := ha6.below hb7
  have ka7 := ka6.below hb7
  have hx7 := hx6.below hb7
  have kx7 := kx6.below hb7
  have hf7 := hf6.below hb7
  have hw7 := hw6.trans (hb7.mono hw6.size)
  clear hraw6 ha6 ka6 hx6 kx6 hf6 hw6 hb7
  obtain ⟨a0, a1, a2, a3, a4, a5, a6⟩ := ka7.facts
  go_wp2_with fail
  refine (qdown_range a q n HR.out _ ha7 l1 l2).mono ?_
  rintro e w8 ⟨rfl, hb8⟩
  have hraw8 := hraw7.below hb8
  have ha8 := ha7.below hb8
  have ka8 := ka7.below hb8
  have hx8 := hx7.below hb8
  have kx8 := kx7.below hb8
  have hf8 := hf7.below hb8
  have kf8 := kf7.below hb8
  have hw8 := hw7.trans (hb8.mono hw7.size)
  clear hraw7 ha7 ka7 hx7 kx7 hf7 kf7 hw7 hb8
  clear a0 a1 a2 a3 a4 a5 a6
  go_upto_region 8 with fail
  have kd9 := Blk3.new w8 (.bool false) (.slice none 0 0) (.slice none 0 0)
  have hb9 : Below w8.heap.size w8 (w8.alloc (.cells #[.bool false, .slice none 0 0, .slice none 0 0] 24)) := (Below.refl _ _).alloc (Nat.le_refl _) _
  obtain ⟨w9, hwe⟩ : ∃ x, w8.alloc (.cells #[.bool false, .slice none 0 0, .slice none 0 0] 24) = x := ⟨_, rfl⟩
  rw [hwe] at kd9 hb9 ⊢
  clear hwe
  have hraw9 := hraw8.below hb9
  have ha9 := ha8.below hb9
  have ka9 := ka8.below hb9
  have hx9 := hx8.below hb9
  have kx9 := kx8.below hb9
  have hf9 := hf8.below hb9
  have kf9 := kf8.below hb9
  have hw9 := hw8.trans (hb9.mono hw8.size)
  clear hraw8 ha8 ka8 hx8 kx8 hf8 kf8 hw8 hb9
  obtain ⟨a0, a1, a2, a3, a4, a5, a6⟩ := ka9.facts
  go_wp2_with fail
  refine (qup_range a q n HR.out _ ha9 l1 l2).mono ?_
  rintro e w10 ⟨rfl, hb10⟩
  have hraw10 := hraw9.below hb10
  have ha10 := ha9.below hb10
  have ka10 := ka9.below hb10
  have hx10 := hx9.below hb10
  have kx10 := kx9.below hb10
  have hf10 := hf9.below hb10
  have kf10 := kf9.below hb10
  have kd10 := kd9.below hb10
  have hw10 := hw9.trans (hb10.mono hw9.size)
  clear hraw9 ha9 ka9 hx9 kx9 hf9 kf9 kd9 hw9 hb10
  clear a0 a1 a2 a3 a4 a5 a6
  go_upto_region 9 with fail
  have kv11 := Blk3.new w10 (.bool false) (.slice none 0 0) (.slice none 0 0)
  have hb11 : Below w10.heap.size w10 (w10.alloc (.cells #[.bool false, .slice none 0 0, .slice none 0 0] 24)) := (Below.refl _ _).alloc (Nat.le_refl _) _
  obtain ⟨w11, hwe⟩ : ∃ x, w10.alloc (.cells #[.bool false, .slice none 0 0, .slice none 0 0] 24) = x := ⟨_, rfl⟩
  rw [hwe] at kv11 hb11 ⊢
  clear hwe
  have hraw11 := hraw10.below hb11
  have ha11 := ha10.below hb11
  have ka11 := ka10.below hb11
  have hx11 := hx10.below hb11
  have kx11 := kx10.below hb11
  have hf11 := hf10.below hb11
  have kf11 := kf10.below hb11
  have kd11 := kd10.below hb11
  have hw11 := hw10.trans (hb11.mono hw10.size)
  clear hraw10 ha10 ka10 hx10 kx10 hf10 kf10 kd10 hw10 hb11
  have HF0 : Hid (mkRat (sgn u.s (rnd (VD u.ns) (VD u.ds) u.s)) 1 = (mkRat (sgn a.s (rnd (V32 a.ns * 2 ^ 0) (V32 a.ds) (false != a.s))) (2 ^ 0))) := Lib.hid (rq0 ha11.q hx11.q)
  obtain ⟨f0, f1, f2, f3, f4, f5, f6⟩ := kf11.facts
  obtain ⟨x0, x1, x2, x3, x4, x5, x6⟩ := kx11.facts
  go_cut [48] (fun s48 wx => s48 = .bool false ∧ Below w11.heap.size w11 wx)
  case first =>
    go_region_held3 (fun w' => w'.cell? ⟨w6.heap.size, 0, none⟩ = some (.bool f.s) ∧ w'.cell? ⟨w6.heap.size, 1, none⟩ = some (.slice f.N f.ns.length f.nc) ∧ w'.cell? ⟨w6.heap.size, 2, none⟩ = some (.slice f.D f.ds.length f.dc) ∧ w'.cell? ⟨w4.heap.size, 0, none⟩ = some (.bool u.s) ∧ w'.cell? ⟨w4.heap.size, 1, none⟩ = some (.slice u.N u.ns.length u.nc) ∧ w'.cell? ⟨w4.heap.size, 2, none⟩ = some (.slice u.D u.ds.length u.dc)) (first | exact ⟨‹_›, ‹_›, ‹_›, ‹_›, ‹_›, ‹_›⟩ | go_keep)
      (first
      | (go_at_call 42
         refine (rfloor u q _ (by first | exact hx11 | exact hx11.drew | exact hx11.alloc _ | exact (hx11.alloc _).drew | exact hx11.drew.alloc _) (by omega)).mono ?_
         rintro e wl_ ⟨y, rfl, hy, hya, hyb, hby⟩
         rw [HF0.out] at hy
         have hbp0 : Below w11.heap.size w11 wl_ := by first | exact hby | exact below_of_drew hby (Nat.le_refl _) | exact ((Below.refl _ _).alloc (Nat.le_refl _) _).trans (hby.mono (by simp)) | exact ((Below.refl _ _).alloc (Nat.le_refl _) _).trans ((below_of_drew hby (Nat.le_refl _)).mono (by simp)) | exact below_of_drew (((Below.refl _ _).alloc (Nat.le_refl _) _).trans (hby.mono (by simp))) (Nat.le_refl _)
         have hf_0 := hf11.below hbp0
         have hx_0 := hx11.below hbp0
         have kf_0 := kf11.below hbp0
         obtain ⟨kf0wl_, kf1wl_, kf2wl_, kf3wl_, kf4wl_, kf5wl_, kf6wl_⟩ := kf_0.facts
         have kx_0 := kx11.below hbp0
         obtain ⟨kx0wl_, kx1wl_, kx2wl_, kx3wl_, kx4wl_, kx5wl_, kx6wl_⟩ := kx_0.facts
         have hwq0 := hw11.trans (hbp0.mono hw11.size))
      | (go_at_call 26
         refine (qis_yes f y _ _ (by first | exact hf_0 | exact hf_0.drew | exact hf_0.alloc _ | exact (hf_0.alloc _).drew | exact hf_0.drew.alloc _) (by first | exact hy | exact hy.drew | exact hy.alloc _ | exact (hy.alloc _).drew | exact hy.drew.alloc _) (by omega) (by omega)).mono ?_
         rintro e wi_ ⟨rfl, hbi⟩
         have hbp1 : Below wl_.heap.size wl_ wi_ := by first | exact hbi | exact below_of_drew hbi (Nat.le_refl _) | exact ((Below.refl _ _).alloc (Nat.le_refl _) _).trans (hbi.mono (by simp)) | exact ((Below.refl _ _).alloc (Nat.le_refl _) _).trans ((below_of_drew hbi (Nat.le_refl _)).mono (by simp)) | exact below_of_drew (((Below.refl _ _).alloc (Nat.le_refl _) _).trans (hbi.mono (by simp))) (Nat.le_refl _)
         have hf_1 := hf_0.below hbp1
         have hx_1 := hx_0.below hbp1
         have hy_1 := hy.below hbp1
         have kf_1 := kf_0.below hbp1
         obtain ⟨kf0wi_, kf1wi_, kf2wi_, kf3wi_, kf4wi_, kf5wi_, kf6wi_⟩ := kf_1.facts
         have kx_1 := kx_0.below hbp1
         obtain ⟨kx0wi_, kx1wi_, kx2wi_, kx3wi_, kx4wi_, kx5wi_, kx6wi_⟩ := kx_1.facts
         have hwq1 := hwq0.trans (hbp1.mono hwq0.size)))
    all_goals
      go_wp2_with fail
      go_meet
      exact ⟨rfl, hbp0.trans (hbp1.mono hbp0.size)⟩
  clear f0 f1 f2 f3 f4 f5 f6
  clear x0 x1 x2 x3 x4 x5 x6
  obtain ⟨w12, rfl⟩ : ∃ x, x = wc := ⟨_, rfl⟩
  obtain ⟨rfl, hb12⟩ := hcut
  have hraw12 := hraw11.below hb12
  have ha12 := ha11.below hb12
  have ka12 := ka11.below hb12
  have hx12 := hx11.below hb12
  have kx12 := kx11.below hb12
  have hf12 := hf11.below hb12
  have kf12 := kf11.below hb12
  have kd12 := kd11.below hb12
  have kv12 := kv11.below hb12
  have hw12 := hw11.trans (hb12.mono hw11.size)
  clear hraw11 ha11 ka11 hx11 kx11 hf11 kf11 kd11 kv11 hw11 hb12
  obtain ⟨d0, d1, d2, d3, d4, d5, d6⟩ := kd12.facts
  go_wp2_with fail
  refine (qnone_yes _).mono ?_
  rintro e w13 ⟨rfl, hb13⟩
  have hraw13 := hraw12.below hb13
  have ha13 := ha12.below hb13
  have ka13 := ka12.below hb13
  have hx13 := hx12.below hb13
  have kx13 := kx12.below hb13
  have hf13 := hf12.below hb13
  have kf13 := kf12.below hb13
  have kd13 := kd12.below hb13
  have kv13 := kv12.below hb13
  have hw13 := hw12.trans (hb13.mono hw12.size)
  clear hraw12 ha12 ka12 hx12 kx12 hf12 kf12 kd12 kv12 hw12 hb13
  clear d0 d1 d2 d3 d4 d5 d6
  obtain ⟨v0, v1, v2, v3, v4, v5, v6⟩ := kv13.facts
  go_wp2_with fail
  refine (qnone_yes _).mono ?_
  rintro e w14 ⟨rfl, hb14⟩
  have hraw14 := hraw13.below hb14
  have ha14 := ha13.below hb14
  have ka14 := ka13.below hb14
  have hx14 := hx13.below hb14
  have kx14 := kx13.below hb14
  have hf14 := hf13.below hb14
  have kf14 := kf13.below hb14
  have kd14 := kd13.below hb14
  have kv14 := kv13.below hb14
  have hw14 := hw13.trans (hb14.mono hw13.size)
  clear hraw13 ha13 ka13 hx13 kx13 hf13 kf13 kd13 kv13 hw13 hb14
  clear v0 v1 v2 v3 v4 v5 v6
  go_wp2_with (go_quiet (fail))
  go_ret
  exact ⟨rfl, hw14⟩
set_option maxRecDepth 100000 in
set_option maxHeartbeats 6400000 in
theorem rounds_high (a : RL) (q : Rat) (n : Int) (hr : 4000 < n) (w : World) (hraw : a.Raw w) (ha : a.Is w q) (l1 : a.ns.length ≤ 6) (l2 : a.ds.length ≤ 6) (hva : Hid a.Val) (htab : Lib.TabBelow Tryz.prog w.heap.size w "internal/strconv.uint64pow10" .u64 Lib.pow10Tab) :
    Calls Tryz.prog 5 #[.agg #[.bool a.s, .slice a.N a.ns.length a.nc, .slice a.D a.ds.length a.dc], .int .i64 n] w (Yes w) := by
  have HT := Lib.hid htab
  have HVA := hva
  clear htab hva
  have HR : Hid (n < 0 ∨ (0 ≤ n ∧ 4000 < n)) := Lib.hid (Or.inr ⟨by omega, hr⟩)
  go_enter Tryz.func5, Tryz.ntmps5
  go_wp2_with fail
  have hbox := (⟨Blk3.new w (.bool a.s) (.slice a.N a.ns.length a.nc) (.slice a.D a.ds.length a.dc), (Below.refl _ _).alloc (Nat.le_refl _) _⟩ : _ ∧ Below w.heap.size w (w.alloc (.cells #[.bool a.s, .slice a.N a.ns.length a.nc, .slice a.D a.ds.length a.dc] 24)))
  obtain ⟨w1, hwe⟩ : ∃ x, w.alloc (.cells #[.bool a.s, .slice a.N a.ns.length a.nc, .slice a.D a.ds.length a.dc] 24) = x := ⟨_, rfl⟩
  rw [hwe] at hbox ⊢
  obtain ⟨ka1, hb1⟩ := hbox
  have HWE := Lib.hid hwe
  clear hwe HWE
  have hraw1 := hraw.below hb1
  have ha1 := ha.below hb1
  have hw1 := hb1
  clear hraw ha hb1
  refine (qawake_yes _ (fun w' h => HT.out w' (hw1.trans (h.mono hw1.size)))).mono ?_
  rintro e w2 ⟨rfl, hb2⟩
  have hraw2 := hraw1.below hb2
  have ha2 := ha1.below hb2
  have ka2 := ka1.below hb2
  have hw2 := hw1.trans (hb2.mono hw1.size)
  clear hraw1 ha1 ka1 hw1 hb2
  obtain ⟨a0, a1, a2, a3, a4, a5, a6⟩ := ka2.facts
  go_wp2_with fail
  refine (qsm_yes a a 6 _ hraw2 hraw2 ⟨l1, l2⟩ ⟨l1, l2⟩ HVA HVA).mono ?_
  rintro e w3 ⟨rfl, hb3⟩
  have hraw3 := hraw2.below hb3
  have ha3 := ha2.below hb3
  have ka3 := ka2.below hb3
  have hw3 := hw2.trans (hb3.mono hw2.size)
  clear hraw2 ha2 ka2 hw2 hb3
  clear a0 a1 a2 a3 a4 a5 a6
  obtain ⟨a0, a1, a2, a3, a4, a5, a6⟩ := ka3.facts
  go_wp2_with fail
  refine (qof a q _ ha3 (by omega) (by omega)).mono ?_
  rintro e w4 ⟨u, rfl, hx4, hxa, hxb, hb4⟩
  have hraw4 := hraw3.below hb4
  have ha4 := ha3.below hb4
  have ka4 := ka3.below hb4
  have hw4 := hw3.trans (hb4.mono hw3.size)
  clear hraw3 ha3 ka3 hw3 hb4
  clear a0 a1 a2 a3 a4 a5 a6
  go_upto_region 6 with fail
  have kx5 := BlkT.new 30 w4 (.bool u.s) (.slice u.N u.ns.length u.nc) (.slice u.D u.ds.length u.dc)
  have hb5 : Below w4.heap.size w4 (w4.alloc (.cells #[.bool u.s, .slice u.N u.ns.length u.nc, .slice u.D u.ds.length u.dc] 30)) := (Below.refl _ _).alloc (Nat.le_refl _) _
  obtain ⟨w5, hwe⟩ : ∃ x, w4.alloc (.cells #[.bool u.s, .slice u.N u.ns.length u.nc, .slice u.D u.ds.length u.dc] 30) = x := ⟨_, rfl⟩
  rw [hwe] at kx5 hb5 ⊢
  clear hwe
  have hraw5 := hraw4.below hb5
  have ha5 := ha4.below hb5
  have ka5 := ka4.below hb5
  have hx5 := hx4.below hb5
  have hw5 := hw4.trans (hb5.mono hw4.size)
  clear hraw4 ha4 ka4 hx4 hw4 hb5
  obtain ⟨a0, a1, a2, a3, a4, a5, a6⟩ := ka5.facts
  go_wp2_with fail
  refine (qfloor_ok a q _ ha5 l1 l2).mono ?_
  rintro e w6 ⟨f, rfl, hf6, hfa, hfb, hb6⟩
  have hraw6 := hraw5.below hb6
  have ha6 := ha5.below hb6
  have ka6 := ka5.below hb6
  have hx6 := hx5.below hb6
  have kx6 := kx5.below hb6
  have hw6 := hw5.trans (hb6.mono hw5.size)
  clear hraw5 ha5 ka5 hx5 kx5 hw5 hb6
  clear a0 a1 a2 a3 a4 a5 a6
  go_upto_region 7 with fail
  have kf7 := Blk3.new w6 (.bool f.s) (.slice f.N f.ns.length f.nc) (.slice f.D f.ds.length f.dc)
  have hb7 : Below w6.heap.size w6 (w6.alloc (.cells #[.bool f.s, .slice f.N f.ns.length f.nc, .slice f.D f.ds.length f.dc] 24)) := (Below.refl _ _).alloc (Nat.le_refl _) _
  obtain ⟨w7, hwe⟩ : ∃ x, w6.alloc (.cells #[.bool f.s, .slice f.N f.ns.length f.nc, .slice f.D f.ds.length f.dc] 24) = x := ⟨_, rfl⟩
  rw [hwe] at kf7 hb7 ⊢
  clear hwe
  have hraw7 := hraw6.below hb7
  have ha7 := ha6.below hb7
  have ka7 := ka6.below hb7
  have hx7 := hx6.below hb7
  have kx7 := kx6.below hb7
  have hf7 := hf6.below hb7
  have hw7 := hw6.trans (hb7.mono hw6.size)
  clear hraw6 ha6 ka6 hx6 kx6 hf6 hw6 hb7
  obtain ⟨a0, a1, a2, a3, a4, a5, a6⟩ := ka7.facts
  go_wp2_with fail
  refine (qdown_range a q n HR.out _ ha7 l1 l2).mono ?_
  rintro e w8 ⟨rfl, hb8⟩
  have hraw8 := hraw7.below hb8
  have ha8 := ha7.below hb8
  have ka8 := ka7.below hb8
  have hx8 := hx7.below hb8
  have kx8 := kx7.below hb8
  have hf8 := hf7.below hb8
  have kf8 := kf7.below hb8
  have hw8 := hw7.trans (hb8.mono hw7.size)
  clear hraw7 ha7 ka7 hx7 kx7 hf7 kf7 hw7 hb8
  clear a0 a1 a2 a3 a4 a5 a6
  go_upto_region 8 with fail
  have kd9 := Blk3.new w8 (.bool false) (.slice none 0 0) (.slice none 0 0)
  have hb9 : Below w8.heap.size w8 (w8.alloc (.cells #[.bool false, .slice none 0 0, .slice none 0 0] 24)) := (Below.refl _ _).alloc (Nat.le_refl _) _
  obtain ⟨w9, hwe⟩ : ∃ x, w8.alloc (.cells #[.bool false, .slice none 0 0, .slice none 0 0] 24) = x := ⟨_, rfl⟩
  rw [hwe] at kd9 hb9 ⊢
  clear hwe
  have hraw9 := hraw8.below hb9
  have ha9 := ha8.below hb9
  have ka9 := ka8.below hb9
  have hx9 := hx8.below hb9
  have kx9 := kx8.below hb9
  have hf9 := hf8.below hb9
  have kf9 := kf8.below hb9
  have hw9 := hw8.trans (hb9.mono hw8.size)
  clear hraw8 ha8 ka8 hx8 kx8 hf8 kf8 hw8 hb9
  obtain ⟨a0, a1, a2, a3, a4, a5, a6⟩ := ka9.facts
  go_wp2_with fail
  refine (qup_range a q n HR.out _ ha9 l1 l2).mono ?_
  rintro e w10 ⟨rfl, hb10⟩
  have hraw10 := hraw9.below hb10
  have ha10 := ha9.below hb10
  have ka10 := ka9.below hb10
  have hx10 := hx9.below hb10
  have kx10 := kx9.below hb10
  have hf10 := hf9.below hb10
  have kf10 := kf9.below hb10
  have kd10 := kd9.below hb10
  have hw10 := hw9.trans (hb10.mono hw9.size)
  clear hraw9 ha9 ka9 hx9 kx9 hf9 kf9 kd9 hw9 hb10
  clear a0 a1 a2 a3 a4 a5 a6
  go_upto_region 9 with fail
  have kv11 := Blk3.new w10 (.bool false) (.slice none 0 0) (.slice none 0 0)
  have hb11 : Below w10.heap.size w10 (w10.alloc (.cells #[.bool false, .slice none 0 0, .slice none 0 0] 24)) := (Below.refl _ _).alloc (Nat.le_refl _) _
  obtain ⟨w11, hwe⟩ : ∃ x, w10.alloc (.cells #[.bool false, .slice none 0 0, .slice none 0 0] 24) = x := ⟨_, rfl⟩
  rw [hwe] at kv11 hb11 ⊢
  clear hwe
  have hraw11 := hraw10.below hb11
  have ha11 := ha10.below hb11
  have ka11 := ka10.below hb11
  have hx11 := hx10.below hb11
  have kx11 := kx10.below hb11
  have hf11 := hf10.below hb11
  have kf11 := kf10.below hb11
  have kd11 := kd10.below hb11
  have hw11 := hw10.trans (hb11.mono hw10.size)
  clear hraw10 ha10 ka10 hx10 kx10 hf10 kf10 kd10 hw10 hb11
  have HF0 : Hid (mkRat (sgn u.s (rnd (VD u.ns) (VD u.ds) u.s)) 1 = (mkRat (sgn a.s (rnd (V32 a.ns * 2 ^ 0) (V32 a.ds) (false != a.s))) (2 ^ 0))) := Lib.hid (rq0 ha11.q hx11.q)
  obtain ⟨f0, f1, f2, f3, f4, f5, f6⟩ := kf11.facts
  obtain ⟨x0, x1, x2, x3, x4, x5, x6⟩ := kx11.facts
  go_cut [48] (fun s48 wx => s48 = .bool false ∧ Below w11.heap.size w11 wx)
  case first =>
    go_region_held3 (fun w' => w'.cell? ⟨w6.heap.size, 0, none⟩ = some (.bool f.s) ∧ w'.cell? ⟨w6.heap.size, 1, none⟩ = some (.slice f.N f.ns.length f.nc) ∧ w'.cell? ⟨w6.heap.size, 2, none⟩ = some (.slice f.D f.ds.length f.dc) ∧ w'.cell? ⟨w4.heap.size, 0, none⟩ = some (.bool u.s) ∧ w'.cell? ⟨w4.heap.size, 1, none⟩ = some (.slice u.N u.ns.length u.nc) ∧ w'.cell? ⟨w4.heap.size, 2, none⟩ = some (.slice u.D u.ds.length u.dc)) (first | exact ⟨‹_›, ‹_›, ‹_›, ‹_›, ‹_›, ‹_›⟩ | go_keep)
      (first
      | (go_at_call 42
         refine (rfloor u q _ (by first | exact hx11 | exact hx11.drew | exact hx11.alloc _ | exact (hx11.alloc _).drew | exact hx11.drew.alloc _) (by omega)).mono ?_
         rintro e wl_ ⟨y, rfl, hy, hya, hyb, hby⟩
         rw [HF0.out] at hy
         have hbp0 : Below w11.heap.size w11 wl_ := by first | exact hby | exact below_of_drew hby (Nat.le_refl _) | exact ((Below.refl _ _).alloc (Nat.le_refl _) _).trans (hby.mono (by simp)) | exact ((Below.refl _ _).alloc (Nat.le_refl _) _).trans ((below_of_drew hby (Nat.le_refl _)).mono (by simp)) | exact below_of_drew (((Below.refl _ _).alloc (Nat.le_refl _) _).trans (hby.mono (by simp))) (Nat.le_refl _)
         have hf_0 := hf11.below hbp0
         have hx_0 := hx11.below hbp0
         have kf_0 := kf11.below hbp0
         obtain ⟨kf0wl_, kf1wl_, kf2wl_, kf3wl_, kf4wl_, kf5wl_, kf6wl_⟩ := kf_0.facts
         have kx_0 := kx11.below hbp0
         obtain ⟨kx0wl_, kx1wl_, kx2wl_, kx3wl_, kx4wl_, kx5wl_, kx6wl_⟩ := kx_0.facts
         have hwq0 := hw11.trans (hbp0.mono hw11.size))
      | (go_at_call 26
         refine (qis_yes f y _ _ (by first | exact hf_0 | exact hf_0.drew | exact hf_0.alloc _ | exact (hf_0.alloc _).drew | exact hf_0.drew.alloc _) (by first | exact hy | exact hy.drew | exact hy.alloc _ | exact (hy.alloc _).drew | exact hy.drew.alloc _) (by omega) (by omega)).mono ?_
         rintro e wi_ ⟨rfl, hbi⟩
         have hbp1 : Below wl_.heap.size wl_ wi_ := by first | exact hbi | exact below_of_drew hbi (Nat.le_refl _) | exact ((Below.refl _ _).alloc (Nat.le_refl _) _).trans (hbi.mono (by simp)) | exact ((Below.refl _ _).alloc (Nat.le_refl _) _).trans ((below_of_drew hbi (Nat.le_refl _)).mono (by simp)) | exact below_of_drew (((Below.refl _ _).alloc (Nat.le_refl _) _).trans (hbi.mono (by simp))) (Nat.le_refl _)
         have hf_1 := hf_0.below hbp1
         have hx_1 := hx_0.below hbp1
         have hy_1 := hy.below hbp1
         have kf_1 := kf_0.below hbp1
         obtain ⟨kf0wi_, kf1wi_, kf2wi_, kf3wi_, kf4wi_, kf5wi_, kf6wi_⟩ := kf_1.facts
         have kx_1 := kx_0.below hbp1
         obtain ⟨kx0wi_, kx1wi_, kx2wi_, kx3wi_, kx4wi_, kx5wi_, kx6wi_⟩ := kx_1.facts
         have hwq1 := hwq0.trans (hbp1.mono hwq0.size)))
    all_goals
      go_wp2_with fail
      go_meet
      exact ⟨rfl, hbp0.trans (hbp1.mono hbp0.size)⟩
  clear f0 f1 f2 f3 f4 f5 f6
  clear x0 x1 x2 x3 x4 x5 x6
  obtain ⟨w12, rfl⟩ : ∃ x, x = wc := ⟨_, rfl⟩
  obtain ⟨rfl, hb12⟩ := hcut
  have hraw12 := hraw11.below hb12
  have ha12 := ha11.below hb12
  have ka12 := ka11.below hb12
  have hx12 := hx11.below hb12
  have kx12 := kx11.below hb12
  have hf12 := hf11.below hb12
  have kf12 := kf11.below hb12
  have kd12 := kd11.below hb12
  have kv12 := kv11.below hb12
  have hw12 := hw11.trans (hb12.mono hw11.size)
  clear hraw11 ha11 ka11 hx11 kx11 hf11 kf11 kd11 kv11 hw11 hb12
  obtain ⟨d0, d1, d2, d3, d4, d5, d6⟩ := kd12.facts
  go_wp2_with fail
  refine (qnone_yes _).mono ?_
  rintro e w13 ⟨rfl, hb13⟩
  have hraw13 := hraw12.below hb13
  have ha13 := ha12.below hb13
  have ka13 := ka12.below hb13
  have hx13 := hx12.below hb13
  have kx13 := kx12.below hb13
  have hf13 := hf12.below hb13
  have kf13 := kf12.below hb13
  have kd13 := kd12.below hb13
  have kv13 := kv12.below hb13
  have hw13 := hw12.trans (hb13.mono hw12.size)
  clear hraw12 ha12 ka12 hx12 kx12 hf12 kf12 kd12 kv12 hw12 hb13
  clear d0 d1 d2 d3 d4 d5 d6
  obtain ⟨v0, v1, v2, v3, v4, v5, v6⟩ := kv13.facts
  go_wp2_with fail
  refine (qnone_yes _).mono ?_
  rintro e w14 ⟨rfl, hb14⟩
  have hraw14 := hraw13.below hb14
  have ha14 := ha13.below hb14
  have ka14 := ka13.below hb14
  have hx14 := hx13.below hb14
  have kx14 := kx13.below hb14
  have hf14 := hf13.below hb14
  have kf14 := kf13.below hb14
  have kd14 := kd13.below hb14
  have kv14 := kv13.below hb14
  have hw14 := hw13.trans (hb14.mono hw13.size)
  clear hraw13 ha13 ka13 hx13 kx13 hf13 kf13 kd13 kv13 hw13 hb14
  clear v0 v1 v2 v3 v4 v5 v6
  go_wp2_with (go_quiet (fail))
  go_ret
  exact ⟨rfl, hw14⟩
set_option maxRecDepth 100000 in
set_option maxHeartbeats 6400000 in
theorem rounds_far (a : RL) (q : Rat) (k : Nat) (hk : k ≤ 4000) (hk2 : 200 < k) (w : World) (hraw : a.Raw w) (ha : a.Is w q) (l1 : a.ns.length ≤ 6) (l2 : a.ds.length ≤ 6) (hva : Hid a.Val) (htab : Lib.TabBelow Tryz.prog w.heap.size w "internal/strconv.uint64pow10" .u64 Lib.pow10Tab) :
    Calls Tryz.prog 5 #[.agg #[.bool a.s, .slice a.N a.ns.length a.nc, .slice a.D a.ds.length a.dc], .int .i64 k] w (Yes w) := by
  have HT := Lib.hid htab
  have HVA := hva
  clear htab hva
  go_enter Tryz.func5, Tryz.ntmps5
  go_wp2_with fail
  have hbox := (⟨Blk3.new w (.bool a.s) (.slice a.N a.ns.length a.nc) (.slice a.D a.ds.length a.dc), (Below.refl _ _).alloc (Nat.le_refl _) _⟩ : _ ∧ Below w.heap.size w (w.alloc (.cells #[.bool a.s, .slice a.N a.ns.length a.nc, .slice a.D a.ds.length a.dc] 24)))
  obtain ⟨w1, hwe⟩ : ∃ x, w.alloc (.cells #[.bool a.s, .slice a.N a.ns.length a.nc, .slice a.D a.ds.length a.dc] 24) = x := ⟨_, rfl⟩
  rw [hwe] at hbox ⊢
  obtain ⟨ka1, hb1⟩ := hbox
  have HWE := Lib.hid hwe
  clear hwe HWE
  have hraw1 := hraw.below hb1
  have ha1 := ha.below hb1
  have hw1 := hb1
  clear hraw ha hb1
  refine (qawake_yes _ (fun w' h => HT.out w' (hw1.trans (h.mono hw1.size)))).mono ?_
  rintro e w2 ⟨rfl, hb2⟩
  have hraw2 := hraw1.below hb2
  have ha2 := ha1.below hb2
  have ka2 := ka1.below hb2
  have hw2 := hw1.trans (hb2.mono hw1.size)
  clear hraw1 ha1 ka1 hw1 hb2
  obtain ⟨a0, a1, a2, a3, a4, a5, a6⟩ := ka2.facts
  go_wp2_with fail
  refine (qsm_yes a a 6 _ hraw2 hraw2 ⟨l1, l2⟩ ⟨l1, l2⟩ HVA HVA).mono ?_
  rintro e w3 ⟨rfl, hb3⟩
  have hraw3 := hraw2.below hb3
  have ha3 := ha2.below hb3
  have ka3 := ka2.below hb3
  have hw3 := hw2.trans (hb3.mono hw2.size)
  clear hraw2 ha2 ka2 hw2 hb3
  clear a0 a1 a2 a3 a4 a5 a6
  obtain ⟨a0, a1, a2, a3, a4, a5, a6⟩ := ka3.facts
  go_wp2_with fail
  refine (qof a q _ ha3 (by omega) (by omega)).mono ?_
  rintro e w4 ⟨u, rfl, hx4, hxa, hxb, hb4⟩
  have hraw4 := hraw3.below hb4
  have ha4 := ha3.below hb4
  have ka4 := ka3.below hb4
  have hw4 := hw3.trans (hb4.mono hw3.size)
  clear hraw3 ha3 ka3 hw3 hb4
  clear a0 a1 a2 a3 a4 a5 a6
  go_upto_region 6 with fail
  have kx5 := BlkT.new 30 w4 (.bool u.s) (.slice u.N u.ns.length u.nc) (.slice u.D u.ds.length u.dc)
  have hb5 : Below w4.heap.size w4 (w4.alloc (.cells #[.bool u.s, .slice u.N u.ns.length u.nc, .slice u.D u.ds.length u.dc] 30)) := (Below.refl _ _).alloc (Nat.le_refl _) _
  obtain ⟨w5, hwe⟩ : ∃ x, w4.alloc (.cells #[.bool u.s, .slice u.N u.ns.length u.nc, .slice u.D u.ds.length u.dc] 30) = x := ⟨_, rfl⟩
  rw [hwe] at kx5 hb5 ⊢
  clear hwe
  have hraw5 := hraw4.below hb5
  have ha5 := ha4.below hb5
  have ka5 := ka4.below hb5
  have hx5 := hx4.below hb5
  have hw5 := hw4.trans (hb5.mono hw4.size)
  clear hraw4 ha4 ka4 hx4 hw4 hb5
  obtain ⟨a0, a1, a2, a3, a4, a5, a6⟩ := ka5.facts
  go_wp2_with fail
  refine (qfloor_ok a q _ ha5 l1 l2).mono ?_
  rintro e w6 ⟨f, rfl, hf6, hfa, hfb, hb6⟩
  have hraw6 := hraw5.below hb6
  have ha6 := ha5.below hb6
  have ka6 := ka5.below hb6
  have hx6 := hx5.below hb6
  have kx6 := kx5.below hb6
  have hw6 := hw5.trans (hb6.mono hw5.size)
  clear hraw5 ha5 ka5 hx5 kx5 hw5 hb6
  clear a0 a1 a2 a3 a4 a5 a6
  go_upto_region 7 with fail
  have kf7 := Blk3.new w6 (.bool f.s) (.slice f.N f.ns.length f.nc) (.slice f.D f.ds.length f.dc)
  have hb7 : Below w6.heap.size w6 (w6.alloc (.cells #[.bool f.s, .slice f.N f.ns.length f.nc, .slice f.D f.ds.length f.dc] 24)) := (Below.refl _ _).alloc (Nat.le_refl _) _
  obtain ⟨w7, hwe⟩ : ∃ x, w6.alloc (.cells #[.bool f.s, .slice f.N f.ns.length f.nc, .slice f.D f.ds.length f.dc] 24) = x := ⟨_, rfl⟩
  rw [hwe] at kf7 hb7 ⊢
  clear hwe
  have hraw7 := hraw6.below hb7
  have ha7 := ha6.below hb7
  have ka7 := ka6.below hb7
  have hx7 := hx6.below hb7
  have kx7 := kx6.below hb7
  have hf7 := hf6.below hb7
  have hw7 := hw6.trans (hb7.mono hw6.size)
  clear hraw6 ha6 ka6 hx6 kx6 hf6 hw6 hb7
  obtain ⟨a0, a1, a2, a3, a4, a5, a6⟩ := ka7.facts
  go_wp2_with fail
  refine (qdown_ok a q k hk _ ha7 l1 l2).mono ?_
  rintro e w8 ⟨d, rfl, hd8, hda, hdb, hb8⟩
  have hraw8 := hraw7.below hb8
  have ha8 := ha7.below hb8
  have ka8 := ka7.below hb8
  have hx8 := hx7.below hb8
  have kx8 := kx7.below hb8
  have hf8 := hf7.below hb8
  have kf8 := kf7.below hb8
  have hw8 := hw7.trans (hb8.mono hw7.size)
  clear hraw7 ha7 ka7 hx7 kx7 hf7 kf7 hw7 hb8
  clear a0 a1 a2 a3 a4 a5 a6
  go_upto_region 8 with fail
  have kd9 := Blk3.new w8 (.bool d.s) (.slice d.N d.ns.length d.nc) (.slice d.D d.ds.length d.dc)
  have hb9 : Below w8.heap.size w8 (w8.alloc (.cells #[.bool d.s, .slice d.N d.ns.length d.nc, .slice d.D d.ds.length d.dc] 24)) := (Below.refl _ _).alloc (Nat.le_refl _) _
  obtain ⟨w9, hwe⟩ : ∃ x, w8.alloc (.cells #[.bool d.s, .slice d.N d.ns.length d.nc, .slice d.D d.ds.length d.dc] 24) = x := ⟨_, rfl⟩
  rw [hwe] at kd9 hb9 ⊢
  clear hwe
  have hraw9 := hraw8.below hb9
  have ha9 := ha8.below hb9
  have ka9 := ka8.below hb9
  have hx9 := hx8.below hb9
  have kx9 := kx8.below hb9
  have hf9 := hf8.below hb9
  have kf9 := kf8.below hb9
  have hd9 := hd8.below hb9
  have hw9 := hw8.trans (hb9.mono hw8.size)
  clear hraw8 ha8 ka8 hx8 kx8 hf8 kf8 hd8 hw8 hb9
  obtain ⟨a0, a1, a2, a3, a4, a5, a6⟩ := ka9.facts
  go_wp2_with fail
  refine (qup_ok a q k hk _ ha9 l1 l2).mono ?_
  rintro e w10 ⟨v, rfl, hv10, hva, hvb, hb10⟩
  have hraw10 := hraw9.below hb10
  have ha10 := ha9.below hb10
  have ka10 := ka9.below hb10
  have hx10 := hx9.below hb10
  have kx10 := kx9.below hb10
  have hf10 := hf9.below hb10
  have kf10 := kf9.below hb10
  have hd10 := hd9.below hb10
  have kd10 := kd9.below hb10
  have hw10 := hw9.trans (hb10.mono hw9.size)
  clear hraw9 ha9 ka9 hx9 kx9 hf9 kf9 hd9 kd9 hw9 hb10
  clear a0 a1 a2 a3 a4 a5 a6
  go_upto_region 9 with fail
  have kv11 := Blk3.new w10 (.bool v.s) (.slice v.N v.ns.length v.nc) (.slice v.D v.ds.length v.dc)
  have hb11 : Below w10.heap.size w10 (w10.alloc (.cells #[.bool v.s, .slice v.N v.ns.length v.nc, .slice v.D v.ds.length v.dc] 24)) := (Below.refl _ _).alloc (Nat.le_refl _) _
  obtain ⟨w11, hwe⟩ : ∃ x, w10.alloc (.cells #[.bool v.s, .slice v.N v.ns.length v.nc, .slice v.D v.ds.length v.dc] 24) = x := ⟨_, rfl⟩
  rw [hwe] at kv11 hb11 ⊢
  clear hwe
  have hraw11 := hraw10.below hb11
  have ha11 := ha10.below hb11
  have ka11 := ka10.below hb11
  have hx11 := hx10.below hb11
  have kx11 := kx10.below hb11
  have hf11 := hf10.below hb11
  have kf11 := kf10.below hb11
  have hd11 := hd10.below hb11
  have kd11 := kd10.below hb11
  have hv11 := hv10.below hb11
  have hw11 := hw10.trans (hb11.mono hw10.size)
  clear hraw10 ha10 ka10 hx10 kx10 hf10 kf10 hd10 kd10 hv10 hw10 hb11
  have HF0 : Hid (mkRat (sgn u.s (rnd (VD u.ns) (VD u.ds) u.s)) 1 = (mkRat (sgn a.s (rnd (V32 a.ns * 2 ^ 0) (V32 a.ds) (false != a.s))) (2 ^ 0))) := Lib.hid (rq0 ha11.q hx11.q)
  obtain ⟨f0, f1, f2, f3, f4, f5, f6⟩ := kf11.facts
  obtain ⟨x0, x1, x2, x3, x4, x5, x6⟩ := kx11.facts
  go_cut [48] (fun s48 wx => s48 = .bool false ∧ Below w11.heap.size w11 wx)
  case first =>
    go_region_held3 (fun w' => w'.cell? ⟨w6.heap.size, 0, none⟩ = some (.bool f.s) ∧ w'.cell? ⟨w6.heap.size, 1, none⟩ = some (.slice f.N f.ns.length f.nc) ∧ w'.cell? ⟨w6.heap.size, 2, none⟩ = some (.slice f.D f.ds.length f.dc) ∧ w'.cell? ⟨w4.heap.size, 0, none⟩ = some (.bool u.s) ∧ w'.cell? ⟨w4.heap.size, 1, none⟩ = some (.slice u.N u.ns.length u.nc) ∧ w'.cell? ⟨w4.heap.size, 2, none⟩ = some (.slice u.D u.ds.length u.dc)) (first | exact ⟨‹_›, ‹_›, ‹_›, ‹_›, ‹_›, ‹_›⟩ | go_keep)
      (first
      | (go_at_call 42
         refine (rfloor u q _ (by first | exact hx11 | exact hx11.drew | exact hx11.alloc _ | exact (hx11.alloc _).drew | exact hx11.drew.alloc _) (by omega)).mono ?_
         rintro e wl_ ⟨y, rfl, hy, hya, hyb, hby⟩
         rw [HF0.out] at hy
         have hbp0 : Below w11.heap.size w11 wl_ := by first | exact hby | exact below_of_drew hby (Nat.le_refl _) | exact ((Below.refl _ _).alloc (Nat.le_refl _) _).trans (hby.mono (by simp)) | exact ((Below.refl _ _).alloc (Nat.le_refl _) _).trans ((below_of_drew hby (Nat.le_refl _)).mono (by simp)) | exact below_of_drew (((Below.refl _ _).alloc (Nat.le_refl _) _).trans (hby.mono (by simp))) (Nat.le_refl _)
         have hf_0 := hf11.below hbp0
         have hx_0 := hx11.below hbp0
         have kf_0 := kf11.below hbp0
         obtain ⟨kf0wl_, kf1wl_, kf2wl_, kf3wl_, kf4wl_, kf5wl_, kf6wl_⟩ := kf_0.facts
         have kx_0 := kx11.below hbp0
         obtain ⟨kx0wl_, kx1wl_, kx2wl_, kx3wl_, kx4wl_, kx5wl_, kx6wl_⟩ := kx_0.facts
         have hwq0 := hw11.trans (hbp0.mono hw11.size))
      | (go_at_call 26
         refine (qis_yes f y _ _ (by first | exact hf_0 | exact hf_0.drew | exact hf_0.alloc _ | exact (hf_0.alloc _).drew | exact hf_0.drew.alloc _) (by first | exact hy | exact hy.drew | exact hy.alloc _ | exact (hy.alloc _).drew | exact hy.drew.alloc _) (by omega) (by omega)).mono ?_
         rintro e wi_ ⟨rfl, hbi⟩
         have hbp1 : Below wl_.heap.size wl_ wi_ := by first | exact hbi | exact below_of_drew hbi (Nat.le_refl _) | exact ((Below.refl _ _).alloc (Nat.le_refl _) _).trans (hbi.mono (by simp)) | exact ((Below.refl _ _).alloc (Nat.le_refl _) _).trans ((below_of_drew hbi (Nat.le_refl _)).mono (by simp)) | exact below_of_drew (((Below.refl _ _).alloc (Nat.le_refl _) _).trans (hbi.mono (by simp))) (Nat.le_refl _)
         have hf_1 := hf_0.below hbp1
         have hx_1 := hx_0.below hbp1
         have hy_1 := hy.below hbp1
         have kf_1 := kf_0.below hbp1
         obtain ⟨kf0wi_, kf1wi_, kf2wi_, kf3wi_, kf4wi_, kf5wi_, kf6wi_⟩ := kf_1.facts
         have kx_1 := kx_0.below hbp1
         obtain ⟨kx0wi_, kx1wi_, kx2wi_, kx3wi_, kx4wi_, kx5wi_, kx6wi_⟩ := kx_1.facts
         have hwq1 := hwq0.trans (hbp1.mono hwq0.size)))
    all_goals
      go_wp2_with fail
      go_meet
      exact ⟨rfl, hbp0.trans (hbp1.mono hbp0.size)⟩
  clear f0 f1 f2 f3 f4 f5 f6
  clear x0 x1 x2 x3 x4 x5 x6
  obtain ⟨w12, rfl⟩ : ∃ x, x = wc := ⟨_, rfl⟩
  obtain ⟨rfl, hb12⟩ := hcut
  have hraw12 := hraw11.below hb12
  have ha12 := ha11.below hb12
  have ka12 := ka11.below hb12
  have hx12 := hx11.below hb12
  have kx12 := kx11.below hb12
  have hf12 := hf11.below hb12
  have kf12 := kf11.below hb12
  have hd12 := hd11.below hb12
  have kd12 := kd11.below hb12
  have hv12 := hv11.below hb12
  have kv12 := kv11.below hb12
  have hw12 := hw11.trans (hb12.mono hw11.size)
  clear hraw11 ha11 ka11 hx11 kx11 hf11 kf11 hd11 kd11 hv11 kv11 hw11 hb12
  go_wp2_with (go_quiet (fail))
  go_ret
  exact ⟨rfl, hw12⟩
set_option maxRecDepth 100000 in
set_option maxHeartbeats 6400000 in
theorem rounds_near (a : RL) (q : Rat) (k : Nat) (hk : k ≤ 4000) (hk2 : k ≤ 200) (w : World) (hraw : a.Raw w) (ha : a.Is w q) (l1 : a.ns.length ≤ 6) (l2 : a.ds.length ≤ 6) (hva : Hid a.Val) (htab : Lib.TabBelow Tryz.prog w.heap.size w "internal/strconv.uint64pow10" .u64 Lib.pow10Tab) :
    Calls Tryz.prog 5 #[.agg #[.bool a.s, .slice a.N a.ns.length a.nc, .slice a.D a.ds.length a.dc], .int .i64 k] w (Yes w) := by
  have HT := Lib.hid htab
  have HVA := hva
  clear htab hva
  go_enter Tryz.func5, Tryz.ntmps5
  go_wp2_with fail
  have hbox := (⟨Blk3.new w (.bool a.s) (.slice a.N a.ns.length a.nc) (.slice a.D a.ds.length a.dc), (Below.refl _ _).alloc (Nat.le_refl _) _⟩ : _ ∧ Below w.heap.size w (w.alloc (.cells #[.bool a.s, .slice a.N a.ns.length a.nc, .slice a.D a.ds.length a.dc] 24)))
  obtain ⟨w1, hwe⟩ : ∃ x, w.alloc (.cells #[.bool a.s, .slice a.N a.ns.length a.nc, .slice a.D a.ds.length a.dc] 24) = x := ⟨_, rfl⟩
  rw [hwe] at hbox ⊢
  obtain ⟨ka1, hb1⟩ := hbox
  have HWE := Lib.hid hwe
  clear hwe HWE
  have hraw1 := hraw.below hb1
  have ha1 := ha.below hb1
  have hw1 := hb1
  clear hraw ha hb1
  refine (qawake_yes _ (fun w' h => HT.out w' (hw1.trans (h.mono hw1.size)))).mono ?_
  rintro e w2 ⟨rfl, hb2⟩
  have hraw2 := hraw1.below hb2
  have ha2 := ha1.below hb2
  have ka2 := ka1.below hb2
  have hw2 := hw1.trans (hb2.mono hw1.size)
  clear hraw1 ha1 ka1 hw1 hb2
  obtain ⟨a0, a1, a2, a3, a4, a5, a6⟩ := ka2.facts
  go_wp2_with fail
  refine (qsm_yes a a 6 _ hraw2 hraw2 ⟨l1, l2⟩ ⟨l1, l2⟩ HVA HVA).mono ?_
  rintro e w3 ⟨rfl, hb3⟩
  have hraw3 := hraw2.below hb3
  have ha3 := ha2.below hb3
  have ka3 := ka2.below hb3
  have hw3 := hw2.trans (hb3.mono hw2.size)
  clear hraw2 ha2 ka2 hw2 hb3
  clear a0 a1 a2 a3 a4 a5 a6
  obtain ⟨a0, a1, a2, a3, a4, a5, a6⟩ := ka3.facts
  go_wp2_with fail
  refine (qof a q _ ha3 (by omega) (by omega)).mono ?_
  rintro e w4 ⟨u, rfl, hx4, hxa, hxb, hb4⟩
  have hraw4 := hraw3.below hb4
  have ha4 := ha3.below hb4
  have ka4 := ka3.below hb4
  have hw4 := hw3.trans (hb4.mono hw3.size)
  clear hraw3 ha3 ka3 hw3 hb4
  clear a0 a1 a2 a3 a4 a5 a6
  go_upto_region 6 with fail
  have kx5 := BlkT.new 30 w4 (.bool u.s) (.slice u.N u.ns.length u.nc) (.slice u.D u.ds.length u.dc)
  have hb5 : Below w4.heap.size w4 (w4.alloc (.cells #[.bool u.s, .slice u.N u.ns.length u.nc, .slice u.D u.ds.length u.dc] 30)) := (Below.refl _ _).alloc (Nat.le_refl _) _
  obtain ⟨w5, hwe⟩ : ∃ x, w4.alloc (.cells #[.bool u.s, .slice u.N u.ns.length u.nc, .slice u.D u.ds.length u.dc] 30) = x := ⟨_, rfl⟩
  rw [hwe] at kx5 hb5 ⊢
  clear hwe
  have hraw5 := hraw4.below hb5
  have ha5 := ha4.below hb5
  have ka5 := ka4.below hb5
  have hx5 := hx4.below hb5
  have hw5 := hw4.trans (hb5.mono hw4.size)
  clear hraw4 ha4 ka4 hx4 hw4 hb5
  obtain ⟨a0, a1, a2, a3, a4, a5, a6⟩ := ka5.facts
  go_wp2_with fail
  refine (qfloor_ok a q _ ha5 l1 l2).mono ?_
  rintro e w6 ⟨f, rfl, hf6, hfa, hfb, hb6⟩
  have hraw6 := hraw5.below hb6
  have ha6 := ha5.below hb6
  have ka6 := ka5.below hb6
  have hx6 := hx5.below hb6
  have kx6 := kx5.below hb6
  have hw6 := hw5.trans (hb6.mono hw5.size)
  clear hraw5 ha5 ka5 hx5 kx5 hw5 hb6
  clear a0 a1 a2 a3 a4 a5 a6
  go_upto_region 7 with fail
  have kf7 := Blk3.new w6 (.bool f.s) (.slice f.N f.ns.length f.nc) (.slice f.D f.ds.length f.dc)
  have hb7 : Below w6.heap.size w6 (w6.alloc (.cells #[.bool f.s, .slice f.N f.ns.length f.nc, .slice f.D f.ds.length f.dc] 24)) := (Below.refl _ _).alloc (Nat.le_refl _) _
  obtain ⟨w7, hwe⟩ : ∃ x, w6.alloc (.cells #[.bool f.s, .slice f.N f.ns.length f.nc, .slice f.D f.ds.length f.dc] 24) = x := ⟨_, rfl⟩
  rw [hwe] at kf7 hb7 ⊢
  clear hwe
  have hraw7 := hraw6.below hb7
  have ha7 := ha6.below hb7
  have ka7 := ka6.below hb7
  have hx7 := hx6.below hb7
  have kx7 := kx6.below hb7
  have hf7 := hf6.below hb7
  have hw7 := hw6.trans (hb7.mono hw6.size)
  clear hraw6 ha6 ka6 hx6 kx6 hf6 hw6 hb7
  obtain ⟨a0, a1, a2, a3, a4, a5, a6⟩ := ka7.facts
  go_wp2_with fail
  refine (qdown_ok a q k hk _ ha7 l1 l2).mono ?_
  rintro e w8 ⟨d, rfl, hd8, hda, hdb, hb8⟩
  have hraw8 := hraw7.below hb8
  have ha8 := ha7.below hb8
  have ka8 := ka7.below hb8
  have hx8 := hx7.below hb8
  have kx8 := kx7.below hb8
  have hf8 := hf7.below hb8
  have kf8 := kf7.below hb8
  have hw8 := hw7.trans (hb8.mono hw7.size)
  clear hraw7 ha7 ka7 hx7 kx7 hf7 kf7 hw7 hb8
  clear a0 a1 a2 a3 a4 a5 a6
  go_upto_region 8 with fail
  have kd9 := Blk3.new w8 (.bool d.s) (.slice d.N d.ns.length d.nc) (.slice d.D d.ds.length d.dc)
  have hb9 : Below w8.heap.size w8 (w8.alloc (.cells #[.bool d.s, .slice d.N d.ns.length d.nc, .slice d.D d.ds.length d.dc] 24)) := (Below.refl _ _).alloc (Nat.le_refl _) _
  obtain ⟨w9, hwe⟩ : ∃ x, w8.alloc (.cells #[.bool d.s, .slice d.N d.ns.length d.nc, .slice d.D d.ds.length d.dc] 24) = x := ⟨_, rfl⟩
  rw [hwe] at kd9 hb9 ⊢
  clear hwe
  have hraw9 := hraw8.below hb9
  have ha9 := ha8.below hb9
  have ka9 := ka8.below hb9
  have hx9 := hx8.below hb9
  have kx9 := kx8.below hb9
  have hf9 := hf8.below hb9
  have kf9 := kf8.below hb9
  have hd9 := hd8.below hb9
  have hw9 := hw8.trans (hb9.mono hw8.size)
  clear hraw8 ha8 ka8 hx8 kx8 hf8 kf8 hd8 hw8 hb9
  obtain ⟨a0, a1, a2, a3, a4, a5, a6⟩ := ka9.facts
  go_wp2_with fail
  refine (qup_ok a q k hk _ ha9 l1 l2).mono ?_
  rintro e w10 ⟨v, rfl, hv10, hva, hvb, hb10⟩
  have hraw10 := hraw9.below hb10
  have ha10 := ha9.below hb10
  have ka10 := ka9.below hb10
  have hx10 := hx9.below hb10
  have kx10 := kx9.below hb10
  have hf10 := hf9.below hb10
  have kf10 := kf9.below hb10
  have hd10 := hd9.below hb10
  have kd10 := kd9.below hb10
  have hw10 := hw9.trans (hb10.mono hw9.size)
  clear hraw9 ha9 ka9 hx9 kx9 hf9 kf9 hd9 kd9 hw9 hb10
  clear a0 a1 a2 a3 a4 a5 a6
  go_upto_region 9 with fail
  have kv11 := Blk3.new w10 (.bool v.s) (.slice v.N v.ns.length v.nc) (.slice v.D v.ds.length v.dc)
  have hb11 : Below w10.heap.size w10 (w10.alloc (.cells #[.bool v.s, .slice v.N v.ns.length v.nc, .slice v.D v.ds.length v.dc] 24)) := (Below.refl _ _).alloc (Nat.le_refl _) _
  obtain ⟨w11, hwe⟩ : ∃ x, w10.alloc (.cells #[.bool v.s, .slice v.N v.ns.length v.nc, .slice v.D v.ds.length v.dc] 24) = x := ⟨_, rfl⟩
  rw [hwe] at kv11 hb11 ⊢
  clear hwe
  have hraw11 := hraw10.below hb11
  have ha11 := ha10.below hb11
  have ka11 := ka10.below hb11
  have hx11 := hx10.below hb11
  have kx11 := kx10.below hb11
  have hf11 := hf10.below hb11
  have kf11 := kf10.below hb11
  have hd11 := hd10.below hb11
  have kd11 := kd10.below hb11
  have hv11 := hv10.below hb11
  have hw11 := hw10.trans (hb11.mono hw10.size)
  clear hraw10 ha10 ka10 hx10 kx10 hf10 kf10 hd10 kd10 hv10 hw10 hb11
  have HF0 : Hid (mkRat (sgn u.s (rnd (VD u.ns) (VD u.ds) u.s)) 1 = (mkRat (sgn a.s (rnd (V32 a.ns * 2 ^ 0) (V32 a.ds) (false != a.s))) (2 ^ 0))) := Lib.hid (rq0 ha11.q hx11.q)
  obtain ⟨f0, f1, f2, f3, f4, f5, f6⟩ := kf11.facts
  obtain ⟨x0, x1, x2, x3, x4, x5, x6⟩ := kx11.facts
  go_cut [48] (fun s48 wx => s48 = .bool false ∧ Below w11.heap.size w11 wx)
  case first =>
    go_region_held3 (fun w' => w'.cell? ⟨w6.heap.size, 0, none⟩ = some (.bool f.s) ∧ w'.cell? ⟨w6.heap.size, 1, none⟩ = some (.slice f.N f.ns.length f.nc) ∧ w'.cell? ⟨w6.heap.size, 2, none⟩ = some (.slice f.D f.ds.length f.dc) ∧ w'.cell? ⟨w4.heap.size, 0, none⟩ = some (.bool u.s) ∧ w'.cell? ⟨w4.heap.size, 1, none⟩ = some (.slice u.N u.ns.length u.nc) ∧ w'.cell? ⟨w4.heap.size, 2, none⟩ = some (.slice u.D u.ds.length u.dc)) (first | exact ⟨‹_›, ‹_›, ‹_›, ‹_›, ‹_›, ‹_›⟩ | go_keep)
      (first
      | (go_at_call 42
         refine (rfloor u q _ (by first | exact hx11 | exact hx11.drew | exact hx11.alloc _ | exact (hx11.alloc _).drew | exact hx11.drew.alloc _) (by omega)).mono ?_
         rintro e wl_ ⟨y, rfl, hy, hya, hyb, hby⟩
         rw [HF0.out] at hy
         have hbp0 : Below w11.heap.size w11 wl_ := by first | exact hby | exact below_of_drew hby (Nat.le_refl _) | exact ((Below.refl _ _).alloc (Nat.le_refl _) _).trans (hby.mono (by simp)) | exact ((Below.refl _ _).alloc (Nat.le_refl _) _).trans ((below_of_drew hby (Nat.le_refl _)).mono (by simp)) | exact below_of_drew (((Below.refl _ _).alloc (Nat.le_refl _) _).trans (hby.mono (by simp))) (Nat.le_refl _)
         have hf_0 := hf11.below hbp0
         have hx_0 := hx11.below hbp0
         have kf_0 := kf11.below hbp0
         obtain ⟨kf0wl_, kf1wl_, kf2wl_, kf3wl_, kf4wl_, kf5wl_, kf6wl_⟩ := kf_0.facts
         have kx_0 := kx11.below hbp0
         obtain ⟨kx0wl_, kx1wl_, kx2wl_, kx3wl_, kx4wl_, kx5wl_, kx6wl_⟩ := kx_0.facts
         have hwq0 := hw11.trans (hbp0.mono hw11.size))
      | (go_at_call 26
         refine (qis_yes f y _ _ (by first | exact hf_0 | exact hf_0.drew | exact hf_0.alloc _ | exact (hf_0.alloc _).drew | exact hf_0.drew.alloc _) (by first | exact hy | exact hy.drew | exact hy.alloc _ | exact (hy.alloc _).drew | exact hy.drew.alloc _) (by omega) (by omega)).mono ?_
         rintro e wi_ ⟨rfl, hbi⟩
         have hbp1 : Below wl_.heap.size wl_ wi_ := by first | exact hbi | exact below_of_drew hbi (Nat.le_refl _) | exact ((Below.refl _ _).alloc (Nat.le_refl _) _).trans (hbi.mono (by simp)) | exact ((Below.refl _ _).alloc (Nat.le_refl _) _).trans ((below_of_drew hbi (Nat.le_refl _)).mono (by simp)) | exact below_of_drew (((Below.refl _ _).alloc (Nat.le_refl _) _).trans (hbi.mono (by simp))) (Nat.le_refl _)
         have hf_1 := hf_0.below hbp1
         have hx_1 := hx_0.below hbp1
         have hy_1 := hy.below hbp1
         have kf_1 := kf_0.below hbp1
         obtain ⟨kf0wi_, kf1wi_, kf2wi_, kf3wi_, kf4wi_, kf5wi_, kf6wi_⟩ := kf_1.facts
         have kx_1 := kx_0.below hbp1
         obtain ⟨kx0wi_, kx1wi_, kx2wi_, kx3wi_, kx4wi_, kx5wi_, kx6wi_⟩ := kx_1.facts
         have hwq1 := hwq0.trans (hbp1.mono hwq0.size)))
    all_goals
      go_wp2_with fail
      go_meet
      exact ⟨rfl, hbp0.trans (hbp1.mono hbp0.size)⟩
  clear f0 f1 f2 f3 f4 f5 f6
  clear x0 x1 x2 x3 x4 x5 x6
  obtain ⟨w12, rfl⟩ : ∃ x, x = wc := ⟨_, rfl⟩
  obtain ⟨rfl, hb12⟩ := hcut
  have hraw12 := hraw11.below hb12
  have ha12 := ha11.below hb12
  have ka12 := ka11.below hb12
  have hx12 := hx11.below hb12
  have kx12 := kx11.below hb12
  have hf12 := hf11.below hb12
  have kf12 := kf11.below hb12
  have hd12 := hd11.below hb12
  have kd12 := kd11.below hb12
  have hv12 := hv11.below hb12
  have kv12 := kv11.below hb12
  have hw12 := hw11.trans (hb12.mono hw11.size)
  clear hraw11 ha11 ka11 hx11 kx11 hf11 kf11 hd11 kd11 hv11 kv11 hw11 hb12
  go_wp2_with fail
  refine (two_any k _ (by omega)).mono ?_
  rintro e w13 ⟨Z, zc, zl, rfl, hzc, hZ13, hb13, hvz, hnz, hlz⟩
  have hraw13 := hraw12.below hb13
  have ha13 := ha12.below hb13
  have ka13 := ka12.below hb13
  have hx13 := hx12.below hb13
  have kx13 := kx12.below hb13
  have hf13 := hf12.below hb13
  have kf13 := kf12.below hb13
  have hd13 := hd12.below hb13
  have kd13 := kd12.below hb13
  have hv13 := hv12.below hb13
  have kv13 := kv12.below hb13
  have hw13 := hw12.trans (hb13.mono hw12.size)
  clear hraw12 ha12 ka12 hx12 kx12 hf12 kf12 hd12 kd12 hv12 kv12 hw12 hb13
  have HVZ := Lib.hid hvz
  clear hvz
  go_wp2_with fail
  refine (rmake false Z (some ⟨_, 0, none⟩) zc 1 zl [1] _ (hZ13.alloc _) (rd_nat1 _ 1) hnz nm_one (by omega) (by simp) (by simp)).mono ?_
  rintro e w14 ⟨c, rfl, hc14, hca, hcb, hbv⟩
  have hb14 : Below w13.heap.size w13 w14 := ((Below.refl _ _).alloc (Nat.le_refl _) _).trans (hbv.mono (by simp))
  clear hbv
  have HSC : Hid (mkRat (sgn false (VD zl)) (VD [1]) = mkRat ((2 ^ k : Nat) : Int) 1) := by show _ = _; rw [HVZ.out, vd_one]; rfl
  rw [HSC.out] at hc14
  simp at hcb
  have hraw14 := hraw13.below hb14
  have ha14 := ha13.below hb14
  have ka14 := ka13.below hb14
  have hx14 := hx13.below hb14
  have kx14 := kx13.below hb14
  have hf14 := hf13.below hb14
  have kf14 := kf13.below hb14
  have hd14 := hd13.below hb14
  have kd14 := kd13.below hb14
  have hv14 := hv13.below hb14
  have kv14 := kv13.below hb14
  have hZ14 := hZ13.below hb14
  have hw14 := hw13.trans (hb14.mono hw13.size)
  clear hraw13 ha13 ka13 hx13 kx13 hf13 kf13 hd13 kd13 hv13 kv13 hZ13 hw13 hb14
  go_upto_region 16 with fail
  have kc15 := BlkT.new 30 w14 (.bool c.s) (.slice c.N c.ns.length c.nc) (.slice c.D c.ds.length c.dc)
  have hb15 : Below w14.heap.size w14 (w14.alloc (.cells #[.bool c.s, .slice c.N c.ns.length c.nc, .slice c.D c.ds.length c.dc] 30)) := (Below.refl _ _).alloc (Nat.le_refl _) _
  obtain ⟨w15, hwe⟩ : ∃ x, w14.alloc (.cells #[.bool c.s, .slice c.N c.ns.length c.nc, .slice c.D c.ds.length c.dc] 30) = x := ⟨_, rfl⟩
  rw [hwe] at kc15 hb15 ⊢
  clear hwe
  have hraw15 := hraw14.below hb15
  have ha15 := ha14.below hb15
  have ka15 := ka14.below hb15
  have hx15 := hx14.below hb15
  have kx15 := kx14.below hb15
  have hf15 := hf14.below hb15
  have kf15 := kf14.below hb15
  have hd15 := hd14.below hb15
  have kd15 := kd14.below hb15
  have hv15 := hv14.below hb15
  have kv15 := kv14.below hb15
  have hZ15 := hZ14.below hb15
  have hc15 := hc14.below hb15
  have hw15 := hw14.trans (hb15.mono hw14.size)
  clear hraw14 ha14 ka14 hx14 kx14 hf14 kf14 hd14 kd14 hv14 kv14 hZ14 hc14 hw14 hb15
  obtain ⟨x0, x1, x2, x3, x4, x5, x6⟩ := kx15.facts
  obtain ⟨c0, c1, c2, c3, c4, c5, c6⟩ := kc15.facts
  go_wp2_with fail
  refine (rmulq u c q (mkRat ((2 ^ k : Nat) : Int) 1) _ hx15 hc15 (by omega)).mono ?_
  rintro e w16 ⟨m, rfl, hm16, hma, hmb, hb16⟩
  have hraw16 := hraw15.below hb16
  have ha16 := ha15.below hb16
  have ka16 := ka15.below hb16
  have hx16 := hx15.below hb16
  have kx16 := kx15.below hb16
  have hf16 := hf15.below hb16
  have kf16 := kf15.below hb16
  have hd16 := hd15.below hb16
  have kd16 := kd15.below hb16
  have hv16 := hv15.below hb16
  have kv16 := kv15.below hb16
  have hZ16 := hZ15.below hb16
  have hc16 := hc15.below hb16
  have kc16 := kc15.below hb16
  have hw16 := hw15.trans (hb16.mono hw15.size)
  clear hraw15 ha15 ka15 hx15 kx15 hf15 kf15 hd15 kd15 hv15 kv15 hZ15 hc15 kc15 hw15 hb16
  clear x0 x1 x2 x3 x4 x5 x6
  clear c0 c1 c2 c3 c4 c5 c6
  go_wp2_with fail
  refine (rfloor m (q * mkRat ((2 ^ k : Nat) : Int) 1) _ hm16 (by omega)).mono ?_
  rintro e w17 ⟨l, rfl, hl17, hla, hlb, hb17⟩
  have hraw17 := hraw16.below hb17
  have ha17 := ha16.below hb17
  have ka17 := ka16.below hb17
  have hx17 := hx16.below hb17
  have kx17 := kx16.below hb17
  have hf17 := hf16.below hb17
  have kf17 := kf16.below hb17
  have hd17 := hd16.below hb17
  have kd17 := kd16.below hb17
  have hv17 := hv16.below hb17
  have kv17 := kv16.below hb17
  have hZ17 := hZ16.below hb17
  have hc17 := hc16.below hb17
  have kc17 := kc16.below hb17
  have hm17 := hm16.below hb17
  have hw17 := hw16.trans (hb17.mono hw16.size)
  clear hraw16 ha16 ka16 hx16 kx16 hf16 kf16 hd16 kd16 hv16 kv16 hZ16 hc16 kc16 hm16 hw16 hb17
  go_upto_region 17 with fail
  have kl18 := BlkT.new 30 w17 (.bool l.s) (.slice l.N l.ns.length l.nc) (.slice l.D l.ds.length l.dc)
  have hb18 : Below w17.heap.size w17 (w17.alloc (.cells #[.bool l.s, .slice l.N l.ns.length l.nc, .slice l.D l.ds.length l.dc] 30)) := (Below.refl _ _).alloc (Nat.le_refl _) _
  obtain ⟨w18, hwe⟩ : ∃ x, w17.alloc (.cells #[.bool l.s, .slice l.N l.ns.length l.nc, .slice l.D l.ds.length l.dc] 30) = x := ⟨_, rfl⟩
  rw [hwe] at kl18 hb18 ⊢
  clear hwe
  have hraw18 := hraw17.below hb18
  have ha18 := ha17.below hb18
  have ka18 := ka17.below hb18
  have hx18 := hx17.below hb18
  have kx18 := kx17.below hb18
  have hf18 := hf17.below hb18
  have kf18 := kf17.below hb18
  have hd18 := hd17.below hb18
  have kd18 := kd17.below hb18
  have hv18 := hv17.below hb18
  have kv18 := kv17.below hb18
  have hZ18 := hZ17.below hb18
  have hc18 := hc17.below hb18
  have kc18 := kc17.below hb18
  have hm18 := hm17.below hb18
  have hl18 := hl17.below hb18
  have hw18 := hw17.trans (hb18.mono hw17.size)
  clear hraw17 ha17 ka17 hx17 kx17 hf17 kf17 hd17 kd17 hv17 kv17 hZ17 hc17 kc17 hm17 hl17 hw17 hb18
  obtain ⟨x0, x1, x2, x3, x4, x5, x6⟩ := kx18.facts
  obtain ⟨c0, c1, c2, c3, c4, c5, c6⟩ := kc18.facts
  go_wp2_with fail
  refine (rmulq u c q (mkRat ((2 ^ k : Nat) : Int) 1) _ hx18 hc18 (by omega)).mono ?_
  rintro e w19 ⟨m2, rfl, hn19, hna, hnb, hb19⟩
  have hraw19 := hraw18.below hb19
  have ha19 := ha18.below hb19
  have ka19 := ka18.below hb19
  have hx19 := hx18.below hb19
  have kx19 := kx18.below hb19
  have hf19 := hf18.below hb19
  have kf19 := kf18.below hb19
  have hd19 := hd18.below hb19
  have kd19 := kd18.below hb19
  have hv19 := hv18.below hb19
  have kv19 := kv18.below hb19
  have hZ19 := hZ18.below hb19
  have hc19 := hc18.below hb19
  have kc19 := kc18.below hb19
  have hm19 := hm18.below hb19
  have hl19 := hl18.below hb19
  have kl19 := kl18.below hb19
  have hw19 := hw18.trans (hb19.mono hw18.size)
  clear hraw18 ha18 ka18 hx18 kx18 hf18 kf18 hd18 kd18 hv18 kv18 hZ18 hc18 kc18 hm18 hl18 kl18 hw18 hb19
  clear x0 x1 x2 x3 x4 x5 x6
  clear c0 c1 c2 c3 c4 c5 c6
  go_wp2_with fail
  refine (rneg m2 (q * mkRat ((2 ^ k : Nat) : Int) 1) _ hn19).mono ?_
  rintro e w20 ⟨m3, rfl, ho20, hoa, hob, hb20⟩
  have hraw20 := hraw19.below hb20
  have ha20 := ha19.below hb20
  have ka20 := ka19.below hb20
  have hx20 := hx19.below hb20
  have kx20 := kx19.below hb20
  have hf20 := hf19.below hb20
  have kf20 := kf19.below hb20
  have hd20 := hd19.below hb20
  have kd20 := kd19.below hb20
  have hv20 := hv19.below hb20
  have kv20 := kv19.below hb20
  have hZ20 := hZ19.below hb20
  have hc20 := hc19.below hb20
  have kc20 := kc19.below hb20
  have hm20 := hm19.below hb20
  have hl20 := hl19.below hb20
  have kl20 := kl19.below hb20
  have hn20 := hn19.below hb20
  have hw20 := hw19.trans (hb20.mono hw19.size)
  clear hraw19 ha19 ka19 hx19 kx19 hf19 kf19 hd19 kd19 hv19 kv19 hZ19 hc19 kc19 hm19 hl19 kl19 hn19 hw19 hb20
  go_wp2_with fail
  refine (rfloor m3 (-(q * mkRat ((2 ^ k : Nat) : Int) 1)) _ ho20 (by omega)).mono ?_
  rintro e w21 ⟨m4, rfl, hp21, hpa, hpb, hb21⟩
  have hraw21 := hraw20.below hb21
  have ha21 := ha20.below hb21
  have ka21 := ka20.below hb21
  have hx21 := hx20.below hb21
  have kx21 := kx20.below hb21
  have hf21 := hf20.below hb21
  have kf21 := kf20.below hb21
  have hd21 := hd20.below hb21
  have kd21 := kd20.below hb21
  have hv21 := hv20.below hb21
  have kv21 := kv20.below hb21
  have hZ21 := hZ20.below hb21
  have hc21 := hc20.below hb21
  have kc21 := kc20.below hb21
  have hm21 := hm20.below hb21
  have hl21 := hl20.below hb21
  have kl21 := kl20.below hb21
  have hn21 := hn20.below hb21
  have ho21 := ho20.below hb21
  have hw21 := hw20.trans (hb21.mono hw20.size)
  clear hraw20 ha20 ka20 hx20 kx20 hf20 kf20 hd20 kd20 hv20 kv20 hZ20 hc20 kc20 hm20 hl20 kl20 hn20 ho20 hw20 hb21
  go_wp2_with fail
  refine (rneg m4 _ _ hp21).mono ?_
  rintro e w22 ⟨h, rfl, hh22, hha, hhb, hb22⟩
  have hraw22 := hraw21.below hb22
  have ha22 := ha21.below hb22
  have ka22 := ka21.below hb22
  have hx22 := hx21.below hb22
  have kx22 := kx21.below hb22
  have hf22 := hf21.below hb22
  have kf22 := kf21.below hb22
  have hd22 := hd21.below hb22
  have kd22 := kd21.below hb22
  have hv22 := hv21.below hb22
  have kv22 := kv21.below hb22
  have hZ22 := hZ21.below hb22
  have hc22 := hc21.below hb22
  have kc22 := kc21.below hb22
  have hm22 := hm21.below hb22
  have hl22 := hl21.below hb22
  have kl22 := kl21.below hb22
  have hn22 := hn21.below hb22
  have ho22 := ho21.below hb22
  have hp22 := hp21.below hb22
  have hw22 := hw21.trans (hb22.mono hw21.size)
  clear hraw21 ha21 ka21 hx21 kx21 hf21 kf21 hd21 kd21 hv21 kv21 hZ21 hc21 kc21 hm21 hl21 kl21 hn21 ho21 hp21 hw21 hb22
  go_upto_region 18 with fail
  have kh23 := BlkT.new 30 w22 (.bool h.s) (.slice h.N h.ns.length h.nc) (.slice h.D h.ds.length h.dc)
  have hb23 : Below w22.heap.size w22 (w22.alloc (.cells #[.bool h.s, .slice h.N h.ns.length h.nc, .slice h.D h.ds.length h.dc] 30)) := (Below.refl _ _).alloc (Nat.le_refl _) _
  obtain ⟨w23, hwe⟩ : ∃ x, w22.alloc (.cells #[.bool h.s, .slice h.N h.ns.length h.nc, .slice h.D h.ds.length h.dc] 30) = x := ⟨_, rfl⟩
  rw [hwe] at kh23 hb23 ⊢
  clear hwe
  have hraw23 := hraw22.below hb23
  have ha23 := ha22.below hb23
  have ka23 := ka22.below hb23
  have hx23 := hx22.below hb23
  have kx23 := kx22.below hb23
  have hf23 := hf22.below hb23
  have kf23 := kf22.below hb23
  have hd23 := hd22.below hb23
  have kd23 := kd22.below hb23
  have hv23 := hv22.below hb23
  have kv23 := kv22.below hb23
  have hZ23 := hZ22.below hb23
  have hc23 := hc22.below hb23
  have kc23 := kc22.below hb23
  have hm23 := hm22.below hb23
  have hl23 := hl22.below hb23
  have kl23 := kl22.below hb23
  have hn23 := hn22.below hb23
  have ho23 := ho22.below hb23
  have hp23 := hp22.below hb23
  have hh23 := hh22.below hb23
  have hw23 := hw22.trans (hb23.mono hw22.size)
  clear hraw22 ha22 ka22 hx22 kx22 hf22 kf22 hd22 kd22 hv22 kv22 hZ22 hc22 kc22 hm22 hl22 kl22 hn22 ho22 hp22 hh22 hw22 hb23
  have HD1 : Hid (mkRat (sgn m.s (rnd (VD m.ns) (VD m.ds) m.s)) 1 / mkRat ((2 ^ k : Nat) : Int) 1 = (mkRat (sgn a.s (rnd (V32 a.ns * 2 ^ k) (V32 a.ds) (false != a.s))) (2 ^ k))) := Lib.hid (rq1 ha23.q hm23.q)
  have HD2 : Hid (-(mkRat (sgn m3.s (rnd (VD m3.ns) (VD m3.ds) m3.s)) 1) / mkRat ((2 ^ k : Nat) : Int) 1 = (mkRat (sgn a.s (rnd (V32 a.ns * 2 ^ k) (V32 a.ds) (true != a.s))) (2 ^ k))) := Lib.hid (rq2 ha23.q ho23.q)
  have HCP : Hid (0 < VD c.ns) := Lib.hid (by have h := (QOf.inj hc23.q (QOf.mk_ (neg := false) (n := 2 ^ k) (d := 1) (by omega) (Nat.gcd_one_right _) (fun _ => rfl))).2.1; rw [h]; exact Nat.pow_pos (by omega))
  obtain ⟨d_0, d_1, d_2, d_3, d_4, d_5, d_6⟩ := kd23.facts
  obtain ⟨v_0, v_1, v_2, v_3, v_4, v_5, v_6⟩ := kv23.facts
  obtain ⟨l_0, l_1, l_2, l_3, l_4, l_5, l_6⟩ := kl23.facts
  obtain ⟨h_0, h_1, h_2, h_3, h_4, h_5, h_6⟩ := kh23.facts
  obtain ⟨c_0, c_1, c_2, c_3, c_4, c_5, c_6⟩ := kc23.facts
  go_region_held3 (fun w' => w'.cell? ⟨w8.heap.size, 0, none⟩ = some (.bool d.s) ∧ w'.cell? ⟨w8.heap.size, 1, none⟩ = some (.slice d.N d.ns.length d.nc) ∧ w'.cell? ⟨w8.heap.size, 2, none⟩ = some (.slice d.D d.ds.length d.dc) ∧ w'.cell? ⟨w10.heap.size, 0, none⟩ = some (.bool v.s) ∧ w'.cell? ⟨w10.heap.size, 1, none⟩ = some (.slice v.N v.ns.length v.nc) ∧ w'.cell? ⟨w10.heap.size, 2, none⟩ = some (.slice v.D v.ds.length v.dc) ∧ w'.cell? ⟨w17.heap.size, 0, none⟩ = some (.bool l.s) ∧ w'.cell? ⟨w17.heap.size, 1, none⟩ = some (.slice l.N l.ns.length l.nc) ∧ w'.cell? ⟨w17.heap.size, 2, none⟩ = some (.slice l.D l.ds.length l.dc) ∧ w'.cell? ⟨w22.heap.size, 0, none⟩ = some (.bool h.s) ∧ w'.cell? ⟨w22.heap.size, 1, none⟩ = some (.slice h.N h.ns.length h.nc) ∧ w'.cell? ⟨w22.heap.size, 2, none⟩ = some (.slice h.D h.ds.length h.dc) ∧ w'.cell? ⟨w14.heap.size, 0, none⟩ = some (.bool c.s) ∧ w'.cell? ⟨w14.heap.size, 1, none⟩ = some (.slice c.N c.ns.length c.nc) ∧ w'.cell? ⟨w14.heap.size, 2, none⟩ = some (.slice c.D c.ds.length c.dc)) (first | exact ⟨‹_›, ‹_›, ‹_›, ‹_›, ‹_›, ‹_›, ‹_›, ‹_›, ‹_›, ‹_›, ‹_›, ‹_›, ‹_›, ‹_›, ‹_›⟩ | go_keep)
    (first
    | (go_at_call_of 35 (Value.agg #[.bool l.s, .slice l.N l.ns.length l.nc, .slice l.D l.ds.length l.dc])
       refine (rdivq l c _ _ _ (by first | exact hl23 | exact hl23.drew | exact hl23.alloc _ | exact (hl23.alloc _).drew | exact hl23.drew.alloc _) (by first | exact hc23 | exact hc23.drew | exact hc23.alloc _ | exact (hc23.alloc _).drew | exact hc23.drew.alloc _) (by omega) HCP.out).mono ?_
       rintro e wq_ ⟨y, rfl, hy, hya, hyb, hby⟩
       rw [HD1.out] at hy
       have hbp0 : Below w23.heap.size w23 wq_ := by first | exact hby | exact below_of_drew hby (Nat.le_refl _) | exact ((Below.refl _ _).alloc (Nat.le_refl _) _).trans (hby.mono (by simp)) | exact ((Below.refl _ _).alloc (Nat.le_refl _) _).trans ((below_of_drew hby (Nat.le_refl _)).mono (by simp)) | exact below_of_drew (((Below.refl _ _).alloc (Nat.le_refl _) _).trans (hby.mono (by simp))) (Nat.le_refl _)
       have hd_0 := hd23.below hbp0
       have hv_0 := hv23.below hbp0
       have hl_0 := hl23.below hbp0
       have hh_0 := hh23.below hbp0
       have hc_0 := hc23.below hbp0
       have kd_0 := kd23.below hbp0
       obtain ⟨kd0wq_, kd1wq_, kd2wq_, kd3wq_, kd4wq_, kd5wq_, kd6wq_⟩ := kd_0.facts
       have kv_0 := kv23.below hbp0
       obtain ⟨kv0wq_, kv1wq_, kv2wq_, kv3wq_, kv4wq_, kv5wq_, kv6wq_⟩ := kv_0.facts
       have kl_0 := kl23.below hbp0
       obtain ⟨kl0wq_, kl1wq_, kl2wq_, kl3wq_, kl4wq_, kl5wq_, kl6wq_⟩ := kl_0.facts
       have kh_0 := kh23.below hbp0
       obtain ⟨kh0wq_, kh1wq_, kh2wq_, kh3wq_, kh4wq_, kh5wq_, kh6wq_⟩ := kh_0.facts
       have kc_0 := kc23.below hbp0
       obtain ⟨kc0wq_, kc1wq_, kc2wq_, kc3wq_, kc4wq_, kc5wq_, kc6wq_⟩ := kc_0.facts
       have hwq0 := hw23.trans (hbp0.mono hw23.size))
    | (go_at_call_of 26 (Value.agg #[.bool d.s, .slice d.N d.ns.length d.nc, .slice d.D d.ds.length d.dc])
       refine (qis_yes d y _ _ (by first | exact hd_0 | exact hd_0.drew | exact hd_0.alloc _ | exact (hd_0.alloc _).drew | exact hd_0.drew.alloc _) (by first | exact hy | exact hy.drew | exact hy.alloc _ | exact (hy.alloc _).drew | exact hy.drew.alloc _) (by omega) (by omega)).mono ?_
       rintro e wi_ ⟨rfl, hbi⟩
       have hbp1 : Below wq_.heap.size wq_ wi_ := by first | exact hbi | exact below_of_drew hbi (Nat.le_refl _) | exact ((Below.refl _ _).alloc (Nat.le_refl _) _).trans (hbi.mono (by simp)) | exact ((Below.refl _ _).alloc (Nat.le_refl _) _).trans ((below_of_drew hbi (Nat.le_refl _)).mono (by simp)) | exact below_of_drew (((Below.refl _ _).alloc (Nat.le_refl _) _).trans (hbi.mono (by simp))) (Nat.le_refl _)
       have hd_1 := hd_0.below hbp1
       have hv_1 := hv_0.below hbp1
       have hl_1 := hl_0.below hbp1
       have hh_1 := hh_0.below hbp1
       have hc_1 := hc_0.below hbp1
       have hy_1 := hy.below hbp1
       have kd_1 := kd_0.below hbp1
       obtain ⟨kd0wi_, kd1wi_, kd2wi_, kd3wi_, kd4wi_, kd5wi_, kd6wi_⟩ := kd_1.facts
       have kv_1 := kv_0.below hbp1
       obtain ⟨kv0wi_, kv1wi_, kv2wi_, kv3wi_, kv4wi_, kv5wi_, kv6wi_⟩ := kv_1.facts
       have kl_1 := kl_0.below hbp1
       obtain ⟨kl0wi_, kl1wi_, kl2wi_, kl3wi_, kl4wi_, kl5wi_, kl6wi_⟩ := kl_1.facts
       have kh_1 := kh_0.below hbp1
       obtain ⟨kh0wi_, kh1wi_, kh2wi_, kh3wi_, kh4wi_, kh5wi_, kh6wi_⟩ := kh_1.facts
       have kc_1 := kc_0.below hbp1
       obtain ⟨kc0wi_, kc1wi_, kc2wi_, kc3wi_, kc4wi_, kc5wi_, kc6wi_⟩ := kc_1.facts
       have hwq1 := hwq0.trans (hbp1.mono hwq0.size))
    | (go_at_call_of 35 (Value.agg #[.bool h.s, .slice h.N h.ns.length h.nc, .slice h.D h.ds.length h.dc])
       refine (rdivq h c _ _ _ (by first | exact hh_1 | exact hh_1.drew | exact hh_1.alloc _ | exact (hh_1.alloc _).drew | exact hh_1.drew.alloc _) (by first | exact hc_1 | exact hc_1.drew | exact hc_1.alloc _ | exact (hc_1.alloc _).drew | exact hc_1.drew.alloc _) (by omega) HCP.out).mono ?_
       rintro e wr_ ⟨z, rfl, hz, hza, hzb, hbz⟩
       rw [HD2.out] at hz
       have hbp2 : Below wi_.heap.size wi_ wr_ := by first | exact hbz | exact below_of_drew hbz (Nat.le_refl _) | exact ((Below.refl _ _).alloc (Nat.le_refl _) _).trans (hbz.mono (by simp)) | exact ((Below.refl _ _).alloc (Nat.le_refl _) _).trans ((below_of_drew hbz (Nat.le_refl _)).mono (by simp)) | exact below_of_drew (((Below.refl _ _).alloc (Nat.le_refl _) _).trans (hbz.mono (by simp))) (Nat.le_refl _)
       have hd_2 := hd_1.below hbp2
       have hv_2 := hv_1.below hbp2
       have hl_2 := hl_1.below hbp2
       have hh_2 := hh_1.below hbp2
       have hc_2 := hc_1.below hbp2
       have hy_2 := hy_1.below hbp2
       have kd_2 := kd_1.below hbp2
       obtain ⟨kd0wr_, kd1wr_, kd2wr_, kd3wr_, kd4wr_, kd5wr_, kd6wr_⟩ := kd_2.facts
       have kv_2 := kv_1.below hbp2
       obtain ⟨kv0wr_, kv1wr_, kv2wr_, kv3wr_, kv4wr_, kv5wr_, kv6wr_⟩ := kv_2.facts
       have kl_2 := kl_1.below hbp2
       obtain ⟨kl0wr_, kl1wr_, kl2wr_, kl3wr_, kl4wr_, kl5wr_, kl6wr_⟩ := kl_2.facts
       have kh_2 := kh_1.below hbp2
       obtain ⟨kh0wr_, kh1wr_, kh2wr_, kh3wr_, kh4wr_, kh5wr_, kh6wr_⟩ := kh_2.facts
       have kc_2 := kc_1.below hbp2
       obtain ⟨kc0wr_, kc1wr_, kc2wr_, kc3wr_, kc4wr_, kc5wr_, kc6wr_⟩ := kc_2.facts
       have hwq2 := hwq1.trans (hbp2.mono hwq1.size))
    | (go_at_call_of 26 (Value.agg #[.bool v.s, .slice v.N v.ns.length v.nc, .slice v.D v.ds.length v.dc])
       refine (qis_yes v z _ _ (by first | exact hv_2 | exact hv_2.drew | exact hv_2.alloc _ | exact (hv_2.alloc _).drew | exact hv_2.drew.alloc _) (by first | exact hz | exact hz.drew | exact hz.alloc _ | exact (hz.alloc _).drew | exact hz.drew.alloc _) (by omega) (by omega)).mono ?_
       rintro e wj_ ⟨rfl, hbj⟩
       have hbp3 : Below wr_.heap.size wr_ wj_ := by first | exact hbj | exact below_of_drew hbj (Nat.le_refl _) | exact ((Below.refl _ _).alloc (Nat.le_refl _) _).trans (hbj.mono (by simp)) | exact ((Below.refl _ _).alloc (Nat.le_refl _) _).trans ((below_of_drew hbj (Nat.le_refl _)).mono (by simp)) | exact below_of_drew (((Below.refl _ _).alloc (Nat.le_refl _) _).trans (hbj.mono (by simp))) (Nat.le_refl _)
       have hd_3 := hd_2.below hbp3
       have hv_3 := hv_2.below hbp3
       have hl_3 := hl_2.below hbp3
       have hh_3 := hh_2.below hbp3
       have hc_3 := hc_2.below hbp3
       have hy_3 := hy_2.below hbp3
       have hz_3 := hz.below hbp3
       have kd_3 := kd_2.below hbp3
       obtain ⟨kd0wj_, kd1wj_, kd2wj_, kd3wj_, kd4wj_, kd5wj_, kd6wj_⟩ := kd_3.facts
       have kv_3 := kv_2.below hbp3
       obtain ⟨kv0wj_, kv1wj_, kv2wj_, kv3wj_, kv4wj_, kv5wj_, kv6wj_⟩ := kv_3.facts
       have kl_3 := kl_2.below hbp3
       obtain ⟨kl0wj_, kl1wj_, kl2wj_, kl3wj_, kl4wj_, kl5wj_, kl6wj_⟩ := kl_3.facts
       have kh_3 := kh_2.below hbp3
       obtain ⟨kh0wj_, kh1wj_, kh2wj_, kh3wj_, kh4wj_, kh5wj_, kh6wj_⟩ := kh_3.facts
       have kc_3 := kc_2.below hbp3
       obtain ⟨kc0wj_, kc1wj_, kc2wj_, kc3wj_, kc4wj_, kc5wj_, kc6wj_⟩ := kc_3.facts
       have hwq3 := hwq2.trans (hbp3.mono hwq2.size)))
  all_goals
    go_wp2_with fail
    go_ret
    exact ⟨rfl, hwq3⟩
theorem rounds_row (a : RL) (n : Int) (_ : (Lit.int .i64 n).wf = true) (w : World) (ha : a.Raw w) (htab : Lib.TabBelow Tryz.prog w.heap.size w "internal/strconv.uint64pow10" .u64 Lib.pow10Tab) :
    Calls Tryz.prog 5 #[.agg #[.bool a.s, .slice a.N a.ns.length a.nc, .slice a.D a.ds.length a.dc], .int .i64 n] w (Yes w) := by
  by_cases h : a.Sm 6 ∧ a.Val
  · obtain ⟨⟨l1, l2⟩, hv⟩ := h
    have hi := ha.is hv
    rcases Int.lt_or_le n 0 with h1 | h1
    · exact rounds_low a _ n h1 w ha hi l1 l2 hv htab
    · rcases Int.lt_or_le 4000 n with h2 | h2
      · exact rounds_high a _ n h2 w ha hi l1 l2 hv htab
      · obtain ⟨k, rfl⟩ : ∃ k : Nat, n = (k : Int) := ⟨n.toNat, by omega⟩
        rcases Nat.lt_or_ge 200 k with h5 | h5
        · exact rounds_far a _ k (by omega) h5 w ha hi l1 l2 hv htab
        · exact rounds_near a _ k (by omega) h5 w ha hi l1 l2 hv htab
  · exact rounds_no a n w ha ha (fun h2 => h ⟨h2.1, h2.2.2.1⟩) htab
end Go.Proofs.YtdonbgjmcbhecaaGreatDoor

