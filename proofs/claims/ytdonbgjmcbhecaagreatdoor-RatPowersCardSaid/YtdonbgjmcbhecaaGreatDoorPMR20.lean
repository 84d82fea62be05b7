/- isochronelaw02.RatPowers answers true for all arguments: the walks. -/
import Derived.Test.YtdonbgjmcbhecaaGreatDoorPMR19
namespace Go.Proofs.YtdonbgjmcbhecaaGreatDoor
open Go.RowKit V
set_option maxRecDepth 100000 in
set_option maxHeartbeats 3200000 in
theorem pows_no (a : RL) (n : Int) (w : World) (hraw : a.Raw w) (ha : a.Raw w) (hno : ¬ (a.Sm 2 ∧ a.Sm 2 ∧ a.Val ∧ a.Val)) (htab : Lib.TabBelow Tryz.prog w.heap.size w "internal/strconv.uint64pow10" .u64 Lib.pow10Tab) :
    Calls Tryz.prog 4 #[.agg #[.bool a.s, .slice a.N a.ns.length a.nc, .slice a.D a.ds.length a.dc], .int .i64 n] w (Yes w) := by
  have HT := Lib.hid htab
  have HNO := Lib.hid hno
  clear htab hno
  go_enter Tryz.func4, Tryz.ntmps4
  go_wp2_with fail
  have hbox := (⟨Blk3.new w (.bool a.s) (.slice a.N a.ns.length a.nc) (.slice a.D a.ds.length a.dc), (Below.refl _ _).alloc (Nat.le_refl _) _⟩ : _ ∧ Below w.heap.size w (w.alloc (.cells #[.bool a.s, .slice a.N a.ns.length a.nc, .slice a.D a.ds.length a.dc] 24)))
  obtain ⟨w1, hwe⟩ : ∃ x, w.alloc (.cells #[.bool a.s, .slice a.N a.ns.length a.nc, .slice a.D a.ds.length a.dc] 24) = x := ⟨_, rfl⟩
  rw [hwe] at hbox ⊢
  obtain ⟨ka1, hb1⟩ := hbox
  have HWE := Lib.hid hwe
  clear hwe HWE
  have hraw1 := hraw.below hb1
  have ha1 := ha.below hb1
  have hw1 := hb1
  clear hraw ha hb1
  refine (qawake_yes _ (fun w' h => HT.out w' (hw1.trans (h.mono hw1.size)))).mono ?_
  rintro e w2 ⟨rfl, hb2⟩
  have hraw2 := hraw1.below hb2
  have ha2 := ha1.below hb2
  have ka2 := ka1.below hb2
  have hw2 := hw1.trans (hb2.mono hw1.size)
  clear hraw1 ha1 ka1 hw1 hb2
  obtain ⟨a0, a1, a2, a3, a4, a5, a6⟩ := ka2.facts
  go_wp2_with fail
  refine (qsm_no a a 2 _ hraw2 hraw2 HNO.out).mono ?_
  rintro e w3 ⟨rfl, hb3⟩
  have hraw3 := hraw2.below hb3
  have ha3 := ha2.below hb3
  have ka3 := ka2.below hb3
  have hw3 := hw2.trans (hb3.mono hw2.size)
  clear hraw2 ha2 ka2 hw2 hb3
  clear a0 a1 a2 a3 a4 a5 a6
  go_wp2_with fail
  go_ret
  exact ⟨rfl, hw3⟩
set_option maxRecDepth 100000 in
set_option maxHeartbeats 3200000 in
theorem pows_low (a : RL) (q : Rat) (n : Int) (hr : n < -1000) (w : World) (hraw : a.Raw w) (ha : a.Is w q) (l1 : a.ns.length ≤ 2) (l2 : a.ds.length ≤ 2) (hva : Hid a.Val) (htab : Lib.TabBelow Tryz.prog w.heap.size w "internal/strconv.uint64pow10" .u64 Lib.pow10Tab) :
    Calls Tryz.prog 4 #[.agg #[.bool a.s, .slice a.N a.ns.length a.nc, .slice a.D a.ds.length a.dc], .int .i64 n] w (Yes w) := by
  have HT := Lib.hid htab
  have HVA := hva
  clear htab hva
  have HR : Hid (n < -1000 ∨ (-1000 ≤ n ∧ 1000 < n)) := Lib.hid (Or.inl hr)
  go_enter Tryz.func4, Tryz.ntmps4
  go_wp2_with fail
  have hbox := (⟨Blk3.new w (.bool a.s) (.slice a.N a.ns.length a.nc) (.slice a.D a.ds.length a.dc), (Below.refl _ _).alloc (Nat.le_refl _) _⟩ : _ ∧ Below w.heap.size w (w.alloc (.cells #[.bool a.s, .slice a.N a.ns.length a.nc, .slice a.D a.ds.length a.dc] 24)))
  obtain ⟨w1, hwe⟩ : ∃ x, w.alloc (.cells #[.bool a.s, .slice a.N a.ns.length a.nc, .slice a.D a.ds.length a.dc] 24) = x := ⟨_, rfl⟩
  rw [hwe] at hbox ⊢
  obtain ⟨ka1, hb1⟩ := hbox
  have HWE := Lib.hid hwe
  clear hwe HWE
  have hraw1 := hraw.below hb1
  have ha1 := ha.below hb1
  have hw1 := hb1
  clear hraw ha hb1
  refine (qawake_yes _ (fun w' h => HT.out w' (hw1.trans (h.mono hw1.size)))).mono ?_
  rintro e w2 ⟨rfl, hb2⟩
  have hraw2 := hraw1.below hb2
  have ha2 := ha1.below hb2
  have ka2 := ka1.below hb2
  have hw2 := hw1.trans (hb2.mono hw1.size)
  clear hraw1 ha1 ka1 hw1 hb2
  obtain ⟨a0, a1, a2, a3, a4, a5, a6⟩ := ka2.facts
  go_wp2_with fail
  refine (qsm_yes a a 2 _ hraw2 hraw2 ⟨l1, l2⟩ ⟨l1, l2⟩ HVA HVA).mono ?_
  rintro e w3 ⟨rfl, hb3⟩
  have hraw3 := hraw2.below hb3
  have ha3 := ha2.below hb3
  have ka3 := ka2.below hb3
  have hw3 := hw2.trans (hb3.mono hw2.size)
  clear hraw2 ha2 ka2 hw2 hb3
  clear a0 a1 a2 a3 a4 a5 a6
  obtain ⟨a0, a1, a2, a3, a4, a5, a6⟩ := ka3.facts
  go_wp2_with fail
  refine (qpow_range a q n HR.out _ ha3 l1 l2).mono ?_
  rintro e w4 ⟨rfl, hb4⟩
  have hraw4 := hraw3.below hb4
  have ha4 := ha3.below hb4
  have ka4 := ka3.below hb4
  have hw4 := hw3.trans (hb4.mono hw3.size)
  clear hraw3 ha3 ka3 hw3 hb4
  clear a0 a1 a2 a3 a4 a5 a6
  go_upto_region 6 with fail
  have kp5 := Blk3.new w4 (.bool false) (.slice none 0 0) (.slice none 0 0)
  have hb5 : Below w4.heap.size w4 (w4.alloc (.cells #[.bool false, .slice none 0 0, .slice none 0 0] 24)) := (Below.refl _ _).alloc (Nat.le_refl _) _
  obtain ⟨w5, hwe⟩ : ∃ x, w4.alloc (.cells #[.bool false, .slice none 0 0, .slice none 0 0] 24) = x := ⟨_, rfl⟩
  rw [hwe] at kp5 hb5 ⊢
  clear hwe
  have hraw5 := hraw4.below hb5
  have ha5 := ha4.below hb5
  have ka5 := ka4.below hb5
  have hw5 := hw4.trans (hb5.mono hw4.size)
  clear hraw4 ha4 ka4 hw4 hb5
  obtain ⟨p0, p1, p2, p3, p4, p5, p6⟩ := kp5.facts
  go_wp2_with fail
  refine (qnone_yes _).mono ?_
  rintro e w6 ⟨rfl, hb6⟩
  have hraw6 := hraw5.below hb6
  have ha6 := ha5.below hb6
  have ka6 := ka5.below hb6
  have kp6 := kp5.below hb6
  have hw6 := hw5.trans (hb6.mono hw5.size)
  clear hraw5 ha5 ka5 kp5 hw5 hb6
  clear p0 p1 p2 p3 p4 p5 p6
  go_wp2_with fail
  go_ret
  exact ⟨rfl, hw6⟩
set_option maxRecDepth 100000 in
set_option maxHeartbeats 3200000 in
theorem pows_high (a : RL) (q : Rat) (n : Int) (hr : 1000 < n) (w : World) (hraw : a.Raw w) (ha : a.Is w q) (l1 : a.ns.length ≤ 2) (l2 : a.ds.length ≤ 2) (hva : Hid a.Val) (htab : Lib.TabBelow Tryz.prog w.heap.size w "internal/strconv.uint64pow10" .u64 Lib.pow10Tab) :
    Calls Tryz.prog 4 #[.agg #[.bool a.s, .slice a.N a.ns.length a.nc, .slice a.D a.ds.length a.dc], .int .i64 n] w (Yes w) := by
  have HT := Lib.hid htab
  have HVA := hva
  clear htab hva
  have HR : Hid (n < -1000 ∨ (-1000 ≤ n ∧ 1000 < n)) := Lib.hid (Or.inr ⟨by omega, hr⟩)
  go_enter Tryz.func4, Tryz.ntmps4
  go_wp2_with fail
  have hbox := (⟨Blk3.new w (.bool a.s) (.slice a.N a.ns.length a.nc) (.slice a.D a.ds.length a.dc), (Below.refl _ _).alloc (Nat.le_refl _) _⟩ : _ ∧ Below w.heap.size w (w.alloc (.cells #[.bool a.s, .slice a.N a.ns.length a.nc, .slice a.D a.ds.length a.dc] 24)))
  obtain ⟨w1, hwe⟩ : ∃ x, w.alloc (.cells #[.bool a.s, .slice a.N a.ns.length a.nc, .slice a.D a.ds.length a.dc] 24) = x := ⟨_, rfl⟩
  rw [hwe] at hbox ⊢
  obtain ⟨ka1, hb1⟩ := hbox
  have HWE := Lib.hid hwe
  clear hwe HWE
  have hraw1 := hraw.below hb1
  have ha1 := ha.below hb1
  have hw1 := hb1
  clear hraw ha hb1
  refine (qawake_yes _ (fun w' h => HT.out w' (hw1.trans (h.mono hw1.size)))).mono ?_
  rintro e w2 ⟨rfl, hb2⟩
  have hraw2 := hraw1.below hb2
  have ha2 := ha1.below hb2
  have ka2 := ka1.below hb2
  have hw2 := hw1.trans (hb2.mono hw1.size)
  clear hraw1 ha1 ka1 hw1 hb2
  obtain ⟨a0, a1, a2, a3, a4, a5, a6⟩ := ka2.facts
  go_wp2_with fail
  refine (qsm_yes a a 2 _ hraw2 hraw2 ⟨l1, l2⟩ ⟨l1, l2⟩ HVA HVA).mono ?_
  rintro e w3 ⟨rfl, hb3⟩
  have hraw3 := hraw2.below hb3
  have ha3 := ha2.below hb3
  have ka3 := ka2.below hb3
  have hw3 := hw2.trans (hb3.mono hw2.size)
  clear hraw2 ha2 ka2 hw2 hb3
  clear a0 a1 a2 a3 a4 a5 a6
  obtain ⟨a0, a1, a2, a3, a4, a5, a6⟩ := ka3.facts
  go_wp2_with fail
  refine (qpow_range a q n HR.out _ ha3 l1 l2).mono ?_
  rintro e w4 ⟨rfl, hb4⟩
  have hraw4 := hraw3.below hb4
  have ha4 := ha3.below hb4
  have ka4 := ka3.below hb4
  have hw4 := hw3.trans (hb4.mono hw3.size)
  clear hraw3 ha3 ka3 hw3 hb4
  clear a0 a1 a2 a3 a4 a5 a6
  go_upto_region 6 with fail
  have kp5 := Blk3.new w4 (.bool false) (.slice none 0 0) (.slice none 0 0)
  have hb5 : Below w4.heap.size w4 (w4.alloc (.cells #[.bool false, .slice none 0 0, .slice none 0 0] 24)) := (Below.refl _ _).alloc (Nat.le_refl _) _
  obtain ⟨w5, hwe⟩ : ∃ x, w4.alloc (.cells #[.bool false, .slice none 0 0, .slice none 0 0] 24) = x := ⟨_, rfl⟩
  rw [hwe] at kp5 hb5 ⊢
  clear hwe
  have hraw5 := hraw4.below hb5
  have ha5 := ha4.below hb5
  have ka5 := ka4.below hb5
  have hw5 := hw4.trans (hb5.mono hw4.size)
  clear hraw4 ha4 ka4 hw4 hb5
  obtain ⟨p0, p1, p2, p3, p4, p5, p6⟩ := kp5.facts
  go_wp2_with fail
  refine (qnone_yes _).mono ?_
  rintro e w6 ⟨rfl, hb6⟩
  have hraw6 := hraw5.below hb6
  have ha6 := ha5.below hb6
  have ka6 := ka5.below hb6
  have kp6 := kp5.below hb6
  have hw6 := hw5.trans (hb6.mono hw5.size)
  clear hraw5 ha5 ka5 kp5 hw5 hb6
  clear p0 p1 p2 p3 p4 p5 p6
  go_wp2_with fail
  go_ret
  exact ⟨rfl, hw6⟩
set_option maxRecDepth 100000 in
set_option maxHeartbeats 3200000 in
theorem pows_czero (a : RL) (q : Rat) (n : Int) (hn : n < 0) (hn1 : -1000 ≤ n) (hz0 : a.ns.length = 0) (w : World) (hraw : a.Raw w) (ha : a.Is w q) (l1 : a.ns.length ≤ 2) (l2 : a.ds.length ≤ 2) (hva : Hid a.Val) (htab : Lib.TabBelow Tryz.prog w.heap.size w "internal/strconv.uint64pow10" .u64 Lib.pow10Tab) :
    Calls Tryz.prog 4 #[.agg #[.bool a.s, .slice a.N a.ns.length a.nc, .slice a.D a.ds.length a.dc], .int .i64 n] w (Yes w) := by
  have HT := Lib.hid htab
  have HVA := hva
  clear htab hva
  have HZ0 := Lib.hid hz0
  clear hz0
  go_enter Tryz.func4, Tryz.ntmps4
  go_wp2_with fail
  have hbox := (⟨Blk3.new w (.bool a.s) (.slice a.N a.ns.length a.nc) (.slice a.D a.ds.length a.dc), (Below.refl _ _).alloc (Nat.le_refl _) _⟩ : _ ∧ Below w.heap.size w (w.alloc (.cells #[.bool a.s, .slice a.N a.ns.length a.nc, .slice a.D a.ds.length a.dc] 24)))
  obtain ⟨w1, hwe⟩ : ∃ x, w.alloc (.cells #[.bool a.s, .slice a.N a.ns.length a.nc, .slice a.D a.ds.length a.dc] 24) = x := ⟨_, rfl⟩
  rw [hwe] at hbox ⊢
  obtain ⟨ka1, hb1⟩ := hbox
  have HWE := Lib.hid hwe
  clear hwe HWE
  have hraw1 := hraw.below hb1
  have ha1 := ha.below hb1
  have hw1 := hb1
  clear hraw ha hb1
  refine (qawake_yes _ (fun w' h => HT.out w' (hw1.trans (h.mono hw1.size)))).mono ?_
  rintro e w2 ⟨rfl, hb2⟩
  have hraw2 := hraw1.below hb2
  have ha2 := ha1.below hb2
  have ka2 := ka1.below hb2
  have hw2 := hw1.trans (hb2.mono hw1.size)
  clear hraw1 ha1 ka1 hw1 hb2
  obtain ⟨a0, a1, a2, a3, a4, a5, a6⟩ := ka2.facts
  go_wp2_with fail
  refine (qsm_yes a a 2 _ hraw2 hraw2 ⟨l1, l2⟩ ⟨l1, l2⟩ HVA HVA).mono ?_
  rintro e w3 ⟨rfl, hb3⟩
  have hraw3 := hraw2.below hb3
  have ha3 := ha2.below hb3
  have ka3 := ka2.below hb3
  have hw3 := hw2.trans (hb3.mono hw2.size)
  clear hraw2 ha2 ka2 hw2 hb3
  clear a0 a1 a2 a3 a4 a5 a6
  obtain ⟨a0, a1, a2, a3, a4, a5, a6⟩ := ka3.facts
  go_wp2_with fail
  refine (qpow_zer a q n hn hn1 HZ0.out _ ha3 l2).mono ?_
  rintro e w4 ⟨rfl, hb4⟩
  have hraw4 := hraw3.below hb4
  have ha4 := ha3.below hb4
  have ka4 := ka3.below hb4
  have hw4 := hw3.trans (hb4.mono hw3.size)
  clear hraw3 ha3 ka3 hw3 hb4
  clear a0 a1 a2 a3 a4 a5 a6
  go_upto_region 6 with fail
  have kp5 := Blk3.new w4 (.bool false) (.slice none 0 0) (.slice none 0 0)
  have hb5 : Below w4.heap.size w4 (w4.alloc (.cells #[.bool false, .slice none 0 0, .slice none 0 0] 24)) := (Below.refl _ _).alloc (Nat.le_refl _) _
  obtain ⟨w5, hwe⟩ : ∃ x, w4.alloc (.cells #[.bool false, .slice none 0 0, .slice none 0 0] 24) = x := ⟨_, rfl⟩
  rw [hwe] at kp5 hb5 ⊢
  clear hwe
  have hraw5 := hraw4.below hb5
  have ha5 := ha4.below hb5
  have ka5 := ka4.below hb5
  have hw5 := hw4.trans (hb5.mono hw4.size)
  clear hraw4 ha4 ka4 hw4 hb5
  obtain ⟨a0, a1, a2, a3, a4, a5, a6⟩ := ka5.facts
  go_wp2_with fail
  refine (qof a q _ ha5 (by omega) (by omega)).mono ?_
  rintro e w6 ⟨u, rfl, hx6, hxa, hxb, hb6⟩
  have hraw6 := hraw5.below hb6
  have ha6 := ha5.below hb6
  have ka6 := ka5.below hb6
  have kp6 := kp5.below hb6
  have hw6 := hw5.trans (hb6.mono hw5.size)
  clear hraw5 ha5 ka5 kp5 hw5 hb6
  clear a0 a1 a2 a3 a4 a5 a6
  go_upto_region 9 with fail
  have kx7 := BlkT.new 30 w6 (.bool u.s) (.slice u.N u.ns.length u.nc) (.slice u.D u.ds.length u.dc)
  have hb7 : Below w6.heap.size w6 (w6.alloc (.cells #[.bool u.s, .slice u.N u.ns.length u.nc, .slice u.D u.ds.length u.dc] 30)) := (Below.refl _ _).alloc (Nat.le_refl _) _
  obtain ⟨w7, hwe⟩ : ∃ x, w6.alloc (.cells #[.bool u.s, .slice u.N u.ns.length u.nc, .slice u.D u.ds.length u.dc] 30) = x := ⟨_, rfl⟩
  rw [hwe] at kx7 hb7 ⊢
  clear hwe
  have hraw7 := hraw6.below hb7
  have ha7 := ha6.below hb7
  have ka7 := ka6.below hb7
  have kp7 := kp6.below hb7
  have hx7 := hx6.below hb7
  have hw7 := hw6.trans (hb7.mono hw6.size)
  clear hraw6 ha6 ka6 kp6 hx6 hw6 hb7
  have HSG : Hid (sgnI u.s u.ns.length = 0) := by show _ = _; simp [sgnI, ref_zero ha7 hx7 HZ0.out]
  obtain ⟨x0, x1, x2, x3, x4, x5, x6⟩ := kx7.facts
  go_wp2_with fail
  refine (rsign u.s u.N u.D u.ns.length u.nc u.ds.length u.dc _).mono ?_
  rintro e w8 ⟨he, hb8⟩
  have hraw8 := hraw7.below hb8
  have ha8 := ha7.below hb8
  have ka8 := ka7.below hb8
  have kp8 := kp7.below hb8
  have hx8 := hx7.below hb8
  have kx8 := kx7.below hb8
  have hw8 := hw7.trans (hb8.mono hw7.size)
  clear hraw7 ha7 ka7 kp7 hx7 kx7 hw7 hb8
  rw [HSG.out] at he
  subst he
  clear x0 x1 x2 x3 x4 x5 x6
  obtain ⟨p0, p1, p2, p3, p4, p5, p6⟩ := kp8.facts
  go_wp2_with fail
  refine (qnone_yes _).mono ?_
  rintro e w9 ⟨rfl, hb9⟩
  have hraw9 := hraw8.below hb9
  have ha9 := ha8.below hb9
  have ka9 := ka8.below hb9
  have kp9 := kp8.below hb9
  have hx9 := hx8.below hb9
  have kx9 := kx8.below hb9
  have hw9 := hw8.trans (hb9.mono hw8.size)
  clear hraw8 ha8 ka8 kp8 hx8 kx8 hw8 hb9
  clear p0 p1 p2 p3 p4 p5 p6
  go_wp2_with fail
  go_ret
  exact ⟨rfl, hw9⟩
set_option maxRecDepth 100000 in
set_option maxHeartbeats 3200000 in
theorem pows_far0 (a : RL) (q : Rat) (k : Nat) (hk : k ≤ 1000) (hk2 : 40 < k) (hz0 : a.ns.length = 0) (w : World) (hraw : a.Raw w) (ha : a.Is w q) (l1 : a.ns.length ≤ 2) (l2 : a.ds.length ≤ 2) (hva : Hid a.Val) (htab : Lib.TabBelow Tryz.prog w.heap.size w "internal/strconv.uint64pow10" .u64 Lib.pow10Tab) :
    Calls Tryz.prog 4 #[.agg #[.bool a.s, .slice a.N a.ns.length a.nc, .slice a.D a.ds.length a.dc], .int .i64 k] w (Yes w) := by
  have HT := Lib.hid htab
  have HVA := hva
  clear htab hva
  have HZ0 := Lib.hid hz0
  clear hz0
  go_enter Tryz.func4, Tryz.ntmps4
  go_wp2_with fail
  have hbox := (⟨Blk3.new w (.bool a.s) (.slice a.N a.ns.length a.nc) (.slice a.D a.ds.length a.dc), (Below.refl _ _).alloc (Nat.le_refl _) _⟩ : _ ∧ Below w.heap.size w (w.alloc (.cells #[.bool a.s, .slice a.N a.ns.length a.nc, .slice a.D a.ds.length a.dc] 24)))
  obtain ⟨w1, hwe⟩ : ∃ x, w.alloc (.cells #[.bool a.s, .slice a.N a.ns.length a.nc, .slice a.D a.ds.length a.dc] 24) = x := ⟨_, rfl⟩
  rw [hwe] at hbox ⊢
  obtain ⟨ka1, hb1⟩ := hbox
  have HWE := Lib.hid hwe
  clear hwe HWE
  have hraw1 := hraw.below hb1
  have ha1 := ha.below hb1
  have hw1 := hb1
  clear hraw ha hb1
  refine (qawake_yes _ (fun w' h => HT.out w' (hw1.trans (h.mono hw1.size)))).mono ?_
  rintro e w2 ⟨rfl, hb2⟩
  have hraw2 := hraw1.below hb2
  have ha2 := ha1.below hb2
  have ka2 := ka1.below hb2
  have hw2 := hw1.trans (hb2.mono hw1.size)
  clear hraw1 ha1 ka1 hw1 hb2
  obtain ⟨a0, a1, a2, a3, a4, a5, a6⟩ := ka2.facts
  go_wp2_with fail
  refine (qsm_yes a a 2 _ hraw2 hraw2 ⟨l1, l2⟩ ⟨l1, l2⟩ HVA HVA).mono ?_
  rintro e w3 ⟨rfl, hb3⟩
  have hraw3 := hraw2.below hb3
  have ha3 := ha2.below hb3
  have ka3 := ka2.below hb3
  have hw3 := hw2.trans (hb3.mono hw2.size)
  clear hraw2 ha2 ka2 hw2 hb3
  clear a0 a1 a2 a3 a4 a5 a6
  obtain ⟨a0, a1, a2, a3, a4, a5, a6⟩ := ka3.facts
  go_wp2_with fail
  refine (qpow_pos a q k (by omega) _ ha3 l1 l2).mono ?_
  rintro e w4 ⟨r, rfl, hr4, hrl1, hrl2, hb4⟩
  have hraw4 := hraw3.below hb4
  have ha4 := ha3.below hb4
  have ka4 := ka3.below hb4
  have hw4 := hw3.trans (hb4.mono hw3.size)
  clear hraw3 ha3 ka3 hw3 hb4
  clear a0 a1 a2 a3 a4 a5 a6
  go_upto_region 6 with fail
  have kp5 := Blk3.new w4 (.bool r.s) (.slice r.N r.ns.length r.nc) (.slice r.D r.ds.length r.dc)
  have hb5 : Below w4.heap.size w4 (w4.alloc (.cells #[.bool r.s, .slice r.N r.ns.length r.nc, .slice r.D r.ds.length r.dc] 24)) := (Below.refl _ _).alloc (Nat.le_refl _) _
  obtain ⟨w5, hwe⟩ : ∃ x, w4.alloc (.cells #[.bool r.s, .slice r.N r.ns.length r.nc, .slice r.D r.ds.length r.dc] 24) = x := ⟨_, rfl⟩
  rw [hwe] at kp5 hb5 ⊢
  clear hwe
  have hraw5 := hraw4.below hb5
  have ha5 := ha4.below hb5
  have ka5 := ka4.below hb5
  have hr5 := hr4.below hb5
  have hw5 := hw4.trans (hb5.mono hw4.size)
  clear hraw4 ha4 ka4 hr4 hw4 hb5
  obtain ⟨a0, a1, a2, a3, a4, a5, a6⟩ := ka5.facts
  go_wp2_with fail
  refine (qof a q _ ha5 (by omega) (by omega)).mono ?_
  rintro e w6 ⟨u, rfl, hx6, hxa, hxb, hb6⟩
  have hraw6 := hraw5.below hb6
  have ha6 := ha5.below hb6
  have ka6 := ka5.below hb6
  have hr6 := hr5.below hb6
  have kp6 := kp5.below hb6
  have hw6 := hw5.trans (hb6.mono hw5.size)
  clear hraw5 ha5 ka5 hr5 kp5 hw5 hb6
  clear a0 a1 a2 a3 a4 a5 a6
  go_upto_region 9 with fail
  have kx7 := BlkT.new 30 w6 (.bool u.s) (.slice u.N u.ns.length u.nc) (.slice u.D u.ds.length u.dc)
  have hb7 : Below w6.heap.size w6 (w6.alloc (.cells #[.bool u.s, .slice u.N u.ns.length u.nc, .slice u.D u.ds.length u.dc] 30)) := (Below.refl _ _).alloc (Nat.le_refl _) _
  obtain ⟨w7, hwe⟩ : ∃ x, w6.alloc (.cells #[.bool u.s, .slice u.N u.ns.length u.nc, .slice u.D u.ds.length u.dc] 30) = x := ⟨_, rfl⟩
  rw [hwe] at kx7 hb7 ⊢
  clear hwe
  have hraw7 := hraw6.below hb7
  have ha7 := ha6.below hb7
  have ka7 := ka6.below hb7
  have hr7 := hr6.below hb7
  have kp7 := kp6.below hb7
  have hx7 := hx6.below hb7
  have hw7 := hw6.trans (hb7.mono hw6.size)
  clear hraw6 ha6 ka6 hr6 kp6 hx6 hw6 hb7
  have HSG : Hid (sgnI u.s u.ns.length = 0) := by show _ = _; simp [sgnI, ref_zero ha7 hx7 HZ0.out]
  obtain ⟨x0, x1, x2, x3, x4, x5, x6⟩ := kx7.facts
  go_wp2_with fail
  refine (rsign u.s u.N u.D u.ns.length u.nc u.ds.length u.dc _).mono ?_
  rintro e w8 ⟨he, hb8⟩
  have hraw8 := hraw7.below hb8
  have ha8 := ha7.below hb8
  have ka8 := ka7.below hb8
  have hr8 := hr7.below hb8
  have kp8 := kp7.below hb8
  have hx8 := hx7.below hb8
  have kx8 := kx7.below hb8
  have hw8 := hw7.trans (hb8.mono hw7.size)
  clear hraw7 ha7 ka7 hr7 kp7 hx7 kx7 hw7 hb8
  rw [HSG.out] at he
  subst he
  clear x0 x1 x2 x3 x4 x5 x6
  go_wp2_with fail
  go_ret
  exact ⟨rfl, hw8⟩
set_option maxRecDepth 100000 in
set_option maxHeartbeats 3200000 in
theorem pows_pos0 (a : RL) (q : Rat) (k : Nat) (hk : k ≤ 40) (hz0 : a.ns.length = 0) (w : World) (hraw : a.Raw w) (ha : a.Is w q) (l1 : a.ns.length ≤ 2) (l2 : a.ds.length ≤ 2) (hva : Hid a.Val) (htab : Lib.TabBelow Tryz.prog w.heap.size w "internal/strconv.uint64pow10" .u64 Lib.pow10Tab) :
    Calls Tryz.prog 4 #[.agg #[.bool a.s, .slice a.N a.ns.length a.nc, .slice a.D a.ds.length a.dc], .int .i64 k] w (Yes w) := by
  have HT := Lib.hid htab
  have HVA := hva
  clear htab hva
  have HZ0 := Lib.hid hz0
  clear hz0
  go_enter Tryz.func4, Tryz.ntmps4
  go_wp2_with fail
  have hbox := (⟨Blk3.new w (.bool a.s) (.slice a.N a.ns.length a.nc) (.slice a.D a.ds.length a.dc), (Below.refl _ _).alloc (Nat.le_refl _) _⟩ : _ ∧ Below w.heap.size w (w.alloc (.cells #[.bool a.s, .slice a.N a.ns.length a.nc, .slice a.D a.ds.length a.dc] 24)))
  obtain ⟨w1, hwe⟩ : ∃ x, w.alloc (.cells #[.bool a.s, .slice a.N a.ns.length a.nc, .slice a.D a.ds.length a.dc] 24) = x := ⟨_, rfl⟩
  rw [hwe] at hbox ⊢
  obtain ⟨ka1, hb1⟩ := hbox
  have HWE := Lib.hid hwe
  clear hwe HWE
  have hraw1 := hraw.below hb1
  have ha1 := ha.below hb1
  have hw1 := hb1
  clear hraw ha hb1
  refine (qawake_yes _ (fun w' h => HT.out w' (hw1.trans (h.mono hw1.size)))).mono ?_
  rintro e w2 ⟨rfl, hb2⟩
  have hraw2 := hraw1.below hb2
  have ha2 := ha1.below hb2
  have ka2 := ka1.below hb2
  have hw2 := hw1.trans (hb2.mono hw1.size)
  clear hraw1 ha1 ka1 hw1 hb2
  obtain ⟨a0, a1, a2, a3, a4, a5, a6⟩ := ka2.facts
  go_wp2_with fail
  refine (qsm_yes a a 2 _ hraw2 hraw2 ⟨l1, l2⟩ ⟨l1, l2⟩ HVA HVA).mono ?_
  rintro e w3 ⟨rfl, hb3⟩
  have hraw3 := hraw2.below hb3
  have ha3 := ha2.below hb3
  have ka3 := ka2.below hb3
  have hw3 := hw2.trans (hb3.mono hw2.size)
  clear hraw2 ha2 ka2 hw2 hb3
  clear a0 a1 a2 a3 a4 a5 a6
  obtain ⟨a0, a1, a2, a3, a4, a5, a6⟩ := ka3.facts
  go_wp2_with fail
  refine (qpow_pos a q k (by omega) _ ha3 l1 l2).mono ?_
  rintro e w4 ⟨r, rfl, hr4, hrl1, hrl2, hb4⟩
  have hraw4 := hraw3.below hb4
  have ha4 := ha3.below hb4
  have ka4 := ka3.below hb4
  have hw4 := hw3.trans (hb4.mono hw3.size)
  clear hraw3 ha3 ka3 hw3 hb4
  clear a0 a1 a2 a3 a4 a5 a6
  go_upto_region 6 with fail
  have kp5 := Blk3.new w4 (.bool r.s) (.slice r.N r.ns.length r.nc) (.slice r.D r.ds.length r.dc)
  have hb5 : Below w4.heap.size w4 (w4.alloc (.cells #[.bool r.s, .slice r.N r.ns.length r.nc, .slice r.D r.ds.length r.dc] 24)) := (Below.refl _ _).alloc (Nat.le_refl _) _
  obtain ⟨w5, hwe⟩ : ∃ x, w4.alloc (.cells #[.bool r.s, .slice r.N r.ns.length r.nc, .slice r.D r.ds.length r.dc] 24) = x := ⟨_, rfl⟩
  rw [hwe] at kp5 hb5 ⊢
  clear hwe
  have hraw5 := hraw4.below hb5
  have ha5 := ha4.below hb5
  have ka5 := ka4.below hb5
  have hr5 := hr4.below hb5
  have hw5 := hw4.trans (hb5.mono hw4.size)
  clear hraw4 ha4 ka4 hr4 hw4 hb5
  obtain ⟨a0, a1, a2, a3, a4, a5, a6⟩ := ka5.facts
  go_wp2_with fail
  refine (qof a q _ ha5 (by omega) (by omega)).mono ?_
  rintro e w6 ⟨u, rfl, hx6, hxa, hxb, hb6⟩
  have hraw6 := hraw5.below hb6
  have ha6 := ha5.below hb6
  have ka6 := ka5.below hb6
  have hr6 := hr5.below hb6
  have kp6 := kp5.below hb6
  have hw6 := hw5.trans (hb6.mono hw5.size)
  clear hraw5 ha5 ka5 hr5 kp5 hw5 hb6
  clear a0 a1 a2 a3 a4 a5 a6
  go_upto_region 9 with fail
  have kx7 := BlkT.new 30 w6 (.bool u.s) (.slice u.N u.ns.length u.nc) (.slice u.D u.ds.length u.dc)
  have hb7 : Below w6.heap.size w6 (w6.alloc (.cells #[.bool u.s, .slice u.N u.ns.length u.nc, .slice u.D u.ds.length u.dc] 30)) := (Below.refl _ _).alloc (Nat.le_refl _) _
  obtain ⟨w7, hwe⟩ : ∃ x, w6.alloc (.cells #[.bool u.s, .slice u.N u.ns.length u.nc, .slice u.D u.ds.length u.dc] 30) = x := ⟨_, rfl⟩
  rw [hwe] at kx7 hb7 ⊢
  clear hwe
  have hraw7 := hraw6.below hb7
  have ha7 := ha6.below hb7
  have ka7 := ka6.below hb7
  have hr7 := hr6.below hb7
  have kp7 := kp6.below hb7
  have hx7 := hx6.below hb7
  have hw7 := hw6.trans (hb7.mono hw6.size)
  clear hraw6 ha6 ka6 hr6 kp6 hx6 hw6 hb7
  have HSG : Hid (sgnI u.s u.ns.length = 0) := by show _ = _; simp [sgnI, ref_zero ha7 hx7 HZ0.out]
  obtain ⟨x0, x1, x2, x3, x4, x5, x6⟩ := kx7.facts
  go_wp2_with fail
  refine (rsign u.s u.N u.D u.ns.length u.nc u.ds.length u.dc _).mono ?_
  rintro e w8 ⟨he, hb8⟩
  have hraw8 := hraw7.below hb8
  have ha8 := ha7.below hb8
  have ka8 := ka7.below hb8
  have hr8 := hr7.below hb8
  have kp8 := kp7.below hb8
  have hx8 := hx7.below hb8
  have kx8 := kx7.below hb8
  have hw8 := hw7.trans (hb8.mono hw7.size)
  clear hraw7 ha7 ka7 hr7 kp7 hx7 kx7 hw7 hb8
  rw [HSG.out] at he
  subst he
  clear x0 x1 x2 x3 x4 x5 x6
  obtain ⟨p0, p1, p2, p3, p4, p5, p6⟩ := kp8.facts
  obtain ⟨x0, x1, x2, x3, x4, x5, x6⟩ := kx8.facts
  go_upto_region 15 with fail
  go_region_held3 (fun w' => w'.cell? ⟨w4.heap.size, 0, none⟩ = some (.bool r.s) ∧ w'.cell? ⟨w4.heap.size, 1, none⟩ = some (.slice r.N r.ns.length r.nc) ∧ w'.cell? ⟨w4.heap.size, 2, none⟩ = some (.slice r.D r.ds.length r.dc) ∧ w'.cell? ⟨w6.heap.size, 0, none⟩ = some (.bool u.s) ∧ w'.cell? ⟨w6.heap.size, 1, none⟩ = some (.slice u.N u.ns.length u.nc) ∧ w'.cell? ⟨w6.heap.size, 2, none⟩ = some (.slice u.D u.ds.length u.dc)) (first | exact ⟨‹_›, ‹_›, ‹_›, ‹_›, ‹_›, ‹_›⟩ | go_keep)
    (first
    | (go_at_call 38
       refine (rpowq u q k _ (by omega) (by first | exact hx8 | exact hx8.drew | exact hx8.alloc _ | exact (hx8.alloc _).drew | exact hx8.drew.alloc _) (by omega) (by omega)).mono ?_
       rintro e wq_ ⟨y, rfl, hy, hyl1, hyl2, hby⟩
       have hbp0 : Below w8.heap.size w8 wq_ := by first | exact hby | exact below_of_drew hby (Nat.le_refl _) | exact ((Below.refl _ _).alloc (Nat.le_refl _) _).trans (hby.mono (by simp)) | exact ((Below.refl _ _).alloc (Nat.le_refl _) _).trans ((below_of_drew hby (Nat.le_refl _)).mono (by simp)) | exact below_of_drew (((Below.refl _ _).alloc (Nat.le_refl _) _).trans (hby.mono (by simp))) (Nat.le_refl _)
       have hr_0 := hr8.below hbp0
       have hx_0 := hx8.below hbp0
       have kp_0 := kp8.below hbp0
       obtain ⟨kp0wq_, kp1wq_, kp2wq_, kp3wq_, kp4wq_, kp5wq_, kp6wq_⟩ := kp_0.facts
       have kx_0 := kx8.below hbp0
       obtain ⟨kx0wq_, kx1wq_, kx2wq_, kx3wq_, kx4wq_, kx5wq_, kx6wq_⟩ := kx_0.facts
       have hwq0 := hw8.trans (hbp0.mono hw8.size))
    | (go_at_call 26
       refine (qis_yes r y (q ^ k) _ (by first | exact hr_0 | exact hr_0.drew | exact hr_0.alloc _ | exact (hr_0.alloc _).drew | exact hr_0.drew.alloc _) (by first | exact hy | exact hy.drew | exact hy.alloc _ | exact (hy.alloc _).drew | exact hy.drew.alloc _) (by omega) (by omega)).mono ?_
       rintro e wi_ ⟨rfl, hbi⟩
       have hbp1 : Below wq_.heap.size wq_ wi_ := by first | exact hbi | exact below_of_drew hbi (Nat.le_refl _) | exact ((Below.refl _ _).alloc (Nat.le_refl _) _).trans (hbi.mono (by simp)) | exact ((Below.refl _ _).alloc (Nat.le_refl _) _).trans ((below_of_drew hbi (Nat.le_refl _)).mono (by simp)) | exact below_of_drew (((Below.refl _ _).alloc (Nat.le_refl _) _).trans (hbi.mono (by simp))) (Nat.le_refl _)
       have hr_1 := hr_0.below hbp1
       have hx_1 := hx_0.below hbp1
       have hy_1 := hy.below hbp1
       have kp_1 := kp_0.below hbp1
       obtain ⟨kp0wi_, kp1wi_, kp2wi_, kp3wi_, kp4wi_, kp5wi_, kp6wi_⟩ := kp_1.facts
       have kx_1 := kx_0.below hbp1
       obtain ⟨kx0wi_, kx1wi_, kx2wi_, kx3wi_, kx4wi_, kx5wi_, kx6wi_⟩ := kx_1.facts
       have hwq1 := hwq0.trans (hbp1.mono hwq0.size)))
  all_goals
    go_wp2_with fail
    go_ret
    exact ⟨rfl, hwq1⟩
set_option maxRecDepth 100000 in
set_option maxHeartbeats 3200000 in
theorem pows_far1 (a : RL) (q : Rat) (k : Nat) (hk : k ≤ 1000) (hk2 : 40 < k) (hn0 : 0 < a.ns.length) (w : World) (hraw : a.Raw w) (ha : a.Is w q) (l1 : a.ns.length ≤ 2) (l2 : a.ds.length ≤ 2) (hva : Hid a.Val) (htab : Lib.TabBelow Tryz.prog w.heap.size w "internal/strconv.uint64pow10" .u64 Lib.pow10Tab) :
    Calls Tryz.prog 4 #[.agg #[.bool a.s, .slice a.N a.ns.length a.nc, .slice a.D a.ds.length a.dc], .int .i64 k] w (Yes w) := by
  have HT := Lib.hid htab
  have HVA := hva
  clear htab hva
  go_enter Tryz.func4, Tryz.ntmps4
  go_wp2_with fail
  have hbox := (⟨Blk3.new w (.bool a.s) (.slice a.N a.ns.length a.nc) (.slice a.D a.ds.length a.dc), (Below.refl _ _).alloc (Nat.le_refl _) _⟩ : _ ∧ Below w.heap.size w (w.alloc (.cells #[.bool a.s, .slice a.N a.ns.length a.nc, .slice a.D a.ds.length a.dc] 24)))
  obtain ⟨w1, hwe⟩ : ∃ x, w.alloc (.cells #[.bool a.s, .slice a.N a.ns.length a.nc, .slice a.D a.ds.length a.dc] 24) = x := ⟨_, rfl⟩
  rw [hwe] at hbox ⊢
  obtain ⟨ka1, hb1⟩ := hbox
  have HWE := Lib.hid hwe
  clear hwe HWE
  have hraw1 := hraw.below hb1
  have ha1 := ha.below hb1
  have hw1 := hb1
  clear hraw ha hb1
  refine (qawake_yes _ (fun w' h => HT.out w' (hw1.trans (h.mono hw1.size)))).mono ?_
  rintro e w2 ⟨rfl, hb2⟩
  have hraw2 := hraw1.below hb2
  have ha2 := ha1.below hb2
  have ka2 := ka1.below hb2
  have hw2 := hw1.trans (hb2.mono hw1.size)
  clear hraw1 ha1 ka1 hw1 hb2
  obtain ⟨a0, a1, a2, a3, a4, a5, a6⟩ := ka2.facts
  go_wp2_with fail
  refine (qsm_yes a a 2 _ hraw2 hraw2 ⟨l1, l2⟩ ⟨l1, l2⟩ HVA HVA).mono ?_
  rintro e w3 ⟨rfl, hb3⟩
  have hraw3 := hraw2.below hb3
  have ha3 := ha2.below hb3
  have ka3 := ka2.below hb3
  have hw3 := hw2.trans (hb3.mono hw2.size)
  clear hraw2 ha2 ka2 hw2 hb3
  clear a0 a1 a2 a3 a4 a5 a6
  obtain ⟨a0, a1, a2, a3, a4, a5, a6⟩ := ka3.facts
  go_wp2_with fail
  refine (qpow_pos a q k (by omega) _ ha3 l1 l2).mono ?_
  rintro e w4 ⟨r, rfl, hr4, hrl1, hrl2, hb4⟩
  have hraw4 := hraw3.below hb4
  have ha4 := ha3.below hb4
  have ka4 := ka3.below hb4
  have hw4 := hw3.trans (hb4.mono hw3.size)
  clear hraw3 ha3 ka3 hw3 hb4
  clear a0 a1 a2 a3 a4 a5 a6
  go_upto_region 6 with fail
  have kp5 := Blk3.new w4 (.bool r.s) (.slice r.N r.ns.length r.nc) (.slice r.D r.ds.length r.dc)
  have hb5 : Below w4.heap.size w4 (w4.alloc (.cells #[.bool r.s, .slice r.N r.ns.length r.nc, .slice r.D r.ds.length r.dc] 24)) := (Below.refl _ _).alloc (Nat.le_refl _) _
  obtain ⟨w5, hwe⟩ : ∃ x, w4.alloc (.cells #[.bool r.s, .slice r.N r.ns.length r.nc, .slice r.D r.ds.length r.dc] 24) = x := ⟨_, rfl⟩
  rw [hwe] at kp5 hb5 ⊢
  clear hwe
  have hraw5 := hraw4.below hb5
  have ha5 := ha4.below hb5
  have ka5 := ka4.below hb5
  have hr5 := hr4.below hb5
  have hw5 := hw4.trans (hb5.mono hw4.size)
  clear hraw4 ha4 ka4 hr4 hw4 hb5
  obtain ⟨a0, a1, a2, a3, a4, a5, a6⟩ := ka5.facts
  go_wp2_with fail
  refine (qof a q _ ha5 (by omega) (by omega)).mono ?_
  rintro e w6 ⟨u, rfl, hx6, hxa, hxb, hb6⟩
  have hraw6 := hraw5.below hb6
  have ha6 := ha5.below hb6
  have ka6 := ka5.below hb6
  have hr6 := hr5.below hb6
  have kp6 := kp5.below hb6
  have hw6 := hw5.trans (hb6.mono hw5.size)
  clear hraw5 ha5 ka5 hr5 kp5 hw5 hb6
  clear a0 a1 a2 a3 a4 a5 a6
  go_upto_region 9 with fail
  have kx7 := BlkT.new 30 w6 (.bool u.s) (.slice u.N u.ns.length u.nc) (.slice u.D u.ds.length u.dc)
  have hb7 : Below w6.heap.size w6 (w6.alloc (.cells #[.bool u.s, .slice u.N u.ns.length u.nc, .slice u.D u.ds.length u.dc] 30)) := (Below.refl _ _).alloc (Nat.le_refl _) _
  obtain ⟨w7, hwe⟩ : ∃ x, w6.alloc (.cells #[.bool u.s, .slice u.N u.ns.length u.nc, .slice u.D u.ds.length u.dc] 30) = x := ⟨_, rfl⟩
  rw [hwe] at kx7 hb7 ⊢
  clear hwe
  have hraw7 := hraw6.below hb7
  have ha7 := ha6.below hb7
  have ka7 := ka6.below hb7
  have hr7 := hr6.below hb7
  have kp7 := kp6.below hb7
  have hx7 := hx6.below hb7
  have hw7 := hw6.trans (hb7.mono hw6.size)
  clear hraw6 ha6 ka6 hr6 kp6 hx6 hw6 hb7
  have hxp := ref_pos ha7 hx7 hn0
  obtain ⟨g, hg, hgn⟩ : ∃ g, Hid (sgnI u.s u.ns.length = g) ∧ (g == 0) = false := ⟨_, Lib.hid rfl, by unfold sgnI; rw [if_neg (by omega)]; cases u.s <;> rfl⟩
  obtain ⟨x0, x1, x2, x3, x4, x5, x6⟩ := kx7.facts
  go_wp2_with fail
  refine (rsign u.s u.N u.D u.ns.length u.nc u.ds.length u.dc _).mono ?_
  rintro e w8 ⟨he, hb8⟩
  have hraw8 := hraw7.below hb8
  have ha8 := ha7.below hb8
  have ka8 := ka7.below hb8
  have hr8 := hr7.below hb8
  have kp8 := kp7.below hb8
  have hx8 := hx7.below hb8
  have kx8 := kx7.below hb8
  have hw8 := hw7.trans (hb8.mono hw7.size)
  clear hraw7 ha7 ka7 hr7 kp7 hx7 kx7 hw7 hb8
  rw [hg.out] at he
  subst he
  clear x0 x1 x2 x3 x4 x5 x6
  go_wp2_with fail
  go_ret
  exact ⟨rfl, hw8⟩
set_option maxRecDepth 100000 in
set_option maxHeartbeats 3200000 in
theorem pows_pos1 (a : RL) (q : Rat) (k : Nat) (hk : k ≤ 40) (hn0 : 0 < a.ns.length) (w : World) (hraw : a.Raw w) (ha : a.Is w q) (l1 : a.ns.length ≤ 2) (l2 : a.ds.length ≤ 2) (hva : Hid a.Val) (htab : Lib.TabBelow Tryz.prog w.heap.size w "internal/strconv.uint64pow10" .u64 Lib.pow10Tab) :
    Calls Tryz.prog 4 #[.agg #[.bool a.s, .slice a.N a.ns.length a.nc, .slice a.D a.ds.length a.dc], .int .i64 k] w (Yes w) := by
  have HT := Lib.hid htab
  have HVA := hva
  clear htab hva
  go_enter Tryz.func4, Tryz.ntmps4
  go_wp2_with fail
  have hbox := (⟨Blk3.new w (.bool a.s) (.slice a.N a.ns.length a.nc) (.slice a.D a.ds.length a.dc), (Below.refl _ _).alloc (Nat.le_refl _) _⟩ : _ ∧ Below w.heap.size w (w.alloc (.cells #[.bool a.s, .slice a.N a.ns.length a.nc, .slice a.D a.ds.length a.dc] 24)))
  obtain ⟨w1, hwe⟩ : ∃ x, w.alloc (.cells #[.bool a.s, .slice a.N a.ns.length a.nc, .slice a.D a.ds.length a.dc] 24) = x := ⟨_, rfl⟩
  rw [hwe] at hbox ⊢
  obtain ⟨ka1, hb1⟩ := hbox
  have HWE := Lib.hid hwe
  clear hwe HWE
  have hraw1 := hraw.below hb1
  have ha1 := ha.below hb1
  have hw1 := hb1
  clear hraw ha hb1
  refine (qawake_yes _ (fun w' h => HT.out w' (hw1.trans (h.mono hw1.size)))).mono ?_
  rintro e w2 ⟨rfl, hb2⟩
  have hraw2 := hraw1.below hb2
  have ha2 := ha1.below hb2
  have ka2 := ka1.below hb2
  have hw2 := hw1.trans (hb2.mono hw1.size)
  clear hraw1 ha1 ka1 hw1 hb2
  obtain ⟨a0, a1, a2, a3, a4, a5, a6⟩ := ka2.facts
  go_wp2_with fail
  refine (qsm_yes a a 2 _ hraw2 hraw2 ⟨l1, l2⟩ ⟨l1, l2⟩ HVA HVA).mono ?_
  rintro e w3 ⟨rfl, hb3⟩
  have hraw3 := hraw2.below hb3
  have ha3 := ha2.below hb3
  have ka3 := ka2.below hb3
  have hw3 := hw2.trans (hb3.mono hw2.size)
  clear hraw2 ha2 ka2 hw2 hb3
  clear a0 a1 a2 a3 a4 a5 a6
  obtain ⟨a0, a1, a2, a3, a4, a5, a6⟩ := ka3.facts
  go_wp2_with fail
  refine (qpow_pos a q k (by omega) _ ha3 l1 l2).mono ?_
  rintro e w4 ⟨r, rfl, hr4, hrl1, hrl2, hb4⟩
  have hraw4 := hraw3.below hb4
  have ha4 := ha3.below hb4
  have ka4 := ka3.below hb4
  have hw4 := hw3.trans (hb4.mono hw3.size)
  clear hraw3 ha3 ka3 hw3 hb4
  clear a0 a1 a2 a3 a4 a5 a6
  go_upto_region 6 with fail
  have kp5 := Blk3.new w4 (.bool r.s) (.slice r.N r.ns.length r.nc) (.slice r.D r.ds.length r.dc)
  have hb5 : Below w4.heap.size w4 (w4.alloc (.cells #[.bool r.s, .slice r.N r.ns.length r.nc, .slice r.D r.ds.length r.dc] 24)) := (Below.refl _ _).alloc (Nat.le_refl _) _
  obtain ⟨w5, hwe⟩ : ∃ x, w4.alloc (.cells #[.bool r.s, .slice r.N r.ns.length r.nc, .slice r.D r.ds.length r.dc] 24) = x := ⟨_, rfl⟩
  rw [hwe] at kp5 hb5 ⊢
  clear hwe
  have hraw5 := hraw4.below hb5
  have ha5 := ha4.below hb5
  have ka5 := ka4.below hb5
  have hr5 := hr4.below hb5
  have hw5 := hw4.trans (hb5.mono hw4.size)
  clear hraw4 ha4 ka4 hr4 hw4 hb5
  obtain ⟨a0, a1, a2, a3, a4, a5, a6⟩ := ka5.facts
  go_wp2_with fail
  refine (qof a q _ ha5 (by omega) (by omega)).mono ?_
  rintro e w6 ⟨u, rfl, hx6, hxa, hxb, hb6⟩
  have hraw6 := hraw5.below hb6
  have ha6 := ha5.below hb6
  have ka6 := ka5.below hb6
  have hr6 := hr5.below hb6
  have kp6 := kp5.below hb6
  have hw6 := hw5.trans (hb6.mono hw5.size)
  clear hraw5 ha5 ka5 hr5 kp5 hw5 hb6
  clear a0 a1 a2 a3 a4 a5 a6
  go_upto_region 9 with fail
  have kx7 := BlkT.new 30 w6 (.bool u.s) (.slice u.N u.ns.length u.nc) (.slice u.D u.ds.length u.dc)
  have hb7 : Below w6.heap.size w6 (w6.alloc (.cells #[.bool u.s, .slice u.N u.ns.length u.nc, .slice u.D u.ds.length u.dc] 30)) := (Below.refl _ _).alloc (Nat.le_refl _) _
  obtain ⟨w7, hwe⟩ : ∃ x, w6.alloc (.cells #[.bool u.s, .slice u.N u.ns.length u.nc, .slice u.D u.ds.length u.dc] 30) = x := ⟨_, rfl⟩
  rw [hwe] at kx7 hb7 ⊢
  clear hwe
  have hraw7 := hraw6.below hb7
  have ha7 := ha6.below hb7
  have ka7 := ka6.below hb7
  have hr7 := hr6.below hb7
  have kp7 := kp6.below hb7
  have hx7 := hx6.below hb7
  have hw7 := hw6.trans (hb7.mono hw6.size)
  clear hraw6 ha6 ka6 hr6 kp6 hx6 hw6 hb7
  have hxp := ref_pos ha7 hx7 hn0
  obtain ⟨g, hg, hgn⟩ : ∃ g, Hid (sgnI u.s u.ns.length = g) ∧ (g == 0) = false := ⟨_, Lib.hid rfl, by unfold sgnI; rw [if_neg (by omega)]; cases u.s <;> rfl⟩
  obtain ⟨x0, x1, x2, x3, x4, x5, x6⟩ := kx7.facts
  go_wp2_with fail
  refine (rsign u.s u.N u.D u.ns.length u.nc u.ds.length u.dc _).mono ?_
  rintro e w8 ⟨he, hb8⟩
  have hraw8 := hraw7.below hb8
  have ha8 := ha7.below hb8
  have ka8 := ka7.below hb8
  have hr8 := hr7.below hb8
  have kp8 := kp7.below hb8
  have hx8 := hx7.below hb8
  have kx8 := kx7.below hb8
  have hw8 := hw7.trans (hb8.mono hw7.size)
  clear hraw7 ha7 ka7 hr7 kp7 hx7 kx7 hw7 hb8
  rw [hg.out] at he
  subst he
  clear x0 x1 x2 x3 x4 x5 x6
  obtain ⟨p0, p1, p2, p3, p4, p5, p6⟩ := kp8.facts
  obtain ⟨x0, x1, x2, x3, x4, x5, x6⟩ := kx8.facts
  go_upto_region 15 with fail
  go_region_held3 (fun w' => w'.cell? ⟨w4.heap.size, 0, none⟩ = some (.bool r.s) ∧ w'.cell? ⟨w4.heap.size, 1, none⟩ = some (.slice r.N r.ns.length r.nc) ∧ w'.cell? ⟨w4.heap.size, 2, none⟩ = some (.slice r.D r.ds.length r.dc) ∧ w'.cell? ⟨w6.heap.size, 0, none⟩ = some (.bool u.s) ∧ w'.cell? ⟨w6.heap.size, 1, none⟩ = some (.slice u.N u.ns.length u.nc) ∧ w'.cell? ⟨w6.heap.size, 2, none⟩ = some (.slice u.D u.ds.length u.dc)) (first | exact ⟨‹_›, ‹_›, ‹_›, ‹_›, ‹_›, ‹_›⟩ | go_keep)
    (first
    | (go_at_call 38
       refine (rpowq u q k _ (by omega) (by first | exact hx8 | exact hx8.drew | exact hx8.alloc _ | exact (hx8.alloc _).drew | exact hx8.drew.alloc _) (by omega) (by omega)).mono ?_
       rintro e wq_ ⟨y, rfl, hy, hyl1, hyl2, hby⟩
       have hbp0 : Below w8.heap.size w8 wq_ := by first | exact hby | exact below_of_drew hby (Nat.le_refl _) | exact ((Below.refl _ _).alloc (Nat.le_refl _) _).trans (hby.mono (by simp)) | exact ((Below.refl _ _).alloc (Nat.le_refl _) _).trans ((below_of_drew hby (Nat.le_refl _)).mono (by simp)) | exact below_of_drew (((Below.refl _ _).alloc (Nat.le_refl _) _).trans (hby.mono (by simp))) (Nat.le_refl _)
       have hr_0 := hr8.below hbp0
       have hx_0 := hx8.below hbp0
       have kp_0 := kp8.below hbp0
       obtain ⟨kp0wq_, kp1wq_, kp2wq_, kp3wq_, kp4wq_, kp5wq_, kp6wq_⟩ := kp_0.facts
       have kx_0 := kx8.below hbp0
       obtain ⟨kx0wq_, kx1wq_, kx2wq_, kx3wq_, kx4wq_, kx5wq_, kx6wq_⟩ := kx_0.facts
       have hwq0 := hw8.trans (hbp0.mono hw8.size))
    | (go_at_call 26
       refine (qis_yes r y (q ^ k) _ (by first | exact hr_0 | exact hr_0.drew | exact hr_0.alloc _ | exact (hr_0.alloc _).drew | exact hr_0.drew.alloc _) (by first | exact hy | exact hy.drew | exact hy.alloc _ | exact (hy.alloc _).drew | exact hy.drew.alloc _) (by omega) (by omega)).mono ?_
       rintro e wi_ ⟨rfl, hbi⟩
       have hbp1 : Below wq_.heap.size wq_ wi_ := by first | exact hbi | exact below_of_drew hbi (Nat.le_refl _) | exact ((Below.refl _ _).alloc (Nat.le_refl _) _).trans (hbi.mono (by simp)) | exact ((Below.refl _ _).alloc (Nat.le_refl _) _).trans ((below_of_drew hbi (Nat.le_refl _)).mono (by simp)) | exact below_of_drew (((Below.refl _ _).alloc (Nat.le_refl _) _).trans (hbi.mono (by simp))) (Nat.le_refl _)
       have hr_1 := hr_0.below hbp1
       have hx_1 := hx_0.below hbp1
       have hy_1 := hy.below hbp1
       have kp_1 := kp_0.below hbp1
       obtain ⟨kp0wi_, kp1wi_, kp2wi_, kp3wi_, kp4wi_, kp5wi_, kp6wi_⟩ := kp_1.facts
       have kx_1 := kx_0.below hbp1
       obtain ⟨kx0wi_, kx1wi_, kx2wi_, kx3wi_, kx4wi_, kx5wi_, kx6wi_⟩ := kx_1.facts
       have hwq1 := hwq0.trans (hbp1.mono hwq0.size)))
  all_goals
    go_wp2_with fail
    go_ret
    exact ⟨rfl, hwq1⟩
set_option maxRecDepth 100000 in
set_option maxHeartbeats 3200000 in
theorem pows_nfar (a : RL) (q : Rat) (k : Nat) (n : Int) (hkn : -n = (k : Int)) (hn40 : n < -40) (hn1 : -1000 ≤ n) (hn0 : 0 < a.ns.length) (w : World) (hraw : a.Raw w) (ha : a.Is w q) (l1 : a.ns.length ≤ 2) (l2 : a.ds.length ≤ 2) (hva : Hid a.Val) (htab : Lib.TabBelow Tryz.prog w.heap.size w "internal/strconv.uint64pow10" .u64 Lib.pow10Tab) :
    Calls Tryz.prog 4 #[.agg #[.bool a.s, .slice a.N a.ns.length a.nc, .slice a.D a.ds.length a.dc], .int .i64 n] w (Yes w) := by
  have hn := (by omega : n < 0)
  have HT := Lib.hid htab
  have HVA := hva
  clear htab hva
  go_enter Tryz.func4, Tryz.ntmps4
  go_wp2_with fail
  have hbox := (⟨Blk3.new w (.bool a.s) (.slice a.N a.ns.length a.nc) (.slice a.D a.ds.length a.dc), (Below.refl _ _).alloc (Nat.le_refl _) _⟩ : _ ∧ Below w.heap.size w (w.alloc (.cells #[.bool a.s, .slice a.N a.ns.length a.nc, .slice a.D a.ds.length a.dc] 24)))
  obtain ⟨w1, hwe⟩ : ∃ x, w.alloc (.cells #[.bool a.s, .slice a.N a.ns.length a.nc, .slice a.D a.ds.length a.dc] 24) = x := ⟨_, rfl⟩
  rw [hwe] at hbox ⊢
  obtain ⟨ka1, hb1⟩ := hbox
  have HWE := Lib.hid hwe
  clear hwe HWE
  have hraw1 := hraw.below hb1
  have ha1 := ha.below hb1
  have hw1 := hb1
  clear hraw ha hb1
  refine (qawake_yes _ (fun w' h => HT.out w' (hw1.trans (h.mono hw1.size)))).mono ?_
  rintro e w2 ⟨rfl, hb2⟩
  have hraw2 := hraw1.below hb2
  have ha2 := ha1.below hb2
  have ka2 := ka1.below hb2
  have hw2 := hw1.trans (hb2.mono hw1.size)
  clear hraw1 ha1 ka1 hw1 hb2
  obtain ⟨a0, a1, a2, a3, a4, a5, a6⟩ := ka2.facts
  go_wp2_with fail
  refine (qsm_yes a a 2 _ hraw2 hraw2 ⟨l1, l2⟩ ⟨l1, l2⟩ HVA HVA).mono ?_
  rintro e w3 ⟨rfl, hb3⟩
  have hraw3 := hraw2.below hb3
  have ha3 := ha2.below hb3
  have ka3 := ka2.below hb3
  have hw3 := hw2.trans (hb3.mono hw2.size)
  clear hraw2 ha2 ka2 hw2 hb3
  clear a0 a1 a2 a3 a4 a5 a6
  obtain ⟨a0, a1, a2, a3, a4, a5, a6⟩ := ka3.facts
  go_wp2_with fail
  refine (qpow_neg a q k n hkn hn hn1 hn0 _ ha3 l1 l2).mono ?_
  rintro e w4 ⟨r, rfl, hr4, hrl1, hrl2, hb4⟩
  have hraw4 := hraw3.below hb4
  have ha4 := ha3.below hb4
  have ka4 := ka3.below hb4
  have hw4 := hw3.trans (hb4.mono hw3.size)
  clear hraw3 ha3 ka3 hw3 hb4
  clear a0 a1 a2 a3 a4 a5 a6
  go_upto_region 6 with fail
  have kp5 := Blk3.new w4 (.bool r.s) (.slice r.N r.ns.length r.nc) (.slice r.D r.ds.length r.dc)
  have hb5 : Below w4.heap.size w4 (w4.alloc (.cells #[.bool r.s, .slice r.N r.ns.length r.nc, .slice r.D r.ds.length r.dc] 24)) := (Below.refl _ _).alloc (Nat.le_refl _) _
  obtain ⟨w5, hwe⟩ : ∃ x, w4.alloc (.cells #[.bool r.s, .slice r.N r.ns.length r.nc, .slice r.D r.ds.length r.dc] 24) = x := ⟨_, rfl⟩
  rw [hwe] at kp5 hb5 ⊢
  clear hwe
  have hraw5 := hraw4.below hb5
  have ha5 := ha4.below hb5
  have ka5 := ka4.below hb5
  have hr5 := hr4.below hb5
  have hw5 := hw4.trans (hb5.mono hw4.size)
  clear hraw4 ha4 ka4 hr4 hw4 hb5
  obtain ⟨a0, a1, a2, a3, a4, a5, a6⟩ := ka5.facts
  go_wp2_with fail
  refine (qof a q _ ha5 (by omega) (by omega)).mono ?_
  rintro e w6 ⟨u, rfl, hx6, hxa, hxb, hb6⟩
  have hraw6 := hraw5.below hb6
  have ha6 := ha5.below hb6
  have ka6 := ka5.below hb6
  have hr6 := hr5.below hb6
  have kp6 := kp5.below hb6
  have hw6 := hw5.trans (hb6.mono hw5.size)
  clear hraw5 ha5 ka5 hr5 kp5 hw5 hb6
  clear a0 a1 a2 a3 a4 a5 a6
  go_upto_region 9 with fail
  have kx7 := BlkT.new 30 w6 (.bool u.s) (.slice u.N u.ns.length u.nc) (.slice u.D u.ds.length u.dc)
  have hb7 : Below w6.heap.size w6 (w6.alloc (.cells #[.bool u.s, .slice u.N u.ns.length u.nc, .slice u.D u.ds.length u.dc] 30)) := (Below.refl _ _).alloc (Nat.le_refl _) _
  obtain ⟨w7, hwe⟩ : ∃ x, w6.alloc (.cells #[.bool u.s, .slice u.N u.ns.length u.nc, .slice u.D u.ds.length u.dc] 30) = x := ⟨_, rfl⟩
  rw [hwe] at kx7 hb7 ⊢
  clear hwe
  have hraw7 := hraw6.below hb7
  have ha7 := ha6.below hb7
  have ka7 := ka6.below hb7
  have hr7 := hr6.below hb7
  have kp7 := kp6.below hb7
  have hx7 := hx6.below hb7
  have hw7 := hw6.trans (hb7.mono hw6.size)
  clear hraw6 ha6 ka6 hr6 kp6 hx6 hw6 hb7
  have hxp := ref_pos ha7 hx7 hn0
  obtain ⟨g, hg, hgn⟩ : ∃ g, Hid (sgnI u.s u.ns.length = g) ∧ (g == 0) = false := ⟨_, Lib.hid rfl, by unfold sgnI; rw [if_neg (by omega)]; cases u.s <;> rfl⟩
  obtain ⟨x0, x1, x2, x3, x4, x5, x6⟩ := kx7.facts
  go_wp2_with fail
  refine (rsign u.s u.N u.D u.ns.length u.nc u.ds.length u.dc _).mono ?_
  rintro e w8 ⟨he, hb8⟩
  have hraw8 := hraw7.below hb8
  have ha8 := ha7.below hb8
  have ka8 := ka7.below hb8
  have hr8 := hr7.below hb8
  have kp8 := kp7.below hb8
  have hx8 := hx7.below hb8
  have kx8 := kx7.below hb8
  have hw8 := hw7.trans (hb8.mono hw7.size)
  clear hraw7 ha7 ka7 hr7 kp7 hx7 kx7 hw7 hb8
  rw [hg.out] at he
  subst he
  clear x0 x1 x2 x3 x4 x5 x6
  go_wp2_with fail
  go_ret
  exact ⟨rfl, hw8⟩
set_option maxRecDepth 100000 in
set_option maxHeartbeats 3200000 in
theorem pows_neg (a : RL) (q : Rat) (k : Nat) (n : Int) (hkn : -n = (k : Int)) (hn : n < 0) (hn40 : -40 ≤ n) (hn0 : 0 < a.ns.length) (w : World) (hraw : a.Raw w) (ha : a.Is w q) (l1 : a.ns.length ≤ 2) (l2 : a.ds.length ≤ 2) (hva : Hid a.Val) (htab : Lib.TabBelow Tryz.prog w.heap.size w "internal/strconv.uint64pow10" .u64 Lib.pow10Tab) :
    Calls Tryz.prog 4 #[.agg #[.bool a.s, .slice a.N a.ns.length a.nc, .slice a.D a.ds.length a.dc], .int .i64 n] w (Yes w) := by
  have HT := Lib.hid htab
  have HVA := hva
  clear htab hva
  have hn1 : -1000 ≤ n := by omega
  go_enter Tryz.func4, Tryz.ntmps4
  go_wp2_with fail
  have hbox := (⟨Blk3.new w (.bool a.s) (.slice a.N a.ns.length a.nc) (.slice a.D a.ds.length a.dc), (Below.refl _ _).alloc (Nat.le_refl _) _⟩ : _ ∧ Below w.heap.size w (w.alloc (.cells #[.bool a.s, .slice a.N a.ns.length a.nc, .slice a.D a.ds.length a.dc] 24)))
  obtain ⟨w1, hwe⟩ : ∃ x, w.alloc (.cells #[.bool a.s, .slice a.N a.ns.length a.nc, .slice a.D a.ds.length a.dc] 24) = x := ⟨_, rfl⟩
  rw [hwe] at hbox ⊢
  obtain ⟨ka1, hb1⟩ := hbox
  have HWE := Lib.hid hwe
  clear hwe HWE
  have hraw1 := hraw.below hb1
  have ha1 := ha.below hb1
  have hw1 := hb1
  clear hraw ha hb1
  refine (qawake_yes _ (fun w' h => HT.out w' (hw1.trans (h.mono hw1.size)))).mono ?_
  rintro e w2 ⟨rfl, hb2⟩
  have hraw2 := hraw1.below hb2
  have ha2 := ha1.below hb2
  have ka2 := ka1.below hb2
  have hw2 := hw1.trans (hb2.mono hw1.size)
  clear hraw1 ha1 ka1 hw1 hb2
  obtain ⟨a0, a1, a2, a3, a4, a5, a6⟩ := ka2.facts
  go_wp2_with fail
  refine (qsm_yes a a 2 _ hraw2 hraw2 ⟨l1, l2⟩ ⟨l1, l2⟩ HVA HVA).mono ?_
  rintro e w3 ⟨rfl, hb3⟩
  have hraw3 := hraw2.below hb3
  have ha3 := ha2.below hb3
  have ka3 := ka2.below hb3
  have hw3 := hw2.trans (hb3.mono hw2.size)
  clear hraw2 ha2 ka2 hw2 hb3
  clear a0 a1 a2 a3 a4 a5 a6
  obtain ⟨a0, a1, a2, a3, a4, a5, a6⟩ := ka3.facts
  go_wp2_with fail
  refine (qpow_neg a q k n hkn hn hn1 hn0 _ ha3 l1 l2).mono ?_
  rintro e w4 ⟨r, rfl, hr4, hrl1, hrl2, hb4⟩
  have hraw4 := hraw3.below hb4
  have ha4 := ha3.below hb4
  have ka4 := ka3.below hb4
  have hw4 := hw3.trans (hb4.mono hw3.size)
  clear hraw3 ha3 ka3 hw3 hb4
  clear a0 a1 a2 a3 a4 a5 a6
  go_upto_region 6 with fail
  have kp5 := Blk3.new w4 (.bool r.s) (.slice r.N r.ns.length r.nc) (.slice r.D r.ds.length r.dc)
  have hb5 : Below w4.heap.size w4 (w4.alloc (.cells #[.bool r.s, .slice r.N r.ns.length r.nc, .slice r.D r.ds.length r.dc] 24)) := (Below.refl _ _).alloc (Nat.le_refl _) _
  obtain ⟨w5, hwe⟩ : ∃ x, w4.alloc (.cells #[.bool r.s, .slice r.N r.ns.length r.nc, .slice r.D r.ds.length r.dc] 24) = x := ⟨_, rfl⟩
  rw [hwe] at kp5 hb5 ⊢
  clear hwe
  have hraw5 := hraw4.below hb5
  have ha5 := ha4.below hb5
  have ka5 := ka4.below hb5
  have hr5 := hr4.below hb5
  have hw5 := hw4.trans (hb5.mono hw4.size)
  clear hraw4 ha4 ka4 hr4 hw4 hb5
  obtain ⟨a0, a1, a2, a3, a4, a5, a6⟩ := ka5.facts
  go_wp2_with fail
  refine (qof a q _ ha5 (by omega) (by omega)).mono ?_
  rintro e w6 ⟨u, rfl, hx6, hxa, hxb, hb6⟩
  have hraw6 := hraw5.below hb6
  have ha6 := ha5.below hb6
  have ka6 := ka5.below hb6
  have hr6 := hr5.below hb6
  have kp6 := kp5.below hb6
  have hw6 := hw5.trans (hb6.mono hw5.size)
  clear hraw5 ha5 ka5 hr5 kp5 hw5 hb6
  clear a0 a1 a2 a3 a4 a5 a6
  go_upto_region 9 with fail
  have kx7 := BlkT.new 30 w6 (.bool u.s) (.slice u.N u.ns.length u.nc) (.slice u.D u.ds.length u.dc)
  have hb7 : Below w6.heap.size w6 (w6.alloc (.cells #[.bool u.s, .slice u.N u.ns.length u.nc, .slice u.D u.ds.length u.dc] 30)) := (Below.refl _ _).alloc (Nat.le_refl _) _
  obtain ⟨w7, hwe⟩ : ∃ x, w6.alloc (.cells #[.bool u.s, .slice u.N u.ns.length u.nc, .slice u.D u.ds.length u.dc] 30) = x := ⟨_, rfl⟩
  rw [hwe] at kx7 hb7 ⊢
  clear hwe
  have hraw7 := hraw6.below hb7
  have ha7 := ha6.below hb7
  have ka7 := ka6.below hb7
  have hr7 := hr6.below hb7
  have kp7 := kp6.below hb7
  have hx7 := hx6.below hb7
  have hw7 := hw6.trans (hb7.mono hw6.size)
  clear hraw6 ha6 ka6 hr6 kp6 hx6 hw6 hb7
  have hxp := ref_pos ha7 hx7 hn0
  obtain ⟨g, hg, hgn⟩ : ∃ g, Hid (sgnI u.s u.ns.length = g) ∧ (g == 0) = false := ⟨_, Lib.hid rfl, by unfold sgnI; rw [if_neg (by omega)]; cases u.s <;> rfl⟩
  obtain ⟨x0, x1, x2, x3, x4, x5, x6⟩ := kx7.facts
  go_wp2_with fail
  refine (rsign u.s u.N u.D u.ns.length u.nc u.ds.length u.dc _).mono ?_
  rintro e w8 ⟨he, hb8⟩
  have hraw8 := hraw7.below hb8
  have ha8 := ha7.below hb8
  have ka8 := ka7.below hb8
  have hr8 := hr7.below hb8
  have kp8 := kp7.below hb8
  have hx8 := hx7.below hb8
  have kx8 := kx7.below hb8
  have hw8 := hw7.trans (hb8.mono hw7.size)
  clear hraw7 ha7 ka7 hr7 kp7 hx7 kx7 hw7 hb8
  rw [hg.out] at he
  subst he
  clear x0 x1 x2 x3 x4 x5 x6
  obtain ⟨p0, p1, p2, p3, p4, p5, p6⟩ := kp8.facts
  obtain ⟨x0, x1, x2, x3, x4, x5, x6⟩ := kx8.facts
  have HQN := Lib.hid (pow_q ha8.q k)
  have HQ0 := Lib.hid (V32_pos ha8.mn hn0)
  have HINV : Hid (1 / q ^ k = q⁻¹ ^ k) := Lib.hid (inv_pow_ q (QOf.ne_zero ha8.q HQ0.out) k)
  have hw1_ : IntKind.i64.wrap (-n) = (k : Int) := by rw [hkn]; simp [IntKind.wrap, IntKind.signed, IntKind.bits]; omega
  have hw2_ : IntKind.i64.wrap (k : Int) = (k : Int) := by rw [← hkn]; exact hw1_.trans hkn.symm
  go_upto_region 14 with fail
  go_region_held3 (fun w' => w'.cell? ⟨w4.heap.size, 0, none⟩ = some (.bool r.s) ∧ w'.cell? ⟨w4.heap.size, 1, none⟩ = some (.slice r.N r.ns.length r.nc) ∧ w'.cell? ⟨w4.heap.size, 2, none⟩ = some (.slice r.D r.ds.length r.dc) ∧ w'.cell? ⟨w6.heap.size, 0, none⟩ = some (.bool u.s) ∧ w'.cell? ⟨w6.heap.size, 1, none⟩ = some (.slice u.N u.ns.length u.nc) ∧ w'.cell? ⟨w6.heap.size, 2, none⟩ = some (.slice u.D u.ds.length u.dc)) (first | exact ⟨‹_›, ‹_›, ‹_›, ‹_›, ‹_›, ‹_›⟩ | go_keep)
    (first
    | (go_at_call 37
       refine (rone _).mono ?_
       rintro e wo_ ⟨o, rfl, ho, hol1, hol2, hbo⟩
       have hbp0 : Below w8.heap.size w8 wo_ := by first | exact hbo | exact below_of_drew hbo (Nat.le_refl _) | exact ((Below.refl _ _).alloc (Nat.le_refl _) _).trans (hbo.mono (by simp)) | exact ((Below.refl _ _).alloc (Nat.le_refl _) _).trans ((below_of_drew hbo (Nat.le_refl _)).mono (by simp)) | exact below_of_drew (((Below.refl _ _).alloc (Nat.le_refl _) _).trans (hbo.mono (by simp))) (Nat.le_refl _)
       have hr_0 := hr8.below hbp0
       have hx_0 := hx8.below hbp0
       have kp_0 := kp8.below hbp0
       obtain ⟨kp0wo_, kp1wo_, kp2wo_, kp3wo_, kp4wo_, kp5wo_, kp6wo_⟩ := kp_0.facts
       have kx_0 := kx8.below hbp0
       obtain ⟨kx0wo_, kx1wo_, kx2wo_, kx3wo_, kx4wo_, kx5wo_, kx6wo_⟩ := kx_0.facts
       have hwq0 := hw8.trans (hbp0.mono hw8.size))
    | (go_at_call 38
       refine (rpowq u q k _ (by omega) (by first | exact hx_0 | exact hx_0.drew | exact hx_0.alloc _ | exact (hx_0.alloc _).drew | exact hx_0.drew.alloc _) (by omega) (by omega)).mono ?_
       rintro e wq_ ⟨y, rfl, hy, hyl1, hyl2, hby⟩
       have hyn : 0 < VD y.ns := by rw [(QOf.inj hy.q HQN.out).2.1]; exact Nat.pow_pos HQ0.out
       have hbp1 : Below wo_.heap.size wo_ wq_ := by first | exact hby | exact below_of_drew hby (Nat.le_refl _) | exact ((Below.refl _ _).alloc (Nat.le_refl _) _).trans (hby.mono (by simp)) | exact ((Below.refl _ _).alloc (Nat.le_refl _) _).trans ((below_of_drew hby (Nat.le_refl _)).mono (by simp)) | exact below_of_drew (((Below.refl _ _).alloc (Nat.le_refl _) _).trans (hby.mono (by simp))) (Nat.le_refl _)
       have hr_1 := hr_0.below hbp1
       have hx_1 := hx_0.below hbp1
       have ho_1 := ho.below hbp1
       have kp_1 := kp_0.below hbp1
       obtain ⟨kp0wq_, kp1wq_, kp2wq_, kp3wq_, kp4wq_, kp5wq_, kp6wq_⟩ := kp_1.facts
       have kx_1 := kx_0.below hbp1
       obtain ⟨kx0wq_, kx1wq_, kx2wq_, kx3wq_, kx4wq_, kx5wq_, kx6wq_⟩ := kx_1.facts
       have hwq1 := hwq0.trans (hbp1.mono hwq0.size))
    | (go_at_call 35
       refine (rdivq o y 1 (q ^ k) _ (by first | exact ho_1 | exact ho_1.drew | exact ho_1.alloc _ | exact (ho_1.alloc _).drew | exact ho_1.drew.alloc _) (by first | exact hy | exact hy.drew | exact hy.alloc _ | exact (hy.alloc _).drew | exact hy.drew.alloc _) (by omega) hyn).mono ?_
       rintro e wd_ ⟨z, rfl, hz, hzl1, hzl2, hbz⟩
       rw [HINV.out] at hz
       have hbp2 : Below wq_.heap.size wq_ wd_ := by first | exact hbz | exact below_of_drew hbz (Nat.le_refl _) | exact ((Below.refl _ _).alloc (Nat.le_refl _) _).trans (hbz.mono (by simp)) | exact ((Below.refl _ _).alloc (Nat.le_refl _) _).trans ((below_of_drew hbz (Nat.le_refl _)).mono (by simp)) | exact below_of_drew (((Below.refl _ _).alloc (Nat.le_refl _) _).trans (hbz.mono (by simp))) (Nat.le_refl _)
       have hr_2 := hr_1.below hbp2
       have hx_2 := hx_1.below hbp2
       have ho_2 := ho_1.below hbp2
       have hy_2 := hy.below hbp2
       have kp_2 := kp_1.below hbp2
       obtain ⟨kp0wd_, kp1wd_, kp2wd_, kp3wd_, kp4wd_, kp5wd_, kp6wd_⟩ := kp_2.facts
       have kx_2 := kx_1.below hbp2
       obtain ⟨kx0wd_, kx1wd_, kx2wd_, kx3wd_, kx4wd_, kx5wd_, kx6wd_⟩ := kx_2.facts
       have hwq2 := hwq1.trans (hbp2.mono hwq1.size))
    | (go_at_call 26
       refine (qis_yes r z (q⁻¹ ^ k) _ (by first | exact hr_2 | exact hr_2.drew | exact hr_2.alloc _ | exact (hr_2.alloc _).drew | exact hr_2.drew.alloc _) (by first | exact hz | exact hz.drew | exact hz.alloc _ | exact (hz.alloc _).drew | exact hz.drew.alloc _) (by omega) (by omega)).mono ?_
       rintro e wi_ ⟨rfl, hbi⟩
       have hbp3 : Below wd_.heap.size wd_ wi_ := by first | exact hbi | exact below_of_drew hbi (Nat.le_refl _) | exact ((Below.refl _ _).alloc (Nat.le_refl _) _).trans (hbi.mono (by simp)) | exact ((Below.refl _ _).alloc (Nat.le_refl _) _).trans ((below_of_drew hbi (Nat.le_refl _)).mono (by simp)) | exact below_of_drew (((Below.refl _ _).alloc (Nat.le_refl _) _).trans (hbi.mono (by simp))) (Nat.le_refl _)
       have hr_3 := hr_2.below hbp3
       have hx_3 := hx_2.below hbp3
       have ho_3 := ho_2.below hbp3
       have hy_3 := hy_2.below hbp3
       have hz_3 := hz.below hbp3
       have kp_3 := kp_2.below hbp3
       obtain ⟨kp0wi_, kp1wi_, kp2wi_, kp3wi_, kp4wi_, kp5wi_, kp6wi_⟩ := kp_3.facts
       have kx_3 := kx_2.below hbp3
       obtain ⟨kx0wi_, kx1wi_, kx2wi_, kx3wi_, kx4wi_, kx5wi_, kx6wi_⟩ := kx_3.facts
       have hwq3 := hwq2.trans (hbp3.mono hwq2.size)))
  all_goals
    go_wp2_with fail
    go_ret
    exact ⟨rfl, hwq3⟩
theorem powers_row_ (a : RL) (n : Int) (_ : (Lit.int .i64 n).wf = true) (w : World) (ha : a.Raw w) (htab : Lib.TabBelow Tryz.prog w.heap.size w "internal/strconv.uint64pow10" .u64 Lib.pow10Tab) :
    Calls Tryz.prog 4 #[.agg #[.bool a.s, .slice a.N a.ns.length a.nc, .slice a.D a.ds.length a.dc], .int .i64 n] w (Yes w) := by
  by_cases h : a.Sm 2 ∧ a.Val
  · obtain ⟨⟨l1, l2⟩, hv⟩ := h
    have hi := ha.is hv
    rcases Int.lt_or_le n (-1000) with h1 | h1
    · exact pows_low a _ n h1 w ha hi l1 l2 hv htab
    · rcases Int.lt_or_le 1000 n with h2 | h2
      · exact pows_high a _ n h2 w ha hi l1 l2 hv htab
      · rcases Int.lt_or_le n 0 with h3 | h3
        · obtain ⟨k, hk⟩ : ∃ k : Nat, -n = (k : Int) := ⟨n.natAbs, by omega⟩
          rcases Nat.eq_zero_or_pos a.ns.length with h4 | h4
          · exact pows_czero a _ n h3 h1 h4 w ha hi l1 l2 hv htab
          · rcases Int.lt_or_le n (-40) with h5 | h5
            · exact pows_nfar a _ k n hk h5 h1 h4 w ha hi l1 l2 hv htab
            · exact pows_neg a _ k n hk h3 h5 h4 w ha hi l1 l2 hv htab
        · obtain ⟨k, rfl⟩ : ∃ k : Nat, n = (k : Int) := ⟨n.toNat, by omega⟩
          rcases Nat.lt_or_ge 40 k with h5 | h5
          · rcases Nat.eq_zero_or_pos a.ns.length with h4 | h4
            · exact pows_far0 a _ k (by omega) h5 h4 w ha hi l1 l2 hv htab
            · exact pows_far1 a _ k (by omega) h5 h4 w ha hi l1 l2 hv htab
          · rcases Nat.eq_zero_or_pos a.ns.length with h4 | h4
            · exact pows_pos0 a _ k h5 h4 w ha hi l1 l2 hv htab
            · exact pows_pos1 a _ k h5 h4 w ha hi l1 l2 hv htab
  · exact pows_no a n w ha ha (fun h2 => h ⟨h2.1, h2.2.2.1⟩) htab
end Go.Proofs.YtdonbgjmcbhecaaGreatDoor

