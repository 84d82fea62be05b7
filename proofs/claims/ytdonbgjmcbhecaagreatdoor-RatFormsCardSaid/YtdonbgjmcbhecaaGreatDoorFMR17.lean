/- isochronelaw02.RatForms answers true for all arguments: the walks. -/
import Derived.Test.YtdonbgjmcbhecaaGreatDoorFMR16
namespace Go.Proofs.YtdonbgjmcbhecaaGreatDoor
open Go.RowKit V

theorem rqvalid_raw (a : RL) (w : World) (h : a.Raw w) (v : Bool) (hv : v = true ↔ a.Val) :
    Calls Tryz.prog 49 #[.agg #[.bool a.s, .slice a.N a.ns.length a.nc, .slice a.D a.ds.length a.dc]] w (Gives (.bool v) w) := rqvalid a.s a.N a.D a.nc a.dc a.ns a.ds w h.rn h.rd h.dn h.dd v hv
theorem rqvalid_rawno (a : RL) (w : World) (h : a.Raw w) (hv : ¬ a.Val) :
    Calls Tryz.prog 49 #[.agg #[.bool a.s, .slice a.N a.ns.length a.nc, .slice a.D a.ds.length a.dc]] w (Gives (.bool false) w) := rqvalid_raw a w h false ⟨fun h => (by cases h), fun h => absurd h hv⟩
theorem rqvalid_rawyes (a : RL) (w : World) (h : a.Raw w) (hv : a.Val) :
    Calls Tryz.prog 49 #[.agg #[.bool a.s, .slice a.N a.ns.length a.nc, .slice a.D a.ds.length a.dc]] w (Gives (.bool true) w) := rqvalid_raw a w h true ⟨fun _ => hv, fun _ => rfl⟩
set_option maxRecDepth 100000 in
set_option maxHeartbeats 3200000 in
theorem forms_long1 (a b : RL) (w : World) (ha : a.Raw w) (hb_ : b.Raw w) (hsa : ¬ (a.ns.length ≤ 20 ∧ a.ds.length ≤ 20)) (htab : Lib.TabBelow Tryz.prog w.heap.size w "internal/strconv.uint64pow10" .u64 Lib.pow10Tab) :
    Calls Tryz.prog 8 #[.agg #[.bool a.s, .slice a.N a.ns.length a.nc, .slice a.D a.ds.length a.dc], .agg #[.bool b.s, .slice b.N b.ns.length b.nc, .slice b.D b.ds.length b.dc]] w (Yes w) := by
  have HT := Lib.hid htab
  clear htab
  go_enter Tryz.func8, Tryz.ntmps8
  go_wp2_with fail
  have hbox := box1r w (.bool a.s) (.slice a.N a.ns.length a.nc) (.slice a.D a.ds.length a.dc) (.bool b.s) (.slice b.N b.ns.length b.nc) (.slice b.D b.ds.length b.dc)
  obtain ⟨w1, hwe⟩ : ∃ x, (w.alloc (.cells #[.bool a.s, .slice a.N a.ns.length a.nc, .slice a.D a.ds.length a.dc] 24)).alloc (.cells #[.bool b.s, .slice b.N b.ns.length b.nc, .slice b.D b.ds.length b.dc] 24) = x := ⟨_, rfl⟩
  rw [hwe] at hbox ⊢
  obtain ⟨ka1, kb1, hb1⟩ := hbox
  have HWE := Lib.hid hwe
  clear hwe HWE
  have ha1 := ha.below hb1
  have hb_1 := hb_.below hb1
  have hw1 := hb1
  clear ha hb_ hb1
  refine (qawake_yes _ (fun w' h => HT.out w' (hw1.trans (h.mono hw1.size)))).mono ?_
  rintro e w2 ⟨rfl, hb2⟩
  have ha2 := ha1.below hb2
  have hb_2 := hb_1.below hb2
  have ka2 := ka1.below hb2
  have kb2 := kb1.below hb2
  have hw2 := hw1.trans (hb2.mono hw1.size)
  clear ha1 hb_1 ka1 kb1 hw1 hb2
  obtain ⟨a0, a1, a2, a3, a4, a5, a6⟩ := ka2.facts
  go_wp2_with fail
  refine (qshort_no a.s a.N a.D a.ns.length a.nc a.ds.length a.dc 20 _ hsa).mono ?_
  rintro e w3 ⟨rfl, hb3⟩
  have ha3 := ha2.below hb3
  have hb_3 := hb_2.below hb3
  have ka3 := ka2.below hb3
  have kb3 := kb2.below hb3
  have hw3 := hw2.trans (hb3.mono hw2.size)
  clear ha2 hb_2 ka2 kb2 hw2 hb3
  clear a0 a1 a2 a3 a4 a5 a6
  go_wp2_with (go_quiet (fail))
  go_ret
  exact ⟨rfl, hw3⟩
set_option maxRecDepth 100000 in
set_option maxHeartbeats 3200000 in
theorem forms_long2 (a b : RL) (w : World) (ha : a.Raw w) (hb_ : b.Raw w) (hsa : a.ns.length ≤ 20 ∧ a.ds.length ≤ 20) (hsb : ¬ (b.ns.length ≤ 20 ∧ b.ds.length ≤ 20)) (htab : Lib.TabBelow Tryz.prog w.heap.size w "internal/strconv.uint64pow10" .u64 Lib.pow10Tab) :
    Calls Tryz.prog 8 #[.agg #[.bool a.s, .slice a.N a.ns.length a.nc, .slice a.D a.ds.length a.dc], .agg #[.bool b.s, .slice b.N b.ns.length b.nc, .slice b.D b.ds.length b.dc]] w (Yes w) := by
  have HT := Lib.hid htab
  clear htab
  go_enter Tryz.func8, Tryz.ntmps8
  go_wp2_with fail
  have hbox := box1r w (.bool a.s) (.slice a.N a.ns.length a.nc) (.slice a.D a.ds.length a.dc) (.bool b.s) (.slice b.N b.ns.length b.nc) (.slice b.D b.ds.length b.dc)
  obtain ⟨w1, hwe⟩ : ∃ x, (w.alloc (.cells #[.bool a.s, .slice a.N a.ns.length a.nc, .slice a.D a.ds.length a.dc] 24)).alloc (.cells #[.bool b.s, .slice b.N b.ns.length b.nc, .slice b.D b.ds.length b.dc] 24) = x := ⟨_, rfl⟩
  rw [hwe] at hbox ⊢
  obtain ⟨ka1, kb1, hb1⟩ := hbox
  have HWE := Lib.hid hwe
  clear hwe HWE
  have ha1 := ha.below hb1
  have hb_1 := hb_.below hb1
  have hw1 := hb1
  clear ha hb_ hb1
  refine (qawake_yes _ (fun w' h => HT.out w' (hw1.trans (h.mono hw1.size)))).mono ?_
  rintro e w2 ⟨rfl, hb2⟩
  have ha2 := ha1.below hb2
  have hb_2 := hb_1.below hb2
  have ka2 := ka1.below hb2
  have kb2 := kb1.below hb2
  have hw2 := hw1.trans (hb2.mono hw1.size)
  clear ha1 hb_1 ka1 kb1 hw1 hb2
  obtain ⟨a0, a1, a2, a3, a4, a5, a6⟩ := ka2.facts
  go_wp2_with fail
  refine (qshort_yes a.s a.N a.D a.ns.length a.nc a.ds.length a.dc 20 _ hsa.1 hsa.2).mono ?_
  rintro e w3 ⟨rfl, hb3⟩
  have ha3 := ha2.below hb3
  have hb_3 := hb_2.below hb3
  have ka3 := ka2.below hb3
  have kb3 := kb2.below hb3
  have hw3 := hw2.trans (hb3.mono hw2.size)
  clear ha2 hb_2 ka2 kb2 hw2 hb3
  clear a0 a1 a2 a3 a4 a5 a6
  obtain ⟨b0, b1, b2, b3, b4, b5, b6⟩ := kb3.facts
  go_wp2_with fail
  refine (qshort_no b.s b.N b.D b.ns.length b.nc b.ds.length b.dc 20 _ hsb).mono ?_
  rintro e w4 ⟨rfl, hb4⟩
  have ha4 := ha3.below hb4
  have hb_4 := hb_3.below hb4
  have ka4 := ka3.below hb4
  have kb4 := kb3.below hb4
  have hw4 := hw3.trans (hb4.mono hw3.size)
  clear ha3 hb_3 ka3 kb3 hw3 hb4
  clear b0 b1 b2 b3 b4 b5 b6
  go_wp2_with (go_quiet (fail))
  go_ret
  exact ⟨rfl, hw4⟩
set_option maxRecDepth 100000 in
set_option maxHeartbeats 3200000 in
theorem forms_tt (a b : RL) (w : World) (ha : a.Raw w) (hb_ : b.Raw w) (hsa : a.ns.length ≤ 20 ∧ a.ds.length ≤ 20) (hsb : b.ns.length ≤ 20 ∧ b.ds.length ≤ 20) (iffa : a.Val) (iffb : b.Val) (htab : Lib.TabBelow Tryz.prog w.heap.size w "internal/strconv.uint64pow10" .u64 Lib.pow10Tab) :
    Calls Tryz.prog 8 #[.agg #[.bool a.s, .slice a.N a.ns.length a.nc, .slice a.D a.ds.length a.dc], .agg #[.bool b.s, .slice b.N b.ns.length b.nc, .slice b.D b.ds.length b.dc]] w (Yes w) := by
  have HT := Lib.hid htab
  clear htab
  have IA := Lib.hid iffa
  have IB := Lib.hid iffb
  clear iffa iffb
  go_enter Tryz.func8, Tryz.ntmps8
  go_wp2_with fail
  have hbox := box1r w (.bool a.s) (.slice a.N a.ns.length a.nc) (.slice a.D a.ds.length a.dc) (.bool b.s) (.slice b.N b.ns.length b.nc) (.slice b.D b.ds.length b.dc)
  obtain ⟨w1, hwe⟩ : ∃ x, (w.alloc (.cells #[.bool a.s, .slice a.N a.ns.length a.nc, .slice a.D a.ds.length a.dc] 24)).alloc (.cells #[.bool b.s, .slice b.N b.ns.length b.nc, .slice b.D b.ds.length b.dc] 24) = x := ⟨_, rfl⟩
  rw [hwe] at hbox ⊢
  obtain ⟨ka1, kb1, hb1⟩ := hbox
  have HWE := Lib.hid hwe
  clear hwe HWE
  have ha1 := ha.below hb1
  have hb_1 := hb_.below hb1
  have hw1 := hb1
  clear ha hb_ hb1
  refine (qawake_yes _ (fun w' h => HT.out w' (hw1.trans (h.mono hw1.size)))).mono ?_
  rintro e w2 ⟨rfl, hb2⟩
  have ha2 := ha1.below hb2
  have hb_2 := hb_1.below hb2
  have ka2 := ka1.below hb2
  have kb2 := kb1.below hb2
  have hw2 := hw1.trans (hb2.mono hw1.size)
  clear ha1 hb_1 ka1 kb1 hw1 hb2
  obtain ⟨a0, a1, a2, a3, a4, a5, a6⟩ := ka2.facts
  go_wp2_with fail
  refine (qshort_yes a.s a.N a.D a.ns.length a.nc a.ds.length a.dc 20 _ hsa.1 hsa.2).mono ?_
  rintro e w3 ⟨rfl, hb3⟩
  have ha3 := ha2.below hb3
  have hb_3 := hb_2.below hb3
  have ka3 := ka2.below hb3
  have kb3 := kb2.below hb3
  have hw3 := hw2.trans (hb3.mono hw2.size)
  clear ha2 hb_2 ka2 kb2 hw2 hb3
  clear a0 a1 a2 a3 a4 a5 a6
  obtain ⟨b0, b1, b2, b3, b4, b5, b6⟩ := kb3.facts
  go_wp2_with fail
  refine (qshort_yes b.s b.N b.D b.ns.length b.nc b.ds.length b.dc 20 _ hsb.1 hsb.2).mono ?_
  rintro e w4 ⟨rfl, hb4⟩
  have ha4 := ha3.below hb4
  have hb_4 := hb_3.below hb4
  have ka4 := ka3.below hb4
  have kb4 := kb3.below hb4
  have hw4 := hw3.trans (hb4.mono hw3.size)
  clear ha3 hb_3 ka3 kb3 hw3 hb4
  clear b0 b1 b2 b3 b4 b5 b6
  obtain ⟨a0, a1, a2, a3, a4, a5, a6⟩ := ka4.facts
  obtain ⟨b0, b1, b2, b3, b4, b5, b6⟩ := kb4.facts
  go_upto_region 5 with fail
  go_cut [54] (fun s54 wx => s54 = .bool false ∧ Below w4.heap.size w4 wx)
  case first =>
    go_region_held3 (fun w' => w'.cell? ⟨w.heap.size, 0, none⟩ = some (.bool a.s) ∧ w'.cell? ⟨w.heap.size, 1, none⟩ = some (.slice a.N a.ns.length a.nc) ∧ w'.cell? ⟨w.heap.size, 2, none⟩ = some (.slice a.D a.ds.length a.dc) ∧ w'.cell? ⟨w.heap.size + 1, 0, none⟩ = some (.bool b.s) ∧ w'.cell? ⟨w.heap.size + 1, 1, none⟩ = some (.slice b.N b.ns.length b.nc) ∧ w'.cell? ⟨w.heap.size + 1, 2, none⟩ = some (.slice b.D b.ds.length b.dc)) (first | exact ⟨‹_›, ‹_›, ‹_›, ‹_›, ‹_›, ‹_›⟩ | go_keep)
      (first
      | (go_at_call_of 56 (Value.agg #[.bool a.s, .slice a.N a.ns.length a.nc, .slice a.D a.ds.length a.dc])
         refine (qvalid_rawyes a _ (by first | exact ha4 | exact ha4.drew | exact ha4.alloc _ | exact (ha4.alloc _).drew | exact ha4.drew.alloc _) IA.out).mono ?_
         rintro e wx_ ⟨rfl, hbx⟩
         have hbp0 : Below w4.heap.size w4 wx_ := by first | exact hbx | exact below_of_drew hbx (Nat.le_refl _) | exact ((Below.refl _ _).alloc (Nat.le_refl _) _).trans (hbx.mono (by simp)) | exact ((Below.refl _ _).alloc (Nat.le_refl _) _).trans ((below_of_drew hbx (Nat.le_refl _)).mono (by simp)) | exact below_of_drew (((Below.refl _ _).alloc (Nat.le_refl _) _).trans (hbx.mono (by simp))) (Nat.le_refl _)
         have ha_0 := ha4.below hbp0
         have hb__0 := hb_4.below hbp0
         have ka_0 := ka4.below hbp0
         obtain ⟨ka0wx_, ka1wx_, ka2wx_, ka3wx_, ka4wx_, ka5wx_, ka6wx_⟩ := ka_0.facts
         have kb_0 := kb4.below hbp0
         obtain ⟨kb0wx_, kb1wx_, kb2wx_, kb3wx_, kb4wx_, kb5wx_, kb6wx_⟩ := kb_0.facts
         have hwq0 := hw4.trans (hbp0.mono hw4.size))
      | (go_at_call_of 49 (Value.agg #[.bool a.s, .slice a.N a.ns.length a.nc, .slice a.D a.ds.length a.dc])
         refine (rqvalid_rawyes a _ (by first | exact ha_0 | exact ha_0.drew | exact ha_0.alloc _ | exact (ha_0.alloc _).drew | exact ha_0.drew.alloc _) IA.out).mono ?_
         rintro e wy_ ⟨rfl, hby⟩
         have hbp1 : Below wx_.heap.size wx_ wy_ := by first | exact hby | exact below_of_drew hby (Nat.le_refl _) | exact ((Below.refl _ _).alloc (Nat.le_refl _) _).trans (hby.mono (by simp)) | exact ((Below.refl _ _).alloc (Nat.le_refl _) _).trans ((below_of_drew hby (Nat.le_refl _)).mono (by simp)) | exact below_of_drew (((Below.refl _ _).alloc (Nat.le_refl _) _).trans (hby.mono (by simp))) (Nat.le_refl _)
         have ha_1 := ha_0.below hbp1
         have hb__1 := hb__0.below hbp1
         have ka_1 := ka_0.below hbp1
         obtain ⟨ka0wy_, ka1wy_, ka2wy_, ka3wy_, ka4wy_, ka5wy_, ka6wy_⟩ := ka_1.facts
         have kb_1 := kb_0.below hbp1
         obtain ⟨kb0wy_, kb1wy_, kb2wy_, kb3wy_, kb4wy_, kb5wy_, kb6wy_⟩ := kb_1.facts
         have hwq1 := hwq0.trans (hbp1.mono hwq0.size))
      | (go_at_call_of 56 (Value.agg #[.bool b.s, .slice b.N b.ns.length b.nc, .slice b.D b.ds.length b.dc])
         refine (qvalid_rawyes b _ (by first | exact hb__1 | exact hb__1.drew | exact hb__1.alloc _ | exact (hb__1.alloc _).drew | exact hb__1.drew.alloc _) IB.out).mono ?_
         rintro e wz_ ⟨rfl, hbz⟩
         have hbp2 : Below wy_.heap.size wy_ wz_ := by first | exact hbz | exact below_of_drew hbz (Nat.le_refl _) | exact ((Below.refl _ _).alloc (Nat.le_refl _) _).trans (hbz.mono (by simp)) | exact ((Below.refl _ _).alloc (Nat.le_refl _) _).trans ((below_of_drew hbz (Nat.le_refl _)).mono (by simp)) | exact below_of_drew (((Below.refl _ _).alloc (Nat.le_refl _) _).trans (hbz.mono (by simp))) (Nat.le_refl _)
         have ha_2 := ha_1.below hbp2
         have hb__2 := hb__1.below hbp2
         have ka_2 := ka_1.below hbp2
         obtain ⟨ka0wz_, ka1wz_, ka2wz_, ka3wz_, ka4wz_, ka5wz_, ka6wz_⟩ := ka_2.facts
         have kb_2 := kb_1.below hbp2
         obtain ⟨kb0wz_, kb1wz_, kb2wz_, kb3wz_, kb4wz_, kb5wz_, kb6wz_⟩ := kb_2.facts
         have hwq2 := hwq1.trans (hbp2.mono hwq1.size))
      | (go_at_call_of 49 (Value.agg #[.bool b.s, .slice b.N b.ns.length b.nc, .slice b.D b.ds.length b.dc])
         refine (rqvalid_rawyes b _ (by first | exact hb__2 | exact hb__2.drew | exact hb__2.alloc _ | exact (hb__2.alloc _).drew | exact hb__2.drew.alloc _) IB.out).mono ?_
         rintro e wv_ ⟨rfl, hbv⟩
         have hbp3 : Below wz_.heap.size wz_ wv_ := by first | exact hbv | exact below_of_drew hbv (Nat.le_refl _) | exact ((Below.refl _ _).alloc (Nat.le_refl _) _).trans (hbv.mono (by simp)) | exact ((Below.refl _ _).alloc (Nat.le_refl _) _).trans ((below_of_drew hbv (Nat.le_refl _)).mono (by simp)) | exact below_of_drew (((Below.refl _ _).alloc (Nat.le_refl _) _).trans (hbv.mono (by simp))) (Nat.le_refl _)
         have ha_3 := ha_2.below hbp3
         have hb__3 := hb__2.below hbp3
         have ka_3 := ka_2.below hbp3
         obtain ⟨ka0wv_, ka1wv_, ka2wv_, ka3wv_, ka4wv_, ka5wv_, ka6wv_⟩ := ka_3.facts
         have kb_3 := kb_2.below hbp3
         obtain ⟨kb0wv_, kb1wv_, kb2wv_, kb3wv_, kb4wv_, kb5wv_, kb6wv_⟩ := kb_3.facts
         have hwq3 := hwq2.trans (hbp3.mono hwq2.size)))
    all_goals
      go_wp2_with fail
      go_meet
      refine ⟨rfl, ?_⟩
      exact ((hbp0.trans (hbp1.mono hbp0.size)).trans (hbp2.mono (hbp0.trans (hbp1.mono hbp0.size)).size)).trans (hbp3.mono ((hbp0.trans (hbp1.mono hbp0.size)).trans (hbp2.mono (hbp0.trans (hbp1.mono hbp0.size)).size)).size)
  clear a0 a1 a2 a3 a4 a5 a6
  clear b0 b1 b2 b3 b4 b5 b6
  obtain ⟨w5, rfl⟩ : ∃ x, x = wc := ⟨_, rfl⟩
  obtain ⟨rfl, hb5⟩ := hcut
  have ha5 := ha4.below hb5
  have hb_5 := hb_4.below hb5
  have ka5 := ka4.below hb5
  have kb5 := kb4.below hb5
  have hw5 := hw4.trans (hb5.mono hw4.size)
  clear ha4 hb_4 ka4 kb4 hw4 hb5
  obtain ⟨a0, a1, a2, a3, a4, a5, a6⟩ := ka5.facts
  go_wp2_with fail
  refine (rqvalid_rawyes a _ ha5 IA.out).mono ?_
  rintro e w6 ⟨rfl, hb6⟩
  have ha6 := ha5.below hb6
  have hb_6 := hb_5.below hb6
  have ka6 := ka5.below hb6
  have kb6 := kb5.below hb6
  have hw6 := hw5.trans (hb6.mono hw5.size)
  clear ha5 hb_5 ka5 kb5 hw5 hb6
  clear a0 a1 a2 a3 a4 a5 a6
  obtain ⟨b0, b1, b2, b3, b4, b5, b6⟩ := kb6.facts
  go_wp2_with fail
  refine (rqvalid_rawyes b _ hb_6 IB.out).mono ?_
  rintro e w7 ⟨rfl, hb7⟩
  have ha7 := ha6.below hb7
  have hb_7 := hb_6.below hb7
  have ka7 := ka6.below hb7
  have kb7 := kb6.below hb7
  have hw7 := hw6.trans (hb7.mono hw6.size)
  clear ha6 hb_6 ka6 kb6 hw6 hb7
  clear b0 b1 b2 b3 b4 b5 b6
  go_wp2_with (go_quiet (fail))
  go_ret
  exact ⟨rfl, hw7⟩
set_option maxRecDepth 100000 in
set_option maxHeartbeats 3200000 in
theorem forms_tf (a b : RL) (w : World) (ha : a.Raw w) (hb_ : b.Raw w) (hsa : a.ns.length ≤ 20 ∧ a.ds.length ≤ 20) (hsb : b.ns.length ≤ 20 ∧ b.ds.length ≤ 20) (iffa : a.Val) (iffb : ¬ b.Val) (hno : ¬ (a.Val ∧ b.Val)) (htab : Lib.TabBelow Tryz.prog w.heap.size w "internal/strconv.uint64pow10" .u64 Lib.pow10Tab) :
    Calls Tryz.prog 8 #[.agg #[.bool a.s, .slice a.N a.ns.length a.nc, .slice a.D a.ds.length a.dc], .agg #[.bool b.s, .slice b.N b.ns.length b.nc, .slice b.D b.ds.length b.dc]] w (Yes w) := by
  have HT := Lib.hid htab
  clear htab
  have IA := Lib.hid iffa
  have IB := Lib.hid iffb
  clear iffa iffb
  have HNO := Lib.hid hno
  clear hno
  go_enter Tryz.func8, Tryz.ntmps8
  go_wp2_with fail
  have hbox := box1r w (.bool a.s) (.slice a.N a.ns.length a.nc) (.slice a.D a.ds.length a.dc) (.bool b.s) (.slice b.N b.ns.length b.nc) (.slice b.D b.ds.length b.dc)
  obtain ⟨w1, hwe⟩ : ∃ x, (w.alloc (.cells #[.bool a.s, .slice a.N a.ns.length a.nc, .slice a.D a.ds.length a.dc] 24)).alloc (.cells #[.bool b.s, .slice b.N b.ns.length b.nc, .slice b.D b.ds.length b.dc] 24) = x := ⟨_, rfl⟩
  rw [hwe] at hbox ⊢
  obtain ⟨ka1, kb1, hb1⟩ := hbox
  have HWE := Lib.hid hwe
  clear hwe HWE
  have ha1 := ha.below hb1
  have hb_1 := hb_.below hb1
  have hw1 := hb1
  clear ha hb_ hb1
  refine (qawake_yes _ (fun w' h => HT.out w' (hw1.trans (h.mono hw1.size)))).mono ?_
  rintro e w2 ⟨rfl, hb2⟩
  have ha2 := ha1.below hb2
  have hb_2 := hb_1.below hb2
  have ka2 := ka1.below hb2
  have kb2 := kb1.below hb2
  have hw2 := hw1.trans (hb2.mono hw1.size)
  clear ha1 hb_1 ka1 kb1 hw1 hb2
  obtain ⟨a0, a1, a2, a3, a4, a5, a6⟩ := ka2.facts
  go_wp2_with fail
  refine (qshort_yes a.s a.N a.D a.ns.length a.nc a.ds.length a.dc 20 _ hsa.1 hsa.2).mono ?_
  rintro e w3 ⟨rfl, hb3⟩
  have ha3 := ha2.below hb3
  have hb_3 := hb_2.below hb3
  have ka3 := ka2.below hb3
  have kb3 := kb2.below hb3
  have hw3 := hw2.trans (hb3.mono hw2.size)
  clear ha2 hb_2 ka2 kb2 hw2 hb3
  clear a0 a1 a2 a3 a4 a5 a6
  obtain ⟨b0, b1, b2, b3, b4, b5, b6⟩ := kb3.facts
  go_wp2_with fail
  refine (qshort_yes b.s b.N b.D b.ns.length b.nc b.ds.length b.dc 20 _ hsb.1 hsb.2).mono ?_
  rintro e w4 ⟨rfl, hb4⟩
  have ha4 := ha3.below hb4
  have hb_4 := hb_3.below hb4
  have ka4 := ka3.below hb4
  have kb4 := kb3.below hb4
  have hw4 := hw3.trans (hb4.mono hw3.size)
  clear ha3 hb_3 ka3 kb3 hw3 hb4
  clear b0 b1 b2 b3 b4 b5 b6
  obtain ⟨a0, a1, a2, a3, a4, a5, a6⟩ := ka4.facts
  obtain ⟨b0, b1, b2, b3, b4, b5, b6⟩ := kb4.facts
  go_upto_region 5 with fail
  go_cut [54] (fun s54 wx => s54 = .bool false ∧ Below w4.heap.size w4 wx)
  case first =>
    go_region_held3 (fun w' => w'.cell? ⟨w.heap.size, 0, none⟩ = some (.bool a.s) ∧ w'.cell? ⟨w.heap.size, 1, none⟩ = some (.slice a.N a.ns.length a.nc) ∧ w'.cell? ⟨w.heap.size, 2, none⟩ = some (.slice a.D a.ds.length a.dc) ∧ w'.cell? ⟨w.heap.size + 1, 0, none⟩ = some (.bool b.s) ∧ w'.cell? ⟨w.heap.size + 1, 1, none⟩ = some (.slice b.N b.ns.length b.nc) ∧ w'.cell? ⟨w.heap.size + 1, 2, none⟩ = some (.slice b.D b.ds.length b.dc)) (first | exact ⟨‹_›, ‹_›, ‹_›, ‹_›, ‹_›, ‹_›⟩ | go_keep)
      (first
      | (go_at_call_of 56 (Value.agg #[.bool a.s, .slice a.N a.ns.length a.nc, .slice a.D a.ds.length a.dc])
         refine (qvalid_rawyes a _ (by first | exact ha4 | exact ha4.drew | exact ha4.alloc _ | exact (ha4.alloc _).drew | exact ha4.drew.alloc _) IA.out).mono ?_
         rintro e wx_ ⟨rfl, hbx⟩
         have hbp0 : Below w4.heap.size w4 wx_ := by first | exact hbx | exact below_of_drew hbx (Nat.le_refl _) | exact ((Below.refl _ _).alloc (Nat.le_refl _) _).trans (hbx.mono (by simp)) | exact ((Below.refl _ _).alloc (Nat.le_refl _) _).trans ((below_of_drew hbx (Nat.le_refl _)).mono (by simp)) | exact below_of_drew (((Below.refl _ _).alloc (Nat.le_refl _) _).trans (hbx.mono (by simp))) (Nat.le_refl _)
         have ha_0 := ha4.below hbp0
         have hb__0 := hb_4.below hbp0
         have ka_0 := ka4.below hbp0
         obtain ⟨ka0wx_, ka1wx_, ka2wx_, ka3wx_, ka4wx_, ka5wx_, ka6wx_⟩ := ka_0.facts
         have kb_0 := kb4.below hbp0
         obtain ⟨kb0wx_, kb1wx_, kb2wx_, kb3wx_, kb4wx_, kb5wx_, kb6wx_⟩ := kb_0.facts
         have hwq0 := hw4.trans (hbp0.mono hw4.size))
      | (go_at_call_of 49 (Value.agg #[.bool a.s, .slice a.N a.ns.length a.nc, .slice a.D a.ds.length a.dc])
         refine (rqvalid_rawyes a _ (by first | exact ha_0 | exact ha_0.drew | exact ha_0.alloc _ | exact (ha_0.alloc _).drew | exact ha_0.drew.alloc _) IA.out).mono ?_
         rintro e wy_ ⟨rfl, hby⟩
         have hbp1 : Below wx_.heap.size wx_ wy_ := by first | exact hby | exact below_of_drew hby (Nat.le_refl _) | exact ((Below.refl _ _).alloc (Nat.le_refl _) _).trans (hby.mono (by simp)) | exact ((Below.refl _ _).alloc (Nat.le_refl _) _).trans ((below_of_drew hby (Nat.le_refl _)).mono (by simp)) | exact below_of_drew (((Below.refl _ _).alloc (Nat.le_refl _) _).trans (hby.mono (by simp))) (Nat.le_refl _)
         have ha_1 := ha_0.below hbp1
         have hb__1 := hb__0.below hbp1
         have ka_1 := ka_0.below hbp1
         obtain ⟨ka0wy_, ka1wy_, ka2wy_, ka3wy_, ka4wy_, ka5wy_, ka6wy_⟩ := ka_1.facts
         have kb_1 := kb_0.below hbp1
         obtain ⟨kb0wy_, kb1wy_, kb2wy_, kb3wy_, kb4wy_, kb5wy_, kb6wy_⟩ := kb_1.facts
         have hwq1 := hwq0.trans (hbp1.mono hwq0.size))
      | (go_at_call_of 56 (Value.agg #[.bool b.s, .slice b.N b.ns.length b.nc, .slice b.D b.ds.length b.dc])
         refine (qvalid_rawno b _ (by first | exact hb__1 | exact hb__1.drew | exact hb__1.alloc _ | exact (hb__1.alloc _).drew | exact hb__1.drew.alloc _) IB.out).mono ?_
         rintro e wz_ ⟨rfl, hbz⟩
         have hbp2 : Below wy_.heap.size wy_ wz_ := by first | exact hbz | exact below_of_drew hbz (Nat.le_refl _) | exact ((Below.refl _ _).alloc (Nat.le_refl _) _).trans (hbz.mono (by simp)) | exact ((Below.refl _ _).alloc (Nat.le_refl _) _).trans ((below_of_drew hbz (Nat.le_refl _)).mono (by simp)) | exact below_of_drew (((Below.refl _ _).alloc (Nat.le_refl _) _).trans (hbz.mono (by simp))) (Nat.le_refl _)
         have ha_2 := ha_1.below hbp2
         have hb__2 := hb__1.below hbp2
         have ka_2 := ka_1.below hbp2
         obtain ⟨ka0wz_, ka1wz_, ka2wz_, ka3wz_, ka4wz_, ka5wz_, ka6wz_⟩ := ka_2.facts
         have kb_2 := kb_1.below hbp2
         obtain ⟨kb0wz_, kb1wz_, kb2wz_, kb3wz_, kb4wz_, kb5wz_, kb6wz_⟩ := kb_2.facts
         have hwq2 := hwq1.trans (hbp2.mono hwq1.size))
      | (go_at_call_of 49 (Value.agg #[.bool b.s, .slice b.N b.ns.length b.nc, .slice b.D b.ds.length b.dc])
         refine (rqvalid_rawno b _ (by first | exact hb__2 | exact hb__2.drew | exact hb__2.alloc _ | exact (hb__2.alloc _).drew | exact hb__2.drew.alloc _) IB.out).mono ?_
         rintro e wv_ ⟨rfl, hbv⟩
         have hbp3 : Below wz_.heap.size wz_ wv_ := by first | exact hbv | exact below_of_drew hbv (Nat.le_refl _) | exact ((Below.refl _ _).alloc (Nat.le_refl _) _).trans (hbv.mono (by simp)) | exact ((Below.refl _ _).alloc (Nat.le_refl _) _).trans ((below_of_drew hbv (Nat.le_refl _)).mono (by simp)) | exact below_of_drew (((Below.refl _ _).alloc (Nat.le_refl _) _).trans (hbv.mono (by simp))) (Nat.le_refl _)
         have ha_3 := ha_2.below hbp3
         have hb__3 := hb__2.below hbp3
         have ka_3 := ka_2.below hbp3
         obtain ⟨ka0wv_, ka1wv_, ka2wv_, ka3wv_, ka4wv_, ka5wv_, ka6wv_⟩ := ka_3.facts
         have kb_3 := kb_2.below hbp3
         obtain ⟨kb0wv_, kb1wv_, kb2wv_, kb3wv_, kb4wv_, kb5wv_, kb6wv_⟩ := kb_3.facts
         have hwq3 := hwq2.trans (hbp3.mono hwq2.size)))
    all_goals
      go_wp2_with fail
      go_meet
      refine ⟨rfl, ?_⟩
      exact ((hbp0.trans (hbp1.mono hbp0.size)).trans (hbp2.mono (hbp0.trans (hbp1.mono hbp0.size)).size)).trans (hbp3.mono ((hbp0.trans (hbp1.mono hbp0.size)).trans (hbp2.mono (hbp0.trans (hbp1.mono hbp0.size)).size)).size)
  clear a0 a1 a2 a3 a4 a5 a6
  clear b0 b1 b2 b3 b4 b5 b6
  obtain ⟨w5, rfl⟩ : ∃ x, x = wc := ⟨_, rfl⟩
  obtain ⟨rfl, hb5⟩ := hcut
  have ha5 := ha4.below hb5
  have hb_5 := hb_4.below hb5
  have ka5 := ka4.below hb5
  have kb5 := kb4.below hb5
  have hw5 := hw4.trans (hb5.mono hw4.size)
  clear ha4 hb_4 ka4 kb4 hw4 hb5
  obtain ⟨a0, a1, a2, a3, a4, a5, a6⟩ := ka5.facts
  go_wp2_with fail
  refine (rqvalid_rawyes a _ ha5 IA.out).mono ?_
  rintro e w6 ⟨rfl, hb6⟩
  have ha6 := ha5.below hb6
  have hb_6 := hb_5.below hb6
  have ka6 := ka5.below hb6
  have kb6 := kb5.below hb6
  have hw6 := hw5.trans (hb6.mono hw5.size)
  clear ha5 hb_5 ka5 kb5 hw5 hb6
  clear a0 a1 a2 a3 a4 a5 a6
  obtain ⟨b0, b1, b2, b3, b4, b5, b6⟩ := kb6.facts
  go_wp2_with fail
  refine (rqvalid_rawno b _ hb_6 IB.out).mono ?_
  rintro e w7 ⟨rfl, hb7⟩
  have ha7 := ha6.below hb7
  have hb_7 := hb_6.below hb7
  have ka7 := ka6.below hb7
  have kb7 := kb6.below hb7
  have hw7 := hw6.trans (hb7.mono hw6.size)
  clear ha6 hb_6 ka6 kb6 hw6 hb7
  clear b0 b1 b2 b3 b4 b5 b6
  obtain ⟨a0, a1, a2, a3, a4, a5, a6⟩ := ka7.facts
  obtain ⟨b0, b1, b2, b3, b4, b5, b6⟩ := kb7.facts
  go_wp2_with fail
  refine (qcmp_form a b _ ha7 hb_7 HNO.out).mono ?_
  rintro e w8 ⟨rfl, hb8⟩
  have ha8 := ha7.below hb8
  have hb_8 := hb_7.below hb8
  have ka8 := ka7.below hb8
  have kb8 := kb7.below hb8
  have hw8 := hw7.trans (hb8.mono hw7.size)
  clear ha7 hb_7 ka7 kb7 hw7 hb8
  clear a0 a1 a2 a3 a4 a5 a6
  clear b0 b1 b2 b3 b4 b5 b6
  obtain ⟨a0, a1, a2, a3, a4, a5, a6⟩ := ka8.facts
  obtain ⟨b0, b1, b2, b3, b4, b5, b6⟩ := kb8.facts
  go_wp2_with fail
  refine (qadd_form a b _ ha8 hb_8 HNO.out).mono ?_
  rintro e w9 ⟨rfl, hb9⟩
  have ha9 := ha8.below hb9
  have hb_9 := hb_8.below hb9
  have ka9 := ka8.below hb9
  have kb9 := kb8.below hb9
  have hw9 := hw8.trans (hb9.mono hw8.size)
  clear ha8 hb_8 ka8 kb8 hw8 hb9
  clear a0 a1 a2 a3 a4 a5 a6
  clear b0 b1 b2 b3 b4 b5 b6
  go_upto_region 11 with fail
  have kx110 := Blk3.new w9 (.bool false) (.slice none 0 0) (.slice none 0 0)
  have hb10 : Below w9.heap.size w9 (w9.alloc (.cells #[.bool false, .slice none 0 0, .slice none 0 0] 24)) := (Below.refl _ _).alloc (Nat.le_refl _) _
  obtain ⟨w10, hwe⟩ : ∃ x, w9.alloc (.cells #[.bool false, .slice none 0 0, .slice none 0 0] 24) = x := ⟨_, rfl⟩
  rw [hwe] at kx110 hb10 ⊢
  clear hwe
  have ha10 := ha9.below hb10
  have hb_10 := hb_9.below hb10
  have ka10 := ka9.below hb10
  have kb10 := kb9.below hb10
  have hw10 := hw9.trans (hb10.mono hw9.size)
  clear ha9 hb_9 ka9 kb9 hw9 hb10
  obtain ⟨a0, a1, a2, a3, a4, a5, a6⟩ := ka10.facts
  obtain ⟨b0, b1, b2, b3, b4, b5, b6⟩ := kb10.facts
  go_wp2_with fail
  refine (qsub_form a b _ ha10 hb_10 HNO.out).mono ?_
  rintro e w11 ⟨rfl, hb11⟩
  have ha11 := ha10.below hb11
  have hb_11 := hb_10.below hb11
  have ka11 := ka10.below hb11
  have kb11 := kb10.below hb11
  have kx111 := kx110.below hb11
  have hw11 := hw10.trans (hb11.mono hw10.size)
  clear ha10 hb_10 ka10 kb10 kx110 hw10 hb11
  clear a0 a1 a2 a3 a4 a5 a6
  clear b0 b1 b2 b3 b4 b5 b6
  go_upto_region 12 with fail
  have kx212 := Blk3.new w11 (.bool false) (.slice none 0 0) (.slice none 0 0)
  have hb12 : Below w11.heap.size w11 (w11.alloc (.cells #[.bool false, .slice none 0 0, .slice none 0 0] 24)) := (Below.refl _ _).alloc (Nat.le_refl _) _
  obtain ⟨w12, hwe⟩ : ∃ x, w11.alloc (.cells #[.bool false, .slice none 0 0, .slice none 0 0] 24) = x := ⟨_, rfl⟩
  rw [hwe] at kx212 hb12 ⊢
  clear hwe
  have ha12 := ha11.below hb12
  have hb_12 := hb_11.below hb12
  have ka12 := ka11.below hb12
  have kb12 := kb11.below hb12
  have kx112 := kx111.below hb12
  have hw12 := hw11.trans (hb12.mono hw11.size)
  clear ha11 hb_11 ka11 kb11 kx111 hw11 hb12
  obtain ⟨a0, a1, a2, a3, a4, a5, a6⟩ := ka12.facts
  obtain ⟨b0, b1, b2, b3, b4, b5, b6⟩ := kb12.facts
  go_wp2_with fail
  refine (qmul_form a b _ ha12 hb_12 HNO.out).mono ?_
  rintro e w13 ⟨rfl, hb13⟩
  have ha13 := ha12.below hb13
  have hb_13 := hb_12.below hb13
  have ka13 := ka12.below hb13
  have kb13 := kb12.below hb13
  have kx113 := kx112.below hb13
  have kx213 := kx212.below hb13
  have hw13 := hw12.trans (hb13.mono hw12.size)
  clear ha12 hb_12 ka12 kb12 kx112 kx212 hw12 hb13
  clear a0 a1 a2 a3 a4 a5 a6
  clear b0 b1 b2 b3 b4 b5 b6
  go_upto_region 13 with fail
  have kx314 := Blk3.new w13 (.bool false) (.slice none 0 0) (.slice none 0 0)
  have hb14 : Below w13.heap.size w13 (w13.alloc (.cells #[.bool false, .slice none 0 0, .slice none 0 0] 24)) := (Below.refl _ _).alloc (Nat.le_refl _) _
  obtain ⟨w14, hwe⟩ : ∃ x, w13.alloc (.cells #[.bool false, .slice none 0 0, .slice none 0 0] 24) = x := ⟨_, rfl⟩
  rw [hwe] at kx314 hb14 ⊢
  clear hwe
  have ha14 := ha13.below hb14
  have hb_14 := hb_13.below hb14
  have ka14 := ka13.below hb14
  have kb14 := kb13.below hb14
  have kx114 := kx113.below hb14
  have kx214 := kx213.below hb14
  have hw14 := hw13.trans (hb14.mono hw13.size)
  clear ha13 hb_13 ka13 kb13 kx113 kx213 hw13 hb14
  obtain ⟨a0, a1, a2, a3, a4, a5, a6⟩ := ka14.facts
  obtain ⟨b0, b1, b2, b3, b4, b5, b6⟩ := kb14.facts
  go_wp2_with fail
  refine (qdiv_form a b _ ha14 hb_14 HNO.out).mono ?_
  rintro e w15 ⟨rfl, hb15⟩
  have ha15 := ha14.below hb15
  have hb_15 := hb_14.below hb15
  have ka15 := ka14.below hb15
  have kb15 := kb14.below hb15
  have kx115 := kx114.below hb15
  have kx215 := kx214.below hb15
  have kx315 := kx314.below hb15
  have hw15 := hw14.trans (hb15.mono hw14.size)
  clear ha14 hb_14 ka14 kb14 kx114 kx214 kx314 hw14 hb15
  clear a0 a1 a2 a3 a4 a5 a6
  clear b0 b1 b2 b3 b4 b5 b6
  go_upto_region 14 with fail
  have kx416 := Blk3.new w15 (.bool false) (.slice none 0 0) (.slice none 0 0)
  have hb16 : Below w15.heap.size w15 (w15.alloc (.cells #[.bool false, .slice none 0 0, .slice none 0 0] 24)) := (Below.refl _ _).alloc (Nat.le_refl _) _
  obtain ⟨w16, hwe⟩ : ∃ x, w15.alloc (.cells #[.bool false, .slice none 0 0, .slice none 0 0] 24) = x := ⟨_, rfl⟩
  rw [hwe] at kx416 hb16 ⊢
  clear hwe
  have ha16 := ha15.below hb16
  have hb_16 := hb_15.below hb16
  have ka16 := ka15.below hb16
  have kb16 := kb15.below hb16
  have kx116 := kx115.below hb16
  have kx216 := kx215.below hb16
  have kx316 := kx315.below hb16
  have hw16 := hw15.trans (hb16.mono hw15.size)
  clear ha15 hb_15 ka15 kb15 kx115 kx215 kx315 hw15 hb16
  obtain ⟨a0, a1, a2, a3, a4, a5, a6⟩ := ka16.facts
  obtain ⟨b0, b1, b2, b3, b4, b5, b6⟩ := kb16.facts
  go_wp2_with fail
  refine (qmid_form a b _ ha16 hb_16 HNO.out).mono ?_
  rintro e w17 ⟨rfl, hb17⟩
  have ha17 := ha16.below hb17
  have hb_17 := hb_16.below hb17
  have ka17 := ka16.below hb17
  have kb17 := kb16.below hb17
  have kx117 := kx116.below hb17
  have kx217 := kx216.below hb17
  have kx317 := kx316.below hb17
  have kx417 := kx416.below hb17
  have hw17 := hw16.trans (hb17.mono hw16.size)
  clear ha16 hb_16 ka16 kb16 kx116 kx216 kx316 kx416 hw16 hb17
  clear a0 a1 a2 a3 a4 a5 a6
  clear b0 b1 b2 b3 b4 b5 b6
  go_upto_region 15 with fail
  have kx518 := Blk3.new w17 (.bool false) (.slice none 0 0) (.slice none 0 0)
  have hb18 : Below w17.heap.size w17 (w17.alloc (.cells #[.bool false, .slice none 0 0, .slice none 0 0] 24)) := (Below.refl _ _).alloc (Nat.le_refl _) _
  obtain ⟨w18, hwe⟩ : ∃ x, w17.alloc (.cells #[.bool false, .slice none 0 0, .slice none 0 0] 24) = x := ⟨_, rfl⟩
  rw [hwe] at kx518 hb18 ⊢
  clear hwe
  have ha18 := ha17.below hb18
  have hb_18 := hb_17.below hb18
  have ka18 := ka17.below hb18
  have kb18 := kb17.below hb18
  have kx118 := kx117.below hb18
  have kx218 := kx217.below hb18
  have kx318 := kx317.below hb18
  have kx418 := kx417.below hb18
  have hw18 := hw17.trans (hb18.mono hw17.size)
  clear ha17 hb_17 ka17 kb17 kx117 kx217 kx317 kx417 hw17 hb18
  obtain ⟨a0, a1, a2, a3, a4, a5, a6⟩ := ka18.facts
  obtain ⟨b0, b1, b2, b3, b4, b5, b6⟩ := kb18.facts
  go_wp2_with fail
  refine (qsimplest_form a b _ ha18 hb_18 HNO.out).mono ?_
  rintro e w19 ⟨rfl, hb19⟩
  have ha19 := ha18.below hb19
  have hb_19 := hb_18.below hb19
  have ka19 := ka18.below hb19
  have kb19 := kb18.below hb19
  have kx119 := kx118.below hb19
  have kx219 := kx218.below hb19
  have kx319 := kx318.below hb19
  have kx419 := kx418.below hb19
  have kx519 := kx518.below hb19
  have hw19 := hw18.trans (hb19.mono hw18.size)
  clear ha18 hb_18 ka18 kb18 kx118 kx218 kx318 kx418 kx518 hw18 hb19
  clear a0 a1 a2 a3 a4 a5 a6
  clear b0 b1 b2 b3 b4 b5 b6
  go_upto_region 16 with fail
  have kx620 := Blk3.new w19 (.bool false) (.slice none 0 0) (.slice none 0 0)
  have hb20 : Below w19.heap.size w19 (w19.alloc (.cells #[.bool false, .slice none 0 0, .slice none 0 0] 24)) := (Below.refl _ _).alloc (Nat.le_refl _) _
  obtain ⟨w20, hwe⟩ : ∃ x, w19.alloc (.cells #[.bool false, .slice none 0 0, .slice none 0 0] 24) = x := ⟨_, rfl⟩
  rw [hwe] at kx620 hb20 ⊢
  clear hwe
  have ha20 := ha19.below hb20
  have hb_20 := hb_19.below hb20
  have ka20 := ka19.below hb20
  have kb20 := kb19.below hb20
  have kx120 := kx119.below hb20
  have kx220 := kx219.below hb20
  have kx320 := kx319.below hb20
  have kx420 := kx419.below hb20
  have kx520 := kx519.below hb20
  have hw20 := hw19.trans (hb20.mono hw19.size)
  clear ha19 hb_19 ka19 kb19 kx119 kx219 kx319 kx419 kx519 hw19 hb20
  obtain ⟨c0, c1, c2, c3, c4, c5, c6⟩ := kx120.facts
  go_wp2_with fail
  refine (qnone_yes _).mono ?_
  rintro e w21 ⟨rfl, hb21⟩
  have ha21 := ha20.below hb21
  have hb_21 := hb_20.below hb21
  have ka21 := ka20.below hb21
  have kb21 := kb20.below hb21
  have kx121 := kx120.below hb21
  have kx221 := kx220.below hb21
  have kx321 := kx320.below hb21
  have kx421 := kx420.below hb21
  have kx521 := kx520.below hb21
  have kx621 := kx620.below hb21
  have hw21 := hw20.trans (hb21.mono hw20.size)
  clear ha20 hb_20 ka20 kb20 kx120 kx220 kx320 kx420 kx520 kx620 hw20 hb21
  clear c0 c1 c2 c3 c4 c5 c6
  obtain ⟨c0, c1, c2, c3, c4, c5, c6⟩ := kx221.facts
  go_wp2_with fail
  refine (qnone_yes _).mono ?_
  rintro e w22 ⟨rfl, hb22⟩
  have ha22 := ha21.below hb22
  have hb_22 := hb_21.below hb22
  have ka22 := ka21.below hb22
  have kb22 := kb21.below hb22
  have kx122 := kx121.below hb22
  have kx222 := kx221.below hb22
  have kx322 := kx321.below hb22
  have kx422 := kx421.below hb22
  have kx522 := kx521.below hb22
  have kx622 := kx621.below hb22
  have hw22 := hw21.trans (hb22.mono hw21.size)
  clear ha21 hb_21 ka21 kb21 kx121 kx221 kx321 kx421 kx521 kx621 hw21 hb22
  clear c0 c1 c2 c3 c4 c5 c6
  obtain ⟨c0, c1, c2, c3, c4, c5, c6⟩ := kx322.facts
  go_wp2_with fail
  refine (qnone_yes _).mono ?_
  rintro e w23 ⟨rfl, hb23⟩
  have ha23 := ha22.below hb23
  have hb_23 := hb_22.below hb23
  have ka23 := ka22.below hb23
  have kb23 := kb22.below hb23
  have kx123 := kx122.below hb23
  have kx223 := kx222.below hb23
  have kx323 := kx322.below hb23
  have kx423 := kx422.below hb23
  have kx523 := kx522.below hb23
  have kx623 := kx622.below hb23
  have hw23 := hw22.trans (hb23.mono hw22.size)
  clear ha22 hb_22 ka22 kb22 kx122 kx222 kx322 kx422 kx522 kx622 hw22 hb23
  clear c0 c1 c2 c3 c4 c5 c6
  obtain ⟨c0, c1, c2, c3, c4, c5, c6⟩ := kx423.facts
  go_wp2_with fail
  refine (qnone_yes _).mono ?_
  rintro e w24 ⟨rfl, hb24⟩
  have ha24 := ha23.below hb24
  have hb_24 := hb_23.below hb24
  have ka24 := ka23.below hb24
  have kb24 := kb23.below hb24
  have kx124 := kx123.below hb24
  have kx224 := kx223.below hb24
  have kx324 := kx323.below hb24
  have kx424 := kx423.below hb24
  have kx524 := kx523.below hb24
  have kx624 := kx623.below hb24
  have hw24 := hw23.trans (hb24.mono hw23.size)
  clear ha23 hb_23 ka23 kb23 kx123 kx223 kx323 kx423 kx523 kx623 hw23 hb24
  clear c0 c1 c2 c3 c4 c5 c6
  obtain ⟨c0, c1, c2, c3, c4, c5, c6⟩ := kx524.facts
  go_wp2_with fail
  refine (qnone_yes _).mono ?_
  rintro e w25 ⟨rfl, hb25⟩
  have ha25 := ha24.below hb25
  have hb_25 := hb_24.below hb25
  have ka25 := ka24.below hb25
  have kb25 := kb24.below hb25
  have kx125 := kx124.below hb25
  have kx225 := kx224.below hb25
  have kx325 := kx324.below hb25
  have kx425 := kx424.below hb25
  have kx525 := kx524.below hb25
  have kx625 := kx624.below hb25
  have hw25 := hw24.trans (hb25.mono hw24.size)
  clear ha24 hb_24 ka24 kb24 kx124 kx224 kx324 kx424 kx524 kx624 hw24 hb25
  clear c0 c1 c2 c3 c4 c5 c6
  obtain ⟨c0, c1, c2, c3, c4, c5, c6⟩ := kx625.facts
  go_wp2_with fail
  refine (qnone_yes _).mono ?_
  rintro e w26 ⟨rfl, hb26⟩
  have ha26 := ha25.below hb26
  have hb_26 := hb_25.below hb26
  have ka26 := ka25.below hb26
  have kb26 := kb25.below hb26
  have kx126 := kx125.below hb26
  have kx226 := kx225.below hb26
  have kx326 := kx325.below hb26
  have kx426 := kx425.below hb26
  have kx526 := kx525.below hb26
  have kx626 := kx625.below hb26
  have hw26 := hw25.trans (hb26.mono hw25.size)
  clear ha25 hb_25 ka25 kb25 kx125 kx225 kx325 kx425 kx525 kx625 hw25 hb26
  clear c0 c1 c2 c3 c4 c5 c6
  obtain ⟨a0, a1, a2, a3, a4, a5, a6⟩ := ka26.facts
  go_wp2_with fail
  refine (rqvalid_rawyes a _ ha26 IA.out).mono ?_
  rintro e w27 ⟨rfl, hb27⟩
  have ha27 := ha26.below hb27
  have hb_27 := hb_26.below hb27
  have ka27 := ka26.below hb27
  have kb27 := kb26.below hb27
  have kx127 := kx126.below hb27
  have kx227 := kx226.below hb27
  have kx327 := kx326.below hb27
  have kx427 := kx426.below hb27
  have kx527 := kx526.below hb27
  have kx627 := kx626.below hb27
  have hw27 := hw26.trans (hb27.mono hw26.size)
  clear ha26 hb_26 ka26 kb26 kx126 kx226 kx326 kx426 kx526 kx626 hw26 hb27
  clear a0 a1 a2 a3 a4 a5 a6
  go_wp2_with (go_quiet (fail))
  go_ret
  exact ⟨rfl, hw27⟩
set_option maxRecDepth 100000 in
set_option maxHeartbeats 3200000 in
theorem forms_ft (a b : RL) (w : World) (ha : a.Raw w) (hb_ : b.Raw w) (hsa : a.ns.length ≤ 20 ∧ a.ds.length ≤ 20) (hsb : b.ns.length ≤ 20 ∧ b.ds.length ≤ 20) (iffa : ¬ a.Val) (iffb : b.Val) (hno : ¬ (a.Val ∧ b.Val)) (htab : Lib.TabBelow Tryz.prog w.heap.size w "internal/strconv.uint64pow10" .u64 Lib.pow10Tab) :
    Calls Tryz.prog 8 #[.agg #[.bool a.s, .slice a.N a.ns.length a.nc, .slice a.D a.ds.length a.dc], .agg #[.bool b.s, .slice b.N b.ns.length b.nc, .slice b.D b.ds.length b.dc]] w (Yes w) := by
  have HT := Lib.hid htab
  clear htab
  have IA := Lib.hid iffa
  have IB := Lib.hid iffb
  clear iffa iffb
  have HNO := Lib.hid hno
  clear hno
  go_enter Tryz.func8, Tryz.ntmps8
  go_wp2_with fail
  have hbox := box1r w (.bool a.s) (.slice a.N a.ns.length a.nc) (.slice a.D a.ds.length a.dc) (.bool b.s) (.slice b.N b.ns.length b.nc) (.slice b.D b.ds.length b.dc)
  obtain ⟨w1, hwe⟩ : ∃ x, (w.alloc (.cells #[.bool a.s, .slice a.N a.ns.length a.nc, .slice a.D a.ds.length a.dc] 24)).alloc (.cells #[.bool b.s, .slice b.N b.ns.length b.nc, .slice b.D b.ds.length b.dc] 24) = x := ⟨_, rfl⟩
  rw [hwe] at hbox ⊢
  obtain ⟨ka1, kb1, hb1⟩ := hbox
  have HWE := Lib.hid hwe
  clear hwe HWE
  have ha1 := ha.below hb1
  have hb_1 := hb_.below hb1
  have hw1 := hb1
  clear ha hb_ hb1
  refine (qawake_yes _ (fun w' h => HT.out w' (hw1.trans (h.mono hw1.size)))).mono ?_
  rintro e w2 ⟨rfl, hb2⟩
  have ha2 := ha1.below hb2
  have hb_2 := hb_1.below hb2
  have ka2 := ka1.below hb2
  have kb2 := kb1.below hb2
  have hw2 := hw1.trans (hb2.mono hw1.size)
  clear ha1 hb_1 ka1 kb1 hw1 hb2
  obtain ⟨a0, a1, a2, a3, a4, a5, a6⟩ := ka2.facts
  go_wp2_with fail
  refine (qshort_yes a.s a.N a.D a.ns.length a.nc a.ds.length a.dc 20 _ hsa.1 hsa.2).mono ?_
  rintro e w3 ⟨rfl, hb3⟩
  have ha3 := ha2.below hb3
  have hb_3 := hb_2.below hb3
  have ka3 := ka2.below hb3
  have kb3 := kb2.below hb3
  have hw3 := hw2.trans (hb3.mono hw2.size)
  clear ha2 hb_2 ka2 kb2 hw2 hb3
  clear a0 a1 a2 a3 a4 a5 a6
  obtain ⟨b0, b1, b2, b3, b4, b5, b6⟩ := kb3.facts
  go_wp2_with fail
  refine (qshort_yes b.s b.N b.D b.ns.length b.nc b.ds.length b.dc 20 _ hsb.1 hsb.2).mono ?_
  rintro e w4 ⟨rfl, hb4⟩
  have ha4 := ha3.below hb4
  have hb_4 := hb_3.below hb4
  have ka4 := ka3.below hb4
  have kb4 := kb3.below hb4
  have hw4 := hw3.trans (hb4.mono hw3.size)
  clear ha3 hb_3 ka3 kb3 hw3 hb4
  clear b0 b1 b2 b3 b4 b5 b6
  obtain ⟨a0, a1, a2, a3, a4, a5, a6⟩ := ka4.facts
  obtain ⟨b0, b1, b2, b3, b4, b5, b6⟩ := kb4.facts
  go_upto_region 5 with fail
  go_cut [54] (fun s54 wx => s54 = .bool false ∧ Below w4.heap.size w4 wx)
  case first =>
    go_region_held3 (fun w' => w'.cell? ⟨w.heap.size, 0, none⟩ = some (.bool a.s) ∧ w'.cell? ⟨w.heap.size, 1, none⟩ = some (.slice a.N a.ns.length a.nc) ∧ w'.cell? ⟨w.heap.size, 2, none⟩ = some (.slice a.D a.ds.length a.dc) ∧ w'.cell? ⟨w.heap.size + 1, 0, none⟩ = some (.bool b.s) ∧ w'.cell? ⟨w.heap.size + 1, 1, none⟩ = some (.slice b.N b.ns.length b.nc) ∧ w'.cell? ⟨w.heap.size + 1, 2, none⟩ = some (.slice b.D b.ds.length b.dc)) (first | exact ⟨‹_›, ‹_›, ‹_›, ‹_›, ‹_›, ‹_›⟩ | go_keep)
      (first
      | (go_at_call_of 56 (Value.agg #[.bool a.s, .slice a.N a.ns.length a.nc, .slice a.D a.ds.length a.dc])
         refine (qvalid_rawno a _ (by first | exact ha4 | exact ha4.drew | exact ha4.alloc _ | exact (ha4.alloc _).drew | exact ha4.drew.alloc _) IA.out).mono ?_
         rintro e wx_ ⟨rfl, hbx⟩
         have hbp0 : Below w4.heap.size w4 wx_ := by first | exact hbx | exact below_of_drew hbx (Nat.le_refl _) | exact ((Below.refl _ _).alloc (Nat.le_refl _) _).trans (hbx.mono (by simp)) | exact ((Below.refl _ _).alloc (Nat.le_refl _) _).trans ((below_of_drew hbx (Nat.le_refl _)).mono (by simp)) | exact below_of_drew (((Below.refl _ _).alloc (Nat.le_refl _) _).trans (hbx.mono (by simp))) (Nat.le_refl _)
         have ha_0 := ha4.below hbp0
         have hb__0 := hb_4.below hbp0
         have ka_0 := ka4.below hbp0
         obtain ⟨ka0wx_, ka1wx_, ka2wx_, ka3wx_, ka4wx_, ka5wx_, ka6wx_⟩ := ka_0.facts
         have kb_0 := kb4.below hbp0
         obtain ⟨kb0wx_, kb1wx_, kb2wx_, kb3wx_, kb4wx_, kb5wx_, kb6wx_⟩ := kb_0.facts
         have hwq0 := hw4.trans (hbp0.mono hw4.size))
      | (go_at_call_of 49 (Value.agg #[.bool a.s, .slice a.N a.ns.length a.nc, .slice a.D a.ds.length a.dc])
         refine (rqvalid_rawno a _ (by first | exact ha_0 | exact ha_0.drew | exact ha_0.alloc _ | exact (ha_0.alloc _).drew | exact ha_0.drew.alloc _) IA.out).mono ?_
         rintro e wy_ ⟨rfl, hby⟩
         have hbp1 : Below wx_.heap.size wx_ wy_ := by first | exact hby | exact below_of_drew hby (Nat.le_refl _) | exact ((Below.refl _ _).alloc (Nat.le_refl _) _).trans (hby.mono (by simp)) | exact ((Below.refl _ _).alloc (Nat.le_refl _) _).trans ((below_of_drew hby (Nat.le_refl _)).mono (by simp)) | exact below_of_drew (((Below.refl _ _).alloc (Nat.le_refl _) _).trans (hby.mono (by simp))) (Nat.le_refl _)
         have ha_1 := ha_0.below hbp1
         have hb__1 := hb__0.below hbp1
         have ka_1 := ka_0.below hbp1
         obtain ⟨ka0wy_, ka1wy_, ka2wy_, ka3wy_, ka4wy_, ka5wy_, ka6wy_⟩ := ka_1.facts
         have kb_1 := kb_0.below hbp1
         obtain ⟨kb0wy_, kb1wy_, kb2wy_, kb3wy_, kb4wy_, kb5wy_, kb6wy_⟩ := kb_1.facts
         have hwq1 := hwq0.trans (hbp1.mono hwq0.size))
      | (go_at_call_of 56 (Value.agg #[.bool b.s, .slice b.N b.ns.length b.nc, .slice b.D b.ds.length b.dc])
         refine (qvalid_rawyes b _ (by first | exact hb__1 | exact hb__1.drew | exact hb__1.alloc _ | exact (hb__1.alloc _).drew | exact hb__1.drew.alloc _) IB.out).mono ?_
         rintro e wz_ ⟨rfl, hbz⟩
         have hbp2 : Below wy_.heap.size wy_ wz_ := by first | exact hbz | exact below_of_drew hbz (Nat.le_refl _) | exact ((Below.refl _ _).alloc (Nat.le_refl _) _).trans (hbz.mono (by simp)) | exact ((Below.refl _ _).alloc (Nat.le_refl _) _).trans ((below_of_drew hbz (Nat.le_refl _)).mono (by simp)) | exact below_of_drew (((Below.refl _ _).alloc (Nat.le_refl _) _).trans (hbz.mono (by simp))) (Nat.le_refl _)
         have ha_2 := ha_1.below hbp2
         have hb__2 := hb__1.below hbp2
         have ka_2 := ka_1.below hbp2
         obtain ⟨ka0wz_, ka1wz_, ka2wz_, ka3wz_, ka4wz_, ka5wz_, ka6wz_⟩ := ka_2.facts
         have kb_2 := kb_1.below hbp2
         obtain ⟨kb0wz_, kb1wz_, kb2wz_, kb3wz_, kb4wz_, kb5wz_, kb6wz_⟩ := kb_2.facts
         have hwq2 := hwq1.trans (hbp2.mono hwq1.size))
      | (go_at_call_of 49 (Value.agg #[.bool b.s, .slice b.N b.ns.length b.nc, .slice b.D b.ds.length b.dc])
         refine (rqvalid_rawyes b _ (by first | exact hb__2 | exact hb__2.drew | exact hb__2.alloc _ | exact (hb__2.alloc _).drew | exact hb__2.drew.alloc _) IB.out).mono ?_
         rintro e wv_ ⟨rfl, hbv⟩
         have hbp3 : Below wz_.heap.size wz_ wv_ := by first | exact hbv | exact below_of_drew hbv (Nat.le_refl _) | exact ((Below.refl _ _).alloc (Nat.le_refl _) _).trans (hbv.mono (by simp)) | exact ((Below.refl _ _).alloc (Nat.le_refl _) _).trans ((below_of_drew hbv (Nat.le_refl _)).mono (by simp)) | exact below_of_drew (((Below.refl _ _).alloc (Nat.le_refl _) _).trans (hbv.mono (by simp))) (Nat.le_refl _)
         have ha_3 := ha_2.below hbp3
         have hb__3 := hb__2.below hbp3
         have ka_3 := ka_2.below hbp3
         obtain ⟨ka0wv_, ka1wv_, ka2wv_, ka3wv_, ka4wv_, ka5wv_, ka6wv_⟩ := ka_3.facts
         have kb_3 := kb_2.below hbp3
         obtain ⟨kb0wv_, kb1wv_, kb2wv_, kb3wv_, kb4wv_, kb5wv_, kb6wv_⟩ := kb_3.facts
         have hwq3 := hwq2.trans (hbp3.mono hwq2.size)))
    all_goals
      go_wp2_with fail
      go_meet
      refine ⟨rfl, ?_⟩
      exact ((hbp0.trans (hbp1.mono hbp0.size)).trans (hbp2.mono (hbp0.trans (hbp1.mono hbp0.size)).size)).trans (hbp3.mono ((hbp0.trans (hbp1.mono hbp0.size)).trans (hbp2.mono (hbp0.trans (hbp1.mono hbp0.size)).size)).size)
  clear a0 a1 a2 a3 a4 a5 a6
  clear b0 b1 b2 b3 b4 b5 b6
  obtain ⟨w5, rfl⟩ : ∃ x, x = wc := ⟨_, rfl⟩
  obtain ⟨rfl, hb5⟩ := hcut
  have ha5 := ha4.below hb5
  have hb_5 := hb_4.below hb5
  have ka5 := ka4.below hb5
  have kb5 := kb4.below hb5
  have hw5 := hw4.trans (hb5.mono hw4.size)
  clear ha4 hb_4 ka4 kb4 hw4 hb5
  obtain ⟨a0, a1, a2, a3, a4, a5, a6⟩ := ka5.facts
  go_wp2_with fail
  refine (rqvalid_rawno a _ ha5 IA.out).mono ?_
  rintro e w6 ⟨rfl, hb6⟩
  have ha6 := ha5.below hb6
  have hb_6 := hb_5.below hb6
  have ka6 := ka5.below hb6
  have kb6 := kb5.below hb6
  have hw6 := hw5.trans (hb6.mono hw5.size)
  clear ha5 hb_5 ka5 kb5 hw5 hb6
  clear a0 a1 a2 a3 a4 a5 a6
  obtain ⟨a0, a1, a2, a3, a4, a5, a6⟩ := ka6.facts
  obtain ⟨b0, b1, b2, b3, b4, b5, b6⟩ := kb6.facts
  go_wp2_with fail
  refine (qcmp_form a b _ ha6 hb_6 HNO.out).mono ?_
  rintro e w7 ⟨rfl, hb7⟩
  have ha7 := ha6.below hb7
  have hb_7 := hb_6.below hb7
  have ka7 := ka6.below hb7
  have kb7 := kb6.below hb7
  have hw7 := hw6.trans (hb7.mono hw6.size)
  clear ha6 hb_6 ka6 kb6 hw6 hb7
  clear a0 a1 a2 a3 a4 a5 a6
  clear b0 b1 b2 b3 b4 b5 b6
  obtain ⟨a0, a1, a2, a3, a4, a5, a6⟩ := ka7.facts
  obtain ⟨b0, b1, b2, b3, b4, b5, b6⟩ := kb7.facts
  go_wp2_with fail
  refine (qadd_form a b _ ha7 hb_7 HNO.out).mono ?_
  rintro e w8 ⟨rfl, hb8⟩
  have ha8 := ha7.below hb8
  have hb_8 := hb_7.below hb8
  have ka8 := ka7.below hb8
  have kb8 := kb7.below hb8
  have hw8 := hw7.trans (hb8.mono hw7.size)
  clear ha7 hb_7 ka7 kb7 hw7 hb8
  clear a0 a1 a2 a3 a4 a5 a6
  clear b0 b1 b2 b3 b4 b5 b6
  go_upto_region 11 with fail
  have kx19 := Blk3.new w8 (.bool false) (.slice none 0 0) (.slice none 0 0)
  have hb9 : Below w8.heap.size w8 (w8.alloc (.cells #[.bool false, .slice none 0 0, .slice none 0 0] 24)) := (Below.refl _ _).alloc (Nat.le_refl _) _
  obtain ⟨w9, hwe⟩ : ∃ x, w8.alloc (.cells #[.bool false, .slice none 0 0, .slice none 0 0] 24) = x := ⟨_, rfl⟩
  rw [hwe] at kx19 hb9 ⊢
  clear hwe
  have ha9 := ha8.below hb9
  have hb_9 := hb_8.below hb9
  have ka9 := ka8.below hb9
  have kb9 := kb8.below hb9
  have hw9 := hw8.trans (hb9.mono hw8.size)
  clear ha8 hb_8 ka8 kb8 hw8 hb9
  obtain ⟨a0, a1, a2, a3, a4, a5, a6⟩ := ka9.facts
  obtain ⟨b0, b1, b2, b3, b4, b5, b6⟩ := kb9.facts
  go_wp2_with fail
  refine (qsub_form a b _ ha9 hb_9 HNO.out).mono ?_
  rintro e w10 ⟨rfl, hb10⟩
  have ha10 := ha9.below hb10
  have hb_10 := hb_9.below hb10
  have ka10 := ka9.below hb10
  have kb10 := kb9.below hb10
  have kx110 := kx19.below hb10
  have hw10 := hw9.trans (hb10.mono hw9.size)
  clear ha9 hb_9 ka9 kb9 kx19 hw9 hb10
  clear a0 a1 a2 a3 a4 a5 a6
  clear b0 b1 b2 b3 b4 b5 b6
  go_upto_region 12 with fail
  have kx211 := Blk3.new w10 (.bool false) (.slice none 0 0) (.slice none 0 0)
  have hb11 : Below w10.heap.size w10 (w10.alloc (.cells #[.bool false, .slice none 0 0, .slice none 0 0] 24)) := (Below.refl _ _).alloc (Nat.le_refl _) _
  obtain ⟨w11, hwe⟩ : ∃ x, w10.alloc (.cells #[.bool false, .slice none 0 0, .slice none 0 0] 24) = x := ⟨_, rfl⟩
  rw [hwe] at kx211 hb11 ⊢
  clear hwe
  have ha11 := ha10.below hb11
  have hb_11 := hb_10.below hb11
  have ka11 := ka10.below hb11
  have kb11 := kb10.below hb11
  have kx111 := kx110.below hb11
  have hw11 := hw10.trans (hb11.mono hw10.size)
  clear ha10 hb_10 ka10 kb10 kx110 hw10 hb11
  obtain ⟨a0, a1, a2, a3, a4, a5, a6⟩ := ka11.facts
  obtain ⟨b0, b1, b2, b3, b4, b5, b6⟩ := kb11.facts
  go_wp2_with fail
  refine (qmul_form a b _ ha11 hb_11 HNO.out).mono ?_
  rintro e w12 ⟨rfl, hb12⟩
  have ha12 := ha11.below hb12
  have hb_12 := hb_11.below hb12
  have ka12 := ka11.below hb12
  have kb12 := kb11.below hb12
  have kx112 := kx111.below hb12
  have kx212 := kx211.below hb12
  have hw12 := hw11.trans (hb12.mono hw11.size)
  clear ha11 hb_11 ka11 kb11 kx111 kx211 hw11 hb12
  clear a0 a1 a2 a3 a4 a5 a6
  clear b0 b1 b2 b3 b4 b5 b6
  go_upto_region 13 with fail
  have kx313 := Blk3.new w12 (.bool false) (.slice none 0 0) (.slice none 0 0)
  have hb13 : Below w12.heap.size w12 (w12.alloc (.cells #[.bool false, .slice none 0 0, .slice none 0 0] 24)) := (Below.refl _ _).alloc (Nat.le_refl _) _
  obtain ⟨w13, hwe⟩ : ∃ x, w12.alloc (.cells #[.bool false, .slice none 0 0, .slice none 0 0] 24) = x := ⟨_, rfl⟩
  rw [hwe] at kx313 hb13 ⊢
  clear hwe
  have ha13 := ha12.below hb13
  have hb_13 := hb_12.below hb13
  have ka13 := ka12.below hb13
  have kb13 := kb12.below hb13
  have kx113 := kx112.below hb13
  have kx213 := kx212.below hb13
  have hw13 := hw12.trans (hb13.mono hw12.size)
  clear ha12 hb_12 ka12 kb12 kx112 kx212 hw12 hb13
  obtain ⟨a0, a1, a2, a3, a4, a5, a6⟩ := ka13.facts
  obtain ⟨b0, b1, b2, b3, b4, b5, b6⟩ := kb13.facts
  go_wp2_with fail
  refine (qdiv_form a b _ ha13 hb_13 HNO.out).mono ?_
  rintro e w14 ⟨rfl, hb14⟩
  have ha14 := ha13.below hb14
  have hb_14 := hb_13.below hb14
  have ka14 := ka13.below hb14
  have kb14 := kb13.below hb14
  have kx114 := kx113.below hb14
  have kx214 := kx213.below hb14
  have kx314 := kx313.below hb14
  have hw14 := hw13.trans (hb14.mono hw13.size)
  clear ha13 hb_13 ka13 kb13 kx113 kx213 kx313 hw13 hb14
  clear a0 a1 a2 a3 a4 a5 a6
  clear b0 b1 b2 b3 b4 b5 b6
  go_upto_region 14 with fail
  have kx415 := Blk3.new w14 (.bool false) (.slice none 0 0) (.slice none 0 0)
  have hb15 : Below w14.heap.size w14 (w14.alloc (.cells #[.bool false, .slice none 0 0, .slice none 0 0] 24)) := (Below.refl _ _).alloc (Nat.le_refl _) _
  obtain ⟨w15, hwe⟩ : ∃ x, w14.alloc (.cells #[.bool false, .slice none 0 0, .slice none 0 0] 24) = x := ⟨_, rfl⟩
  rw [hwe] at kx415 hb15 ⊢
  clear hwe
  have ha15 := ha14.below hb15
  have hb_15 := hb_14.below hb15
  have ka15 := ka14.below hb15
  have kb15 := kb14.below hb15
  have kx115 := kx114.below hb15
  have kx215 := kx214.below hb15
  have kx315 := kx314.below hb15
  have hw15 := hw14.trans (hb15.mono hw14.size)
  clear ha14 hb_14 ka14 kb14 kx114 kx214 kx314 hw14 hb15
  obtain ⟨a0, a1, a2, a3, a4, a5, a6⟩ := ka15.facts
  obtain ⟨b0, b1, b2, b3, b4, b5, b6⟩ := kb15.facts
  go_wp2_with fail
  refine (qmid_form a b _ ha15 hb_15 HNO.out).mono ?_
  rintro e w16 ⟨rfl, hb16⟩
  have ha16 := ha15.below hb16
  have hb_16 := hb_15.below hb16
  have ka16 := ka15.below hb16
  have kb16 := kb15.below hb16
  have kx116 := kx115.below hb16
  have kx216 := kx215.below hb16
  have kx316 := kx315.below hb16
  have kx416 := kx415.below hb16
  have hw16 := hw15.trans (hb16.mono hw15.size)
  clear ha15 hb_15 ka15 kb15 kx115 kx215 kx315 kx415 hw15 hb16
  clear a0 a1 a2 a3 a4 a5 a6
  clear b0 b1 b2 b3 b4 b5 b6
  go_upto_region 15 with fail
  have kx517 := Blk3.new w16 (.bool false) (.slice none 0 0) (.slice none 0 0)
  have hb17 : Below w16.heap.size w16 (w16.alloc (.cells #[.bool false, .slice none 0 0, .slice none 0 0] 24)) := (Below.refl _ _).alloc (Nat.le_refl _) _
  obtain ⟨w17, hwe⟩ : ∃ x, w16.alloc (.cells #[.bool false, .slice none 0 0, .slice none 0 0] 24) = x := ⟨_, rfl⟩
  rw [hwe] at kx517 hb17 ⊢
  clear hwe
  have ha17 := ha16.below hb17
  have hb_17 := hb_16.below hb17
  have ka17 := ka16.below hb17
  have kb17 := kb16.below hb17
  have kx117 := kx116.below hb17
  have kx217 := kx216.below hb17
  have kx317 := kx316.below hb17
  have kx417 := kx416.below hb17
  have hw17 := hw16.trans (hb17.mono hw16.size)
  clear ha16 hb_16 ka16 kb16 kx116 kx216 kx316 kx416 hw16 hb17
  obtain ⟨a0, a1, a2, a3, a4, a5, a6⟩ := ka17.facts
  obtain ⟨b0, b1, b2, b3, b4, b5, b6⟩ := kb17.facts
  go_wp2_with fail
  refine (qsimplest_form a b _ ha17 hb_17 HNO.out).mono ?_
  rintro e w18 ⟨rfl, hb18⟩
  have ha18 := ha17.below hb18
  have hb_18 := hb_17.below hb18
  have ka18 := ka17.below hb18
  have kb18 := kb17.below hb18
  have kx118 := kx117.below hb18
  have kx218 := kx217.below hb18
  have kx318 := kx317.below hb18
  have kx418 := kx417.below hb18
  have kx518 := kx517.below hb18
  have hw18 := hw17.trans (hb18.mono hw17.size)
  clear ha17 hb_17 ka17 kb17 kx117 kx217 kx317 kx417 kx517 hw17 hb18
  clear a0 a1 a2 a3 a4 a5 a6
  clear b0 b1 b2 b3 b4 b5 b6
  go_upto_region 16 with fail
  have kx619 := Blk3.new w18 (.bool false) (.slice none 0 0) (.slice none 0 0)
  have hb19 : Below w18.heap.size w18 (w18.alloc (.cells #[.bool false, .slice none 0 0, .slice none 0 0] 24)) := (Below.refl _ _).alloc (Nat.le_refl _) _
  obtain ⟨w19, hwe⟩ : ∃ x, w18.alloc (.cells #[.bool false, .slice none 0 0, .slice none 0 0] 24) = x := ⟨_, rfl⟩
  rw [hwe] at kx619 hb19 ⊢
  clear hwe
  have ha19 := ha18.below hb19
  have hb_19 := hb_18.below hb19
  have ka19 := ka18.below hb19
  have kb19 := kb18.below hb19
  have kx119 := kx118.below hb19
  have kx219 := kx218.below hb19
  have kx319 := kx318.below hb19
  have kx419 := kx418.below hb19
  have kx519 := kx518.below hb19
  have hw19 := hw18.trans (hb19.mono hw18.size)
  clear ha18 hb_18 ka18 kb18 kx118 kx218 kx318 kx418 kx518 hw18 hb19
  obtain ⟨c0, c1, c2, c3, c4, c5, c6⟩ := kx119.facts
  go_wp2_with fail
  refine (qnone_yes _).mono ?_
  rintro e w20 ⟨rfl, hb20⟩
  have ha20 := ha19.below hb20
  have hb_20 := hb_19.below hb20
  have ka20 := ka19.below hb20
  have kb20 := kb19.below hb20
  have kx120 := kx119.below hb20
  have kx220 := kx219.below hb20
  have kx320 := kx319.below hb20
  have kx420 := kx419.below hb20
  have kx520 := kx519.below hb20
  have kx620 := kx619.below hb20
  have hw20 := hw19.trans (hb20.mono hw19.size)
  clear ha19 hb_19 ka19 kb19 kx119 kx219 kx319 kx419 kx519 kx619 hw19 hb20
  clear c0 c1 c2 c3 c4 c5 c6
  obtain ⟨c0, c1, c2, c3, c4, c5, c6⟩ := kx220.facts
  go_wp2_with fail
  refine (qnone_yes _).mono ?_
  rintro e w21 ⟨rfl, hb21⟩
  have ha21 := ha20.below hb21
  have hb_21 := hb_20.below hb21
  have ka21 := ka20.below hb21
  have kb21 := kb20.below hb21
  have kx121 := kx120.below hb21
  have kx221 := kx220.below hb21
  have kx321 := kx320.below hb21
  have kx421 := kx420.below hb21
  have kx521 := kx520.below hb21
  have kx621 := kx620.below hb21
  have hw21 := hw20.trans (hb21.mono hw20.size)
  clear ha20 hb_20 ka20 kb20 kx120 kx220 kx320 kx420 kx520 kx620 hw20 hb21
  clear c0 c1 c2 c3 c4 c5 c6
  obtain ⟨c0, c1, c2, c3, c4, c5, c6⟩ := kx321.facts
  go_wp2_with fail
  refine (qnone_yes _).mono ?_
  rintro e w22 ⟨rfl, hb22⟩
  have ha22 := ha21.below hb22
  have hb_22 := hb_21.below hb22
  have ka22 := ka21.below hb22
  have kb22 := kb21.below hb22
  have kx122 := kx121.below hb22
  have kx222 := kx221.below hb22
  have kx322 := kx321.below hb22
  have kx422 := kx421.below hb22
  have kx522 := kx521.below hb22
  have kx622 := kx621.below hb22
  have hw22 := hw21.trans (hb22.mono hw21.size)
  clear ha21 hb_21 ka21 kb21 kx121 kx221 kx321 kx421 kx521 kx621 hw21 hb22
  clear c0 c1 c2 c3 c4 c5 c6
  obtain ⟨c0, c1, c2, c3, c4, c5, c6⟩ := kx422.facts
  go_wp2_with fail
  refine (qnone_yes _).mono ?_
  rintro e w23 ⟨rfl, hb23⟩
  have ha23 := ha22.below hb23
  have hb_23 := hb_22.below hb23
  have ka23 := ka22.below hb23
  have kb23 := kb22.below hb23
  have kx123 := kx122.below hb23
  have kx223 := kx222.below hb23
  have kx323 := kx322.below hb23
  have kx423 := kx422.below hb23
  have kx523 := kx522.below hb23
  have kx623 := kx622.below hb23
  have hw23 := hw22.trans (hb23.mono hw22.size)
  clear ha22 hb_22 ka22 kb22 kx122 kx222 kx322 kx422 kx522 kx622 hw22 hb23
  clear c0 c1 c2 c3 c4 c5 c6
  obtain ⟨c0, c1, c2, c3, c4, c5, c6⟩ := kx523.facts
  go_wp2_with fail
  refine (qnone_yes _).mono ?_
  rintro e w24 ⟨rfl, hb24⟩
  have ha24 := ha23.below hb24
  have hb_24 := hb_23.below hb24
  have ka24 := ka23.below hb24
  have kb24 := kb23.below hb24
  have kx124 := kx123.below hb24
  have kx224 := kx223.below hb24
  have kx324 := kx323.below hb24
  have kx424 := kx423.below hb24
  have kx524 := kx523.below hb24
  have kx624 := kx623.below hb24
  have hw24 := hw23.trans (hb24.mono hw23.size)
  clear ha23 hb_23 ka23 kb23 kx123 kx223 kx323 kx423 kx523 kx623 hw23 hb24
  clear c0 c1 c2 c3 c4 c5 c6
  obtain ⟨c0, c1, c2, c3, c4, c5, c6⟩ := kx624.facts
  go_wp2_with fail
  refine (qnone_yes _).mono ?_
  rintro e w25 ⟨rfl, hb25⟩
  have ha25 := ha24.below hb25
  have hb_25 := hb_24.below hb25
  have ka25 := ka24.below hb25
  have kb25 := kb24.below hb25
  have kx125 := kx124.below hb25
  have kx225 := kx224.below hb25
  have kx325 := kx324.below hb25
  have kx425 := kx424.below hb25
  have kx525 := kx524.below hb25
  have kx625 := kx624.below hb25
  have hw25 := hw24.trans (hb25.mono hw24.size)
  clear ha24 hb_24 ka24 kb24 kx124 kx224 kx324 kx424 kx524 kx624 hw24 hb25
  clear c0 c1 c2 c3 c4 c5 c6
  obtain ⟨a0, a1, a2, a3, a4, a5, a6⟩ := ka25.facts
  go_wp2_with fail
  refine (rqvalid_rawno a _ ha25 IA.out).mono ?_
  rintro e w26 ⟨rfl, hb26⟩
  have ha26 := ha25.below hb26
  have hb_26 := hb_25.below hb26
  have ka26 := ka25.below hb26
  have kb26 := kb25.below hb26
  have kx126 := kx125.below hb26
  have kx226 := kx225.below hb26
  have kx326 := kx325.below hb26
  have kx426 := kx425.below hb26
  have kx526 := kx525.below hb26
  have kx626 := kx625.below hb26
  have hw26 := hw25.trans (hb26.mono hw25.size)
  clear ha25 hb_25 ka25 kb25 kx125 kx225 kx325 kx425 kx525 kx625 hw25 hb26
  clear a0 a1 a2 a3 a4 a5 a6
  obtain ⟨a0, a1, a2, a3, a4, a5, a6⟩ := ka26.facts
  go_wp2_with fail
  refine (qsign_form a _ ha26 IA.out).mono ?_
  rintro e w27 ⟨rfl, hb27⟩
  have ha27 := ha26.below hb27
  have hb_27 := hb_26.below hb27
  have ka27 := ka26.below hb27
  have kb27 := kb26.below hb27
  have kx127 := kx126.below hb27
  have kx227 := kx226.below hb27
  have kx327 := kx326.below hb27
  have kx427 := kx426.below hb27
  have kx527 := kx526.below hb27
  have kx627 := kx626.below hb27
  have hw27 := hw26.trans (hb27.mono hw26.size)
  clear ha26 hb_26 ka26 kb26 kx126 kx226 kx326 kx426 kx526 kx626 hw26 hb27
  clear a0 a1 a2 a3 a4 a5 a6
  obtain ⟨a0, a1, a2, a3, a4, a5, a6⟩ := ka27.facts
  go_wp2_with fail
  refine (qneg_form a _ ha27 IA.out).mono ?_
  rintro e w28 ⟨rfl, hb28⟩
  have ha28 := ha27.below hb28
  have hb_28 := hb_27.below hb28
  have ka28 := ka27.below hb28
  have kb28 := kb27.below hb28
  have kx128 := kx127.below hb28
  have kx228 := kx227.below hb28
  have kx328 := kx327.below hb28
  have kx428 := kx427.below hb28
  have kx528 := kx527.below hb28
  have kx628 := kx627.below hb28
  have hw28 := hw27.trans (hb28.mono hw27.size)
  clear ha27 hb_27 ka27 kb27 kx127 kx227 kx327 kx427 kx527 kx627 hw27 hb28
  clear a0 a1 a2 a3 a4 a5 a6
  go_upto_region 24 with fail
  have ky129 := Blk3.new w28 (.bool false) (.slice none 0 0) (.slice none 0 0)
  have hb29 : Below w28.heap.size w28 (w28.alloc (.cells #[.bool false, .slice none 0 0, .slice none 0 0] 24)) := (Below.refl _ _).alloc (Nat.le_refl _) _
  obtain ⟨w29, hwe⟩ : ∃ x, w28.alloc (.cells #[.bool false, .slice none 0 0, .slice none 0 0] 24) = x := ⟨_, rfl⟩
  rw [hwe] at ky129 hb29 ⊢
  clear hwe
  have ha29 := ha28.below hb29
  have hb_29 := hb_28.below hb29
  have ka29 := ka28.below hb29
  have kb29 := kb28.below hb29
  have kx129 := kx128.below hb29
  have kx229 := kx228.below hb29
  have kx329 := kx328.below hb29
  have kx429 := kx428.below hb29
  have kx529 := kx528.below hb29
  have kx629 := kx628.below hb29
  have hw29 := hw28.trans (hb29.mono hw28.size)
  clear ha28 hb_28 ka28 kb28 kx128 kx228 kx328 kx428 kx528 kx628 hw28 hb29
  obtain ⟨a0, a1, a2, a3, a4, a5, a6⟩ := ka29.facts
  go_wp2_with fail
  refine (qpow_form a 2000 _ ha29 IA.out).mono ?_
  rintro e w30 ⟨rfl, hb30⟩
  have ha30 := ha29.below hb30
  have hb_30 := hb_29.below hb30
  have ka30 := ka29.below hb30
  have kb30 := kb29.below hb30
  have kx130 := kx129.below hb30
  have kx230 := kx229.below hb30
  have kx330 := kx329.below hb30
  have kx430 := kx429.below hb30
  have kx530 := kx529.below hb30
  have kx630 := kx629.below hb30
  have ky130 := ky129.below hb30
  have hw30 := hw29.trans (hb30.mono hw29.size)
  clear ha29 hb_29 ka29 kb29 kx129 kx229 kx329 kx429 kx529 kx629 ky129 hw29 hb30
  clear a0 a1 a2 a3 a4 a5 a6
  go_upto_region 25 with fail
  have ky231 := Blk3.new w30 (.bool false) (.slice none 0 0) (.slice none 0 0)
  have hb31 : Below w30.heap.size w30 (w30.alloc (.cells #[.bool false, .slice none 0 0, .slice none 0 0] 24)) := (Below.refl _ _).alloc (Nat.le_refl _) _
  obtain ⟨w31, hwe⟩ : ∃ x, w30.alloc (.cells #[.bool false, .slice none 0 0, .slice none 0 0] 24) = x := ⟨_, rfl⟩
  rw [hwe] at ky231 hb31 ⊢
  clear hwe
  have ha31 := ha30.below hb31
  have hb_31 := hb_30.below hb31
  have ka31 := ka30.below hb31
  have kb31 := kb30.below hb31
  have kx131 := kx130.below hb31
  have kx231 := kx230.below hb31
  have kx331 := kx330.below hb31
  have kx431 := kx430.below hb31
  have kx531 := kx530.below hb31
  have kx631 := kx630.below hb31
  have ky131 := ky130.below hb31
  have hw31 := hw30.trans (hb31.mono hw30.size)
  clear ha30 hb_30 ka30 kb30 kx130 kx230 kx330 kx430 kx530 kx630 ky130 hw30 hb31
  obtain ⟨a0, a1, a2, a3, a4, a5, a6⟩ := ka31.facts
  go_wp2_with fail
  refine (qfloor_form a _ ha31 IA.out).mono ?_
  rintro e w32 ⟨rfl, hb32⟩
  have ha32 := ha31.below hb32
  have hb_32 := hb_31.below hb32
  have ka32 := ka31.below hb32
  have kb32 := kb31.below hb32
  have kx132 := kx131.below hb32
  have kx232 := kx231.below hb32
  have kx332 := kx331.below hb32
  have kx432 := kx431.below hb32
  have kx532 := kx531.below hb32
  have kx632 := kx631.below hb32
  have ky132 := ky131.below hb32
  have ky232 := ky231.below hb32
  have hw32 := hw31.trans (hb32.mono hw31.size)
  clear ha31 hb_31 ka31 kb31 kx131 kx231 kx331 kx431 kx531 kx631 ky131 ky231 hw31 hb32
  clear a0 a1 a2 a3 a4 a5 a6
  go_upto_region 26 with fail
  have ky333 := Blk3.new w32 (.bool false) (.slice none 0 0) (.slice none 0 0)
  have hb33 : Below w32.heap.size w32 (w32.alloc (.cells #[.bool false, .slice none 0 0, .slice none 0 0] 24)) := (Below.refl _ _).alloc (Nat.le_refl _) _
  obtain ⟨w33, hwe⟩ : ∃ x, w32.alloc (.cells #[.bool false, .slice none 0 0, .slice none 0 0] 24) = x := ⟨_, rfl⟩
  rw [hwe] at ky333 hb33 ⊢
  clear hwe
  have ha33 := ha32.below hb33
  have hb_33 := hb_32.below hb33
  have ka33 := ka32.below hb33
  have kb33 := kb32.below hb33
  have kx133 := kx132.below hb33
  have kx233 := kx232.below hb33
  have kx333 := kx332.below hb33
  have kx433 := kx432.below hb33
  have kx533 := kx532.below hb33
  have kx633 := kx632.below hb33
  have ky133 := ky132.below hb33
  have ky233 := ky232.below hb33
  have hw33 := hw32.trans (hb33.mono hw32.size)
  clear ha32 hb_32 ka32 kb32 kx132 kx232 kx332 kx432 kx532 kx632 ky132 ky232 hw32 hb33
  obtain ⟨a0, a1, a2, a3, a4, a5, a6⟩ := ka33.facts
  go_wp2_with fail
  refine (qdown_form a (-1) _ ha33 IA.out).mono ?_
  rintro e w34 ⟨rfl, hb34⟩
  have ha34 := ha33.below hb34
  have hb_34 := hb_33.below hb34
  have ka34 := ka33.below hb34
  have kb34 := kb33.below hb34
  have kx134 := kx133.below hb34
  have kx234 := kx233.below hb34
  have kx334 := kx333.below hb34
  have kx434 := kx433.below hb34
  have kx534 := kx533.below hb34
  have kx634 := kx633.below hb34
  have ky134 := ky133.below hb34
  have ky234 := ky233.below hb34
  have ky334 := ky333.below hb34
  have hw34 := hw33.trans (hb34.mono hw33.size)
  clear ha33 hb_33 ka33 kb33 kx133 kx233 kx333 kx433 kx533 kx633 ky133 ky233 ky333 hw33 hb34
  clear a0 a1 a2 a3 a4 a5 a6
  go_upto_region 27 with fail
  have ky435 := Blk3.new w34 (.bool false) (.slice none 0 0) (.slice none 0 0)
  have hb35 : Below w34.heap.size w34 (w34.alloc (.cells #[.bool false, .slice none 0 0, .slice none 0 0] 24)) := (Below.refl _ _).alloc (Nat.le_refl _) _
  obtain ⟨w35, hwe⟩ : ∃ x, w34.alloc (.cells #[.bool false, .slice none 0 0, .slice none 0 0] 24) = x := ⟨_, rfl⟩
  rw [hwe] at ky435 hb35 ⊢
  clear hwe
  have ha35 := ha34.below hb35
  have hb_35 := hb_34.below hb35
  have ka35 := ka34.below hb35
  have kb35 := kb34.below hb35
  have kx135 := kx134.below hb35
  have kx235 := kx234.below hb35
  have kx335 := kx334.below hb35
  have kx435 := kx434.below hb35
  have kx535 := kx534.below hb35
  have kx635 := kx634.below hb35
  have ky135 := ky134.below hb35
  have ky235 := ky234.below hb35
  have ky335 := ky334.below hb35
  have hw35 := hw34.trans (hb35.mono hw34.size)
  clear ha34 hb_34 ka34 kb34 kx134 kx234 kx334 kx434 kx534 kx634 ky134 ky234 ky334 hw34 hb35
  obtain ⟨a0, a1, a2, a3, a4, a5, a6⟩ := ka35.facts
  go_wp2_with fail
  refine (qup_form a 1 _ ha35 IA.out).mono ?_
  rintro e w36 ⟨rfl, hb36⟩
  have ha36 := ha35.below hb36
  have hb_36 := hb_35.below hb36
  have ka36 := ka35.below hb36
  have kb36 := kb35.below hb36
  have kx136 := kx135.below hb36
  have kx236 := kx235.below hb36
  have kx336 := kx335.below hb36
  have kx436 := kx435.below hb36
  have kx536 := kx535.below hb36
  have kx636 := kx635.below hb36
  have ky136 := ky135.below hb36
  have ky236 := ky235.below hb36
  have ky336 := ky335.below hb36
  have ky436 := ky435.below hb36
  have hw36 := hw35.trans (hb36.mono hw35.size)
  clear ha35 hb_35 ka35 kb35 kx135 kx235 kx335 kx435 kx535 kx635 ky135 ky235 ky335 ky435 hw35 hb36
  clear a0 a1 a2 a3 a4 a5 a6
  go_upto_region 28 with fail
  have ky537 := Blk3.new w36 (.bool false) (.slice none 0 0) (.slice none 0 0)
  have hb37 : Below w36.heap.size w36 (w36.alloc (.cells #[.bool false, .slice none 0 0, .slice none 0 0] 24)) := (Below.refl _ _).alloc (Nat.le_refl _) _
  obtain ⟨w37, hwe⟩ : ∃ x, w36.alloc (.cells #[.bool false, .slice none 0 0, .slice none 0 0] 24) = x := ⟨_, rfl⟩
  rw [hwe] at ky537 hb37 ⊢
  clear hwe
  have ha37 := ha36.below hb37
  have hb_37 := hb_36.below hb37
  have ka37 := ka36.below hb37
  have kb37 := kb36.below hb37
  have kx137 := kx136.below hb37
  have kx237 := kx236.below hb37
  have kx337 := kx336.below hb37
  have kx437 := kx436.below hb37
  have kx537 := kx536.below hb37
  have kx637 := kx636.below hb37
  have ky137 := ky136.below hb37
  have ky237 := ky236.below hb37
  have ky337 := ky336.below hb37
  have ky437 := ky436.below hb37
  have hw37 := hw36.trans (hb37.mono hw36.size)
  clear ha36 hb_36 ka36 kb36 kx136 kx236 kx336 kx436 kx536 kx636 ky136 ky236 ky336 ky436 hw36 hb37
  obtain ⟨a0, a1, a2, a3, a4, a5, a6⟩ := ka37.facts
  go_wp2_with fail
  refine (qtext_form a _ ha37 IA.out).mono ?_
  rintro e w38 ⟨rfl, hb38⟩
  have ha38 := ha37.below hb38
  have hb_38 := hb_37.below hb38
  have ka38 := ka37.below hb38
  have kb38 := kb37.below hb38
  have kx138 := kx137.below hb38
  have kx238 := kx237.below hb38
  have kx338 := kx337.below hb38
  have kx438 := kx437.below hb38
  have kx538 := kx537.below hb38
  have kx638 := kx637.below hb38
  have ky138 := ky137.below hb38
  have ky238 := ky237.below hb38
  have ky338 := ky337.below hb38
  have ky438 := ky437.below hb38
  have ky538 := ky537.below hb38
  have hw38 := hw37.trans (hb38.mono hw37.size)
  clear ha37 hb_37 ka37 kb37 kx137 kx237 kx337 kx437 kx537 kx637 ky137 ky237 ky337 ky437 ky537 hw37 hb38
  clear a0 a1 a2 a3 a4 a5 a6
  obtain ⟨c0, c1, c2, c3, c4, c5, c6⟩ := ky138.facts
  go_wp2_with fail
  refine (qnone_yes _).mono ?_
  rintro e w39 ⟨rfl, hb39⟩
  have ha39 := ha38.below hb39
  have hb_39 := hb_38.below hb39
  have ka39 := ka38.below hb39
  have kb39 := kb38.below hb39
  have kx139 := kx138.below hb39
  have kx239 := kx238.below hb39
  have kx339 := kx338.below hb39
  have kx439 := kx438.below hb39
  have kx539 := kx538.below hb39
  have kx639 := kx638.below hb39
  have ky139 := ky138.below hb39
  have ky239 := ky238.below hb39
  have ky339 := ky338.below hb39
  have ky439 := ky438.below hb39
  have ky539 := ky538.below hb39
  have hw39 := hw38.trans (hb39.mono hw38.size)
  clear ha38 hb_38 ka38 kb38 kx138 kx238 kx338 kx438 kx538 kx638 ky138 ky238 ky338 ky438 ky538 hw38 hb39
  clear c0 c1 c2 c3 c4 c5 c6
  obtain ⟨c0, c1, c2, c3, c4, c5, c6⟩ := ky239.facts
  go_wp2_with fail
  refine (qnone_yes _).mono ?_
  rintro e w40 ⟨rfl, hb40⟩
  have ha40 := ha39.below hb40
  have hb_40 := hb_39.below hb40
  have ka40 := ka39.below hb40
  have kb40 := kb39.below hb40
  have kx140 := kx139.below hb40
  have kx240 := kx239.below hb40
  have kx340 := kx339.below hb40
  have kx440 := kx439.below hb40
  have kx540 := kx539.below hb40
  have kx640 := kx639.below hb40
  have ky140 := ky139.below hb40
  have ky240 := ky239.below hb40
  have ky340 := ky339.below hb40
  have ky440 := ky439.below hb40
  have ky540 := ky539.below hb40
  have hw40 := hw39.trans (hb40.mono hw39.size)
  clear ha39 hb_39 ka39 kb39 kx139 kx239 kx339 kx439 kx539 kx639 ky139 ky239 ky339 ky439 ky539 hw39 hb40
  clear c0 c1 c2 c3 c4 c5 c6
  obtain ⟨c0, c1, c2, c3, c4, c5, c6⟩ := ky340.facts
  go_wp2_with fail
  refine (qnone_yes _).mono ?_
  rintro e w41 ⟨rfl, hb41⟩
  have ha41 := ha40.below hb41
  have hb_41 := hb_40.below hb41
  have ka41 := ka40.below hb41
  have kb41 := kb40.below hb41
  have kx141 := kx140.below hb41
  have kx241 := kx240.below hb41
  have kx341 := kx340.below hb41
  have kx441 := kx440.below hb41
  have kx541 := kx540.below hb41
  have kx641 := kx640.below hb41
  have ky141 := ky140.below hb41
  have ky241 := ky240.below hb41
  have ky341 := ky340.below hb41
  have ky441 := ky440.below hb41
  have ky541 := ky540.below hb41
  have hw41 := hw40.trans (hb41.mono hw40.size)
  clear ha40 hb_40 ka40 kb40 kx140 kx240 kx340 kx440 kx540 kx640 ky140 ky240 ky340 ky440 ky540 hw40 hb41
  clear c0 c1 c2 c3 c4 c5 c6
  obtain ⟨c0, c1, c2, c3, c4, c5, c6⟩ := ky441.facts
  go_wp2_with fail
  refine (qnone_yes _).mono ?_
  rintro e w42 ⟨rfl, hb42⟩
  have ha42 := ha41.below hb42
  have hb_42 := hb_41.below hb42
  have ka42 := ka41.below hb42
  have kb42 := kb41.below hb42
  have kx142 := kx141.below hb42
  have kx242 := kx241.below hb42
  have kx342 := kx341.below hb42
  have kx442 := kx441.below hb42
  have kx542 := kx541.below hb42
  have kx642 := kx641.below hb42
  have ky142 := ky141.below hb42
  have ky242 := ky241.below hb42
  have ky342 := ky341.below hb42
  have ky442 := ky441.below hb42
  have ky542 := ky541.below hb42
  have hw42 := hw41.trans (hb42.mono hw41.size)
  clear ha41 hb_41 ka41 kb41 kx141 kx241 kx341 kx441 kx541 kx641 ky141 ky241 ky341 ky441 ky541 hw41 hb42
  clear c0 c1 c2 c3 c4 c5 c6
  obtain ⟨c0, c1, c2, c3, c4, c5, c6⟩ := ky542.facts
  go_wp2_with fail
  refine (qnone_yes _).mono ?_
  rintro e w43 ⟨rfl, hb43⟩
  have ha43 := ha42.below hb43
  have hb_43 := hb_42.below hb43
  have ka43 := ka42.below hb43
  have kb43 := kb42.below hb43
  have kx143 := kx142.below hb43
  have kx243 := kx242.below hb43
  have kx343 := kx342.below hb43
  have kx443 := kx442.below hb43
  have kx543 := kx542.below hb43
  have kx643 := kx642.below hb43
  have ky143 := ky142.below hb43
  have ky243 := ky242.below hb43
  have ky343 := ky342.below hb43
  have ky443 := ky442.below hb43
  have ky543 := ky542.below hb43
  have hw43 := hw42.trans (hb43.mono hw42.size)
  clear ha42 hb_42 ka42 kb42 kx142 kx242 kx342 kx442 kx542 kx642 ky142 ky242 ky342 ky442 ky542 hw42 hb43
  clear c0 c1 c2 c3 c4 c5 c6
  go_wp2_with (go_quiet (fail))
  go_ret
  exact ⟨rfl, hw43⟩
set_option maxRecDepth 100000 in
set_option maxHeartbeats 3200000 in
theorem forms_ff (a b : RL) (w : World) (ha : a.Raw w) (hb_ : b.Raw w) (hsa : a.ns.length ≤ 20 ∧ a.ds.length ≤ 20) (hsb : b.ns.length ≤ 20 ∧ b.ds.length ≤ 20) (iffa : ¬ a.Val) (iffb : ¬ b.Val) (hno : ¬ (a.Val ∧ b.Val)) (htab : Lib.TabBelow Tryz.prog w.heap.size w "internal/strconv.uint64pow10" .u64 Lib.pow10Tab) :
    Calls Tryz.prog 8 #[.agg #[.bool a.s, .slice a.N a.ns.length a.nc, .slice a.D a.ds.length a.dc], .agg #[.bool b.s, .slice b.N b.ns.length b.nc, .slice b.D b.ds.length b.dc]] w (Yes w) := by
  have HT := Lib.hid htab
  clear htab
  have IA := Lib.hid iffa
  have IB := Lib.hid iffb
  clear iffa iffb
  have HNO := Lib.hid hno
  clear hno
  go_enter Tryz.func8, Tryz.ntmps8
  go_wp2_with fail
  have hbox := box1r w (.bool a.s) (.slice a.N a.ns.length a.nc) (.slice a.D a.ds.length a.dc) (.bool b.s) (.slice b.N b.ns.length b.nc) (.slice b.D b.ds.length b.dc)
  obtain ⟨w1, hwe⟩ : ∃ x, (w.alloc (.cells #[.bool a.s, .slice a.N a.ns.length a.nc, .slice a.D a.ds.length a.dc] 24)).alloc (.cells #[.bool b.s, .slice b.N b.ns.length b.nc, .slice b.D b.ds.length b.dc] 24) = x := ⟨_, rfl⟩
  rw [hwe] at hbox ⊢
  obtain ⟨ka1, kb1, hb1⟩ := hbox
  have HWE := Lib.hid hwe
  clear hwe HWE
  have ha1 := ha.below hb1
  have hb_1 := hb_.below hb1
  have hw1 := hb1
  clear ha hb_ hb1
  refine (qawake_yes _ (fun w' h => HT.out w' (hw1.trans (h.mono hw1.size)))).mono ?_
  rintro e w2 ⟨rfl, hb2⟩
  have ha2 := ha1.below hb2
  have hb_2 := hb_1.below hb2
  have ka2 := ka1.below hb2
  have kb2 := kb1.below hb2
  have hw2 := hw1.trans (hb2.mono hw1.size)
  clear ha1 hb_1 ka1 kb1 hw1 hb2
  obtain ⟨a0, a1, a2, a3, a4, a5, a6⟩ := ka2.facts
  go_wp2_with fail
  refine (qshort_yes a.s a.N a.D a.ns.length a.nc a.ds.length a.dc 20 _ hsa.1 hsa.2).mono ?_
  rintro e w3 ⟨rfl, hb3⟩
  have ha3 := ha2.below hb3
  have hb_3 := hb_2.below hb3
  have ka3 := ka2.below hb3
  have kb3 := kb2.below hb3
  have hw3 := hw2.trans (hb3.mono hw2.size)
  clear ha2 hb_2 ka2 kb2 hw2 hb3
  clear a0 a1 a2 a3 a4 a5 a6
  obtain ⟨b0, b1, b2, b3, b4, b5, b6⟩ := kb3.facts
  go_wp2_with fail
  refine (qshort_yes b.s b.N b.D b.ns.length b.nc b.ds.length b.dc 20 _ hsb.1 hsb.2).mono ?_
  rintro e w4 ⟨rfl, hb4⟩
  have ha4 := ha3.below hb4
  have hb_4 := hb_3.below hb4
  have ka4 := ka3.below hb4
  have kb4 := kb3.below hb4
  have hw4 := hw3.trans (hb4.mono hw3.size)
  clear ha3 hb_3 ka3 kb3 hw3 hb4
  clear b0 b1 b2 b3 b4 b5 b6
  obtain ⟨a0, a1, a2, a3, a4, a5, a6⟩ := ka4.facts
  obtain ⟨b0, b1, b2, b3, b4, b5, b6⟩ := kb4.facts
  go_upto_region 5 with fail
  go_cut [54] (fun s54 wx => s54 = .bool false ∧ Below w4.heap.size w4 wx)
  case first =>
    go_region_held3 (fun w' => w'.cell? ⟨w.heap.size, 0, none⟩ = some (.bool a.s) ∧ w'.cell? ⟨w.heap.size, 1, none⟩ = some (.slice a.N a.ns.length a.nc) ∧ w'.cell? ⟨w.heap.size, 2, none⟩ = some (.slice a.D a.ds.length a.dc) ∧ w'.cell? ⟨w.heap.size + 1, 0, none⟩ = some (.bool b.s) ∧ w'.cell? ⟨w.heap.size + 1, 1, none⟩ = some (.slice b.N b.ns.length b.nc) ∧ w'.cell? ⟨w.heap.size + 1, 2, none⟩ = some (.slice b.D b.ds.length b.dc)) (first | exact ⟨‹_›, ‹_›, ‹_›, ‹_›, ‹_›, ‹_›⟩ | go_keep)
      (first
      | (go_at_call_of 56 (Value.agg #[.bool a.s, .slice a.N a.ns.length a.nc, .slice a.D a.ds.length a.dc])
         refine (qvalid_rawno a _ (by first | exact ha4 | exact ha4.drew | exact ha4.alloc _ | exact (ha4.alloc _).drew | exact ha4.drew.alloc _) IA.out).mono ?_
         rintro e wx_ ⟨rfl, hbx⟩
         have hbp0 : Below w4.heap.size w4 wx_ := by first | exact hbx | exact below_of_drew hbx (Nat.le_refl _) | exact ((Below.refl _ _).alloc (Nat.le_refl _) _).trans (hbx.mono (by simp)) | exact ((Below.refl _ _).alloc (Nat.le_refl _) _).trans ((below_of_drew hbx (Nat.le_refl _)).mono (by simp)) | exact below_of_drew (((Below.refl _ _).alloc (Nat.le_refl _) _).trans (hbx.mono (by simp))) (Nat.le_refl _)
         have ha_0 := ha4.below hbp0
         have hb__0 := hb_4.below hbp0
         have ka_0 := ka4.below hbp0
         obtain ⟨ka0wx_, ka1wx_, ka2wx_, ka3wx_, ka4wx_, ka5wx_, ka6wx_⟩ := ka_0.facts
         have kb_0 := kb4.below hbp0
         obtain ⟨kb0wx_, kb1wx_, kb2wx_, kb3wx_, kb4wx_, kb5wx_, kb6wx_⟩ := kb_0.facts
         have hwq0 := hw4.trans (hbp0.mono hw4.size))
      | (go_at_call_of 49 (Value.agg #[.bool a.s, .slice a.N a.ns.length a.nc, .slice a.D a.ds.length a.dc])
         refine (rqvalid_rawno a _ (by first | exact ha_0 | exact ha_0.drew | exact ha_0.alloc _ | exact (ha_0.alloc _).drew | exact ha_0.drew.alloc _) IA.out).mono ?_
         rintro e wy_ ⟨rfl, hby⟩
         have hbp1 : Below wx_.heap.size wx_ wy_ := by first | exact hby | exact below_of_drew hby (Nat.le_refl _) | exact ((Below.refl _ _).alloc (Nat.le_refl _) _).trans (hby.mono (by simp)) | exact ((Below.refl _ _).alloc (Nat.le_refl _) _).trans ((below_of_drew hby (Nat.le_refl _)).mono (by simp)) | exact below_of_drew (((Below.refl _ _).alloc (Nat.le_refl _) _).trans (hby.mono (by simp))) (Nat.le_refl _)
         have ha_1 := ha_0.below hbp1
         have hb__1 := hb__0.below hbp1
         have ka_1 := ka_0.below hbp1
         obtain ⟨ka0wy_, ka1wy_, ka2wy_, ka3wy_, ka4wy_, ka5wy_, ka6wy_⟩ := ka_1.facts
         have kb_1 := kb_0.below hbp1
         obtain ⟨kb0wy_, kb1wy_, kb2wy_, kb3wy_, kb4wy_, kb5wy_, kb6wy_⟩ := kb_1.facts
         have hwq1 := hwq0.trans (hbp1.mono hwq0.size))
      | (go_at_call_of 56 (Value.agg #[.bool b.s, .slice b.N b.ns.length b.nc, .slice b.D b.ds.length b.dc])
         refine (qvalid_rawno b _ (by first | exact hb__1 | exact hb__1.drew | exact hb__1.alloc _ | exact (hb__1.alloc _).drew | exact hb__1.drew.alloc _) IB.out).mono ?_
         rintro e wz_ ⟨rfl, hbz⟩
         have hbp2 : Below wy_.heap.size wy_ wz_ := by first | exact hbz | exact below_of_drew hbz (Nat.le_refl _) | exact ((Below.refl _ _).alloc (Nat.le_refl _) _).trans (hbz.mono (by simp)) | exact ((Below.refl _ _).alloc (Nat.le_refl _) _).trans ((below_of_drew hbz (Nat.le_refl _)).mono (by simp)) | exact below_of_drew (((Below.refl _ _).alloc (Nat.le_refl _) _).trans (hbz.mono (by simp))) (Nat.le_refl _)
         have ha_2 := ha_1.below hbp2
         have hb__2 := hb__1.below hbp2
         have ka_2 := ka_1.below hbp2
         obtain ⟨ka0wz_, ka1wz_, ka2wz_, ka3wz_, ka4wz_, ka5wz_, ka6wz_⟩ := ka_2.facts
         have kb_2 := kb_1.below hbp2
         obtain ⟨kb0wz_, kb1wz_, kb2wz_, kb3wz_, kb4wz_, kb5wz_, kb6wz_⟩ := kb_2.facts
         have hwq2 := hwq1.trans (hbp2.mono hwq1.size))
      | (go_at_call_of 49 (Value.agg #[.bool b.s, .slice b.N b.ns.length b.nc, .slice b.D b.ds.length b.dc])
         refine (rqvalid_rawno b _ (by first | exact hb__2 | exact hb__2.drew | exact hb__2.alloc _ | exact (hb__2.alloc _).drew | exact hb__2.drew.alloc _) IB.out).mono ?_
         rintro e wv_ ⟨rfl, hbv⟩
         have hbp3 : Below wz_.heap.size wz_ wv_ := by first | exact hbv | exact below_of_drew hbv (Nat.le_refl _) | exact ((Below.refl _ _).alloc (Nat.le_refl _) _).trans (hbv.mono (by simp)) | exact ((Below.refl _ _).alloc (Nat.le_refl _) _).trans ((below_of_drew hbv (Nat.le_refl _)).mono (by simp)) | exact below_of_drew (((Below.refl _ _).alloc (Nat.le_refl _) _).trans (hbv.mono (by simp))) (Nat.le_refl _)
         have ha_3 := ha_2.below hbp3
         have hb__3 := hb__2.below hbp3
         have ka_3 := ka_2.below hbp3
         obtain ⟨ka0wv_, ka1wv_, ka2wv_, ka3wv_, ka4wv_, ka5wv_, ka6wv_⟩ := ka_3.facts
         have kb_3 := kb_2.below hbp3
         obtain ⟨kb0wv_, kb1wv_, kb2wv_, kb3wv_, kb4wv_, kb5wv_, kb6wv_⟩ := kb_3.facts
         have hwq3 := hwq2.trans (hbp3.mono hwq2.size)))
    all_goals
      go_wp2_with fail
      go_meet
      refine ⟨rfl, ?_⟩
      exact ((hbp0.trans (hbp1.mono hbp0.size)).trans (hbp2.mono (hbp0.trans (hbp1.mono hbp0.size)).size)).trans (hbp3.mono ((hbp0.trans (hbp1.mono hbp0.size)).trans (hbp2.mono (hbp0.trans (hbp1.mono hbp0.size)).size)).size)
  clear a0 a1 a2 a3 a4 a5 a6
  clear b0 b1 b2 b3 b4 b5 b6
  obtain ⟨w5, rfl⟩ : ∃ x, x = wc := ⟨_, rfl⟩
  obtain ⟨rfl, hb5⟩ := hcut
  have ha5 := ha4.below hb5
  have hb_5 := hb_4.below hb5
  have ka5 := ka4.below hb5
  have kb5 := kb4.below hb5
  have hw5 := hw4.trans (hb5.mono hw4.size)
  clear ha4 hb_4 ka4 kb4 hw4 hb5
  obtain ⟨a0, a1, a2, a3, a4, a5, a6⟩ := ka5.facts
  go_wp2_with fail
  refine (rqvalid_rawno a _ ha5 IA.out).mono ?_
  rintro e w6 ⟨rfl, hb6⟩
  have ha6 := ha5.below hb6
  have hb_6 := hb_5.below hb6
  have ka6 := ka5.below hb6
  have kb6 := kb5.below hb6
  have hw6 := hw5.trans (hb6.mono hw5.size)
  clear ha5 hb_5 ka5 kb5 hw5 hb6
  clear a0 a1 a2 a3 a4 a5 a6
  obtain ⟨a0, a1, a2, a3, a4, a5, a6⟩ := ka6.facts
  obtain ⟨b0, b1, b2, b3, b4, b5, b6⟩ := kb6.facts
  go_wp2_with fail
  refine (qcmp_form a b _ ha6 hb_6 HNO.out).mono ?_
  rintro e w7 ⟨rfl, hb7⟩
  have ha7 := ha6.below hb7
  have hb_7 := hb_6.below hb7
  have ka7 := ka6.below hb7
  have kb7 := kb6.below hb7
  have hw7 := hw6.trans (hb7.mono hw6.size)
  clear ha6 hb_6 ka6 kb6 hw6 hb7
  clear a0 a1 a2 a3 a4 a5 a6
  clear b0 b1 b2 b3 b4 b5 b6
  obtain ⟨a0, a1, a2, a3, a4, a5, a6⟩ := ka7.facts
  obtain ⟨b0, b1, b2, b3, b4, b5, b6⟩ := kb7.facts
  go_wp2_with fail
  refine (qadd_form a b _ ha7 hb_7 HNO.out).mono ?_
  rintro e w8 ⟨rfl, hb8⟩
  have ha8 := ha7.below hb8
  have hb_8 := hb_7.below hb8
  have ka8 := ka7.below hb8
  have kb8 := kb7.below hb8
  have hw8 := hw7.trans (hb8.mono hw7.size)
  clear ha7 hb_7 ka7 kb7 hw7 hb8
  clear a0 a1 a2 a3 a4 a5 a6
  clear b0 b1 b2 b3 b4 b5 b6
  go_upto_region 11 with fail
  have kx19 := Blk3.new w8 (.bool false) (.slice none 0 0) (.slice none 0 0)
  have hb9 : Below w8.heap.size w8 (w8.alloc (.cells #[.bool false, .slice none 0 0, .slice none 0 0] 24)) := (Below.refl _ _).alloc (Nat.le_refl _) _
  obtain ⟨w9, hwe⟩ : ∃ x, w8.alloc (.cells #[.bool false, .slice none 0 0, .slice none 0 0] 24) = x := ⟨_, rfl⟩
  rw [hwe] at kx19 hb9 ⊢
  clear hwe
  have ha9 := ha8.below hb9
  have hb_9 := hb_8.below hb9
  have ka9 := ka8.below hb9
  have kb9 := kb8.below hb9
  have hw9 := hw8.trans (hb9.mono hw8.size)
  clear ha8 hb_8 ka8 kb8 hw8 hb9
  obtain ⟨a0, a1, a2, a3, a4, a5, a6⟩ := ka9.facts
  obtain ⟨b0, b1, b2, b3, b4, b5, b6⟩ := kb9.facts
  go_wp2_with fail
  refine (qsub_form a b _ ha9 hb_9 HNO.out).mono ?_
  rintro e w10 ⟨rfl, hb10⟩
  have ha10 := ha9.below hb10
  have hb_10 := hb_9.below hb10
  have ka10 := ka9.below hb10
  have kb10 := kb9.below hb10
  have kx110 := kx19.below hb10
  have hw10 := hw9.trans (hb10.mono hw9.size)
  clear ha9 hb_9 ka9 kb9 kx19 hw9 hb10
  clear a0 a1 a2 a3 a4 a5 a6
  clear b0 b1 b2 b3 b4 b5 b6
  go_upto_region 12 with fail
  have kx211 := Blk3.new w10 (.bool false) (.slice none 0 0) (.slice none 0 0)
  have hb11 : Below w10.heap.size w10 (w10.alloc (.cells #[.bool false, .slice none 0 0, .slice none 0 0] 24)) := (Below.refl _ _).alloc (Nat.le_refl _) _
  obtain ⟨w11, hwe⟩ : ∃ x, w10.alloc (.cells #[.bool false, .slice none 0 0, .slice none 0 0] 24) = x := ⟨_, rfl⟩
  rw [hwe] at kx211 hb11 ⊢
  clear hwe
  have ha11 := ha10.below hb11
  have hb_11 := hb_10.below hb11
  have ka11 := ka10.below hb11
  have kb11 := kb10.below hb11
  have kx111 := kx110.below hb11
  have hw11 := hw10.trans (hb11.mono hw10.size)
  clear ha10 hb_10 ka10 kb10 kx110 hw10 hb11
  obtain ⟨a0, a1, a2, a3, a4, a5, a6⟩ := ka11.facts
  obtain ⟨b0, b1, b2, b3, b4, b5, b6⟩ := kb11.facts
  go_wp2_with fail
  refine (qmul_form a b _ ha11 hb_11 HNO.out).mono ?_
  rintro e w12 ⟨rfl, hb12⟩
  have ha12 := ha11.below hb12
  have hb_12 := hb_11.below hb12
  have ka12 := ka11.below hb12
  have kb12 := kb11.below hb12
  have kx112 := kx111.below hb12
  have kx212 := kx211.below hb12
  have hw12 := hw11.trans (hb12.mono hw11.size)
  clear ha11 hb_11 ka11 kb11 kx111 kx211 hw11 hb12
  clear a0 a1 a2 a3 a4 a5 a6
  clear b0 b1 b2 b3 b4 b5 b6
  go_upto_region 13 with fail
  have kx313 := Blk3.new w12 (.bool false) (.slice none 0 0) (.slice none 0 0)
  have hb13 : Below w12.heap.size w12 (w12.alloc (.cells #[.bool false, .slice none 0 0, .slice none 0 0] 24)) := (Below.refl _ _).alloc (Nat.le_refl _) _
  obtain ⟨w13, hwe⟩ : ∃ x, w12.alloc (.cells #[.bool false, .slice none 0 0, .slice none 0 0] 24) = x := ⟨_, rfl⟩
  rw [hwe] at kx313 hb13 ⊢
  clear hwe
  have ha13 := ha12.below hb13
  have hb_13 := hb_12.below hb13
  have ka13 := ka12.below hb13
  have kb13 := kb12.below hb13
  have kx113 := kx112.below hb13
  have kx213 := kx212.below hb13
  have hw13 := hw12.trans (hb13.mono hw12.size)
  clear ha12 hb_12 ka12 kb12 kx112 kx212 hw12 hb13
  obtain ⟨a0, a1, a2, a3, a4, a5, a6⟩ := ka13.facts
  obtain ⟨b0, b1, b2, b3, b4, b5, b6⟩ := kb13.facts
  go_wp2_with fail
  refine (qdiv_form a b _ ha13 hb_13 HNO.out).mono ?_
  rintro e w14 ⟨rfl, hb14⟩
  have ha14 := ha13.below hb14
  have hb_14 := hb_13.below hb14
  have ka14 := ka13.below hb14
  have kb14 := kb13.below hb14
  have kx114 := kx113.below hb14
  have kx214 := kx213.below hb14
  have kx314 := kx313.below hb14
  have hw14 := hw13.trans (hb14.mono hw13.size)
  clear ha13 hb_13 ka13 kb13 kx113 kx213 kx313 hw13 hb14
  clear a0 a1 a2 a3 a4 a5 a6
  clear b0 b1 b2 b3 b4 b5 b6
  go_upto_region 14 with fail
  have kx415 := Blk3.new w14 (.bool false) (.slice none 0 0) (.slice none 0 0)
  have hb15 : Below w14.heap.size w14 (w14.alloc (.cells #[.bool false, .slice none 0 0, .slice none 0 0] 24)) := (Below.refl _ _).alloc (Nat.le_refl _) _
  obtain ⟨w15, hwe⟩ : ∃ x, w14.alloc (.cells #[.bool false, .slice none 0 0, .slice none 0 0] 24) = x := ⟨_, rfl⟩
  rw [hwe] at kx415 hb15 ⊢
  clear hwe
  have ha15 := ha14.below hb15
  have hb_15 := hb_14.below hb15
  have ka15 := ka14.below hb15
  have kb15 := kb14.below hb15
  have kx115 := kx114.below hb15
  have kx215 := kx214.below hb15
  have kx315 := kx314.below hb15
  have hw15 := hw14.trans (hb15.mono hw14.size)
  clear ha14 hb_14 ka14 kb14 kx114 kx214 kx314 hw14 hb15
  obtain ⟨a0, a1, a2, a3, a4, a5, a6⟩ := ka15.facts
  obtain ⟨b0, b1, b2, b3, b4, b5, b6⟩ := kb15.facts
  go_wp2_with fail
  refine (qmid_form a b _ ha15 hb_15 HNO.out).mono ?_
  rintro e w16 ⟨rfl, hb16⟩
  have ha16 := ha15.below hb16
  have hb_16 := hb_15.below hb16
  have ka16 := ka15.below hb16
  have kb16 := kb15.below hb16
  have kx116 := kx115.below hb16
  have kx216 := kx215.below hb16
  have kx316 := kx315.below hb16
  have kx416 := kx415.below hb16
  have hw16 := hw15.trans (hb16.mono hw15.size)
  clear ha15 hb_15 ka15 kb15 kx115 kx215 kx315 kx415 hw15 hb16
  clear a0 a1 a2 a3 a4 a5 a6
  clear b0 b1 b2 b3 b4 b5 b6
  go_upto_region 15 with fail
  have kx517 := Blk3.new w16 (.bool false) (.slice none 0 0) (.slice none 0 0)
  have hb17 : Below w16.heap.size w16 (w16.alloc (.cells #[.bool false, .slice none 0 0, .slice none 0 0] 24)) := (Below.refl _ _).alloc (Nat.le_refl _) _
  obtain ⟨w17, hwe⟩ : ∃ x, w16.alloc (.cells #[.bool false, .slice none 0 0, .slice none 0 0] 24) = x := ⟨_, rfl⟩
  rw [hwe] at kx517 hb17 ⊢
  clear hwe
  have ha17 := ha16.below hb17
  have hb_17 := hb_16.below hb17
  have ka17 := ka16.below hb17
  have kb17 := kb16.below hb17
  have kx117 := kx116.below hb17
  have kx217 := kx216.below hb17
  have kx317 := kx316.below hb17
  have kx417 := kx416.below hb17
  have hw17 := hw16.trans (hb17.mono hw16.size)
  clear ha16 hb_16 ka16 kb16 kx116 kx216 kx316 kx416 hw16 hb17
  obtain ⟨a0, a1, a2, a3, a4, a5, a6⟩ := ka17.facts
  obtain ⟨b0, b1, b2, b3, b4, b5, b6⟩ := kb17.facts
  go_wp2_with fail
  refine (qsimplest_form a b _ ha17 hb_17 HNO.out).mono ?_
  rintro e w18 ⟨rfl, hb18⟩
  have ha18 := ha17.below hb18
  have hb_18 := hb_17.below hb18
  have ka18 := ka17.below hb18
  have kb18 := kb17.below hb18
  have kx118 := kx117.below hb18
  have kx218 := kx217.below hb18
  have kx318 := kx317.below hb18
  have kx418 := kx417.below hb18
  have kx518 := kx517.below hb18
  have hw18 := hw17.trans (hb18.mono hw17.size)
  clear ha17 hb_17 ka17 kb17 kx117 kx217 kx317 kx417 kx517 hw17 hb18
  clear a0 a1 a2 a3 a4 a5 a6
  clear b0 b1 b2 b3 b4 b5 b6
  go_upto_region 16 with fail
  have kx619 := Blk3.new w18 (.bool false) (.slice none 0 0) (.slice none 0 0)
  have hb19 : Below w18.heap.size w18 (w18.alloc (.cells #[.bool false, .slice none 0 0, .slice none 0 0] 24)) := (Below.refl _ _).alloc (Nat.le_refl _) _
  obtain ⟨w19, hwe⟩ : ∃ x, w18.alloc (.cells #[.bool false, .slice none 0 0, .slice none 0 0] 24) = x := ⟨_, rfl⟩
  rw [hwe] at kx619 hb19 ⊢
  clear hwe
  have ha19 := ha18.below hb19
  have hb_19 := hb_18.below hb19
  have ka19 := ka18.below hb19
  have kb19 := kb18.below hb19
  have kx119 := kx118.below hb19
  have kx219 := kx218.below hb19
  have kx319 := kx318.below hb19
  have kx419 := kx418.below hb19
  have kx519 := kx518.below hb19
  have hw19 := hw18.trans (hb19.mono hw18.size)
  clear ha18 hb_18 ka18 kb18 kx118 kx218 kx318 kx418 kx518 hw18 hb19
  obtain ⟨c0, c1, c2, c3, c4, c5, c6⟩ := kx119.facts
  go_wp2_with fail
  refine (qnone_yes _).mono ?_
  rintro e w20 ⟨rfl, hb20⟩
  have ha20 := ha19.below hb20
  have hb_20 := hb_19.below hb20
  have ka20 := ka19.below hb20
  have kb20 := kb19.below hb20
  have kx120 := kx119.below hb20
  have kx220 := kx219.below hb20
  have kx320 := kx319.below hb20
  have kx420 := kx419.below hb20
  have kx520 := kx519.below hb20
  have kx620 := kx619.below hb20
  have hw20 := hw19.trans (hb20.mono hw19.size)
  clear ha19 hb_19 ka19 kb19 kx119 kx219 kx319 kx419 kx519 kx619 hw19 hb20
  clear c0 c1 c2 c3 c4 c5 c6
  obtain ⟨c0, c1, c2, c3, c4, c5, c6⟩ := kx220.facts
  go_wp2_with fail
  refine (qnone_yes _).mono ?_
  rintro e w21 ⟨rfl, hb21⟩
  have ha21 := ha20.below hb21
  have hb_21 := hb_20.below hb21
  have ka21 := ka20.below hb21
  have kb21 := kb20.below hb21
  have kx121 := kx120.below hb21
  have kx221 := kx220.below hb21
  have kx321 := kx320.below hb21
  have kx421 := kx420.below hb21
  have kx521 := kx520.below hb21
  have kx621 := kx620.below hb21
  have hw21 := hw20.trans (hb21.mono hw20.size)
  clear ha20 hb_20 ka20 kb20 kx120 kx220 kx320 kx420 kx520 kx620 hw20 hb21
  clear c0 c1 c2 c3 c4 c5 c6
  obtain ⟨c0, c1, c2, c3, c4, c5, c6⟩ := kx321.facts
  go_wp2_with fail
  refine (qnone_yes _).mono ?_
  rintro e w22 ⟨rfl, hb22⟩
  have ha22 := ha21.below hb22
  have hb_22 := hb_21.below hb22
  have ka22 := ka21.below hb22
  have kb22 := kb21.below hb22
  have kx122 := kx121.below hb22
  have kx222 := kx221.below hb22
  have kx322 := kx321.below hb22
  have kx422 := kx421.below hb22
  have kx522 := kx521.below hb22
  have kx622 := kx621.below hb22
  have hw22 := hw21.trans (hb22.mono hw21.size)
  clear ha21 hb_21 ka21 kb21 kx121 kx221 kx321 kx421 kx521 kx621 hw21 hb22
  clear c0 c1 c2 c3 c4 c5 c6
  obtain ⟨c0, c1, c2, c3, c4, c5, c6⟩ := kx422.facts
  go_wp2_with fail
  refine (qnone_yes _).mono ?_
  rintro e w23 ⟨rfl, hb23⟩
  have ha23 := ha22.below hb23
  have hb_23 := hb_22.below hb23
  have ka23 := ka22.below hb23
  have kb23 := kb22.below hb23
  have kx123 := kx122.below hb23
  have kx223 := kx222.below hb23
  have kx323 := kx322.below hb23
  have kx423 := kx422.below hb23
  have kx523 := kx522.below hb23
  have kx623 := kx622.below hb23
  have hw23 := hw22.trans (hb23.mono hw22.size)
  clear ha22 hb_22 ka22 kb22 kx122 kx222 kx322 kx422 kx522 kx622 hw22 hb23
  clear c0 c1 c2 c3 c4 c5 c6
  obtain ⟨c0, c1, c2, c3, c4, c5, c6⟩ := kx523.facts
  go_wp2_with fail
  refine (qnone_yes _).mono ?_
  rintro e w24 ⟨rfl, hb24⟩
  have ha24 := ha23.below hb24
  have hb_24 := hb_23.below hb24
  have ka24 := ka23.below hb24
  have kb24 := kb23.below hb24
  have kx124 := kx123.below hb24
  have kx224 := kx223.below hb24
  have kx324 := kx323.below hb24
  have kx424 := kx423.below hb24
  have kx524 := kx523.below hb24
  have kx624 := kx623.below hb24
  have hw24 := hw23.trans (hb24.mono hw23.size)
  clear ha23 hb_23 ka23 kb23 kx123 kx223 kx323 kx423 kx523 kx623 hw23 hb24
  clear c0 c1 c2 c3 c4 c5 c6
  obtain ⟨c0, c1, c2, c3, c4, c5, c6⟩ := kx624.facts
  go_wp2_with fail
  refine (qnone_yes _).mono ?_
  rintro e w25 ⟨rfl, hb25⟩
  have ha25 := ha24.below hb25
  have hb_25 := hb_24.below hb25
  have ka25 := ka24.below hb25
  have kb25 := kb24.below hb25
  have kx125 := kx124.below hb25
  have kx225 := kx224.below hb25
  have kx325 := kx324.below hb25
  have kx425 := kx424.below hb25
  have kx525 := kx524.below hb25
  have kx625 := kx624.below hb25
  have hw25 := hw24.trans (hb25.mono hw24.size)
  clear ha24 hb_24 ka24 kb24 kx124 kx224 kx324 kx424 kx524 kx624 hw24 hb25
  clear c0 c1 c2 c3 c4 c5 c6
  obtain ⟨a0, a1, a2, a3, a4, a5, a6⟩ := ka25.facts
  go_wp2_with fail
  refine (rqvalid_rawno a _ ha25 IA.out).mono ?_
  rintro e w26 ⟨rfl, hb26⟩
  have ha26 := ha25.below hb26
  have hb_26 := hb_25.below hb26
  have ka26 := ka25.below hb26
  have kb26 := kb25.below hb26
  have kx126 := kx125.below hb26
  have kx226 := kx225.below hb26
  have kx326 := kx325.below hb26
  have kx426 := kx425.below hb26
  have kx526 := kx525.below hb26
  have kx626 := kx625.below hb26
  have hw26 := hw25.trans (hb26.mono hw25.size)
  clear ha25 hb_25 ka25 kb25 kx125 kx225 kx325 kx425 kx525 kx625 hw25 hb26
  clear a0 a1 a2 a3 a4 a5 a6
  obtain ⟨a0, a1, a2, a3, a4, a5, a6⟩ := ka26.facts
  go_wp2_with fail
  refine (qsign_form a _ ha26 IA.out).mono ?_
  rintro e w27 ⟨rfl, hb27⟩
  have ha27 := ha26.below hb27
  have hb_27 := hb_26.below hb27
  have ka27 := ka26.below hb27
  have kb27 := kb26.below hb27
  have kx127 := kx126.below hb27
  have kx227 := kx226.below hb27
  have kx327 := kx326.below hb27
  have kx427 := kx426.below hb27
  have kx527 := kx526.below hb27
  have kx627 := kx626.below hb27
  have hw27 := hw26.trans (hb27.mono hw26.size)
  clear ha26 hb_26 ka26 kb26 kx126 kx226 kx326 kx426 kx526 kx626 hw26 hb27
  clear a0 a1 a2 a3 a4 a5 a6
  obtain ⟨a0, a1, a2, a3, a4, a5, a6⟩ := ka27.facts
  go_wp2_with fail
  refine (qneg_form a _ ha27 IA.out).mono ?_
  rintro e w28 ⟨rfl, hb28⟩
  have ha28 := ha27.below hb28
  have hb_28 := hb_27.below hb28
  have ka28 := ka27.below hb28
  have kb28 := kb27.below hb28
  have kx128 := kx127.below hb28
  have kx228 := kx227.below hb28
  have kx328 := kx327.below hb28
  have kx428 := kx427.below hb28
  have kx528 := kx527.below hb28
  have kx628 := kx627.below hb28
  have hw28 := hw27.trans (hb28.mono hw27.size)
  clear ha27 hb_27 ka27 kb27 kx127 kx227 kx327 kx427 kx527 kx627 hw27 hb28
  clear a0 a1 a2 a3 a4 a5 a6
  go_upto_region 24 with fail
  have ky129 := Blk3.new w28 (.bool false) (.slice none 0 0) (.slice none 0 0)
  have hb29 : Below w28.heap.size w28 (w28.alloc (.cells #[.bool false, .slice none 0 0, .slice none 0 0] 24)) := (Below.refl _ _).alloc (Nat.le_refl _) _
  obtain ⟨w29, hwe⟩ : ∃ x, w28.alloc (.cells #[.bool false, .slice none 0 0, .slice none 0 0] 24) = x := ⟨_, rfl⟩
  rw [hwe] at ky129 hb29 ⊢
  clear hwe
  have ha29 := ha28.below hb29
  have hb_29 := hb_28.below hb29
  have ka29 := ka28.below hb29
  have kb29 := kb28.below hb29
  have kx129 := kx128.below hb29
  have kx229 := kx228.below hb29
  have kx329 := kx328.below hb29
  have kx429 := kx428.below hb29
  have kx529 := kx528.below hb29
  have kx629 := kx628.below hb29
  have hw29 := hw28.trans (hb29.mono hw28.size)
  clear ha28 hb_28 ka28 kb28 kx128 kx228 kx328 kx428 kx528 kx628 hw28 hb29
  obtain ⟨a0, a1, a2, a3, a4, a5, a6⟩ := ka29.facts
  go_wp2_with fail
  refine (qpow_form a 2000 _ ha29 IA.out).mono ?_
  rintro e w30 ⟨rfl, hb30⟩
  have ha30 := ha29.below hb30
  have hb_30 := hb_29.below hb30
  have ka30 := ka29.below hb30
  have kb30 := kb29.below hb30
  have kx130 := kx129.below hb30
  have kx230 := kx229.below hb30
  have kx330 := kx329.below hb30
  have kx430 := kx429.below hb30
  have kx530 := kx529.below hb30
  have kx630 := kx629.below hb30
  have ky130 := ky129.below hb30
  have hw30 := hw29.trans (hb30.mono hw29.size)
  clear ha29 hb_29 ka29 kb29 kx129 kx229 kx329 kx429 kx529 kx629 ky129 hw29 hb30
  clear a0 a1 a2 a3 a4 a5 a6
  go_upto_region 25 with fail
  have ky231 := Blk3.new w30 (.bool false) (.slice none 0 0) (.slice none 0 0)
  have hb31 : Below w30.heap.size w30 (w30.alloc (.cells #[.bool false, .slice none 0 0, .slice none 0 0] 24)) := (Below.refl _ _).alloc (Nat.le_refl _) _
  obtain ⟨w31, hwe⟩ : ∃ x, w30.alloc (.cells #[.bool false, .slice none 0 0, .slice none 0 0] 24) = x := ⟨_, rfl⟩
  rw [hwe] at ky231 hb31 ⊢
  clear hwe
  have ha31 := ha30.below hb31
  have hb_31 := hb_30.below hb31
  have ka31 := ka30.below hb31
  have kb31 := kb30.below hb31
  have kx131 := kx130.below hb31
  have kx231 := kx230.below hb31
  have kx331 := kx330.below hb31
  have kx431 := kx430.below hb31
  have kx531 := kx530.below hb31
  have kx631 := kx630.below hb31
  have ky131 := ky130.below hb31
  have hw31 := hw30.trans (hb31.mono hw30.size)
  clear ha30 hb_30 ka30 kb30 kx130 kx230 kx330 kx430 kx530 kx630 ky130 hw30 hb31
  obtain ⟨a0, a1, a2, a3, a4, a5, a6⟩ := ka31.facts
  go_wp2_with fail
  refine (qfloor_form a _ ha31 IA.out).mono ?_
  rintro e w32 ⟨rfl, hb32⟩
  have ha32 := ha31.below hb32
  have hb_32 := hb_31.below hb32
  have ka32 := ka31.below hb32
  have kb32 := kb31.below hb32
  have kx132 := kx131.below hb32
  have kx232 := kx231.below hb32
  have kx332 := kx331.below hb32
  have kx432 := kx431.below hb32
  have kx532 := kx531.below hb32
  have kx632 := kx631.below hb32
  have ky132 := ky131.below hb32
  have ky232 := ky231.below hb32
  have hw32 := hw31.trans (hb32.mono hw31.size)
  clear ha31 hb_31 ka31 kb31 kx131 kx231 kx331 kx431 kx531 kx631 ky131 ky231 hw31 hb32
  clear a0 a1 a2 a3 a4 a5 a6
  go_upto_region 26 with fail
  have ky333 := Blk3.new w32 (.bool false) (.slice none 0 0) (.slice none 0 0)
  have hb33 : Below w32.heap.size w32 (w32.alloc (.cells #[.bool false, .slice none 0 0, .slice none 0 0] 24)) := (Below.refl _ _).alloc (Nat.le_refl _) _
  obtain ⟨w33, hwe⟩ : ∃ x, w32.alloc (.cells #[.bool false, .slice none 0 0, .slice none 0 0] 24) = x := ⟨_, rfl⟩
  rw [hwe] at ky333 hb33 ⊢
  clear hwe
  have ha33 := ha32.below hb33
  have hb_33 := hb_32.below hb33
  have ka33 := ka32.below hb33
  have kb33 := kb32.below hb33
  have kx133 := kx132.below hb33
  have kx233 := kx232.below hb33
  have kx333 := kx332.below hb33
  have kx433 := kx432.below hb33
  have kx533 := kx532.below hb33
  have kx633 := kx632.below hb33
  have ky133 := ky132.below hb33
  have ky233 := ky232.below hb33
  have hw33 := hw32.trans (hb33.mono hw32.size)
  clear ha32 hb_32 ka32 kb32 kx132 kx232 kx332 kx432 kx532 kx632 ky132 ky232 hw32 hb33
  obtain ⟨a0, a1, a2, a3, a4, a5, a6⟩ := ka33.facts
  go_wp2_with fail
  refine (qdown_form a (-1) _ ha33 IA.out).mono ?_
  rintro e w34 ⟨rfl, hb34⟩
  have ha34 := ha33.below hb34
  have hb_34 := hb_33.below hb34
  have ka34 := ka33.below hb34
  have kb34 := kb33.below hb34
  have kx134 := kx133.below hb34
  have kx234 := kx233.below hb34
  have kx334 := kx333.below hb34
  have kx434 := kx433.below hb34
  have kx534 := kx533.below hb34
  have kx634 := kx633.below hb34
  have ky134 := ky133.below hb34
  have ky234 := ky233.below hb34
  have ky334 := ky333.below hb34
  have hw34 := hw33.trans (hb34.mono hw33.size)
  clear ha33 hb_33 ka33 kb33 kx133 kx233 kx333 kx433 kx533 kx633 ky133 ky233 ky333 hw33 hb34
  clear a0 a1 a2 a3 a4 a5 a6
  go_upto_region 27 with fail
  have ky435 := Blk3.new w34 (.bool false) (.slice none 0 0) (.slice none 0 0)
  have hb35 : Below w34.heap.size w34 (w34.alloc (.cells #[.bool false, .slice none 0 0, .slice none 0 0] 24)) := (Below.refl _ _).alloc (Nat.le_refl _) _
  obtain ⟨w35, hwe⟩ : ∃ x, w34.alloc (.cells #[.bool false, .slice none 0 0, .slice none 0 0] 24) = x := ⟨_, rfl⟩
  rw [hwe] at ky435 hb35 ⊢
  clear hwe
  have ha35 := ha34.below hb35
  have hb_35 := hb_34.below hb35
  have ka35 := ka34.below hb35
  have kb35 := kb34.below hb35
  have kx135 := kx134.below hb35
  have kx235 := kx234.below hb35
  have kx335 := kx334.below hb35
  have kx435 := kx434.below hb35
  have kx535 := kx534.below hb35
  have kx635 := kx634.below hb35
  have ky135 := ky134.below hb35
  have ky235 := ky234.below hb35
  have ky335 := ky334.below hb35
  have hw35 := hw34.trans (hb35.mono hw34.size)
  clear ha34 hb_34 ka34 kb34 kx134 kx234 kx334 kx434 kx534 kx634 ky134 ky234 ky334 hw34 hb35
  obtain ⟨a0, a1, a2, a3, a4, a5, a6⟩ := ka35.facts
  go_wp2_with fail
  refine (qup_form a 1 _ ha35 IA.out).mono ?_
  rintro e w36 ⟨rfl, hb36⟩
  have ha36 := ha35.below hb36
  have hb_36 := hb_35.below hb36
  have ka36 := ka35.below hb36
  have kb36 := kb35.below hb36
  have kx136 := kx135.below hb36
  have kx236 := kx235.below hb36
  have kx336 := kx335.below hb36
  have kx436 := kx435.below hb36
  have kx536 := kx535.below hb36
  have kx636 := kx635.below hb36
  have ky136 := ky135.below hb36
  have ky236 := ky235.below hb36
  have ky336 := ky335.below hb36
  have ky436 := ky435.below hb36
  have hw36 := hw35.trans (hb36.mono hw35.size)
  clear ha35 hb_35 ka35 kb35 kx135 kx235 kx335 kx435 kx535 kx635 ky135 ky235 ky335 ky435 hw35 hb36
  clear a0 a1 a2 a3 a4 a5 a6
  go_upto_region 28 with fail
  have ky537 := Blk3.new w36 (.bool false) (.slice none 0 0) (.slice none 0 0)
  have hb37 : Below w36.heap.size w36 (w36.alloc (.cells #[.bool false, .slice none 0 0, .slice none 0 0] 24)) := (Below.refl _ _).alloc (Nat.le_refl _) _
  obtain ⟨w37, hwe⟩ : ∃ x, w36.alloc (.cells #[.bool false, .slice none 0 0, .slice none 0 0] 24) = x := ⟨_, rfl⟩
  rw [hwe] at ky537 hb37 ⊢
  clear hwe
  have ha37 := ha36.below hb37
  have hb_37 := hb_36.below hb37
  have ka37 := ka36.below hb37
  have kb37 := kb36.below hb37
  have kx137 := kx136.below hb37
  have kx237 := kx236.below hb37
  have kx337 := kx336.below hb37
  have kx437 := kx436.below hb37
  have kx537 := kx536.below hb37
  have kx637 := kx636.below hb37
  have ky137 := ky136.below hb37
  have ky237 := ky236.below hb37
  have ky337 := ky336.below hb37
  have ky437 := ky436.below hb37
  have hw37 := hw36.trans (hb37.mono hw36.size)
  clear ha36 hb_36 ka36 kb36 kx136 kx236 kx336 kx436 kx536 kx636 ky136 ky236 ky336 ky436 hw36 hb37
  obtain ⟨a0, a1, a2, a3, a4, a5, a6⟩ := ka37.facts
  go_wp2_with fail
  refine (qtext_form a _ ha37 IA.out).mono ?_
  rintro e w38 ⟨rfl, hb38⟩
  have ha38 := ha37.below hb38
  have hb_38 := hb_37.below hb38
  have ka38 := ka37.below hb38
  have kb38 := kb37.below hb38
  have kx138 := kx137.below hb38
  have kx238 := kx237.below hb38
  have kx338 := kx337.below hb38
  have kx438 := kx437.below hb38
  have kx538 := kx537.below hb38
  have kx638 := kx637.below hb38
  have ky138 := ky137.below hb38
  have ky238 := ky237.below hb38
  have ky338 := ky337.below hb38
  have ky438 := ky437.below hb38
  have ky538 := ky537.below hb38
  have hw38 := hw37.trans (hb38.mono hw37.size)
  clear ha37 hb_37 ka37 kb37 kx137 kx237 kx337 kx437 kx537 kx637 ky137 ky237 ky337 ky437 ky537 hw37 hb38
  clear a0 a1 a2 a3 a4 a5 a6
  obtain ⟨c0, c1, c2, c3, c4, c5, c6⟩ := ky138.facts
  go_wp2_with fail
  refine (qnone_yes _).mono ?_
  rintro e w39 ⟨rfl, hb39⟩
  have ha39 := ha38.below hb39
  have hb_39 := hb_38.below hb39
  have ka39 := ka38.below hb39
  have kb39 := kb38.below hb39
  have kx139 := kx138.below hb39
  have kx239 := kx238.below hb39
  have kx339 := kx338.below hb39
  have kx439 := kx438.below hb39
  have kx539 := kx538.below hb39
  have kx639 := kx638.below hb39
  have ky139 := ky138.below hb39
  have ky239 := ky238.below hb39
  have ky339 := ky338.below hb39
  have ky439 := ky438.below hb39
  have ky539 := ky538.below hb39
  have hw39 := hw38.trans (hb39.mono hw38.size)
  clear ha38 hb_38 ka38 kb38 kx138 kx238 kx338 kx438 kx538 kx638 ky138 ky238 ky338 ky438 ky538 hw38 hb39
  clear c0 c1 c2 c3 c4 c5 c6
  obtain ⟨c0, c1, c2, c3, c4, c5, c6⟩ := ky239.facts
  go_wp2_with fail
  refine (qnone_yes _).mono ?_
  rintro e w40 ⟨rfl, hb40⟩
  have ha40 := ha39.below hb40
  have hb_40 := hb_39.below hb40
  have ka40 := ka39.below hb40
  have kb40 := kb39.below hb40
  have kx140 := kx139.below hb40
  have kx240 := kx239.below hb40
  have kx340 := kx339.below hb40
  have kx440 := kx439.below hb40
  have kx540 := kx539.below hb40
  have kx640 := kx639.below hb40
  have ky140 := ky139.below hb40
  have ky240 := ky239.below hb40
  have ky340 := ky339.below hb40
  have ky440 := ky439.below hb40
  have ky540 := ky539.below hb40
  have hw40 := hw39.trans (hb40.mono hw39.size)
  clear ha39 hb_39 ka39 kb39 kx139 kx239 kx339 kx439 kx539 kx639 ky139 ky239 ky339 ky439 ky539 hw39 hb40
  clear c0 c1 c2 c3 c4 c5 c6
  obtain ⟨c0, c1, c2, c3, c4, c5, c6⟩ := ky340.facts
  go_wp2_with fail
  refine (qnone_yes _).mono ?_
  rintro e w41 ⟨rfl, hb41⟩
  have ha41 := ha40.below hb41
  have hb_41 := hb_40.below hb41
  have ka41 := ka40.below hb41
  have kb41 := kb40.below hb41
  have kx141 := kx140.below hb41
  have kx241 := kx240.below hb41
  have kx341 := kx340.below hb41
  have kx441 := kx440.below hb41
  have kx541 := kx540.below hb41
  have kx641 := kx640.below hb41
  have ky141 := ky140.below hb41
  have ky241 := ky240.below hb41
  have ky341 := ky340.below hb41
  have ky441 := ky440.below hb41
  have ky541 := ky540.below hb41
  have hw41 := hw40.trans (hb41.mono hw40.size)
  clear ha40 hb_40 ka40 kb40 kx140 kx240 kx340 kx440 kx540 kx640 ky140 ky240 ky340 ky440 ky540 hw40 hb41
  clear c0 c1 c2 c3 c4 c5 c6
  obtain ⟨c0, c1, c2, c3, c4, c5, c6⟩ := ky441.facts
  go_wp2_with fail
  refine (qnone_yes _).mono ?_
  rintro e w42 ⟨rfl, hb42⟩
  have ha42 := ha41.below hb42
  have hb_42 := hb_41.below hb42
  have ka42 := ka41.below hb42
  have kb42 := kb41.below hb42
  have kx142 := kx141.below hb42
  have kx242 := kx241.below hb42
  have kx342 := kx341.below hb42
  have kx442 := kx441.below hb42
  have kx542 := kx541.below hb42
  have kx642 := kx641.below hb42
  have ky142 := ky141.below hb42
  have ky242 := ky241.below hb42
  have ky342 := ky341.below hb42
  have ky442 := ky441.below hb42
  have ky542 := ky541.below hb42
  have hw42 := hw41.trans (hb42.mono hw41.size)
  clear ha41 hb_41 ka41 kb41 kx141 kx241 kx341 kx441 kx541 kx641 ky141 ky241 ky341 ky441 ky541 hw41 hb42
  clear c0 c1 c2 c3 c4 c5 c6
  obtain ⟨c0, c1, c2, c3, c4, c5, c6⟩ := ky542.facts
  go_wp2_with fail
  refine (qnone_yes _).mono ?_
  rintro e w43 ⟨rfl, hb43⟩
  have ha43 := ha42.below hb43
  have hb_43 := hb_42.below hb43
  have ka43 := ka42.below hb43
  have kb43 := kb42.below hb43
  have kx143 := kx142.below hb43
  have kx243 := kx242.below hb43
  have kx343 := kx342.below hb43
  have kx443 := kx442.below hb43
  have kx543 := kx542.below hb43
  have kx643 := kx642.below hb43
  have ky143 := ky142.below hb43
  have ky243 := ky242.below hb43
  have ky343 := ky342.below hb43
  have ky443 := ky442.below hb43
  have ky543 := ky542.below hb43
  have hw43 := hw42.trans (hb43.mono hw42.size)
  clear ha42 hb_42 ka42 kb42 kx142 kx242 kx342 kx442 kx542 kx642 ky142 ky242 ky342 ky442 ky542 hw42 hb43
  clear c0 c1 c2 c3 c4 c5 c6
  go_wp2_with (go_quiet (fail))
  go_ret
  exact ⟨rfl, hw43⟩
theorem forms_row (a b : RL) (w : World) (ha : a.Raw w) (hb_ : b.Raw w) (htab : Lib.TabBelow Tryz.prog w.heap.size w "internal/strconv.uint64pow10" .u64 Lib.pow10Tab) :
    Calls Tryz.prog 8 #[.agg #[.bool a.s, .slice a.N a.ns.length a.nc, .slice a.D a.ds.length a.dc], .agg #[.bool b.s, .slice b.N b.ns.length b.nc, .slice b.D b.ds.length b.dc]] w (Yes w) := by
  by_cases hsa : a.ns.length ≤ 20 ∧ a.ds.length ≤ 20
  · by_cases hsb : b.ns.length ≤ 20 ∧ b.ds.length ≤ 20
    · by_cases h1 : a.Val
      · by_cases h2 : b.Val
        · exact forms_tt a b w ha hb_ hsa hsb h1 h2 htab
        · exact forms_tf a b w ha hb_ hsa hsb h1 h2 (fun h => h2 h.2) htab
      · by_cases h2 : b.Val
        · exact forms_ft a b w ha hb_ hsa hsb h1 h2 (fun h => h1 h.1) htab
        · exact forms_ff a b w ha hb_ hsa hsb h1 h2 (fun h => h1 h.1) htab
    · exact forms_long2 a b w ha hb_ hsa hsb htab
  · exact forms_long1 a b w ha hb_ hsa htab
end Go.Proofs.YtdonbgjmcbhecaaGreatDoor

