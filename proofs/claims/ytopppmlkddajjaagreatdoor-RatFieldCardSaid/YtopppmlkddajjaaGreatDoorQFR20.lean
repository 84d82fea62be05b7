/- rat.Neg, Mul, Div. -/
import Derived.Test.YtopppmlkddajjaaGreatDoorQFR19
namespace Go.Proofs.YtopppmlkddajjaaGreatDoor
open Go.RowKit V

set_option maxRecDepth 100000 in
set_option maxHeartbeats 3200000 in
theorem Mul_of (a b : RL) (p q : Rat) (w : World) (ha : a.Is w p) (hb_ : b.Is w q) (bl : a.ns.length + a.ds.length + b.ns.length + b.ds.length ≤ 2000) :
    Calls Tryz.prog 11 #[.agg #[.bool a.s, .slice a.N a.ns.length a.nc, .slice a.D a.ds.length a.dc], .agg #[.bool b.s, .slice b.N b.ns.length b.nc, .slice b.D b.ds.length b.dc]] w (RatOk (p * q) (a.ns.length + a.ds.length + b.ns.length + b.ds.length) w) := by
  go_enter Tryz.func11, Tryz.ntmps11
  go_wp2_with fail
  have hbox := box2r w (.bool a.s) (.slice a.N a.ns.length a.nc) (.slice a.D a.ds.length a.dc) (.bool b.s) (.slice b.N b.ns.length b.nc) (.slice b.D b.ds.length b.dc) (.bool false) (.slice none 0 0) (.slice none 0 0)
  obtain ⟨w1, hwe⟩ : ∃ x, ((w.alloc (.cells #[.bool a.s, .slice a.N a.ns.length a.nc, .slice a.D a.ds.length a.dc] 24)).alloc (.cells #[.bool b.s, .slice b.N b.ns.length b.nc, .slice b.D b.ds.length b.dc] 24)).alloc (.cells #[.bool false, .slice none 0 0, .slice none 0 0] 24) = x := ⟨_, rfl⟩
  rw [hwe] at hbox ⊢
  obtain ⟨ka1, kb1, kr1, hb1⟩ := hbox
  have HWE := Lib.hid hwe
  clear hwe HWE
  have ha1 := ha.below hb1
  have hb_1 := hb_.below hb1
  have hw1 := hb1
  clear ha hb_ hb1
  obtain ⟨a0, a1, a2, a3, a4, a5, a6⟩ := ka1.facts
  go_wp2_with fail
  refine (qvalid_yes a p _ ha1 (by omega) (by omega)).mono ?_
  rintro e w2 ⟨rfl, hb2⟩
  have ha2 := ha1.below hb2
  have hb_2 := hb_1.below hb2
  have ka2 := ka1.below hb2
  have kb2 := kb1.below hb2
  have kr2 := kr1.below hb2
  have hw2 := hw1.trans (hb2.mono hw1.size)
  clear ha1 hb_1 ka1 kb1 kr1 hw1 hb2
  clear a0 a1 a2 a3 a4 a5 a6
  obtain ⟨b0, b1, b2, b3, b4, b5, b6⟩ := kb2.facts
  go_wp2_with fail
  refine (qvalid_yes b q _ hb_2 (by omega) (by omega)).mono ?_
  rintro e w3 ⟨rfl, hb3⟩
  have ha3 := ha2.below hb3
  have hb_3 := hb_2.below hb3
  have ka3 := ka2.below hb3
  have kb3 := kb2.below hb3
  have kr3 := kr2.below hb3
  have hw3 := hw2.trans (hb3.mono hw2.size)
  clear ha2 hb_2 ka2 kb2 kr2 hw2 hb3
  clear b0 b1 b2 b3 b4 b5 b6
  obtain ⟨a0, a1, a2, a3, a4, a5, a6⟩ := ka3.facts
  obtain ⟨b0, b1, b2, b3, b4, b5, b6⟩ := kb3.facts
  go_wp2_with fail
  refine (product_of a b p q _ ha3 hb_3 bl).mono ?_
  rintro e w4 ⟨r, rfl, hr4, hrl1, hrl2, hb4⟩
  have ha4 := ha3.below hb4
  have hb_4 := hb_3.below hb4
  have ka4 := ka3.below hb4
  have kb4 := kb3.below hb4
  have kr4 := kr3.below hb4
  have hw4 := hw3.trans (hb4.mono hw3.size)
  clear ha3 hb_3 ka3 kb3 kr3 hw3 hb4
  clear a0 a1 a2 a3 a4 a5 a6
  clear b0 b1 b2 b3 b4 b5 b6
  go_wp2_with fail
  refine (qfit r _ (a.ns.length + a.ds.length + b.ns.length + b.ds.length) _ hr4 hrl1 hrl2 (by omega)).mono ?_
  rintro e w5 ⟨t, rfl, ht5, htl1, htl2, hb5⟩
  have ha5 := ha4.below hb5
  have hb_5 := hb_4.below hb5
  have ka5 := ka4.below hb5
  have kb5 := kb4.below hb5
  have kr5 := kr4.below hb5
  have hr5 := hr4.below hb5
  have hw5 := hw4.trans (hb5.mono hw4.size)
  clear ha4 hb_4 ka4 kb4 kr4 hr4 hw4 hb5
  obtain ⟨c0, c1, c2, c3, c4, c5, c6⟩ := kr5.facts
  go_wp2_with fail
  refine bodyPost_ret (v := .tuple #[.agg #[.bool t.s, .slice t.N t.ns.length t.nc, .slice t.D t.ds.length t.dc], .int .i64 0]) (by simp [results, Tryz.results11, go_sem, c0, c1, c2]) rfl ?_
  exact RatOk.put t ht5 kr5 (by omega) hw5 htl1 htl2
set_option maxRecDepth 100000 in
set_option maxHeartbeats 3200000 in
theorem Div_zero (a b : RL) (p q : Rat) (w : World) (ha : a.Is w p) (hb_ : b.Is w q) (bl : a.ns.length + a.ds.length + b.ns.length + b.ds.length ≤ 2000) (hz : b.ns.length = 0) :
    Calls Tryz.prog 12 #[.agg #[.bool a.s, .slice a.N a.ns.length a.nc, .slice a.D a.ds.length a.dc], .agg #[.bool b.s, .slice b.N b.ns.length b.nc, .slice b.D b.ds.length b.dc]] w (RatErr 20 w) := by
  have HSG : Hid (sgnI b.s b.ns.length = 0) := by show _ = _; simp [sgnI, hz]
  clear hz
  go_enter Tryz.func12, Tryz.ntmps12
  go_wp2_with fail
  have hbox := box2r w (.bool a.s) (.slice a.N a.ns.length a.nc) (.slice a.D a.ds.length a.dc) (.bool b.s) (.slice b.N b.ns.length b.nc) (.slice b.D b.ds.length b.dc) (.bool false) (.slice none 0 0) (.slice none 0 0)
  obtain ⟨w1, hwe⟩ : ∃ x, ((w.alloc (.cells #[.bool a.s, .slice a.N a.ns.length a.nc, .slice a.D a.ds.length a.dc] 24)).alloc (.cells #[.bool b.s, .slice b.N b.ns.length b.nc, .slice b.D b.ds.length b.dc] 24)).alloc (.cells #[.bool false, .slice none 0 0, .slice none 0 0] 24) = x := ⟨_, rfl⟩
  rw [hwe] at hbox ⊢
  obtain ⟨ka1, kb1, kr1, hb1⟩ := hbox
  have HWE := Lib.hid hwe
  clear hwe HWE
  have ha1 := ha.below hb1
  have hb_1 := hb_.below hb1
  have hw1 := hb1
  clear ha hb_ hb1
  obtain ⟨a0, a1, a2, a3, a4, a5, a6⟩ := ka1.facts
  go_wp2_with fail
  refine (qvalid_yes a p _ ha1 (by omega) (by omega)).mono ?_
  rintro e w2 ⟨rfl, hb2⟩
  have ha2 := ha1.below hb2
  have hb_2 := hb_1.below hb2
  have ka2 := ka1.below hb2
  have kb2 := kb1.below hb2
  have kr2 := kr1.below hb2
  have hw2 := hw1.trans (hb2.mono hw1.size)
  clear ha1 hb_1 ka1 kb1 kr1 hw1 hb2
  clear a0 a1 a2 a3 a4 a5 a6
  obtain ⟨b0, b1, b2, b3, b4, b5, b6⟩ := kb2.facts
  go_wp2_with fail
  refine (qvalid_yes b q _ hb_2 (by omega) (by omega)).mono ?_
  rintro e w3 ⟨rfl, hb3⟩
  have ha3 := ha2.below hb3
  have hb_3 := hb_2.below hb3
  have ka3 := ka2.below hb3
  have kb3 := kb2.below hb3
  have kr3 := kr2.below hb3
  have hw3 := hw2.trans (hb3.mono hw2.size)
  clear ha2 hb_2 ka2 kb2 kr2 hw2 hb3
  clear b0 b1 b2 b3 b4 b5 b6
  obtain ⟨b0, b1, b2, b3, b4, b5, b6⟩ := kb3.facts
  go_wp2_with fail
  refine (qsign b.s b.N b.D b.ns.length b.nc b.ds.length b.dc _).mono ?_
  rintro e w4 ⟨he, hb4⟩
  have ha4 := ha3.below hb4
  have hb_4 := hb_3.below hb4
  have ka4 := ka3.below hb4
  have kb4 := kb3.below hb4
  have kr4 := kr3.below hb4
  have hw4 := hw3.trans (hb4.mono hw3.size)
  clear ha3 hb_3 ka3 kb3 kr3 hw3 hb4
  clear b0 b1 b2 b3 b4 b5 b6
  rw [HSG.out] at he
  subst he
  obtain ⟨c0, c1, c2, c3, c4, c5, c6⟩ := kr4.facts
  go_wp2_with fail
  exact bodyPost_ret (v := .tuple #[.agg #[.bool false, .slice none 0 0, .slice none 0 0], .int .i64 20]) (by simp [results, Tryz.results12, go_sem, c0, c1, c2]) rfl ⟨rfl, below_put3 hw4 (by omega) _ _ _⟩
set_option maxRecDepth 100000 in
set_option maxHeartbeats 3200000 in
theorem Div_of (a b : RL) (p q : Rat) (w : World) (ha : a.Is w p) (hb_ : b.Is w q) (bl : a.ns.length + a.ds.length + b.ns.length + b.ds.length ≤ 2000) (hz : 0 < b.ns.length) :
    Calls Tryz.prog 12 #[.agg #[.bool a.s, .slice a.N a.ns.length a.nc, .slice a.D a.ds.length a.dc], .agg #[.bool b.s, .slice b.N b.ns.length b.nc, .slice b.D b.ds.length b.dc]] w (RatOk (p / q) (a.ns.length + a.ds.length + b.ns.length + b.ds.length) w) := by
  obtain ⟨g, hg, hgn⟩ : ∃ g, Hid (sgnI b.s b.ns.length = g) ∧ (g == 0) = false := ⟨_, Lib.hid rfl, by unfold sgnI; rw [if_neg (by omega)]; cases b.s <;> rfl⟩
  have HDL : Hid ((b.s && decide (0 < b.ds.length)) = b.s) := by show _ = _; rw [decide_eq_true hb_.dpos, Bool.and_true]
  go_enter Tryz.func12, Tryz.ntmps12
  go_wp2_with fail
  have hbox := box2r w (.bool a.s) (.slice a.N a.ns.length a.nc) (.slice a.D a.ds.length a.dc) (.bool b.s) (.slice b.N b.ns.length b.nc) (.slice b.D b.ds.length b.dc) (.bool false) (.slice none 0 0) (.slice none 0 0)
  obtain ⟨w1, hwe⟩ : ∃ x, ((w.alloc (.cells #[.bool a.s, .slice a.N a.ns.length a.nc, .slice a.D a.ds.length a.dc] 24)).alloc (.cells #[.bool b.s, .slice b.N b.ns.length b.nc, .slice b.D b.ds.length b.dc] 24)).alloc (.cells #[.bool false, .slice none 0 0, .slice none 0 0] 24) = x := ⟨_, rfl⟩
  rw [hwe] at hbox ⊢
  obtain ⟨ka1, kb1, kr1, hb1⟩ := hbox
  have HWE := Lib.hid hwe
  clear hwe HWE
  have ha1 := ha.below hb1
  have hb_1 := hb_.below hb1
  have hw1 := hb1
  clear ha hb_ hb1
  obtain ⟨a0, a1, a2, a3, a4, a5, a6⟩ := ka1.facts
  go_wp2_with fail
  refine (qvalid_yes a p _ ha1 (by omega) (by omega)).mono ?_
  rintro e w2 ⟨rfl, hb2⟩
  have ha2 := ha1.below hb2
  have hb_2 := hb_1.below hb2
  have ka2 := ka1.below hb2
  have kb2 := kb1.below hb2
  have kr2 := kr1.below hb2
  have hw2 := hw1.trans (hb2.mono hw1.size)
  clear ha1 hb_1 ka1 kb1 kr1 hw1 hb2
  clear a0 a1 a2 a3 a4 a5 a6
  obtain ⟨b0, b1, b2, b3, b4, b5, b6⟩ := kb2.facts
  go_wp2_with fail
  refine (qvalid_yes b q _ hb_2 (by omega) (by omega)).mono ?_
  rintro e w3 ⟨rfl, hb3⟩
  have ha3 := ha2.below hb3
  have hb_3 := hb_2.below hb3
  have ka3 := ka2.below hb3
  have kb3 := kb2.below hb3
  have kr3 := kr2.below hb3
  have hw3 := hw2.trans (hb3.mono hw2.size)
  clear ha2 hb_2 ka2 kb2 kr2 hw2 hb3
  clear b0 b1 b2 b3 b4 b5 b6
  obtain ⟨b0, b1, b2, b3, b4, b5, b6⟩ := kb3.facts
  go_wp2_with fail
  refine (qsign b.s b.N b.D b.ns.length b.nc b.ds.length b.dc _).mono ?_
  rintro e w4 ⟨he, hb4⟩
  have ha4 := ha3.below hb4
  have hb_4 := hb_3.below hb4
  have ka4 := ka3.below hb4
  have kb4 := kb3.below hb4
  have kr4 := kr3.below hb4
  have hw4 := hw3.trans (hb4.mono hw3.size)
  clear ha3 hb_3 ka3 kb3 kr3 hw3 hb4
  clear b0 b1 b2 b3 b4 b5 b6
  rw [hg.out] at he
  subst he
  have e1 : ¬ (w.heap.size = w.heap.size + 1 + 1) := by omega
  have e2 : ¬ (w.heap.size + 1 + 1 = w.heap.size) := by omega
  obtain ⟨a0, a1, a2, a3, a4, a5, a6⟩ := ka4.facts
  obtain ⟨b0, b1, b2, b3, b4, b5, b6⟩ := kb4.facts
  have hinv : RL.Is w4 ⟨b.s, b.D, b.dc, b.ds, b.N, b.nc, b.ns⟩ q⁻¹ := by
    have h1 := inv_q hb_4.q (V32_pos hb_4.mn hz)
    rw [decide_eq_true hb_4.q.pos, Bool.and_true] at h1
    exact ⟨hb_4.rd, hb_4.rn, hb_4.md, hb_4.mn, hb_4.cd, hb_4.cn, h1⟩
  have hi4 := hinv
  clear hinv
  go_upto_region 5 with fail
  go_region_held3 (fun w' => w'.cell? ⟨w.heap.size, 0, none⟩ = some (.bool a.s) ∧ w'.cell? ⟨w.heap.size, 1, none⟩ = some (.slice a.N a.ns.length a.nc) ∧ w'.cell? ⟨w.heap.size, 2, none⟩ = some (.slice a.D a.ds.length a.dc) ∧ w'.cell? ⟨w.heap.size + 1, 0, none⟩ = some (.bool b.s) ∧ w'.cell? ⟨w.heap.size + 1, 1, none⟩ = some (.slice b.N b.ns.length b.nc) ∧ w'.cell? ⟨w.heap.size + 1, 2, none⟩ = some (.slice b.D b.ds.length b.dc)) (first | exact ⟨‹_›, ‹_›, ‹_›, ‹_›, ‹_›, ‹_›⟩ | go_keep)
    (first
    | (go_at_call 46
       refine (qinverse b.s b.N b.D b.ns.length b.nc b.ds.length b.dc _).mono ?_
       rintro e wx_ ⟨he, hbx⟩
       rw [HDL.out] at he
       subst he
       have hbp0 : Below w4.heap.size w4 wx_ := by first | exact hbx | exact below_of_drew hbx (Nat.le_refl _) | exact ((Below.refl _ _).alloc (Nat.le_refl _) _).trans (hbx.mono (by simp)) | exact ((Below.refl _ _).alloc (Nat.le_refl _) _).trans ((below_of_drew hbx (Nat.le_refl _)).mono (by simp)) | exact below_of_drew (((Below.refl _ _).alloc (Nat.le_refl _) _).trans (hbx.mono (by simp))) (Nat.le_refl _)
       have ha_0 := ha4.below hbp0
       have hi_0 := hi4.below hbp0
       have ka_0 := ka4.below hbp0
       obtain ⟨ka0wx_, ka1wx_, ka2wx_, ka3wx_, ka4wx_, ka5wx_, ka6wx_⟩ := ka_0.facts
       have kb_0 := kb4.below hbp0
       obtain ⟨kb0wx_, kb1wx_, kb2wx_, kb3wx_, kb4wx_, kb5wx_, kb6wx_⟩ := kb_0.facts
       have kr_0 := kr4.below hbp0
       obtain ⟨kr0wx_, kr1wx_, kr2wx_, kr3wx_, kr4wx_, kr5wx_, kr6wx_⟩ := kr_0.facts
       have hwq0 := hw4.trans (hbp0.mono hw4.size))
    | (go_at_call 44
       refine (product_of a ⟨b.s, b.D, b.dc, b.ds, b.N, b.nc, b.ns⟩ p q⁻¹ _ (by first | exact ha_0 | exact ha_0.drew | exact ha_0.alloc _ | exact (ha_0.alloc _).drew | exact ha_0.drew.alloc _) (by first | exact hi_0 | exact hi_0.drew | exact hi_0.alloc _ | exact (hi_0.alloc _).drew | exact hi_0.drew.alloc _) (by dsimp only; omega)).mono ?_
       rintro e wy_ ⟨r, rfl, hr, hrl1, hrl2, hby⟩
       dsimp only at hrl1 hrl2
       have hbp1 : Below wx_.heap.size wx_ wy_ := by first | exact hby | exact below_of_drew hby (Nat.le_refl _) | exact ((Below.refl _ _).alloc (Nat.le_refl _) _).trans (hby.mono (by simp)) | exact ((Below.refl _ _).alloc (Nat.le_refl _) _).trans ((below_of_drew hby (Nat.le_refl _)).mono (by simp)) | exact below_of_drew (((Below.refl _ _).alloc (Nat.le_refl _) _).trans (hby.mono (by simp))) (Nat.le_refl _)
       have ha_1 := ha_0.below hbp1
       have hi_1 := hi_0.below hbp1
       have ka_1 := ka_0.below hbp1
       obtain ⟨ka0wy_, ka1wy_, ka2wy_, ka3wy_, ka4wy_, ka5wy_, ka6wy_⟩ := ka_1.facts
       have kb_1 := kb_0.below hbp1
       obtain ⟨kb0wy_, kb1wy_, kb2wy_, kb3wy_, kb4wy_, kb5wy_, kb6wy_⟩ := kb_1.facts
       have kr_1 := kr_0.below hbp1
       obtain ⟨kr0wy_, kr1wy_, kr2wy_, kr3wy_, kr4wy_, kr5wy_, kr6wy_⟩ := kr_1.facts
       have hwq1 := hwq0.trans (hbp1.mono hwq0.size))
    | (go_at_call 41
       refine (qfit r _ (a.ns.length + a.ds.length + b.ns.length + b.ds.length) _ (by first | exact hr | exact hr.drew | exact hr.alloc _ | exact (hr.alloc _).drew | exact hr.drew.alloc _) (by omega) (by omega) (by omega)).mono ?_
       rintro e wz_ ⟨t, rfl, ht, htl1, htl2, hbz⟩
       have hbp2 : Below wy_.heap.size wy_ wz_ := by first | exact hbz | exact below_of_drew hbz (Nat.le_refl _) | exact ((Below.refl _ _).alloc (Nat.le_refl _) _).trans (hbz.mono (by simp)) | exact ((Below.refl _ _).alloc (Nat.le_refl _) _).trans ((below_of_drew hbz (Nat.le_refl _)).mono (by simp)) | exact below_of_drew (((Below.refl _ _).alloc (Nat.le_refl _) _).trans (hbz.mono (by simp))) (Nat.le_refl _)
       have ha_2 := ha_1.below hbp2
       have hi_2 := hi_1.below hbp2
       have hr_2 := hr.below hbp2
       have ka_2 := ka_1.below hbp2
       obtain ⟨ka0wz_, ka1wz_, ka2wz_, ka3wz_, ka4wz_, ka5wz_, ka6wz_⟩ := ka_2.facts
       have kb_2 := kb_1.below hbp2
       obtain ⟨kb0wz_, kb1wz_, kb2wz_, kb3wz_, kb4wz_, kb5wz_, kb6wz_⟩ := kb_2.facts
       have kr_2 := kr_1.below hbp2
       obtain ⟨kr0wz_, kr1wz_, kr2wz_, kr3wz_, kr4wz_, kr5wz_, kr6wz_⟩ := kr_2.facts
       have hwq2 := hwq1.trans (hbp2.mono hwq1.size)))
  all_goals
    go_wp2_with fail
    refine bodyPost_ret (v := .tuple #[.agg #[.bool t.s, .slice t.N t.ns.length t.nc, .slice t.D t.ds.length t.dc], .int .i64 0]) (by simp [results, Tryz.results12, go_sem, kr0wz_, kr1wz_, kr2wz_]) rfl ?_
    exact RatOk.put t ht kr_2 (by omega) hwq2 htl1 htl2
set_option maxRecDepth 100000 in
set_option maxHeartbeats 3200000 in
theorem Neg_of (a : RL) (p : Rat) (w : World) (ha : a.Is w p) (bl : a.ns.length + a.ds.length ≤ 4000) :
    Calls Tryz.prog 13 #[.agg #[.bool a.s, .slice a.N a.ns.length a.nc, .slice a.D a.ds.length a.dc]] w (RatOk (-p) (a.ns.length + a.ds.length) w) := by
  go_enter Tryz.func13, Tryz.ntmps13
  go_wp2_with fail
  have hbox := box1r w (.bool a.s) (.slice a.N a.ns.length a.nc) (.slice a.D a.ds.length a.dc) (.bool false) (.slice none 0 0) (.slice none 0 0)
  obtain ⟨w1, hwe⟩ : ∃ x, (w.alloc (.cells #[.bool a.s, .slice a.N a.ns.length a.nc, .slice a.D a.ds.length a.dc] 24)).alloc (.cells #[.bool false, .slice none 0 0, .slice none 0 0] 24) = x := ⟨_, rfl⟩
  rw [hwe] at hbox ⊢
  obtain ⟨ka1, kr1, hb1⟩ := hbox
  have HWE := Lib.hid hwe
  clear hwe HWE
  have ha1 := ha.below hb1
  have hw1 := hb1
  clear ha hb1
  obtain ⟨a0, a1, a2, a3, a4, a5, a6⟩ := ka1.facts
  go_wp2_with fail
  refine (qvalid_yes a p _ ha1 (by omega) (by omega)).mono ?_
  rintro e w2 ⟨rfl, hb2⟩
  have ha2 := ha1.below hb2
  have ka2 := ka1.below hb2
  have kr2 := kr1.below hb2
  have hw2 := hw1.trans (hb2.mono hw1.size)
  clear ha1 ka1 kr1 hw1 hb2
  clear a0 a1 a2 a3 a4 a5 a6
  obtain ⟨a0, a1, a2, a3, a4, a5, a6⟩ := ka2.facts
  have hneg : RL.Is w2 ⟨!a.s && decide (0 < a.ns.length), a.N, a.nc, a.ns, a.D, a.dc, a.ds⟩ (-p) := by
    have h1 := neg_q ha2.q
    rw [← dec_len ha2.mn] at h1
    exact ⟨ha2.rn, ha2.rd, ha2.mn, ha2.md, ha2.cn, ha2.cd, h1⟩
  have hi2 := hneg
  clear hneg
  go_wp2_with fail
  refine (qopposite a.s a.N a.D a.ns.length a.nc a.ds.length a.dc _).mono ?_
  rintro e w3 ⟨rfl, hb3⟩
  have ha3 := ha2.below hb3
  have ka3 := ka2.below hb3
  have kr3 := kr2.below hb3
  have hi3 := hi2.below hb3
  have hw3 := hw2.trans (hb3.mono hw2.size)
  clear ha2 ka2 kr2 hi2 hw2 hb3
  clear a0 a1 a2 a3 a4 a5 a6
  go_wp2_with fail
  refine (copied_of ⟨!a.s && decide (0 < a.ns.length), a.N, a.nc, a.ns, a.D, a.dc, a.ds⟩ (-p) _ hi3 (by dsimp only; omega)).mono ?_
  rintro e w4 ⟨t, rfl, ht4, htl1, htl2, hb4⟩
  have ha4 := ha3.below hb4
  have ka4 := ka3.below hb4
  have kr4 := kr3.below hb4
  have hi4 := hi3.below hb4
  have hw4 := hw3.trans (hb4.mono hw3.size)
  clear ha3 ka3 kr3 hi3 hw3 hb4
  obtain ⟨c0, c1, c2, c3, c4, c5, c6⟩ := kr4.facts
  dsimp only at htl1 htl2
  go_wp2_with fail
  refine bodyPost_ret (v := .tuple #[.agg #[.bool t.s, .slice t.N t.ns.length t.nc, .slice t.D t.ds.length t.dc], .int .i64 0]) (by simp [results, Tryz.results13, go_sem, c0, c1, c2]) rfl ?_
  exact RatOk.put t ht4 kr4 (by omega) hw4 htl1 htl2
set_option maxRecDepth 100000 in
set_option maxHeartbeats 1600000 in
theorem Sign_of (a : RL) (p : Rat) (w : World) (ha : a.Is w p) (bl : a.ns.length + a.ds.length ≤ 4000) :
    Calls Tryz.prog 16 #[.agg #[.bool a.s, .slice a.N a.ns.length a.nc, .slice a.D a.ds.length a.dc]] w (Gives (.tuple #[.int .i64 (sgnI a.s a.ns.length), .int .i64 0]) w) := by
  go_enter Tryz.func16, Tryz.ntmps16
  go_wp2_with fail
  have hbox := (⟨Blk3.new w (.bool a.s) (.slice a.N a.ns.length a.nc) (.slice a.D a.ds.length a.dc), (Below.refl _ _).alloc (Nat.le_refl _) _⟩ : _ ∧ Below w.heap.size w (w.alloc (.cells #[.bool a.s, .slice a.N a.ns.length a.nc, .slice a.D a.ds.length a.dc] 24)))
  obtain ⟨w1, hwe⟩ : ∃ x, w.alloc (.cells #[.bool a.s, .slice a.N a.ns.length a.nc, .slice a.D a.ds.length a.dc] 24) = x := ⟨_, rfl⟩
  rw [hwe] at hbox ⊢
  obtain ⟨ka1, hb1⟩ := hbox
  have HWE := Lib.hid hwe
  clear hwe HWE
  have ha1 := ha.below hb1
  have hw1 := hb1
  clear ha hb1
  obtain ⟨a0, a1, a2, a3, a4, a5, a6⟩ := ka1.facts
  go_wp2_with fail
  refine (qvalid_yes a p _ ha1 (by omega) (by omega)).mono ?_
  rintro e w2 ⟨rfl, hb2⟩
  have ha2 := ha1.below hb2
  have ka2 := ka1.below hb2
  have hw2 := hw1.trans (hb2.mono hw1.size)
  clear ha1 ka1 hw1 hb2
  clear a0 a1 a2 a3 a4 a5 a6
  obtain ⟨a0, a1, a2, a3, a4, a5, a6⟩ := ka2.facts
  go_wp2_with fail
  refine (qsign a.s a.N a.D a.ns.length a.nc a.ds.length a.dc _).mono ?_
  rintro e w3 ⟨rfl, hb3⟩
  have ha3 := ha2.below hb3
  have ka3 := ka2.below hb3
  have hw3 := hw2.trans (hb3.mono hw2.size)
  clear ha2 ka2 hw2 hb3
  clear a0 a1 a2 a3 a4 a5 a6
  go_wp2_with fail
  exact bodyPost_ret (v := .tuple #[.int .i64 (sgnI a.s a.ns.length), .int .i64 0]) (by simp [results, Tryz.results16, go_sem]) rfl ⟨rfl, hw3⟩
end Go.Proofs.YtopppmlkddajjaaGreatDoor

