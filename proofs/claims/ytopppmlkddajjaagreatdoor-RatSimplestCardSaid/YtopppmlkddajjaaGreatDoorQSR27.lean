/- rat.Simplest, five ways. -/
import Derived.Test.YtopppmlkddajjaaGreatDoorQSR26
namespace Go.Proofs.YtopppmlkddajjaaGreatDoor
open Go.RowKit V
/-- The simplest number from p to q. -/
def BestP (p q : Rat) (w : World) (e : Ending) (w' : World) : Prop :=
  ∃ (r : RL) (x : Rat), e = .returned (.tuple #[.agg #[.bool r.s, .slice r.N r.ns.length r.nc, .slice r.D r.ds.length r.dc], .int .i64 0]) ∧ r.Is w' x ∧ Best p q x ∧ r.ns.length ≤ 4 ∧ r.ds.length ≤ 4 ∧ Below w.heap.size w w'
theorem short2 {xs : List Nat} (m : Mag xs) (h : V32 xs ≤ 18446744073709551615) : xs.length ≤ 2 := short_of_lt m (by omega)
theorem x64_12 : 18446744073709551615 < 4294967296 ^ 12 := by decide
theorem zero_rat : mkRat 0 1 = (0 : Rat) := by decide
theorem is_neg {w : World} {a : RL} {p : Rat} (ha : a.Is w p) : RL.Is w (RL.mk (!a.s && decide (0 < a.ns.length)) a.N a.nc a.ns a.D a.dc a.ds) (-p) := by
  have h1 := neg_q ha.q
  rw [← dec_len ha.mn] at h1
  exact ⟨ha.rn, ha.rd, ha.mn, ha.md, ha.cn, ha.cd, h1⟩
theorem is_opp {w : World} {a : RL} {p : Rat} (ha : a.Is w p) (hs : a.s = true) : RL.Is w (RL.mk false a.N a.nc a.ns a.D a.dc a.ds) (-p) := by
  have h := is_neg ha
  rw [hs] at h
  exact h
set_option maxRecDepth 100000 in
set_option maxHeartbeats 6400000 in
theorem simp_gt (a b : RL) (p q : Rat) (w : World) (ha : a.Is w p) (hb_ : b.Is w q) (l1 : a.ns.length ≤ 2) (l2 : a.ds.length ≤ 2) (l3 : b.ns.length ≤ 2) (l4 : b.ds.length ≤ 2) (v : Int) (HV : Hid (cmpOf (sgn a.s (V32 a.ns) * V32 b.ds) (sgn b.s (V32 b.ns) * V32 a.ds) = v)) (hv : 0 < v) :
    Calls Tryz.prog 28 #[.agg #[.bool a.s, .slice a.N a.ns.length a.nc, .slice a.D a.ds.length a.dc], .agg #[.bool b.s, .slice b.N b.ns.length b.nc, .slice b.D b.ds.length b.dc]] w (RatErr 1 w) := by
  go_enter Tryz.func28, Tryz.ntmps28
  go_wp2_with fail
  have hbox := box2r w (.bool a.s) (.slice a.N a.ns.length a.nc) (.slice a.D a.ds.length a.dc) (.bool b.s) (.slice b.N b.ns.length b.nc) (.slice b.D b.ds.length b.dc) (.bool false) (.slice none 0 0) (.slice none 0 0)
  obtain ⟨w1, hwe⟩ : ∃ x, ((w.alloc (.cells #[.bool a.s, .slice a.N a.ns.length a.nc, .slice a.D a.ds.length a.dc] 24)).alloc (.cells #[.bool b.s, .slice b.N b.ns.length b.nc, .slice b.D b.ds.length b.dc] 24)).alloc (.cells #[.bool false, .slice none 0 0, .slice none 0 0] 24) = x := ⟨_, rfl⟩
  rw [hwe] at hbox ⊢
  obtain ⟨ka1, kb1, kr1, hb1⟩ := hbox
  have HWE := Lib.hid hwe
  clear hwe HWE
  have ha1 := ha.below hb1
  have hb_1 := hb_.below hb1
  have hw1 := hb1
  clear ha hb_ hb1
  obtain ⟨a0, a1, a2, a3, a4, a5, a6⟩ := ka1.facts
  refine (qvalid_yes a p _ ha1 (by omega) (by omega)).mono ?_
  rintro e w2 ⟨rfl, hb2⟩
  have ha2 := ha1.below hb2
  have hb_2 := hb_1.below hb2
  have ka2 := ka1.below hb2
  have kb2 := kb1.below hb2
  have kr2 := kr1.below hb2
  have hw2 := hw1.trans (hb2.mono hw1.size)
  clear ha1 hb_1 ka1 kb1 kr1 hw1 hb2
  clear a0 a1 a2 a3 a4 a5 a6
  obtain ⟨b0, b1, b2, b3, b4, b5, b6⟩ := kb2.facts
  go_wp2_with fail
  refine (qvalid_yes b q _ hb_2 (by omega) (by omega)).mono ?_
  rintro e w3 ⟨rfl, hb3⟩
  have ha3 := ha2.below hb3
  have hb_3 := hb_2.below hb3
  have ka3 := ka2.below hb3
  have kb3 := kb2.below hb3
  have kr3 := kr2.below hb3
  have hw3 := hw2.trans (hb3.mono hw2.size)
  clear ha2 hb_2 ka2 kb2 kr2 hw2 hb3
  clear b0 b1 b2 b3 b4 b5 b6
  obtain ⟨a0, a1, a2, a3, a4, a5, a6⟩ := ka3.facts
  obtain ⟨b0, b1, b2, b3, b4, b5, b6⟩ := kb3.facts
  go_wp2_with fail
  refine (order_of a b p q _ ha3 hb_3 (by omega)).mono ?_
  rintro e w4 ⟨he_, hb4⟩
  rw [HV.out] at he_
  subst he_
  have ha4 := ha3.below hb4
  have hb_4 := hb_3.below hb4
  have ka4 := ka3.below hb4
  have kb4 := kb3.below hb4
  have kr4 := kr3.below hb4
  have hw4 := hw3.trans (hb4.mono hw3.size)
  clear ha3 hb_3 ka3 kb3 kr3 hw3 hb4
  clear a0 a1 a2 a3 a4 a5 a6
  clear b0 b1 b2 b3 b4 b5 b6
  obtain ⟨r0, r1, r2, r3, r4, r5, r6⟩ := kr4.facts
  go_wp2_with fail
  refine bodyPost_ret (v := .tuple #[.agg #[.bool false, .slice none 0 0, .slice none 0 0], .int .i64 1]) (by simp [results, Tryz.results28, go_sem, r0, r1, r2]) rfl ?_
  exact ⟨rfl, by first | exact hw4 | exact below_put3 hw4 (by omega) _ _ _⟩
set_option maxRecDepth 100000 in
set_option maxHeartbeats 6400000 in
theorem simp_eq (a b : RL) (p q : Rat) (w : World) (ha : a.Is w p) (hb_ : b.Is w q) (l1 : a.ns.length ≤ 2) (l2 : a.ds.length ≤ 2) (l3 : b.ns.length ≤ 2) (l4 : b.ds.length ≤ 2) (HV : Hid (cmpOf (sgn a.s (V32 a.ns) * V32 b.ds) (sgn b.s (V32 b.ns) * V32 a.ds) = 0)) (HB : Hid (Best p q p)) :
    Calls Tryz.prog 28 #[.agg #[.bool a.s, .slice a.N a.ns.length a.nc, .slice a.D a.ds.length a.dc], .agg #[.bool b.s, .slice b.N b.ns.length b.nc, .slice b.D b.ds.length b.dc]] w (BestP p q w) := by
  go_enter Tryz.func28, Tryz.ntmps28
  go_wp2_with fail
  have hbox := box2r w (.bool a.s) (.slice a.N a.ns.length a.nc) (.slice a.D a.ds.length a.dc) (.bool b.s) (.slice b.N b.ns.length b.nc) (.slice b.D b.ds.length b.dc) (.bool false) (.slice none 0 0) (.slice none 0 0)
  obtain ⟨w1, hwe⟩ : ∃ x, ((w.alloc (.cells #[.bool a.s, .slice a.N a.ns.length a.nc, .slice a.D a.ds.length a.dc] 24)).alloc (.cells #[.bool b.s, .slice b.N b.ns.length b.nc, .slice b.D b.ds.length b.dc] 24)).alloc (.cells #[.bool false, .slice none 0 0, .slice none 0 0] 24) = x := ⟨_, rfl⟩
  rw [hwe] at hbox ⊢
  obtain ⟨ka1, kb1, kr1, hb1⟩ := hbox
  have HWE := Lib.hid hwe
  clear hwe HWE
  have ha1 := ha.below hb1
  have hb_1 := hb_.below hb1
  have hw1 := hb1
  clear ha hb_ hb1
  obtain ⟨a0, a1, a2, a3, a4, a5, a6⟩ := ka1.facts
  refine (qvalid_yes a p _ ha1 (by omega) (by omega)).mono ?_
  rintro e w2 ⟨rfl, hb2⟩
  have ha2 := ha1.below hb2
  have hb_2 := hb_1.below hb2
  have ka2 := ka1.below hb2
  have kb2 := kb1.below hb2
  have kr2 := kr1.below hb2
  have hw2 := hw1.trans (hb2.mono hw1.size)
  clear ha1 hb_1 ka1 kb1 kr1 hw1 hb2
  clear a0 a1 a2 a3 a4 a5 a6
  obtain ⟨b0, b1, b2, b3, b4, b5, b6⟩ := kb2.facts
  go_wp2_with fail
  refine (qvalid_yes b q _ hb_2 (by omega) (by omega)).mono ?_
  rintro e w3 ⟨rfl, hb3⟩
  have ha3 := ha2.below hb3
  have hb_3 := hb_2.below hb3
  have ka3 := ka2.below hb3
  have kb3 := kb2.below hb3
  have kr3 := kr2.below hb3
  have hw3 := hw2.trans (hb3.mono hw2.size)
  clear ha2 hb_2 ka2 kb2 kr2 hw2 hb3
  clear b0 b1 b2 b3 b4 b5 b6
  obtain ⟨a0, a1, a2, a3, a4, a5, a6⟩ := ka3.facts
  obtain ⟨b0, b1, b2, b3, b4, b5, b6⟩ := kb3.facts
  go_wp2_with fail
  refine (order_of a b p q _ ha3 hb_3 (by omega)).mono ?_
  rintro e w4 ⟨he_, hb4⟩
  rw [HV.out] at he_
  subst he_
  have ha4 := ha3.below hb4
  have hb_4 := hb_3.below hb4
  have ka4 := ka3.below hb4
  have kb4 := kb3.below hb4
  have kr4 := kr3.below hb4
  have hw4 := hw3.trans (hb4.mono hw3.size)
  clear ha3 hb_3 ka3 kb3 kr3 hw3 hb4
  clear a0 a1 a2 a3 a4 a5 a6
  clear b0 b1 b2 b3 b4 b5 b6
  obtain ⟨a0, a1, a2, a3, a4, a5, a6⟩ := ka4.facts
  go_wp2_with fail
  refine (copied_of a p _ ha4 (by omega)).mono ?_
  rintro e w5 ⟨c, rfl, hc5, hca, hcb, hb5⟩
  have ha5 := ha4.below hb5
  have hb_5 := hb_4.below hb5
  have ka5 := ka4.below hb5
  have kb5 := kb4.below hb5
  have kr5 := kr4.below hb5
  have hw5 := hw4.trans (hb5.mono hw4.size)
  clear ha4 hb_4 ka4 kb4 kr4 hw4 hb5
  clear a0 a1 a2 a3 a4 a5 a6
  obtain ⟨r0, r1, r2, r3, r4, r5, r6⟩ := kr5.facts
  go_wp2_with fail
  refine bodyPost_ret (v := .tuple #[.agg #[.bool c.s, .slice c.N c.ns.length c.nc, .slice c.D c.ds.length c.dc], .int .i64 0]) (by simp [results, Tryz.results28, go_sem, r0, r1, r2]) rfl ?_
  exact ⟨c, p, rfl, hc5.put3 kr5 _ _ _, HB.out, by omega, by omega, below_put3 hw5 (by omega) _ _ _⟩
set_option maxRecDepth 100000 in
set_option maxHeartbeats 6400000 in
theorem simp_pos (a b : RL) (p q : Rat) (w : World) (ha : a.Is w p) (hb_ : b.Is w q) (l1 : a.ns.length ≤ 2) (l2 : a.ds.length ≤ 2) (l3 : b.ns.length ≤ 2) (l4 : b.ds.length ≤ 2) (v g : Int) (HV : Hid (cmpOf (sgn a.s (V32 a.ns) * V32 b.ds) (sgn b.s (V32 b.ns) * V32 a.ds) = v)) (hv : v < 0) (HG : Hid (sgnI a.s a.ns.length = g)) (hg : 0 < g) (XA1 : Hid (V32 a.ns ≤ 18446744073709551615)) (XA2 : Hid (V32 a.ds ≤ 18446744073709551615)) (XB1 : Hid (V32 b.ns ≤ 18446744073709551615)) (XB2 : Hid (V32 b.ds ≤ 18446744073709551615)) (HP : Hid (1 ≤ V32 a.ns)) (HL : Hid (V32 a.ns * V32 b.ds < V32 b.ns * V32 a.ds)) (HB : Hid (∀ P Q : Nat, Simp (V32 a.ns) (V32 a.ds) (V32 b.ns) (V32 b.ds) P Q → Best p q (mkRat ((P : Nat) : Int) Q))) :
    Calls Tryz.prog 28 #[.agg #[.bool a.s, .slice a.N a.ns.length a.nc, .slice a.D a.ds.length a.dc], .agg #[.bool b.s, .slice b.N b.ns.length b.nc, .slice b.D b.ds.length b.dc]] w (BestP p q w) := by
  go_enter Tryz.func28, Tryz.ntmps28
  go_wp2_with fail
  have hbox := box2r w (.bool a.s) (.slice a.N a.ns.length a.nc) (.slice a.D a.ds.length a.dc) (.bool b.s) (.slice b.N b.ns.length b.nc) (.slice b.D b.ds.length b.dc) (.bool false) (.slice none 0 0) (.slice none 0 0)
  obtain ⟨w1, hwe⟩ : ∃ x, ((w.alloc (.cells #[.bool a.s, .slice a.N a.ns.length a.nc, .slice a.D a.ds.length a.dc] 24)).alloc (.cells #[.bool b.s, .slice b.N b.ns.length b.nc, .slice b.D b.ds.length b.dc] 24)).alloc (.cells #[.bool false, .slice none 0 0, .slice none 0 0] 24) = x := ⟨_, rfl⟩
  rw [hwe] at hbox ⊢
  obtain ⟨ka1, kb1, kr1, hb1⟩ := hbox
  have HWE := Lib.hid hwe
  clear hwe HWE
  have ha1 := ha.below hb1
  have hb_1 := hb_.below hb1
  have hw1 := hb1
  clear ha hb_ hb1
  obtain ⟨a0, a1, a2, a3, a4, a5, a6⟩ := ka1.facts
  refine (qvalid_yes a p _ ha1 (by omega) (by omega)).mono ?_
  rintro e w2 ⟨rfl, hb2⟩
  have ha2 := ha1.below hb2
  have hb_2 := hb_1.below hb2
  have ka2 := ka1.below hb2
  have kb2 := kb1.below hb2
  have kr2 := kr1.below hb2
  have hw2 := hw1.trans (hb2.mono hw1.size)
  clear ha1 hb_1 ka1 kb1 kr1 hw1 hb2
  clear a0 a1 a2 a3 a4 a5 a6
  obtain ⟨b0, b1, b2, b3, b4, b5, b6⟩ := kb2.facts
  go_wp2_with fail
  refine (qvalid_yes b q _ hb_2 (by omega) (by omega)).mono ?_
  rintro e w3 ⟨rfl, hb3⟩
  have ha3 := ha2.below hb3
  have hb_3 := hb_2.below hb3
  have ka3 := ka2.below hb3
  have kb3 := kb2.below hb3
  have kr3 := kr2.below hb3
  have hw3 := hw2.trans (hb3.mono hw2.size)
  clear ha2 hb_2 ka2 kb2 kr2 hw2 hb3
  clear b0 b1 b2 b3 b4 b5 b6
  obtain ⟨a0, a1, a2, a3, a4, a5, a6⟩ := ka3.facts
  obtain ⟨b0, b1, b2, b3, b4, b5, b6⟩ := kb3.facts
  go_wp2_with fail
  refine (order_of a b p q _ ha3 hb_3 (by omega)).mono ?_
  rintro e w4 ⟨he_, hb4⟩
  rw [HV.out] at he_
  subst he_
  have ha4 := ha3.below hb4
  have hb_4 := hb_3.below hb4
  have ka4 := ka3.below hb4
  have kb4 := kb3.below hb4
  have kr4 := kr3.below hb4
  have hw4 := hw3.trans (hb4.mono hw3.size)
  clear ha3 hb_3 ka3 kb3 kr3 hw3 hb4
  clear a0 a1 a2 a3 a4 a5 a6
  clear b0 b1 b2 b3 b4 b5 b6
  obtain ⟨a0, a1, a2, a3, a4, a5, a6⟩ := ka4.facts
  go_wp2_with fail
  refine (qsign a.s a.N a.D a.ns.length a.nc a.ds.length a.dc _).mono ?_
  rintro e w5 ⟨he_, hb5⟩
  rw [HG.out] at he_
  subst he_
  have ha5 := ha4.below hb5
  have hb_5 := hb_4.below hb5
  have ka5 := ka4.below hb5
  have kb5 := kb4.below hb5
  have kr5 := kr4.below hb5
  have hw5 := hw4.trans (hb5.mono hw4.size)
  clear ha4 hb_4 ka4 kb4 kr4 hw4 hb5
  clear a0 a1 a2 a3 a4 a5 a6
  obtain ⟨a0, a1, a2, a3, a4, a5, a6⟩ := ka5.facts
  obtain ⟨b0, b1, b2, b3, b4, b5, b6⟩ := kb5.facts
  go_wp2_with fail
  refine (between_of a b p q 18446744073709551615 _ ha5 hb_5 x64_12 XA1.out XA2.out XB1.out XB2.out HP.out HL.out).mono ?_
  rintro e w6 ⟨c, rfl, hcs, hc6, hS, hx1, hx2, hb6⟩
  have ha6 := ha5.below hb6
  have hb_6 := hb_5.below hb6
  have ka6 := ka5.below hb6
  have kb6 := kb5.below hb6
  have kr6 := kr5.below hb6
  have hw6 := hw5.trans (hb6.mono hw5.size)
  clear ha5 hb_5 ka5 kb5 kr5 hw5 hb6
  clear a0 a1 a2 a3 a4 a5 a6
  clear b0 b1 b2 b3 b4 b5 b6
  have HCS := Lib.hid hcs
  clear hcs
  have HS := Lib.hid hS
  have hla := short2 hc6.mn hx1
  have hlb := short2 hc6.md hx2
  clear hS hx1 hx2
  obtain ⟨r0, r1, r2, r3, r4, r5, r6⟩ := kr6.facts
  go_wp2_with fail
  refine bodyPost_ret (v := .tuple #[.agg #[.bool c.s, .slice c.N c.ns.length c.nc, .slice c.D c.ds.length c.dc], .int .i64 0]) (by simp [results, Tryz.results28, go_sem, r0, r1, r2]) rfl ?_
  exact ⟨c, _, rfl, hc6.put3 kr6 _ _ _, HB.out _ _ HS.out, by omega, by omega, below_put3 hw6 (by omega) _ _ _⟩
set_option maxRecDepth 100000 in
set_option maxHeartbeats 6400000 in
theorem simp_zero (a b : RL) (p q : Rat) (w : World) (ha : a.Is w p) (hb_ : b.Is w q) (l1 : a.ns.length ≤ 2) (l2 : a.ds.length ≤ 2) (l3 : b.ns.length ≤ 2) (l4 : b.ds.length ≤ 2) (v g g2 : Int) (HV : Hid (cmpOf (sgn a.s (V32 a.ns) * V32 b.ds) (sgn b.s (V32 b.ns) * V32 a.ds) = v)) (hv : v < 0) (HG : Hid (sgnI a.s a.ns.length = g)) (hg : g ≤ 0) (HG2 : Hid (sgnI b.s b.ns.length = g2)) (hg2 : 0 ≤ g2) (HB : Hid (Best p q 0)) :
    Calls Tryz.prog 28 #[.agg #[.bool a.s, .slice a.N a.ns.length a.nc, .slice a.D a.ds.length a.dc], .agg #[.bool b.s, .slice b.N b.ns.length b.nc, .slice b.D b.ds.length b.dc]] w (BestP p q w) := by
  go_enter Tryz.func28, Tryz.ntmps28
  go_wp2_with fail
  have hbox := box2r w (.bool a.s) (.slice a.N a.ns.length a.nc) (.slice a.D a.ds.length a.dc) (.bool b.s) (.slice b.N b.ns.length b.nc) (.slice b.D b.ds.length b.dc) (.bool false) (.slice none 0 0) (.slice none 0 0)
  obtain ⟨w1, hwe⟩ : ∃ x, ((w.alloc (.cells #[.bool a.s, .slice a.N a.ns.length a.nc, .slice a.D a.ds.length a.dc] 24)).alloc (.cells #[.bool b.s, .slice b.N b.ns.length b.nc, .slice b.D b.ds.length b.dc] 24)).alloc (.cells #[.bool false, .slice none 0 0, .slice none 0 0] 24) = x := ⟨_, rfl⟩
  rw [hwe] at hbox ⊢
  obtain ⟨ka1, kb1, kr1, hb1⟩ := hbox
  have HWE := Lib.hid hwe
  clear hwe HWE
  have ha1 := ha.below hb1
  have hb_1 := hb_.below hb1
  have hw1 := hb1
  clear ha hb_ hb1
  obtain ⟨a0, a1, a2, a3, a4, a5, a6⟩ := ka1.facts
  refine (qvalid_yes a p _ ha1 (by omega) (by omega)).mono ?_
  rintro e w2 ⟨rfl, hb2⟩
  have ha2 := ha1.below hb2
  have hb_2 := hb_1.below hb2
  have ka2 := ka1.below hb2
  have kb2 := kb1.below hb2
  have kr2 := kr1.below hb2
  have hw2 := hw1.trans (hb2.mono hw1.size)
  clear ha1 hb_1 ka1 kb1 kr1 hw1 hb2
  clear a0 a1 a2 a3 a4 a5 a6
  obtain ⟨b0, b1, b2, b3, b4, b5, b6⟩ := kb2.facts
  go_wp2_with fail
  refine (qvalid_yes b q _ hb_2 (by omega) (by omega)).mono ?_
  rintro e w3 ⟨rfl, hb3⟩
  have ha3 := ha2.below hb3
  have hb_3 := hb_2.below hb3
  have ka3 := ka2.below hb3
  have kb3 := kb2.below hb3
  have kr3 := kr2.below hb3
  have hw3 := hw2.trans (hb3.mono hw2.size)
  clear ha2 hb_2 ka2 kb2 kr2 hw2 hb3
  clear b0 b1 b2 b3 b4 b5 b6
  obtain ⟨a0, a1, a2, a3, a4, a5, a6⟩ := ka3.facts
  obtain ⟨b0, b1, b2, b3, b4, b5, b6⟩ := kb3.facts
  go_wp2_with fail
  refine (order_of a b p q _ ha3 hb_3 (by omega)).mono ?_
  rintro e w4 ⟨he_, hb4⟩
  rw [HV.out] at he_
  subst he_
  have ha4 := ha3.below hb4
  have hb_4 := hb_3.below hb4
  have ka4 := ka3.below hb4
  have kb4 := kb3.below hb4
  have kr4 := kr3.below hb4
  have hw4 := hw3.trans (hb4.mono hw3.size)
  clear ha3 hb_3 ka3 kb3 kr3 hw3 hb4
  clear a0 a1 a2 a3 a4 a5 a6
  clear b0 b1 b2 b3 b4 b5 b6
  obtain ⟨a0, a1, a2, a3, a4, a5, a6⟩ := ka4.facts
  go_wp2_with fail
  refine (qsign a.s a.N a.D a.ns.length a.nc a.ds.length a.dc _).mono ?_
  rintro e w5 ⟨he_, hb5⟩
  rw [HG.out] at he_
  subst he_
  have ha5 := ha4.below hb5
  have hb_5 := hb_4.below hb5
  have ka5 := ka4.below hb5
  have kb5 := kb4.below hb5
  have kr5 := kr4.below hb5
  have hw5 := hw4.trans (hb5.mono hw4.size)
  clear ha4 hb_4 ka4 kb4 kr4 hw4 hb5
  clear a0 a1 a2 a3 a4 a5 a6
  obtain ⟨b0, b1, b2, b3, b4, b5, b6⟩ := kb5.facts
  go_wp2_with fail
  refine (qsign b.s b.N b.D b.ns.length b.nc b.ds.length b.dc _).mono ?_
  rintro e w6 ⟨he_, hb6⟩
  rw [HG2.out] at he_
  subst he_
  have ha6 := ha5.below hb6
  have hb_6 := hb_5.below hb6
  have ka6 := ka5.below hb6
  have kb6 := kb5.below hb6
  have kr6 := kr5.below hb6
  have hw6 := hw5.trans (hb6.mono hw5.size)
  clear ha5 hb_5 ka5 kb5 kr5 hw5 hb6
  clear b0 b1 b2 b3 b4 b5 b6
  go_wp2_with fail
  refine (qfrom 0 _ (by omega)).mono ?_
  rintro e w7 ⟨c, rfl, hc7, hca, hcb, hb7⟩
  have ha7 := ha6.below hb7
  have hb_7 := hb_6.below hb7
  have ka7 := ka6.below hb7
  have kb7 := kb6.below hb7
  have kr7 := kr6.below hb7
  have hw7 := hw6.trans (hb7.mono hw6.size)
  clear ha6 hb_6 ka6 kb6 kr6 hw6 hb7
  obtain ⟨r0, r1, r2, r3, r4, r5, r6⟩ := kr7.facts
  go_wp2_with fail
  refine bodyPost_ret (v := .tuple #[.agg #[.bool c.s, .slice c.N c.ns.length c.nc, .slice c.D c.ds.length c.dc], .int .i64 0]) (by simp [results, Tryz.results28, go_sem, r0, r1, r2]) rfl ?_
  exact ⟨c, 0, rfl, (show c.Is _ 0 from zero_rat ▸ hc7).put3 kr7 _ _ _, HB.out, by omega, by omega, below_put3 hw7 (by omega) _ _ _⟩
set_option maxRecDepth 100000 in
set_option maxHeartbeats 6400000 in
theorem simp_neg (a b : RL) (p q : Rat) (w : World) (ha : a.Is w p) (hb_ : b.Is w q) (l1 : a.ns.length ≤ 2) (l2 : a.ds.length ≤ 2) (l3 : b.ns.length ≤ 2) (l4 : b.ds.length ≤ 2) (v g g2 : Int) (HV : Hid (cmpOf (sgn a.s (V32 a.ns) * V32 b.ds) (sgn b.s (V32 b.ns) * V32 a.ds) = v)) (hv : v < 0) (HG : Hid (sgnI a.s a.ns.length = g)) (hg : g ≤ 0) (HG2 : Hid (sgnI b.s b.ns.length = g2)) (hg2 : g2 < 0) (HSA : Hid (a.s = true)) (HSB : Hid (b.s = true)) (HOA : Hid ((!a.s && decide (0 < a.ns.length)) = false)) (HOB : Hid ((!b.s && decide (0 < b.ns.length)) = false)) (XA1 : Hid (V32 a.ns ≤ 18446744073709551615)) (XA2 : Hid (V32 a.ds ≤ 18446744073709551615)) (XB1 : Hid (V32 b.ns ≤ 18446744073709551615)) (XB2 : Hid (V32 b.ds ≤ 18446744073709551615)) (HP : Hid (1 ≤ V32 b.ns)) (HL : Hid (V32 b.ns * V32 a.ds < V32 a.ns * V32 b.ds)) (HB : Hid (∀ P Q : Nat, Simp (V32 b.ns) (V32 b.ds) (V32 a.ns) (V32 a.ds) P Q → Best p q (-(mkRat ((P : Nat) : Int) Q)))) :
    Calls Tryz.prog 28 #[.agg #[.bool a.s, .slice a.N a.ns.length a.nc, .slice a.D a.ds.length a.dc], .agg #[.bool b.s, .slice b.N b.ns.length b.nc, .slice b.D b.ds.length b.dc]] w (BestP p q w) := by
  go_enter Tryz.func28, Tryz.ntmps28
  go_wp2_with fail
  have hbox := box2r w (.bool a.s) (.slice a.N a.ns.length a.nc) (.slice a.D a.ds.length a.dc) (.bool b.s) (.slice b.N b.ns.length b.nc) (.slice b.D b.ds.length b.dc) (.bool false) (.slice none 0 0) (.slice none 0 0)
  obtain ⟨w1, hwe⟩ : ∃ x, ((w.alloc (.cells #[.bool a.s, .slice a.N a.ns.length a.nc, .slice a.D a.ds.length a.dc] 24)).alloc (.cells #[.bool b.s, .slice b.N b.ns.length b.nc, .slice b.D b.ds.length b.dc] 24)).alloc (.cells #[.bool false, .slice none 0 0, .slice none 0 0] 24) = x := ⟨_, rfl⟩
  rw [hwe] at hbox ⊢
  obtain ⟨ka1, kb1, kr1, hb1⟩ := hbox
  have HWE := Lib.hid hwe
  clear hwe HWE
  have ha1 := ha.below hb1
  have hb_1 := hb_.below hb1
  have hw1 := hb1
  clear ha hb_ hb1
  obtain ⟨a0, a1, a2, a3, a4, a5, a6⟩ := ka1.facts
  refine (qvalid_yes a p _ ha1 (by omega) (by omega)).mono ?_
  rintro e w2 ⟨rfl, hb2⟩
  have ha2 := ha1.below hb2
  have hb_2 := hb_1.below hb2
  have ka2 := ka1.below hb2
  have kb2 := kb1.below hb2
  have kr2 := kr1.below hb2
  have hw2 := hw1.trans (hb2.mono hw1.size)
  clear ha1 hb_1 ka1 kb1 kr1 hw1 hb2
  clear a0 a1 a2 a3 a4 a5 a6
  obtain ⟨b0, b1, b2, b3, b4, b5, b6⟩ := kb2.facts
  go_wp2_with fail
  refine (qvalid_yes b q _ hb_2 (by omega) (by omega)).mono ?_
  rintro e w3 ⟨rfl, hb3⟩
  have ha3 := ha2.below hb3
  have hb_3 := hb_2.below hb3
  have ka3 := ka2.below hb3
  have kb3 := kb2.below hb3
  have kr3 := kr2.below hb3
  have hw3 := hw2.trans (hb3.mono hw2.size)
  clear ha2 hb_2 ka2 kb2 kr2 hw2 hb3
  clear b0 b1 b2 b3 b4 b5 b6
  obtain ⟨a0, a1, a2, a3, a4, a5, a6⟩ := ka3.facts
  obtain ⟨b0, b1, b2, b3, b4, b5, b6⟩ := kb3.facts
  go_wp2_with fail
  refine (order_of a b p q _ ha3 hb_3 (by omega)).mono ?_
  rintro e w4 ⟨he_, hb4⟩
  rw [HV.out] at he_
  subst he_
  have ha4 := ha3.below hb4
  have hb_4 := hb_3.below hb4
  have ka4 := ka3.below hb4
  have kb4 := kb3.below hb4
  have kr4 := kr3.below hb4
  have hw4 := hw3.trans (hb4.mono hw3.size)
  clear ha3 hb_3 ka3 kb3 kr3 hw3 hb4
  clear a0 a1 a2 a3 a4 a5 a6
  clear b0 b1 b2 b3 b4 b5 b6
  obtain ⟨a0, a1, a2, a3, a4, a5, a6⟩ := ka4.facts
  go_wp2_with fail
  refine (qsign a.s a.N a.D a.ns.length a.nc a.ds.length a.dc _).mono ?_
  rintro e w5 ⟨he_, hb5⟩
  rw [HG.out] at he_
  subst he_
  have ha5 := ha4.below hb5
  have hb_5 := hb_4.below hb5
  have ka5 := ka4.below hb5
  have kb5 := kb4.below hb5
  have kr5 := kr4.below hb5
  have hw5 := hw4.trans (hb5.mono hw4.size)
  clear ha4 hb_4 ka4 kb4 kr4 hw4 hb5
  clear a0 a1 a2 a3 a4 a5 a6
  obtain ⟨b0, b1, b2, b3, b4, b5, b6⟩ := kb5.facts
  go_wp2_with fail
  refine (qsign b.s b.N b.D b.ns.length b.nc b.ds.length b.dc _).mono ?_
  rintro e w6 ⟨he_, hb6⟩
  rw [HG2.out] at he_
  subst he_
  have ha6 := ha5.below hb6
  have hb_6 := hb_5.below hb6
  have ka6 := ka5.below hb6
  have kb6 := kb5.below hb6
  have kr6 := kr5.below hb6
  have hw6 := hw5.trans (hb6.mono hw5.size)
  clear ha5 hb_5 ka5 kb5 kr5 hw5 hb6
  clear b0 b1 b2 b3 b4 b5 b6
  have hna_ : RL.Is w6 (RL.mk false a.N a.nc a.ns a.D a.dc a.ds) (-p) := is_opp ha6 HSA.out
  have hnb_ : RL.Is w6 (RL.mk false b.N b.nc b.ns b.D b.dc b.ds) (-q) := is_opp hb_6 HSB.out
  have hna6 := hna_
  have hnb6 := hnb_
  clear hna_ hnb_
  go_upto_region 11 with fail
  obtain ⟨a0, a1, a2, a3, a4, a5, a6⟩ := ka6.facts
  obtain ⟨b0, b1, b2, b3, b4, b5, b6⟩ := kb6.facts
  obtain ⟨r0, r1, r2, r3, r4, r5, r6⟩ := kr6.facts
  have hq1 : ¬ w.heap.size = w.heap.size + 2 := by omega
  have hq2 : ¬ w.heap.size + 1 = w.heap.size + 2 := by omega
  have hq3 : ¬ w.heap.size + 2 = w.heap.size := by omega
  have hq4 : ¬ w.heap.size + 2 = w.heap.size + 1 := by omega
  go_region_held3 (fun w' => w'.cell? ⟨w.heap.size, 0, none⟩ = some (.bool a.s) ∧ w'.cell? ⟨w.heap.size, 1, none⟩ = some (.slice a.N a.ns.length a.nc) ∧ w'.cell? ⟨w.heap.size, 2, none⟩ = some (.slice a.D a.ds.length a.dc) ∧ w'.cell? ⟨w.heap.size + 1, 0, none⟩ = some (.bool b.s) ∧ w'.cell? ⟨w.heap.size + 1, 1, none⟩ = some (.slice b.N b.ns.length b.nc) ∧ w'.cell? ⟨w.heap.size + 1, 2, none⟩ = some (.slice b.D b.ds.length b.dc)) (first | exact ⟨‹_›, ‹_›, ‹_›, ‹_›, ‹_›, ‹_›⟩ | go_keep)
    (first
    | (go_at_call_of 43 (Value.agg #[.bool b.s, .slice b.N b.ns.length b.nc, .slice b.D b.ds.length b.dc])
       refine (qopposite b.s b.N b.D b.ns.length b.nc b.ds.length b.dc _).mono ?_
       rintro e v1_ ⟨he_, hbx⟩
       rw [HOB.out] at he_
       subst he_
       have hbp0 : Below w6.heap.size w6 v1_ := by first | exact hbx | exact below_of_drew hbx (Nat.le_refl _) | exact ((Below.refl _ _).alloc (Nat.le_refl _) _).trans (hbx.mono (by simp)) | exact ((Below.refl _ _).alloc (Nat.le_refl _) _).trans ((below_of_drew hbx (Nat.le_refl _)).mono (by simp)) | exact below_of_drew (((Below.refl _ _).alloc (Nat.le_refl _) _).trans (hbx.mono (by simp))) (Nat.le_refl _)
       have hna_0 := hna6.below hbp0
       have hnb_0 := hnb6.below hbp0
       have ka_0 := ka6.below hbp0
       obtain ⟨ka0v1_, ka1v1_, ka2v1_, ka3v1_, ka4v1_, ka5v1_, ka6v1_⟩ := ka_0.facts
       have kb_0 := kb6.below hbp0
       obtain ⟨kb0v1_, kb1v1_, kb2v1_, kb3v1_, kb4v1_, kb5v1_, kb6v1_⟩ := kb_0.facts
       have kr_0 := kr6.below hbp0
       obtain ⟨kr0v1_, kr1v1_, kr2v1_, kr3v1_, kr4v1_, kr5v1_, kr6v1_⟩ := kr_0.facts
       have hwq0 := hw6.trans (hbp0.mono hw6.size))
    | (go_at_call_of 43 (Value.agg #[.bool a.s, .slice a.N a.ns.length a.nc, .slice a.D a.ds.length a.dc])
       refine (qopposite a.s a.N a.D a.ns.length a.nc a.ds.length a.dc _).mono ?_
       rintro e v2_ ⟨he_, hby⟩
       rw [HOA.out] at he_
       subst he_
       have hbp1 : Below v1_.heap.size v1_ v2_ := by first | exact hby | exact below_of_drew hby (Nat.le_refl _) | exact ((Below.refl _ _).alloc (Nat.le_refl _) _).trans (hby.mono (by simp)) | exact ((Below.refl _ _).alloc (Nat.le_refl _) _).trans ((below_of_drew hby (Nat.le_refl _)).mono (by simp)) | exact below_of_drew (((Below.refl _ _).alloc (Nat.le_refl _) _).trans (hby.mono (by simp))) (Nat.le_refl _)
       have hna_1 := hna_0.below hbp1
       have hnb_1 := hnb_0.below hbp1
       have ka_1 := ka_0.below hbp1
       obtain ⟨ka0v2_, ka1v2_, ka2v2_, ka3v2_, ka4v2_, ka5v2_, ka6v2_⟩ := ka_1.facts
       have kb_1 := kb_0.below hbp1
       obtain ⟨kb0v2_, kb1v2_, kb2v2_, kb3v2_, kb4v2_, kb5v2_, kb6v2_⟩ := kb_1.facts
       have kr_1 := kr_0.below hbp1
       obtain ⟨kr0v2_, kr1v2_, kr2v2_, kr3v2_, kr4v2_, kr5v2_, kr6v2_⟩ := kr_1.facts
       have hwq1 := hwq0.trans (hbp1.mono hwq0.size))
    | (go_at_call 56
       refine (between_of (RL.mk false b.N b.nc b.ns b.D b.dc b.ds) (RL.mk false a.N a.nc a.ns a.D a.dc a.ds) (-q) (-p) 18446744073709551615 _ (by first | exact hnb_1 | exact hnb_1.drew | exact hnb_1.alloc _ | exact (hnb_1.alloc _).drew | exact hnb_1.drew.alloc _) (by first | exact hna_1 | exact hna_1.drew | exact hna_1.alloc _ | exact (hna_1.alloc _).drew | exact hna_1.drew.alloc _) x64_12 XB1.out XB2.out XA1.out XA2.out HP.out HL.out).mono ?_
       rintro e v3_ ⟨c, rfl, hcs, hc, hS, hx1, hx2, hbz⟩
       have HCS := Lib.hid hcs
       clear hcs
       have HS := Lib.hid hS
       have hla := short2 hc.mn hx1
       have hlb := short2 hc.md hx2
       clear hS hx1 hx2
       have hbp2 : Below v2_.heap.size v2_ v3_ := by first | exact hbz | exact below_of_drew hbz (Nat.le_refl _) | exact ((Below.refl _ _).alloc (Nat.le_refl _) _).trans (hbz.mono (by simp)) | exact ((Below.refl _ _).alloc (Nat.le_refl _) _).trans ((below_of_drew hbz (Nat.le_refl _)).mono (by simp)) | exact below_of_drew (((Below.refl _ _).alloc (Nat.le_refl _) _).trans (hbz.mono (by simp))) (Nat.le_refl _)
       have hna_2 := hna_1.below hbp2
       have hnb_2 := hnb_1.below hbp2
       have ka_2 := ka_1.below hbp2
       obtain ⟨ka0v3_, ka1v3_, ka2v3_, ka3v3_, ka4v3_, ka5v3_, ka6v3_⟩ := ka_2.facts
       have kb_2 := kb_1.below hbp2
       obtain ⟨kb0v3_, kb1v3_, kb2v3_, kb3v3_, kb4v3_, kb5v3_, kb6v3_⟩ := kb_2.facts
       have kr_2 := kr_1.below hbp2
       obtain ⟨kr0v3_, kr1v3_, kr2v3_, kr3v3_, kr4v3_, kr5v3_, kr6v3_⟩ := kr_2.facts
       have hwq2 := hwq1.trans (hbp2.mono hwq1.size))
    | (go_at_call_of 43 (Value.agg #[.bool c.s, .slice c.N c.ns.length c.nc, .slice c.D c.ds.length c.dc])
       refine (qopposite c.s c.N c.D c.ns.length c.nc c.ds.length c.dc _).mono ?_
       rintro e v4_ ⟨he_, hbu⟩
       subst he_
       have hbp3 : Below v3_.heap.size v3_ v4_ := by first | exact hbu | exact below_of_drew hbu (Nat.le_refl _) | exact ((Below.refl _ _).alloc (Nat.le_refl _) _).trans (hbu.mono (by simp)) | exact ((Below.refl _ _).alloc (Nat.le_refl _) _).trans ((below_of_drew hbu (Nat.le_refl _)).mono (by simp)) | exact below_of_drew (((Below.refl _ _).alloc (Nat.le_refl _) _).trans (hbu.mono (by simp))) (Nat.le_refl _)
       have hna_3 := hna_2.below hbp3
       have hnb_3 := hnb_2.below hbp3
       have hc_3 := hc.below hbp3
       have ka_3 := ka_2.below hbp3
       obtain ⟨ka0v4_, ka1v4_, ka2v4_, ka3v4_, ka4v4_, ka5v4_, ka6v4_⟩ := ka_3.facts
       have kb_3 := kb_2.below hbp3
       obtain ⟨kb0v4_, kb1v4_, kb2v4_, kb3v4_, kb4v4_, kb5v4_, kb6v4_⟩ := kb_3.facts
       have kr_3 := kr_2.below hbp3
       obtain ⟨kr0v4_, kr1v4_, kr2v4_, kr3v4_, kr4v4_, kr5v4_, kr6v4_⟩ := kr_3.facts
       have hwq3 := hwq2.trans (hbp3.mono hwq2.size)))
  all_goals
    go_wp2_with fail
    have hcn : RL.Is v4_ (RL.mk (!c.s && decide (0 < c.ns.length)) c.N c.nc c.ns c.D c.dc c.ds) (-(mkRat ((V32 c.ns : Nat) : Int) (V32 c.ds))) := is_neg hc_3
    refine bodyPost_ret (v := .tuple #[.agg #[.bool (!c.s && decide (0 < c.ns.length)), .slice c.N c.ns.length c.nc, .slice c.D c.ds.length c.dc], .int .i64 0]) (by simp [results, Tryz.results28, go_sem, kr0v4_, kr1v4_, kr2v4_]) rfl ?_
    exact ⟨RL.mk (!c.s && decide (0 < c.ns.length)) c.N c.nc c.ns c.D c.dc c.ds, _, rfl, hcn.put3 kr_3 _ _ _, HB.out _ _ HS.out, by dsimp only; omega, by dsimp only; omega, below_put3 hwq3 (by omega) _ _ _⟩
end Go.Proofs.YtopppmlkddajjaaGreatDoor


/- rat.Simplest, whole. -/
namespace Go.Proofs.YtopppmlkddajjaaGreatDoor
open Go.RowKit V

theorem w64_ : (4294967296 : Nat) ^ 2 = 18446744073709551616 := by decide
theorem simplest_gt (a b : RL) (p q : Rat) (w : World) (ha : a.Is w p) (hb_ : b.Is w q) (l1 : a.ns.length ≤ 2) (l2 : a.ds.length ≤ 2) (l3 : b.ns.length ≤ 2) (l4 : b.ds.length ≤ 2) (h : q.num * p.den < p.num * q.den) :
    Calls Tryz.prog 28 #[.agg #[.bool a.s, .slice a.N a.ns.length a.nc, .slice a.D a.ds.length a.dc], .agg #[.bool b.s, .slice b.N b.ns.length b.nc, .slice b.D b.ds.length b.dc]] w (RatErr 1 w) := by
  refine simp_gt a b p q w ha hb_ l1 l2 l3 l4 _ (Lib.hid rfl) ?_
  rw [← ha.q.num, ← hb_.q.num, ha.q.2.2, hb_.q.2.2]
  unfold cmpOf
  rw [if_neg (by omega), if_pos h]
  omega
theorem simplest_ok (a b : RL) (p q : Rat) (w : World) (ha : a.Is w p) (hb_ : b.Is w q) (l1 : a.ns.length ≤ 2) (l2 : a.ds.length ≤ 2) (l3 : b.ns.length ≤ 2) (l4 : b.ds.length ≤ 2) (h : p.num * q.den ≤ q.num * p.den) :
    Calls Tryz.prog 28 #[.agg #[.bool a.s, .slice a.N a.ns.length a.nc, .slice a.D a.ds.length a.dc], .agg #[.bool b.s, .slice b.N b.ns.length b.nc, .slice b.D b.ds.length b.dc]] w (BestP p q w) := by
  have x1 : V32 a.ns ≤ 18446744073709551615 := by have := V32_lt ha.mn l1; rw [w64_] at this; omega
  have x2 : V32 a.ds ≤ 18446744073709551615 := by have := V32_lt ha.md l2; rw [w64_] at this; omega
  have x3 : V32 b.ns ≤ 18446744073709551615 := by have := V32_lt hb_.mn l3; rw [w64_] at this; omega
  have x4 : V32 b.ds ≤ 18446744073709551615 := by have := V32_lt hb_.md l4; rw [w64_] at this; omega
  have ep := ha.q.num
  have eq := hb_.q.num
  have dp := ha.q.2.2
  have dq := hb_.q.2.2
  have pp := p.den_pos
  have qp := q.den_pos
  have lz : ∀ {xs : List Nat}, Mag xs → (xs.length = 0 ↔ V32 xs = 0) := fun m => len_zero m
  have za := lz ha.mn
  have zb := lz hb_.mn
  have HVx : cmpOf (sgn a.s (V32 a.ns) * V32 b.ds) (sgn b.s (V32 b.ns) * V32 a.ds) = cmpOf (p.num * q.den) (q.num * p.den) := by rw [← ep, ← eq, dp, dq]
  rcases Int.lt_or_eq_of_le h with hlt | he
  · have hv : cmpOf (p.num * q.den) (q.num * p.den) = -1 := by unfold cmpOf; rw [if_pos hlt]
    have HV : Hid (cmpOf (sgn a.s (V32 a.ns) * V32 b.ds) (sgn b.s (V32 b.ns) * V32 a.ds) = -1) := Lib.hid (HVx.trans hv)
    have mulpos : ∀ (x : Int) (d : Nat), 0 < d → 0 < x → 0 < x * (d : Int) := fun x d h1 h2 => Int.mul_pos h2 (by omega)
    have mulneg : ∀ (x : Int) (d : Nat), x ≤ 0 → x * (d : Int) ≤ 0 := fun x d h2 => Int.mul_nonpos_of_nonpos_of_nonneg h2 (by omega)
    by_cases hpos : a.s = false ∧ 0 < a.ns.length
    · obtain ⟨hs, hn⟩ := hpos
      have hvp : 1 ≤ V32 a.ns := by have := (V32_pos_iff ha.mn).1 hn; omega
      have ep2 : p.num = (V32 a.ns : Int) := by rw [ep, hs]; rfl
      have hqp : 0 < q.num := by
        rcases Int.lt_or_le 0 q.num with h1 | h1
        · exact h1
        · have h2 := mulneg q.num p.den h1
          have h3 := mulpos p.num q.den qp (by omega)
          omega
      have hbs : b.s = false := by
        cases hb : b.s with
        | false => rfl
        | true => rw [eq, hb] at hqp; simp only [sgn, if_true] at hqp; omega
      have eq2 : q.num = (V32 b.ns : Int) := by rw [eq, hbs]; rfl
      have hl : V32 a.ns * V32 b.ds < V32 b.ns * V32 a.ds := by
        rw [ep2, eq2, ← dp, ← dq] at hlt
        exact_mod_cast hlt
      refine simp_pos a b p q w ha hb_ l1 l2 l3 l4 (-1) 1 HV (by omega) (Lib.hid ?_) (by omega) (Lib.hid x1) (Lib.hid x2) (Lib.hid x3) (Lib.hid x4) (Lib.hid hvp) (Lib.hid hl) (Lib.hid fun P Q hS => ?_)
      · unfold sgnI; rw [if_neg (by omega), hs]; rfl
      · exact best_pos ep2 dp.symm eq2 dq.symm hvp ha.q.pos hb_.q.pos hl hS
    · have hg : sgnI a.s a.ns.length ≤ 0 := by
        unfold sgnI
        split
        · omega
        · cases hs : a.s with
          | false => exact absurd ⟨hs, by omega⟩ hpos
          | true => rw [if_pos rfl]; omega
      have hpn : p.num ≤ 0 := by
        rw [ep]
        cases hs : a.s with
        | false =>
          have : a.ns.length = 0 := by
            rcases Nat.eq_zero_or_pos a.ns.length with h1 | h1
            · exact h1
            · exact absurd ⟨hs, h1⟩ hpos
          rw [za.1 this]; simp [sgn]
        | true => simp only [sgn, if_true]; omega
      by_cases hneg : b.s = true ∧ 0 < b.ns.length
      · obtain ⟨hbs, hbn⟩ := hneg
        have hvb : 1 ≤ V32 b.ns := by have := (V32_pos_iff hb_.mn).1 hbn; omega
        have eq2 : q.num = -(V32 b.ns : Int) := by rw [eq, hbs]; rfl
        have hpl : p.num < 0 := by
          rcases Int.lt_or_le p.num 0 with h1 | h1
          · exact h1
          · have h2 : p.num = 0 := by omega
            have h3 : q.num * (p.den : Int) < 0 := by
              have := mulpos (-q.num) p.den pp (by omega)
              rw [Int.neg_mul] at this; omega
            rw [h2, Int.zero_mul] at hlt
            omega
        have has : a.s = true := by
          cases hs : a.s with
          | true => rfl
          | false => rw [ep, hs] at hpl; simp only [sgn, Bool.false_eq_true, if_false] at hpl; omega
        have ep2 : p.num = -(V32 a.ns : Int) := by rw [ep, has]; rfl
        have hl : V32 b.ns * V32 a.ds < V32 a.ns * V32 b.ds := by
          rw [ep2, eq2, ← dp, ← dq, Int.neg_mul, Int.neg_mul] at hlt
          have : (V32 b.ns : Int) * (V32 a.ds : Int) < (V32 a.ns : Int) * (V32 b.ds : Int) := by omega
          exact_mod_cast this
        refine simp_neg a b p q w ha hb_ l1 l2 l3 l4 (-1) _ (-1) HV (by omega) (Lib.hid rfl) hg (Lib.hid ?_) (by omega) (Lib.hid has) (Lib.hid hbs) (Lib.hid (by rw [has]; rfl)) (Lib.hid (by rw [hbs]; rfl)) (Lib.hid x1) (Lib.hid x2) (Lib.hid x3) (Lib.hid x4) (Lib.hid hvb) (Lib.hid hl) (Lib.hid fun P Q hS => ?_)
        · unfold sgnI; rw [if_neg (by omega), hbs]; rfl
        · exact best_neg (best_pos (p := -q) (q := -p) (by rw [Rat.neg_num, eq2, Int.neg_neg]) (by rw [Rat.neg_den]; exact dq.symm) (by rw [Rat.neg_num, ep2, Int.neg_neg]) (by rw [Rat.neg_den]; exact dp.symm) hvb hb_.q.pos ha.q.pos hl hS)
      · have hg2 : 0 ≤ sgnI b.s b.ns.length := by
          unfold sgnI
          split
          · omega
          · cases hs : b.s with
            | true => exact absurd ⟨hs, by omega⟩ hneg
            | false => rw [if_neg (by simp)]; omega
        have hqn : 0 ≤ q.num := by
          rw [eq]
          cases hs : b.s with
          | true =>
            have : b.ns.length = 0 := by
              rcases Nat.eq_zero_or_pos b.ns.length with h1 | h1
              · exact h1
              · exact absurd ⟨hs, h1⟩ hneg
            rw [zb.1 this]; simp [sgn]
          | false => simp only [sgn, Bool.false_eq_true, if_false]; omega
        exact simp_zero a b p q w ha hb_ l1 l2 l3 l4 (-1) _ _ HV (by omega) (Lib.hid rfl) hg (Lib.hid rfl) hg2 (Lib.hid (best_zero hpn hqn))
  · have hpq : p = q := by
      have h1 : mkRat p.num p.den = mkRat q.num q.den := by
        rw [Rat.mkRat_eq_iff p.den_nz q.den_nz]; exact he
      rwa [Rat.mkRat_self, Rat.mkRat_self] at h1
    refine simp_eq a b p q w ha hb_ l1 l2 l3 l4 (Lib.hid (HVx.trans ?_)) (Lib.hid (hpq ▸ best_same p))
    unfold cmpOf
    rw [if_neg (by omega), if_neg (by omega)]
end Go.Proofs.YtopppmlkddajjaaGreatDoor


/- isochronelaw02.RatSimplest: words and small contracts for its walk. -/
namespace Go.Proofs.YtopppmlkddajjaaGreatDoor
open Go.RowKit V

/-- A fraction of a number and a small denominator: its parts are small. -/
theorem small_parts {n : Int} {D : Nat} {p : Rat} (h : p = mkRat n D) (hD : 0 < D) : p.den ≤ D ∧ p.num.natAbs ≤ n.natAbs := by
  have h1 : mkRat p.num p.den = mkRat n D := by rw [Rat.mkRat_self]; exact h
  rw [Rat.mkRat_eq_iff p.den_nz (by omega)] at h1
  have h2 : p.num.natAbs * D = n.natAbs * p.den := by
    have := congrArg Int.natAbs h1
    rw [Int.natAbs_mul, Int.natAbs_mul] at this
    simpa using this
  have h3 : p.den ∣ D := Nat.Coprime.dvd_of_dvd_mul_left (Nat.Coprime.symm p.reduced) (by rw [h2]; exact Nat.dvd_mul_left _ _)
  obtain ⟨c, hc⟩ := h3
  have hcp : 0 < c := by
    rcases Nat.eq_zero_or_pos c with h0 | h0
    · rw [h0] at hc; omega
    · exact h0
  refine ⟨Nat.le_of_dvd hD ⟨c, hc⟩, ?_⟩
  have h4 : p.num.natAbs * c = n.natAbs := by
    rw [hc, ← Nat.mul_assoc, Nat.mul_right_comm] at h2
    exact Nat.eq_of_mul_eq_mul_right p.den_pos h2
  rw [← h4]
  exact Nat.le_mul_of_pos_right _ hcp
theorem is_small {w : World} {a : RL} {p : Rat} (ha : a.Is w p) (h1 : p.num.natAbs ≤ 4294967296) (h2 : p.den ≤ 400) : a.ns.length ≤ 2 ∧ a.ds.length ≤ 2 :=
  ⟨short2 ha.mn (by rw [ha.q.2.1]; omega), short2 ha.md (by rw [ha.q.2.2]; omega)⟩
theorem div_int (n : Int) (D : Nat) (hD : 0 < D) : mkRat n 1 / mkRat ((D : Nat) : Int) 1 = mkRat n D := by
  have h1 : (mkRat ((D : Nat) : Int) 1)⁻¹ = mkRat 1 D := by
    apply Rat.inv_eq_of_mul_eq_one
    rw [Rat.mkRat_mul_mkRat]
    have e : (1 : Rat) = mkRat 1 1 := by decide
    rw [e, Rat.mkRat_eq_iff (by omega) (by omega)]
    simp
  rw [Rat.div_def, h1, Rat.mkRat_mul_mkRat]
  simp
theorem mul_k (p : Rat) (k : Nat) : p * mkRat ((k : Nat) : Int) 1 = mkRat (p.num * k) p.den := by
  conv => lhs; rw [← Rat.mkRat_self p]
  rw [Rat.mkRat_mul_mkRat, Nat.mul_one]
theorem ref_int {w : World} {a : RL} {A : Int} (ha : a.Ref w (mkRat A 1)) : sgn a.s (VD a.ns) = A ∧ VD a.ds = 1 := by
  have h1 := ha.q.num
  have h2 := ha.q.2.2
  have e : mkRat A 1 = (A : Rat) := by simp [Rat.mkRat_one]
  rw [e] at h1 h2
  simp at h1 h2
  exact ⟨h1.symm, h2⟩
theorem cmp_ref {w : World} {a b : RL} {A B : Int} (ha : a.Ref w (mkRat A 1)) (hb : b.Ref w (mkRat B 1)) : cmpOf (sgn a.s (VD a.ns) * VD b.ds) (sgn b.s (VD b.ns) * VD a.ds) = cmpOf A B := by
  obtain ⟨h1, h2⟩ := ref_int ha
  obtain ⟨h3, h4⟩ := ref_int hb
  rw [h1, h2, h3, h4]; simp
theorem sign_ref {w : World} {a : RL} {A : Int} (ha : a.Ref w (mkRat A 1)) : sgnI a.s a.ns.length = cmpOf A 0 := by
  rw [sgnI_len ha.mn, sgnI_sgn, (ref_int ha).1]
theorem flo_ref {w : World} {a : RL} {x : Rat} {N : Int} {D : Nat} (ha : a.Ref w x) (hx : x = mkRat N D) (hD : 0 < D) : mkRat (sgn a.s (rnd (VD a.ns) (VD a.ds) a.s)) 1 = mkRat (N / (D : Int)) 1 := by
  have := floor_val (s := a.s) (n := VD a.ns) (d := VD a.ds) (by rw [ha.q.num]; rfl) ha.q.2.2.symm hx hD _ rfl
  rw [← this]; rfl
theorem cmp_pq {w : World} {a b : RL} {p q : Rat} (ha : a.Ref w p) (hb : b.Ref w q) : cmpOf (sgn a.s (VD a.ns) * VD b.ds) (sgn b.s (VD b.ns) * VD a.ds) = cmpOf (p.num * q.den) (q.num * p.den) := by
  rw [← ha.q.num, ← hb.q.num, ha.q.2.2, hb.q.2.2]
theorem is_raw {w : World} {a : RL} {p : Rat} (ha : a.Is w p) : a.Raw w := ⟨ha.rn, ha.rd, ha.cn, ha.cd, ha.mn.1, ha.md.1⟩
theorem lo_ref {w : World} {a : RL} {p : Rat} {k : Nat} (ha : a.Ref w (-(p * mkRat ((k : Nat) : Int) 1))) : mkRat (sgn a.s (rnd (VD a.ns) (VD a.ds) a.s)) 1 = mkRat ((-(p.num * k)) / (p.den : Int)) 1 :=
  flo_ref ha (by rw [mul_k, Rat.neg_mkRat]) p.den_pos
theorem hi_ref {w : World} {a : RL} {p : Rat} {k : Nat} (ha : a.Ref w (p * mkRat ((k : Nat) : Int) 1)) : mkRat (sgn a.s (rnd (VD a.ns) (VD a.ds) a.s)) 1 = mkRat (hiI p k) 1 :=
  flo_ref ha (mul_k p k) p.den_pos
theorem lo_neg (p : Rat) (k : Nat) : -(mkRat ((-(p.num * k)) / (p.den : Int)) 1) = mkRat (loI p k) 1 := by rw [Rat.neg_mkRat]; rfl
theorem vd_int {w : World} {a : RL} {k : Nat} (ha : a.Ref w (mkRat ((k : Nat) : Int) 1)) (hk : 0 < k) : 0 < VD a.ns := by
  have h := (ref_int ha).1
  unfold sgn at h
  split at h <;> omega
end Go.Proofs.YtopppmlkddajjaaGreatDoor

