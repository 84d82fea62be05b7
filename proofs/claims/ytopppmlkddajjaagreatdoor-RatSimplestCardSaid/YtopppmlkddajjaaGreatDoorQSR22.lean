/- rat.order, Cmp. -/
import Derived.Test.YtopppmlkddajjaaGreatDoorQSR21
namespace Go.Proofs.YtopppmlkddajjaaGreatDoor
open Go.RowKit V

theorem sgn_z (s : Bool) : sgn s 0 = 0 := by cases s <;> rfl
theorem ord_diff {s1 s2 : Bool} {n1 d1 n2 d2 l1 l2 : Nat} (h1 : l1 = 0 ↔ n1 = 0) (h2 : l2 = 0 ↔ n2 = 0) (p1 : 0 < d1) (p2 : 0 < d2) (h : sgnI s1 l1 ≠ sgnI s2 l2) : cmpOf (sgnI s1 l1) (sgnI s2 l2) = cmpOf (sgn s1 n1 * d2) (sgn s2 n2 * d1) := by
  have e1 : 0 < n1 → (0 : Int) < ((n1 * d2 : Nat) : Int) := fun h => by have := Nat.mul_pos h p2; omega
  have e2 : 0 < n2 → (0 : Int) < ((n2 * d1 : Nat) : Int) := fun h => by have := Nat.mul_pos h p1; omega
  rw [sgn_mul_nat, sgn_mul_nat]
  rcases Nat.eq_zero_or_pos n1 with z1 | z1
  · have z1' := h1.2 z1
    subst z1 z1'
    rcases Nat.eq_zero_or_pos n2 with z2 | z2
    · have z2' := h2.2 z2
      subst z2 z2'
      exact absurd rfl h
    · have q2 : l2 ≠ 0 := fun hh => by have := h2.1 hh; omega
      have := e2 z2
      cases s2
      · simp only [sgnI, q2, if_true, if_false, Nat.zero_mul, sgn_z]; simp only [sgn]; unfold cmpOf; simp; omega
      · simp only [sgnI, q2, if_true, if_false, Nat.zero_mul, sgn_z]; simp only [sgn]; unfold cmpOf; simp; omega
  · have q1 : l1 ≠ 0 := fun hh => by have := h1.1 hh; omega
    have f1 := e1 z1
    rcases Nat.eq_zero_or_pos n2 with z2 | z2
    · have z2' := h2.2 z2
      subst z2 z2'
      cases s1
      · simp only [sgnI, q1, if_true, if_false, Nat.zero_mul, sgn_z]; simp only [sgn]; unfold cmpOf; simp; omega
      · simp only [sgnI, q1, if_true, if_false, Nat.zero_mul, sgn_z]; simp only [sgn]; unfold cmpOf; simp; omega
    · have q2 : l2 ≠ 0 := fun hh => by have := h2.1 hh; omega
      have f2 := e2 z2
      cases s1 <;> cases s2 <;> simp [sgnI, q1, q2] at h
      · simp only [sgnI, q1, q2, if_false, sgn]; unfold cmpOf; simp; omega
      · simp only [sgnI, q1, q2, if_false, sgn]; unfold cmpOf; simp; omega
theorem ord_same {s : Bool} {x y : Nat} : (if s then -(cmpOf (x : Int) y) else cmpOf (x : Int) y) = cmpOf (sgn s x) (sgn s y) := by
  cases s
  · rfl
  · simp only [sgn, if_true]; unfold cmpOf
    rcases Nat.lt_trichotomy x y with h | h | h
    · rw [if_pos (by omega), if_neg (by omega), if_pos (by omega)]; rfl
    · rw [if_neg (by omega), if_neg (by omega), if_neg (by omega), if_neg (by omega)]; rfl
    · rw [if_neg (by omega), if_pos (by omega), if_pos (by omega)]
theorem sgnI_eq_sign {s1 s2 : Bool} {l1 l2 : Nat} (h : sgnI s1 l1 = sgnI s2 l2) (h1 : l1 = 0 → s1 = false) (h2 : l2 = 0 → s2 = false) : s1 = s2 := by
  unfold sgnI at h
  by_cases z1 : l1 = 0
  · by_cases z2 : l2 = 0
    · rw [h1 z1, h2 z2]
    · rw [if_pos z1, if_neg z2] at h; cases s2 <;> simp at h
  · by_cases z2 : l2 = 0
    · rw [if_neg z1, if_pos z2] at h; cases s1 <;> simp at h
    · rw [if_neg z1, if_neg z2] at h; cases s1 <;> cases s2 <;> simp at h <;> rfl
theorem len_zero {xs : List Nat} (m : Mag xs) : xs.length = 0 ↔ V32 xs = 0 := by
  constructor
  · intro h; rw [List.eq_nil_of_length_eq_zero h]; simp [V32, val]
  · intro h
    rcases Nat.eq_zero_or_pos xs.length with h0 | h0
    · exact h0
    · have := V32_pos m h0; omega
set_option maxRecDepth 100000 in
set_option maxHeartbeats 6400000 in
theorem order_diff (a b : RL) (p q : Rat) (g1 g2 : Int) (hg1 : sgnI a.s a.ns.length = g1) (hg2 : sgnI b.s b.ns.length = g2) (hne : (g1 != g2) = true) (v : Int) (hv : Hid (cmpOf g1 g2 = v)) (w : World) (ha : a.Is w p) (hb_ : b.Is w q) :
    Calls Tryz.prog 49 #[.agg #[.bool a.s, .slice a.N a.ns.length a.nc, .slice a.D a.ds.length a.dc], .agg #[.bool b.s, .slice b.N b.ns.length b.nc, .slice b.D b.ds.length b.dc]] w (Gives (.int .i64 v) w) := by
  have HG1 := Lib.hid hg1
  have HG2 := Lib.hid hg2
  clear hg1 hg2
  have HV := hv
  clear hv
  go_enter Tryz.func49, Tryz.ntmps49
  go_wp2_with fail
  have hbox := box1r w (.bool a.s) (.slice a.N a.ns.length a.nc) (.slice a.D a.ds.length a.dc) (.bool b.s) (.slice b.N b.ns.length b.nc) (.slice b.D b.ds.length b.dc)
  obtain ⟨w1, hwe⟩ : ∃ x, (w.alloc (.cells #[.bool a.s, .slice a.N a.ns.length a.nc, .slice a.D a.ds.length a.dc] 24)).alloc (.cells #[.bool b.s, .slice b.N b.ns.length b.nc, .slice b.D b.ds.length b.dc] 24) = x := ⟨_, rfl⟩
  rw [hwe] at hbox ⊢
  obtain ⟨ka1, kb1, hb1⟩ := hbox
  have HWE := Lib.hid hwe
  clear hwe HWE
  have ha1 := ha.below hb1
  have hb_1 := hb_.below hb1
  have hw1 := hb1
  clear ha hb_ hb1
  obtain ⟨a0, a1, a2, a3, a4, a5, a6⟩ := ka1.facts
  obtain ⟨b0, b1, b2, b3, b4, b5, b6⟩ := kb1.facts
  go_upto_region 1 with fail
  go_cut [10] (fun s10 wx => s10 = .bool true ∧ Below w1.heap.size w1 wx)
  case first =>
    go_region_held3 (fun w' => w'.cell? ⟨w.heap.size, 0, none⟩ = some (.bool a.s) ∧ w'.cell? ⟨w.heap.size, 1, none⟩ = some (.slice a.N a.ns.length a.nc) ∧ w'.cell? ⟨w.heap.size, 2, none⟩ = some (.slice a.D a.ds.length a.dc) ∧ w'.cell? ⟨w.heap.size + 1, 0, none⟩ = some (.bool b.s) ∧ w'.cell? ⟨w.heap.size + 1, 1, none⟩ = some (.slice b.N b.ns.length b.nc) ∧ w'.cell? ⟨w.heap.size + 1, 2, none⟩ = some (.slice b.D b.ds.length b.dc)) (first | exact ⟨‹_›, ‹_›, ‹_›, ‹_›, ‹_›, ‹_›⟩ | go_keep)
      (first
      | (go_at_call_of 45 (Value.agg #[.bool a.s, .slice a.N a.ns.length a.nc, .slice a.D a.ds.length a.dc])
         refine (qsign a.s a.N a.D a.ns.length a.nc a.ds.length a.dc _).mono ?_
         rintro e wx_ ⟨he, hbx⟩
         rw [HG1.out] at he
         subst he
         have hbp0 : Below w1.heap.size w1 wx_ := by first | exact hbx | exact below_of_drew hbx (Nat.le_refl _) | exact ((Below.refl _ _).alloc (Nat.le_refl _) _).trans (hbx.mono (by simp)) | exact ((Below.refl _ _).alloc (Nat.le_refl _) _).trans ((below_of_drew hbx (Nat.le_refl _)).mono (by simp)) | exact below_of_drew (((Below.refl _ _).alloc (Nat.le_refl _) _).trans (hbx.mono (by simp))) (Nat.le_refl _)
         have ha_0 := ha1.below hbp0
         have hb__0 := hb_1.below hbp0
         have ka_0 := ka1.below hbp0
         obtain ⟨ka0wx_, ka1wx_, ka2wx_, ka3wx_, ka4wx_, ka5wx_, ka6wx_⟩ := ka_0.facts
         have kb_0 := kb1.below hbp0
         obtain ⟨kb0wx_, kb1wx_, kb2wx_, kb3wx_, kb4wx_, kb5wx_, kb6wx_⟩ := kb_0.facts
         have hwq0 := hw1.trans (hbp0.mono hw1.size))
      | (go_at_call_of 45 (Value.agg #[.bool b.s, .slice b.N b.ns.length b.nc, .slice b.D b.ds.length b.dc])
         refine (qsign b.s b.N b.D b.ns.length b.nc b.ds.length b.dc _).mono ?_
         rintro e wy_ ⟨he, hby⟩
         rw [HG2.out] at he
         subst he
         have hbp1 : Below wx_.heap.size wx_ wy_ := by first | exact hby | exact below_of_drew hby (Nat.le_refl _) | exact ((Below.refl _ _).alloc (Nat.le_refl _) _).trans (hby.mono (by simp)) | exact ((Below.refl _ _).alloc (Nat.le_refl _) _).trans ((below_of_drew hby (Nat.le_refl _)).mono (by simp)) | exact below_of_drew (((Below.refl _ _).alloc (Nat.le_refl _) _).trans (hby.mono (by simp))) (Nat.le_refl _)
         have ha_1 := ha_0.below hbp1
         have hb__1 := hb__0.below hbp1
         have ka_1 := ka_0.below hbp1
         obtain ⟨ka0wy_, ka1wy_, ka2wy_, ka3wy_, ka4wy_, ka5wy_, ka6wy_⟩ := ka_1.facts
         have kb_1 := kb_0.below hbp1
         obtain ⟨kb0wy_, kb1wy_, kb2wy_, kb3wy_, kb4wy_, kb5wy_, kb6wy_⟩ := kb_1.facts
         have hwq1 := hwq0.trans (hbp1.mono hwq0.size)))
    all_goals
      go_wp2_with fail
      go_meet
      exact ⟨rfl, (hbp0).trans (hbp1.mono (hbp0).size)⟩
  clear a0 a1 a2 a3 a4 a5 a6
  clear b0 b1 b2 b3 b4 b5 b6
  obtain ⟨w2, rfl⟩ : ∃ x, x = wc := ⟨_, rfl⟩
  obtain ⟨rfl, hb2⟩ := hcut
  have ha2 := ha1.below hb2
  have hb_2 := hb_1.below hb2
  have ka2 := ka1.below hb2
  have kb2 := kb1.below hb2
  have hw2 := hw1.trans (hb2.mono hw1.size)
  clear ha1 hb_1 ka1 kb1 hw1 hb2
  obtain ⟨a0, a1, a2, a3, a4, a5, a6⟩ := ka2.facts
  obtain ⟨b0, b1, b2, b3, b4, b5, b6⟩ := kb2.facts
  go_upto_region 2 with fail
  go_region_held3 (fun w' => w'.cell? ⟨w.heap.size, 0, none⟩ = some (.bool a.s) ∧ w'.cell? ⟨w.heap.size, 1, none⟩ = some (.slice a.N a.ns.length a.nc) ∧ w'.cell? ⟨w.heap.size, 2, none⟩ = some (.slice a.D a.ds.length a.dc) ∧ w'.cell? ⟨w.heap.size + 1, 0, none⟩ = some (.bool b.s) ∧ w'.cell? ⟨w.heap.size + 1, 1, none⟩ = some (.slice b.N b.ns.length b.nc) ∧ w'.cell? ⟨w.heap.size + 1, 2, none⟩ = some (.slice b.D b.ds.length b.dc)) (first | exact ⟨‹_›, ‹_›, ‹_›, ‹_›, ‹_›, ‹_›⟩ | go_keep)
    (first
    | (go_at_call_of 45 (Value.agg #[.bool a.s, .slice a.N a.ns.length a.nc, .slice a.D a.ds.length a.dc])
       refine (qsign a.s a.N a.D a.ns.length a.nc a.ds.length a.dc _).mono ?_
       rintro e wx_ ⟨he, hbx⟩
       rw [HG1.out] at he
       subst he
       have hbp0 : Below w2.heap.size w2 wx_ := by first | exact hbx | exact below_of_drew hbx (Nat.le_refl _) | exact ((Below.refl _ _).alloc (Nat.le_refl _) _).trans (hbx.mono (by simp)) | exact ((Below.refl _ _).alloc (Nat.le_refl _) _).trans ((below_of_drew hbx (Nat.le_refl _)).mono (by simp)) | exact below_of_drew (((Below.refl _ _).alloc (Nat.le_refl _) _).trans (hbx.mono (by simp))) (Nat.le_refl _)
       have ha_0 := ha2.below hbp0
       have hb__0 := hb_2.below hbp0
       have ka_0 := ka2.below hbp0
       obtain ⟨ka0wx_, ka1wx_, ka2wx_, ka3wx_, ka4wx_, ka5wx_, ka6wx_⟩ := ka_0.facts
       have kb_0 := kb2.below hbp0
       obtain ⟨kb0wx_, kb1wx_, kb2wx_, kb3wx_, kb4wx_, kb5wx_, kb6wx_⟩ := kb_0.facts
       have hwq0 := hw2.trans (hbp0.mono hw2.size))
    | (go_at_call_of 45 (Value.agg #[.bool b.s, .slice b.N b.ns.length b.nc, .slice b.D b.ds.length b.dc])
       refine (qsign b.s b.N b.D b.ns.length b.nc b.ds.length b.dc _).mono ?_
       rintro e wy_ ⟨he, hby⟩
       rw [HG2.out] at he
       subst he
       have hbp1 : Below wx_.heap.size wx_ wy_ := by first | exact hby | exact below_of_drew hby (Nat.le_refl _) | exact ((Below.refl _ _).alloc (Nat.le_refl _) _).trans (hby.mono (by simp)) | exact ((Below.refl _ _).alloc (Nat.le_refl _) _).trans ((below_of_drew hby (Nat.le_refl _)).mono (by simp)) | exact below_of_drew (((Below.refl _ _).alloc (Nat.le_refl _) _).trans (hby.mono (by simp))) (Nat.le_refl _)
       have ha_1 := ha_0.below hbp1
       have hb__1 := hb__0.below hbp1
       have ka_1 := ka_0.below hbp1
       obtain ⟨ka0wy_, ka1wy_, ka2wy_, ka3wy_, ka4wy_, ka5wy_, ka6wy_⟩ := ka_1.facts
       have kb_1 := kb_0.below hbp1
       obtain ⟨kb0wy_, kb1wy_, kb2wy_, kb3wy_, kb4wy_, kb5wy_, kb6wy_⟩ := kb_1.facts
       have hwq1 := hwq0.trans (hbp1.mono hwq0.size))
    | (go_at_call 82
       refine (cmp_int g1 g2 _).mono ?_
       rintro e wz_ ⟨rfl, hwe⟩
       have hbz : Below wy_.heap.size wy_ wz_ := by rw [← hwe]; exact Below.refl _ _
       have hbp2 : Below wy_.heap.size wy_ wz_ := by first | exact hbz | exact below_of_drew hbz (Nat.le_refl _) | exact ((Below.refl _ _).alloc (Nat.le_refl _) _).trans (hbz.mono (by simp)) | exact ((Below.refl _ _).alloc (Nat.le_refl _) _).trans ((below_of_drew hbz (Nat.le_refl _)).mono (by simp)) | exact below_of_drew (((Below.refl _ _).alloc (Nat.le_refl _) _).trans (hbz.mono (by simp))) (Nat.le_refl _)
       have ha_2 := ha_1.below hbp2
       have hb__2 := hb__1.below hbp2
       have ka_2 := ka_1.below hbp2
       obtain ⟨ka0wz_, ka1wz_, ka2wz_, ka3wz_, ka4wz_, ka5wz_, ka6wz_⟩ := ka_2.facts
       have kb_2 := kb_1.below hbp2
       obtain ⟨kb0wz_, kb1wz_, kb2wz_, kb3wz_, kb4wz_, kb5wz_, kb6wz_⟩ := kb_2.facts
       have hwq2 := hwq1.trans (hbp2.mono hwq1.size)))
  all_goals
    go_wp2_with fail
    go_ret
    exact ⟨ret_int HV.out, hwq2⟩
set_option maxRecDepth 100000 in
set_option maxHeartbeats 6400000 in
theorem order_samef (a b : RL) (p q : Rat) (g : Int) (hsa : a.s = false) (hg1 : sgnI a.s a.ns.length = g) (hg2 : sgnI b.s b.ns.length = g) (v : Int) (hv : Hid (cmpOf ((V32 a.ns * V32 b.ds : Nat) : Int) ((V32 b.ns * V32 a.ds : Nat) : Int) = v)) (bl : a.ns.length + a.ds.length + b.ns.length + b.ds.length ≤ 2000) (w : World) (ha : a.Is w p) (hb_ : b.Is w q) :
    Calls Tryz.prog 49 #[.agg #[.bool false, .slice a.N a.ns.length a.nc, .slice a.D a.ds.length a.dc], .agg #[.bool b.s, .slice b.N b.ns.length b.nc, .slice b.D b.ds.length b.dc]] w (Gives (.int .i64 v) w) := by
  have HS := Lib.hid hsa
  rw [hsa] at hg1
  clear hsa
  have HG1 := Lib.hid hg1
  have HG2 := Lib.hid hg2
  clear hg1 hg2
  have HV := hv
  clear hv
  go_enter Tryz.func49, Tryz.ntmps49
  go_wp2_with fail
  have hbox := box1r w (.bool false) (.slice a.N a.ns.length a.nc) (.slice a.D a.ds.length a.dc) (.bool b.s) (.slice b.N b.ns.length b.nc) (.slice b.D b.ds.length b.dc)
  obtain ⟨w1, hwe⟩ : ∃ x, (w.alloc (.cells #[.bool false, .slice a.N a.ns.length a.nc, .slice a.D a.ds.length a.dc] 24)).alloc (.cells #[.bool b.s, .slice b.N b.ns.length b.nc, .slice b.D b.ds.length b.dc] 24) = x := ⟨_, rfl⟩
  rw [hwe] at hbox ⊢
  obtain ⟨ka1, kb1, hb1⟩ := hbox
  have HWE := Lib.hid hwe
  clear hwe HWE
  have ha1 := ha.below hb1
  have hb_1 := hb_.below hb1
  have hw1 := hb1
  clear ha hb_ hb1
  obtain ⟨a0, a1, a2, a3, a4, a5, a6⟩ := ka1.facts
  obtain ⟨b0, b1, b2, b3, b4, b5, b6⟩ := kb1.facts
  go_upto_region 1 with fail
  go_cut [10] (fun s10 wx => s10 = .bool false ∧ Below w1.heap.size w1 wx)
  case first =>
    go_region_held3 (fun w' => w'.cell? ⟨w.heap.size, 0, none⟩ = some (.bool false) ∧ w'.cell? ⟨w.heap.size, 1, none⟩ = some (.slice a.N a.ns.length a.nc) ∧ w'.cell? ⟨w.heap.size, 2, none⟩ = some (.slice a.D a.ds.length a.dc) ∧ w'.cell? ⟨w.heap.size + 1, 0, none⟩ = some (.bool b.s) ∧ w'.cell? ⟨w.heap.size + 1, 1, none⟩ = some (.slice b.N b.ns.length b.nc) ∧ w'.cell? ⟨w.heap.size + 1, 2, none⟩ = some (.slice b.D b.ds.length b.dc)) (first | exact ⟨‹_›, ‹_›, ‹_›, ‹_›, ‹_›, ‹_›⟩ | go_keep)
      (first
      | (go_at_call_of 45 (Value.agg #[.bool false, .slice a.N a.ns.length a.nc, .slice a.D a.ds.length a.dc])
         refine (qsign false a.N a.D a.ns.length a.nc a.ds.length a.dc _).mono ?_
         rintro e wx_ ⟨he, hbx⟩
         rw [HG1.out] at he
         subst he
         have hbp0 : Below w1.heap.size w1 wx_ := by first | exact hbx | exact below_of_drew hbx (Nat.le_refl _) | exact ((Below.refl _ _).alloc (Nat.le_refl _) _).trans (hbx.mono (by simp)) | exact ((Below.refl _ _).alloc (Nat.le_refl _) _).trans ((below_of_drew hbx (Nat.le_refl _)).mono (by simp)) | exact below_of_drew (((Below.refl _ _).alloc (Nat.le_refl _) _).trans (hbx.mono (by simp))) (Nat.le_refl _)
         have ha_0 := ha1.below hbp0
         have hb__0 := hb_1.below hbp0
         have ka_0 := ka1.below hbp0
         obtain ⟨ka0wx_, ka1wx_, ka2wx_, ka3wx_, ka4wx_, ka5wx_, ka6wx_⟩ := ka_0.facts
         have kb_0 := kb1.below hbp0
         obtain ⟨kb0wx_, kb1wx_, kb2wx_, kb3wx_, kb4wx_, kb5wx_, kb6wx_⟩ := kb_0.facts
         have hwq0 := hw1.trans (hbp0.mono hw1.size))
      | (go_at_call_of 45 (Value.agg #[.bool b.s, .slice b.N b.ns.length b.nc, .slice b.D b.ds.length b.dc])
         refine (qsign b.s b.N b.D b.ns.length b.nc b.ds.length b.dc _).mono ?_
         rintro e wy_ ⟨he, hby⟩
         rw [HG2.out] at he
         subst he
         have hbp1 : Below wx_.heap.size wx_ wy_ := by first | exact hby | exact below_of_drew hby (Nat.le_refl _) | exact ((Below.refl _ _).alloc (Nat.le_refl _) _).trans (hby.mono (by simp)) | exact ((Below.refl _ _).alloc (Nat.le_refl _) _).trans ((below_of_drew hby (Nat.le_refl _)).mono (by simp)) | exact below_of_drew (((Below.refl _ _).alloc (Nat.le_refl _) _).trans (hby.mono (by simp))) (Nat.le_refl _)
         have ha_1 := ha_0.below hbp1
         have hb__1 := hb__0.below hbp1
         have ka_1 := ka_0.below hbp1
         obtain ⟨ka0wy_, ka1wy_, ka2wy_, ka3wy_, ka4wy_, ka5wy_, ka6wy_⟩ := ka_1.facts
         have kb_1 := kb_0.below hbp1
         obtain ⟨kb0wy_, kb1wy_, kb2wy_, kb3wy_, kb4wy_, kb5wy_, kb6wy_⟩ := kb_1.facts
         have hwq1 := hwq0.trans (hbp1.mono hwq0.size)))
    all_goals
      go_wp2_with fail
      go_meet
      exact ⟨rfl, (hbp0).trans (hbp1.mono (hbp0).size)⟩
  clear a0 a1 a2 a3 a4 a5 a6
  clear b0 b1 b2 b3 b4 b5 b6
  obtain ⟨w2, rfl⟩ : ∃ x, x = wc := ⟨_, rfl⟩
  obtain ⟨rfl, hb2⟩ := hcut
  have ha2 := ha1.below hb2
  have hb_2 := hb_1.below hb2
  have ka2 := ka1.below hb2
  have kb2 := kb1.below hb2
  have hw2 := hw1.trans (hb2.mono hw1.size)
  clear ha1 hb_1 ka1 kb1 hw1 hb2
  have hna2 := ha2.rn
  have hda2 := ha2.rd
  have hnb2 := hb_2.rn
  have hdb2 := hb_2.rd
  have mna := ha2.mn
  have mda := ha2.md
  have mnb := hb_2.mn
  have mdb := hb_2.md
  clear ha2 hb_2
  obtain ⟨a0, a1, a2, a3, a4, a5, a6⟩ := ka2.facts
  obtain ⟨b0, b1, b2, b3, b4, b5, b6⟩ := kb2.facts
  go_upto_region 3 with fail
  go_cut [5] (fun s5 wx => s5 = .int .i64 v ∧ Below w2.heap.size w2 wx)
  case first =>
    go_region_held3 (fun w' => w'.cell? ⟨w.heap.size, 0, none⟩ = some (.bool false) ∧ w'.cell? ⟨w.heap.size, 1, none⟩ = some (.slice a.N a.ns.length a.nc) ∧ w'.cell? ⟨w.heap.size, 2, none⟩ = some (.slice a.D a.ds.length a.dc) ∧ w'.cell? ⟨w.heap.size + 1, 0, none⟩ = some (.bool b.s) ∧ w'.cell? ⟨w.heap.size + 1, 1, none⟩ = some (.slice b.N b.ns.length b.nc) ∧ w'.cell? ⟨w.heap.size + 1, 2, none⟩ = some (.slice b.D b.ds.length b.dc)) (first | exact ⟨‹_›, ‹_›, ‹_›, ‹_›, ‹_›, ‹_›⟩ | go_keep)
      (first
      | (go_at_call_of 77 (Value.slice a.N a.ns.length a.nc)
         refine (qtimes a.N b.D a.nc b.dc a.ns b.ds _ (by first | exact hna2 | exact hna2.drew | exact hna2.alloc _ | exact (hna2.alloc _).drew | exact hna2.drew.alloc _) (by first | exact hdb2 | exact hdb2.drew | exact hdb2.alloc _ | exact (hdb2.alloc _).drew | exact hdb2.drew.alloc _) (by omega) mna mdb).mono ?_
         rintro e wx_ ⟨G, gc, gl, rfl, hgc, hG, hbx, hvg, mg, hgl⟩
         have HVG := Lib.hid hvg
         clear hvg
         have hbp0 : Below w2.heap.size w2 wx_ := by first | exact hbx | exact below_of_drew hbx (Nat.le_refl _) | exact ((Below.refl _ _).alloc (Nat.le_refl _) _).trans (hbx.mono (by simp)) | exact ((Below.refl _ _).alloc (Nat.le_refl _) _).trans ((below_of_drew hbx (Nat.le_refl _)).mono (by simp)) | exact below_of_drew (((Below.refl _ _).alloc (Nat.le_refl _) _).trans (hbx.mono (by simp))) (Nat.le_refl _)
         have hna_0 := hna2.below hbp0
         have hda_0 := hda2.below hbp0
         have hnb_0 := hnb2.below hbp0
         have hdb_0 := hdb2.below hbp0
         have ka_0 := ka2.below hbp0
         obtain ⟨ka0wx_, ka1wx_, ka2wx_, ka3wx_, ka4wx_, ka5wx_, ka6wx_⟩ := ka_0.facts
         have kb_0 := kb2.below hbp0
         obtain ⟨kb0wx_, kb1wx_, kb2wx_, kb3wx_, kb4wx_, kb5wx_, kb6wx_⟩ := kb_0.facts
         have hwq0 := hw2.trans (hbp0.mono hw2.size))
      | (go_at_call_of 77 (Value.slice b.N b.ns.length b.nc)
         refine (qtimes b.N a.D b.nc a.dc b.ns a.ds _ (by first | exact hnb_0 | exact hnb_0.drew | exact hnb_0.alloc _ | exact (hnb_0.alloc _).drew | exact hnb_0.drew.alloc _) (by first | exact hda_0 | exact hda_0.drew | exact hda_0.alloc _ | exact (hda_0.alloc _).drew | exact hda_0.drew.alloc _) (by omega) mnb mda).mono ?_
         rintro e wy_ ⟨H, hc, hl, rfl, hhc, hH, hby, hvh, mh, hhl⟩
         have HVH := Lib.hid hvh
         clear hvh
         have hbp1 : Below wx_.heap.size wx_ wy_ := by first | exact hby | exact below_of_drew hby (Nat.le_refl _) | exact ((Below.refl _ _).alloc (Nat.le_refl _) _).trans (hby.mono (by simp)) | exact ((Below.refl _ _).alloc (Nat.le_refl _) _).trans ((below_of_drew hby (Nat.le_refl _)).mono (by simp)) | exact below_of_drew (((Below.refl _ _).alloc (Nat.le_refl _) _).trans (hby.mono (by simp))) (Nat.le_refl _)
         have hna_1 := hna_0.below hbp1
         have hda_1 := hda_0.below hbp1
         have hnb_1 := hnb_0.below hbp1
         have hdb_1 := hdb_0.below hbp1
         have hG_1 := hG.below hbp1
         have ka_1 := ka_0.below hbp1
         obtain ⟨ka0wy_, ka1wy_, ka2wy_, ka3wy_, ka4wy_, ka5wy_, ka6wy_⟩ := ka_1.facts
         have kb_1 := kb_0.below hbp1
         obtain ⟨kb0wy_, kb1wy_, kb2wy_, kb3wy_, kb4wy_, kb5wy_, kb6wy_⟩ := kb_1.facts
         have hwq1 := hwq0.trans (hbp1.mono hwq0.size))
      | (go_at_call 83
         refine (qcompare G H gc hc gl hl _ (by first | exact hG_1 | exact hG_1.drew | exact hG_1.alloc _ | exact (hG_1.alloc _).drew | exact hG_1.drew.alloc _) (by first | exact hH | exact hH.drew | exact hH.alloc _ | exact (hH.alloc _).drew | exact hH.drew.alloc _) (by omega) mg mh).mono ?_
         rintro e wz_ ⟨he, hbz⟩
         rw [HVG.out, HVH.out, HV.out] at he
         subst he
         have hbp2 : Below wy_.heap.size wy_ wz_ := by first | exact hbz | exact below_of_drew hbz (Nat.le_refl _) | exact ((Below.refl _ _).alloc (Nat.le_refl _) _).trans (hbz.mono (by simp)) | exact ((Below.refl _ _).alloc (Nat.le_refl _) _).trans ((below_of_drew hbz (Nat.le_refl _)).mono (by simp)) | exact below_of_drew (((Below.refl _ _).alloc (Nat.le_refl _) _).trans (hbz.mono (by simp))) (Nat.le_refl _)
         have hna_2 := hna_1.below hbp2
         have hda_2 := hda_1.below hbp2
         have hnb_2 := hnb_1.below hbp2
         have hdb_2 := hdb_1.below hbp2
         have hG_2 := hG_1.below hbp2
         have hH_2 := hH.below hbp2
         have ka_2 := ka_1.below hbp2
         obtain ⟨ka0wz_, ka1wz_, ka2wz_, ka3wz_, ka4wz_, ka5wz_, ka6wz_⟩ := ka_2.facts
         have kb_2 := kb_1.below hbp2
         obtain ⟨kb0wz_, kb1wz_, kb2wz_, kb3wz_, kb4wz_, kb5wz_, kb6wz_⟩ := kb_2.facts
         have hwq2 := hwq1.trans (hbp2.mono hwq1.size)))
    all_goals
      go_wp2_with fail
      go_meet
      exact ⟨rfl, ((hbp0.trans (hbp1.mono hbp0.size)).trans (hbp2.mono (hbp0.trans (hbp1.mono hbp0.size)).size))⟩
  clear a0 a1 a2 a3 a4 a5 a6
  clear b0 b1 b2 b3 b4 b5 b6
  obtain ⟨w3, rfl⟩ : ∃ x, x = wc := ⟨_, rfl⟩
  obtain ⟨rfl, hb3⟩ := hcut
  have ka3 := ka2.below hb3
  have kb3 := kb2.below hb3
  have hna3 := hna2.below hb3
  have hda3 := hda2.below hb3
  have hnb3 := hnb2.below hb3
  have hdb3 := hdb2.below hb3
  have hw3 := hw2.trans (hb3.mono hw2.size)
  clear ka2 kb2 hna2 hda2 hnb2 hdb2 hw2 hb3
  obtain ⟨a0, a1, a2, a3, a4, a5, a6⟩ := ka3.facts
  go_wp2_with fail
  go_ret
  exact ⟨rfl, hw3⟩
set_option maxRecDepth 100000 in
set_option maxHeartbeats 6400000 in
theorem order_samet (a b : RL) (p q : Rat) (g : Int) (hsa : a.s = true) (hg1 : sgnI a.s a.ns.length = g) (hg2 : sgnI b.s b.ns.length = g) (v : Int) (hvb : -1 ≤ v ∧ v ≤ 1) (hv : Hid (cmpOf ((V32 a.ns * V32 b.ds : Nat) : Int) ((V32 b.ns * V32 a.ds : Nat) : Int) = v)) (bl : a.ns.length + a.ds.length + b.ns.length + b.ds.length ≤ 2000) (w : World) (ha : a.Is w p) (hb_ : b.Is w q) :
    Calls Tryz.prog 49 #[.agg #[.bool true, .slice a.N a.ns.length a.nc, .slice a.D a.ds.length a.dc], .agg #[.bool b.s, .slice b.N b.ns.length b.nc, .slice b.D b.ds.length b.dc]] w (Gives (.int .i64 (-v)) w) := by
  have HS := Lib.hid hsa
  rw [hsa] at hg1
  clear hsa
  have HG1 := Lib.hid hg1
  have HG2 := Lib.hid hg2
  clear hg1 hg2
  have HV := hv
  clear hv
  go_enter Tryz.func49, Tryz.ntmps49
  go_wp2_with fail
  have hbox := box1r w (.bool true) (.slice a.N a.ns.length a.nc) (.slice a.D a.ds.length a.dc) (.bool b.s) (.slice b.N b.ns.length b.nc) (.slice b.D b.ds.length b.dc)
  obtain ⟨w1, hwe⟩ : ∃ x, (w.alloc (.cells #[.bool true, .slice a.N a.ns.length a.nc, .slice a.D a.ds.length a.dc] 24)).alloc (.cells #[.bool b.s, .slice b.N b.ns.length b.nc, .slice b.D b.ds.length b.dc] 24) = x := ⟨_, rfl⟩
  rw [hwe] at hbox ⊢
  obtain ⟨ka1, kb1, hb1⟩ := hbox
  have HWE := Lib.hid hwe
  clear hwe HWE
  have ha1 := ha.below hb1
  have hb_1 := hb_.below hb1
  have hw1 := hb1
  clear ha hb_ hb1
  obtain ⟨a0, a1, a2, a3, a4, a5, a6⟩ := ka1.facts
  obtain ⟨b0, b1, b2, b3, b4, b5, b6⟩ := kb1.facts
  go_upto_region 1 with fail
  go_cut [10] (fun s10 wx => s10 = .bool false ∧ Below w1.heap.size w1 wx)
  case first =>
    go_region_held3 (fun w' => w'.cell? ⟨w.heap.size, 0, none⟩ = some (.bool true) ∧ w'.cell? ⟨w.heap.size, 1, none⟩ = some (.slice a.N a.ns.length a.nc) ∧ w'.cell? ⟨w.heap.size, 2, none⟩ = some (.slice a.D a.ds.length a.dc) ∧ w'.cell? ⟨w.heap.size + 1, 0, none⟩ = some (.bool b.s) ∧ w'.cell? ⟨w.heap.size + 1, 1, none⟩ = some (.slice b.N b.ns.length b.nc) ∧ w'.cell? ⟨w.heap.size + 1, 2, none⟩ = some (.slice b.D b.ds.length b.dc)) (first | exact ⟨‹_›, ‹_›, ‹_›, ‹_›, ‹_›, ‹_›⟩ | go_keep)
      (first
      | (go_at_call_of 45 (Value.agg #[.bool true, .slice a.N a.ns.length a.nc, .slice a.D a.ds.length a.dc])
         refine (qsign true a.N a.D a.ns.length a.nc a.ds.length a.dc _).mono ?_
         rintro e wx_ ⟨he, hbx⟩
         rw [HG1.out] at he
         subst he
         have hbp0 : Below w1.heap.size w1 wx_ := by first | exact hbx | exact below_of_drew hbx (Nat.le_refl _) | exact ((Below.refl _ _).alloc (Nat.le_refl _) _).trans (hbx.mono (by simp)) | exact ((Below.refl _ _).alloc (Nat.le_refl _) _).trans ((below_of_drew hbx (Nat.le_refl _)).mono (by simp)) | exact below_of_drew (((Below.refl _ _).alloc (Nat.le_refl _) _).trans (hbx.mono (by simp))) (Nat.le_refl _)
         have ha_0 := ha1.below hbp0
         have hb__0 := hb_1.below hbp0
         have ka_0 := ka1.below hbp0
         obtain ⟨ka0wx_, ka1wx_, ka2wx_, ka3wx_, ka4wx_, ka5wx_, ka6wx_⟩ := ka_0.facts
         have kb_0 := kb1.below hbp0
         obtain ⟨kb0wx_, kb1wx_, kb2wx_, kb3wx_, kb4wx_, kb5wx_, kb6wx_⟩ := kb_0.facts
         have hwq0 := hw1.trans (hbp0.mono hw1.size))
      | (go_at_call_of 45 (Value.agg #[.bool b.s, .slice b.N b.ns.length b.nc, .slice b.D b.ds.length b.dc])
         refine (qsign b.s b.N b.D b.ns.length b.nc b.ds.length b.dc _).mono ?_
         rintro e wy_ ⟨he, hby⟩
         rw [HG2.out] at he
         subst he
         have hbp1 : Below wx_.heap.size wx_ wy_ := by first | exact hby | exact below_of_drew hby (Nat.le_refl _) | exact ((Below.refl _ _).alloc (Nat.le_refl _) _).trans (hby.mono (by simp)) | exact ((Below.refl _ _).alloc (Nat.le_refl _) _).trans ((below_of_drew hby (Nat.le_refl _)).mono (by simp)) | exact below_of_drew (((Below.refl _ _).alloc (Nat.le_refl _) _).trans (hby.mono (by simp))) (Nat.le_refl _)
         have ha_1 := ha_0.below hbp1
         have hb__1 := hb__0.below hbp1
         have ka_1 := ka_0.below hbp1
         obtain ⟨ka0wy_, ka1wy_, ka2wy_, ka3wy_, ka4wy_, ka5wy_, ka6wy_⟩ := ka_1.facts
         have kb_1 := kb_0.below hbp1
         obtain ⟨kb0wy_, kb1wy_, kb2wy_, kb3wy_, kb4wy_, kb5wy_, kb6wy_⟩ := kb_1.facts
         have hwq1 := hwq0.trans (hbp1.mono hwq0.size)))
    all_goals
      go_wp2_with fail
      go_meet
      exact ⟨rfl, (hbp0).trans (hbp1.mono (hbp0).size)⟩
  clear a0 a1 a2 a3 a4 a5 a6
  clear b0 b1 b2 b3 b4 b5 b6
  obtain ⟨w2, rfl⟩ : ∃ x, x = wc := ⟨_, rfl⟩
  obtain ⟨rfl, hb2⟩ := hcut
  have ha2 := ha1.below hb2
  have hb_2 := hb_1.below hb2
  have ka2 := ka1.below hb2
  have kb2 := kb1.below hb2
  have hw2 := hw1.trans (hb2.mono hw1.size)
  clear ha1 hb_1 ka1 kb1 hw1 hb2
  have hna2 := ha2.rn
  have hda2 := ha2.rd
  have hnb2 := hb_2.rn
  have hdb2 := hb_2.rd
  have mna := ha2.mn
  have mda := ha2.md
  have mnb := hb_2.mn
  have mdb := hb_2.md
  clear ha2 hb_2
  obtain ⟨a0, a1, a2, a3, a4, a5, a6⟩ := ka2.facts
  obtain ⟨b0, b1, b2, b3, b4, b5, b6⟩ := kb2.facts
  go_upto_region 3 with fail
  go_cut [5] (fun s5 wx => s5 = .int .i64 v ∧ Below w2.heap.size w2 wx)
  case first =>
    go_region_held3 (fun w' => w'.cell? ⟨w.heap.size, 0, none⟩ = some (.bool true) ∧ w'.cell? ⟨w.heap.size, 1, none⟩ = some (.slice a.N a.ns.length a.nc) ∧ w'.cell? ⟨w.heap.size, 2, none⟩ = some (.slice a.D a.ds.length a.dc) ∧ w'.cell? ⟨w.heap.size + 1, 0, none⟩ = some (.bool b.s) ∧ w'.cell? ⟨w.heap.size + 1, 1, none⟩ = some (.slice b.N b.ns.length b.nc) ∧ w'.cell? ⟨w.heap.size + 1, 2, none⟩ = some (.slice b.D b.ds.length b.dc)) (first | exact ⟨‹_›, ‹_›, ‹_›, ‹_›, ‹_›, ‹_›⟩ | go_keep)
      (first
      | (go_at_call_of 77 (Value.slice a.N a.ns.length a.nc)
         refine (qtimes a.N b.D a.nc b.dc a.ns b.ds _ (by first | exact hna2 | exact hna2.drew | exact hna2.alloc _ | exact (hna2.alloc _).drew | exact hna2.drew.alloc _) (by first | exact hdb2 | exact hdb2.drew | exact hdb2.alloc _ | exact (hdb2.alloc _).drew | exact hdb2.drew.alloc _) (by omega) mna mdb).mono ?_
         rintro e wx_ ⟨G, gc, gl, rfl, hgc, hG, hbx, hvg, mg, hgl⟩
         have HVG := Lib.hid hvg
         clear hvg
         have hbp0 : Below w2.heap.size w2 wx_ := by first | exact hbx | exact below_of_drew hbx (Nat.le_refl _) | exact ((Below.refl _ _).alloc (Nat.le_refl _) _).trans (hbx.mono (by simp)) | exact ((Below.refl _ _).alloc (Nat.le_refl _) _).trans ((below_of_drew hbx (Nat.le_refl _)).mono (by simp)) | exact below_of_drew (((Below.refl _ _).alloc (Nat.le_refl _) _).trans (hbx.mono (by simp))) (Nat.le_refl _)
         have hna_0 := hna2.below hbp0
         have hda_0 := hda2.below hbp0
         have hnb_0 := hnb2.below hbp0
         have hdb_0 := hdb2.below hbp0
         have ka_0 := ka2.below hbp0
         obtain ⟨ka0wx_, ka1wx_, ka2wx_, ka3wx_, ka4wx_, ka5wx_, ka6wx_⟩ := ka_0.facts
         have kb_0 := kb2.below hbp0
         obtain ⟨kb0wx_, kb1wx_, kb2wx_, kb3wx_, kb4wx_, kb5wx_, kb6wx_⟩ := kb_0.facts
         have hwq0 := hw2.trans (hbp0.mono hw2.size))
      | (go_at_call_of 77 (Value.slice b.N b.ns.length b.nc)
         refine (qtimes b.N a.D b.nc a.dc b.ns a.ds _ (by first | exact hnb_0 | exact hnb_0.drew | exact hnb_0.alloc _ | exact (hnb_0.alloc _).drew | exact hnb_0.drew.alloc _) (by first | exact hda_0 | exact hda_0.drew | exact hda_0.alloc _ | exact (hda_0.alloc _).drew | exact hda_0.drew.alloc _) (by omega) mnb mda).mono ?_
         rintro e wy_ ⟨H, hc, hl, rfl, hhc, hH, hby, hvh, mh, hhl⟩
         have HVH := Lib.hid hvh
         clear hvh
         have hbp1 : Below wx_.heap.size wx_ wy_ := by first | exact hby | exact below_of_drew hby (Nat.le_refl _) | exact ((Below.refl _ _).alloc (Nat.le_refl _) _).trans (hby.mono (by simp)) | exact ((Below.refl _ _).alloc (Nat.le_refl _) _).trans ((below_of_drew hby (Nat.le_refl _)).mono (by simp)) | exact below_of_drew (((Below.refl _ _).alloc (Nat.le_refl _) _).trans (hby.mono (by simp))) (Nat.le_refl _)
         have hna_1 := hna_0.below hbp1
         have hda_1 := hda_0.below hbp1
         have hnb_1 := hnb_0.below hbp1
         have hdb_1 := hdb_0.below hbp1
         have hG_1 := hG.below hbp1
         have ka_1 := ka_0.below hbp1
         obtain ⟨ka0wy_, ka1wy_, ka2wy_, ka3wy_, ka4wy_, ka5wy_, ka6wy_⟩ := ka_1.facts
         have kb_1 := kb_0.below hbp1
         obtain ⟨kb0wy_, kb1wy_, kb2wy_, kb3wy_, kb4wy_, kb5wy_, kb6wy_⟩ := kb_1.facts
         have hwq1 := hwq0.trans (hbp1.mono hwq0.size))
      | (go_at_call 83
         refine (qcompare G H gc hc gl hl _ (by first | exact hG_1 | exact hG_1.drew | exact hG_1.alloc _ | exact (hG_1.alloc _).drew | exact hG_1.drew.alloc _) (by first | exact hH | exact hH.drew | exact hH.alloc _ | exact (hH.alloc _).drew | exact hH.drew.alloc _) (by omega) mg mh).mono ?_
         rintro e wz_ ⟨he, hbz⟩
         rw [HVG.out, HVH.out, HV.out] at he
         subst he
         have hbp2 : Below wy_.heap.size wy_ wz_ := by first | exact hbz | exact below_of_drew hbz (Nat.le_refl _) | exact ((Below.refl _ _).alloc (Nat.le_refl _) _).trans (hbz.mono (by simp)) | exact ((Below.refl _ _).alloc (Nat.le_refl _) _).trans ((below_of_drew hbz (Nat.le_refl _)).mono (by simp)) | exact below_of_drew (((Below.refl _ _).alloc (Nat.le_refl _) _).trans (hbz.mono (by simp))) (Nat.le_refl _)
         have hna_2 := hna_1.below hbp2
         have hda_2 := hda_1.below hbp2
         have hnb_2 := hnb_1.below hbp2
         have hdb_2 := hdb_1.below hbp2
         have hG_2 := hG_1.below hbp2
         have hH_2 := hH.below hbp2
         have ka_2 := ka_1.below hbp2
         obtain ⟨ka0wz_, ka1wz_, ka2wz_, ka3wz_, ka4wz_, ka5wz_, ka6wz_⟩ := ka_2.facts
         have kb_2 := kb_1.below hbp2
         obtain ⟨kb0wz_, kb1wz_, kb2wz_, kb3wz_, kb4wz_, kb5wz_, kb6wz_⟩ := kb_2.facts
         have hwq2 := hwq1.trans (hbp2.mono hwq1.size)))
    all_goals
      go_wp2_with fail
      go_meet
      exact ⟨rfl, ((hbp0.trans (hbp1.mono hbp0.size)).trans (hbp2.mono (hbp0.trans (hbp1.mono hbp0.size)).size))⟩
  clear a0 a1 a2 a3 a4 a5 a6
  clear b0 b1 b2 b3 b4 b5 b6
  obtain ⟨w3, rfl⟩ : ∃ x, x = wc := ⟨_, rfl⟩
  obtain ⟨rfl, hb3⟩ := hcut
  have ka3 := ka2.below hb3
  have kb3 := kb2.below hb3
  have hna3 := hna2.below hb3
  have hda3 := hda2.below hb3
  have hnb3 := hnb2.below hb3
  have hdb3 := hdb2.below hb3
  have hw3 := hw2.trans (hb3.mono hw2.size)
  clear ka2 kb2 hna2 hda2 hnb2 hdb2 hw2 hb3
  obtain ⟨a0, a1, a2, a3, a4, a5, a6⟩ := ka3.facts
  go_wp2_with fail
  go_ret
  exact ⟨rfl, hw3⟩
theorem cmpOf_bound (x y : Int) : -1 ≤ cmpOf x y ∧ cmpOf x y ≤ 1 := by
  unfold cmpOf
  split
  · omega
  · split <;> omega
theorem order_of (a b : RL) (p q : Rat) (w : World) (ha : a.Is w p) (hb_ : b.Is w q) (bl : a.ns.length + a.ds.length + b.ns.length + b.ds.length ≤ 2000) :
    Calls Tryz.prog 49 #[.agg #[.bool a.s, .slice a.N a.ns.length a.nc, .slice a.D a.ds.length a.dc], .agg #[.bool b.s, .slice b.N b.ns.length b.nc, .slice b.D b.ds.length b.dc]] w (Gives (.int .i64 (cmpOf (sgn a.s (V32 a.ns) * V32 b.ds) (sgn b.s (V32 b.ns) * V32 a.ds))) w) := by
  by_cases h : sgnI a.s a.ns.length = sgnI b.s b.ns.length
  · have hs : a.s = b.s := sgnI_eq_sign h (fun h0 => ha.q.zero ((len_zero ha.mn).1 h0)) (fun h0 => hb_.q.zero ((len_zero hb_.mn).1 h0))
    have e : (cmpOf (sgn a.s (V32 a.ns) * V32 b.ds) (sgn b.s (V32 b.ns) * V32 a.ds)) = (if a.s then -(cmpOf ((V32 a.ns * V32 b.ds : Nat) : Int) ((V32 b.ns * V32 a.ds : Nat) : Int)) else cmpOf ((V32 a.ns * V32 b.ds : Nat) : Int) ((V32 b.ns * V32 a.ds : Nat) : Int)) := by
      rw [ord_same, ← hs, sgn_mul_nat, sgn_mul_nat]
    rw [e]
    obtain ⟨s, N, nc, ns, D, dc, ds⟩ := a
    cases s
    · exact order_samef ⟨false, N, nc, ns, D, dc, ds⟩ b p q _ rfl rfl h.symm _ (Lib.hid rfl) bl w ha hb_
    · exact order_samet ⟨true, N, nc, ns, D, dc, ds⟩ b p q _ rfl rfl h.symm _ (cmpOf_bound _ _) (Lib.hid rfl) bl w ha hb_
  · rw [← ord_diff (len_zero ha.mn) (len_zero hb_.mn) ha.q.pos hb_.q.pos h]
    exact order_diff a b p q _ _ rfl rfl (by simpa using h) _ (Lib.hid rfl) w ha hb_
end Go.Proofs.YtopppmlkddajjaaGreatDoor

