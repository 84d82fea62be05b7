/- isochroneref02: Sign, One, Mul, Div, Pow. -/
import Derived.Test.YtdonbgjmcbhecaaGreatDoorPMR17
namespace Go.Proofs.YtdonbgjmcbhecaaGreatDoor
open Go.RowKit V

theorem boxes3 (t : TypeId) (w : World) (a b c a2 b2 c2 r s u : Value) : BlkT t (((w.alloc (.cells #[a, b, c] t)).alloc (.cells #[a2, b2, c2] t)).alloc (.cells #[r, s, u] t)) w.heap.size a b c ∧
    BlkT t (((w.alloc (.cells #[a, b, c] t)).alloc (.cells #[a2, b2, c2] t)).alloc (.cells #[r, s, u] t)) (w.heap.size + 1) a2 b2 c2 ∧
    BlkT t (((w.alloc (.cells #[a, b, c] t)).alloc (.cells #[a2, b2, c2] t)).alloc (.cells #[r, s, u] t)) (w.heap.size + 1 + 1) r s u ∧
    Below w.heap.size w (((w.alloc (.cells #[a, b, c] t)).alloc (.cells #[a2, b2, c2] t)).alloc (.cells #[r, s, u] t)) := by
  obtain ⟨h1, h2, h3⟩ := boxes2 t t w a b c a2 b2 c2
  refine ⟨h1.alloc _, h2.alloc _, ?_, h3.alloc (by simp; omega) _⟩
  have := BlkT.new t ((w.alloc (.cells #[a, b, c] t)).alloc (.cells #[a2, b2, c2] t)) r s u
  rwa [show ((w.alloc (.cells #[a, b, c] t)).alloc (.cells #[a2, b2, c2] t)).heap.size = w.heap.size + 1 + 1 by simp] at this
theorem len_of_VD {xs : List Nat} (h : 0 < VD xs) : 0 < xs.length := by
  rcases Nat.eq_zero_or_pos xs.length with h0 | h0
  · rw [List.eq_nil_of_length_eq_zero h0] at h; simp [VD, val] at h
  · exact h0
theorem RL.Ref.inv {w : World} {b : RL} {q : Rat} (h : b.Ref w q) (hn : 0 < VD b.ns) : RL.Ref w ⟨b.s, b.D, b.dc, b.ds, b.N, b.nc, b.ns⟩ q⁻¹ := by
  have h1 := inv_q h.q hn
  have h2 : 0 < VD b.ds := h.q.pos
  rw [decide_eq_true h2, Bool.and_true] at h1
  exact ⟨h.rd, h.rn, h.md, h.mn, h1⟩
theorem pow_q2 {s : Bool} {n d : Nat} {p : Rat} (hp : QOf s n d p) (k : Nat) : QOf (s && decide (k % 2 = 1)) (n ^ k) (d ^ k) (p ^ k) := by
  have h := pow_q hp k
  rcases Nat.eq_zero_or_pos n with h0 | h0
  · have hs := hp.zero h0
    subst hs
    simpa using h
  · rw [decide_eq_true (Nat.pow_pos h0), Bool.and_true] at h
    exact h

set_option maxHeartbeats 400000 in
theorem rsign (s : Bool) (N D : Option Addr) (n nc d dc : Nat) (w : World) : Calls Tryz.prog 33 #[.agg #[.bool s, .slice N n nc, .slice D d dc]] w (Gives (.int .i64 (sgnI s n)) w) := by
  have hb : Below w.heap.size w (w.alloc (.cells #[.bool s, .slice N n nc, .slice D d dc] 30)) := (Below.refl _ _).alloc (Nat.le_refl _) _
  by_cases h0 : n = 0
  · subst h0
    go_enter Tryz.func33, Tryz.ntmps33
    go_wp2
    go_ret
    exact ⟨rfl, hb⟩
  · have hne : ((n : Int) == 0) = false := beq_eq_false_iff_ne.2 (by omega)
    have h1 : sgnI true n = -1 := by simp [sgnI, h0]
    have h2 : sgnI false n = 1 := by simp [sgnI, h0]
    cases s
    · rw [h2]
      go_enter Tryz.func33, Tryz.ntmps33
      go_wp2
      go_ret
      exact ⟨rfl, hb⟩
    · rw [h1]
      go_enter Tryz.func33, Tryz.ntmps33
      go_wp2
      go_ret
      exact ⟨rfl, hb⟩
set_option maxHeartbeats 400000 in
theorem rone (w : World) : Calls Tryz.prog 37 #[] w (RefP 1 1 1 w) := by
  have hq : QOf false 1 1 (1 : Rat) := by have := QOf.mk_ (neg := false) (n := 1) (d := 1) (by omega) (by decide) (fun h => by omega); exact this
  go_enter Tryz.func37, Tryz.ntmps37
  go_wp2
  exact bodyPost_ret (v := .agg #[.bool false, .slice (some ⟨w.heap.size + 1, 0, none⟩) 1 1, .slice (some ⟨w.heap.size + 1 + 1, 0, none⟩) 1 1]) (by simp [results, Tryz.results37, go_sem]) rfl
    ⟨⟨false, some ⟨w.heap.size + 1, 0, none⟩, 1, [1], some ⟨w.heap.size + 1 + 1, 0, none⟩, 1, [1]⟩, rfl, ⟨(nat1_rd _ _ (by simp)).alloc _, nat1_rd _ _ (by simp), nm_one, nm_one, by simpa [VD, val] using hq⟩, Nat.le_refl _, Nat.le_refl _, (((Below.refl _ _).alloc (Nat.le_refl _) _).alloc (by simp) _).alloc (by simp; omega) _⟩
set_option maxRecDepth 100000 in
set_option maxHeartbeats 3200000 in
theorem rmulq (a b : RL) (p q : Rat) (w : World) (ha : a.Ref w p) (hb_ : b.Ref w q) (bl : a.ns.length + a.ds.length + b.ns.length + b.ds.length ≤ 9000) :
    Calls Tryz.prog 29 #[.agg #[.bool a.s, .slice a.N a.ns.length a.nc, .slice a.D a.ds.length a.dc], .agg #[.bool b.s, .slice b.N b.ns.length b.nc, .slice b.D b.ds.length b.dc]] w (RefP (p * q) (a.ns.length + b.ns.length + 1) (a.ds.length + b.ds.length + 1) w) := by
  go_enter Tryz.func29, Tryz.ntmps29
  go_wp2_with fail
  have hbox := boxes3 30 w (.bool a.s) (.slice a.N a.ns.length a.nc) (.slice a.D a.ds.length a.dc) (.bool b.s) (.slice b.N b.ns.length b.nc) (.slice b.D b.ds.length b.dc) (.bool false) (.slice none 0 0) (.slice none 0 0)
  obtain ⟨w1, hwe⟩ : ∃ x, ((w.alloc (.cells #[.bool a.s, .slice a.N a.ns.length a.nc, .slice a.D a.ds.length a.dc] 30)).alloc (.cells #[.bool b.s, .slice b.N b.ns.length b.nc, .slice b.D b.ds.length b.dc] 30)).alloc (.cells #[.bool false, .slice none 0 0, .slice none 0 0] 30) = x := ⟨_, rfl⟩
  rw [hwe] at hbox ⊢
  obtain ⟨ka1, kb1, kr1, hb1⟩ := hbox
  have HWE := Lib.hid hwe
  clear hwe HWE
  have ha1 := ha.below hb1
  have hb_1 := hb_.below hb1
  have hw1 := hb1
  clear ha hb_ hb1
  have hna1 := ha1.rn
  have hda1 := ha1.rd
  have hnb1 := hb_1.rn
  have hdb1 := hb_1.rd
  have mna := ha1.mn
  have mda := ha1.md
  have mnb := hb_1.mn
  have mdb := hb_1.md
  have HQ := Lib.hid (mul_q ha1.q hb_1.q)
  have HDP : Hid (0 < VD a.ds * VD b.ds) := Nat.mul_pos ha1.q.pos hb_1.q.pos
  have e1 : ¬ (w.heap.size = w.heap.size + 1 + 1) := by omega
  have e2 : ¬ (w.heap.size + 1 + 1 = w.heap.size) := by omega
  obtain ⟨a0, a1, a2, a3, a4, a5, a6⟩ := ka1.facts
  obtain ⟨b0, b1, b2, b3, b4, b5, b6⟩ := kb1.facts
  go_upto_region 1 with fail
  go_region_held3 (fun w' => w'.cell? ⟨w.heap.size, 0, none⟩ = some (.bool a.s) ∧ w'.cell? ⟨w.heap.size, 1, none⟩ = some (.slice a.N a.ns.length a.nc) ∧ w'.cell? ⟨w.heap.size, 2, none⟩ = some (.slice a.D a.ds.length a.dc) ∧ w'.cell? ⟨w.heap.size + 1, 0, none⟩ = some (.bool b.s) ∧ w'.cell? ⟨w.heap.size + 1, 1, none⟩ = some (.slice b.N b.ns.length b.nc) ∧ w'.cell? ⟨w.heap.size + 1, 2, none⟩ = some (.slice b.D b.ds.length b.dc)) (first | exact ⟨‹_›, ‹_›, ‹_›, ‹_›, ‹_›, ‹_›⟩ | go_keep)
    (first
    | (go_at_call_of 105 (Value.slice a.N a.ns.length a.nc)
       refine (rmul_any a.N b.N a.nc b.nc a.ns b.ns _ (by first | exact hna1 | exact hna1.drew | exact hna1.alloc _ | exact (hna1.alloc _).drew | exact hna1.drew.alloc _) (by first | exact hnb1 | exact hnb1.drew | exact hnb1.alloc _ | exact (hnb1.alloc _).drew | exact hnb1.drew.alloc _) (by omega) mna mnb).mono ?_
       rintro e wx_ ⟨X, xc, xs, rfl, hxc, hX, hbx, hvx, mx_, hxl⟩
       have HVX := Lib.hid hvx
       clear hvx
       have hbp0 : Below w1.heap.size w1 wx_ := by first | exact hbx | exact below_of_drew hbx (Nat.le_refl _) | exact ((Below.refl _ _).alloc (Nat.le_refl _) _).trans (hbx.mono (by simp)) | exact ((Below.refl _ _).alloc (Nat.le_refl _) _).trans ((below_of_drew hbx (Nat.le_refl _)).mono (by simp)) | exact below_of_drew (((Below.refl _ _).alloc (Nat.le_refl _) _).trans (hbx.mono (by simp))) (Nat.le_refl _)
       have hna_0 := hna1.below hbp0
       have hda_0 := hda1.below hbp0
       have hnb_0 := hnb1.below hbp0
       have hdb_0 := hdb1.below hbp0
       have ka_0 := ka1.below hbp0
       obtain ⟨ka0wx_, ka1wx_, ka2wx_, ka3wx_, ka4wx_, ka5wx_, ka6wx_⟩ := ka_0.facts
       have kb_0 := kb1.below hbp0
       obtain ⟨kb0wx_, kb1wx_, kb2wx_, kb3wx_, kb4wx_, kb5wx_, kb6wx_⟩ := kb_0.facts
       have kr_0 := kr1.below hbp0
       obtain ⟨kr0wx_, kr1wx_, kr2wx_, kr3wx_, kr4wx_, kr5wx_, kr6wx_⟩ := kr_0.facts
       have hwq0 := hw1.trans (hbp0.mono hw1.size))
    | (go_at_call_of 105 (Value.slice a.D a.ds.length a.dc)
       refine (rmul_any a.D b.D a.dc b.dc a.ds b.ds _ (by first | exact hda_0 | exact hda_0.drew | exact hda_0.alloc _ | exact (hda_0.alloc _).drew | exact hda_0.drew.alloc _) (by first | exact hdb_0 | exact hdb_0.drew | exact hdb_0.alloc _ | exact (hdb_0.alloc _).drew | exact hdb_0.drew.alloc _) (by omega) mda mdb).mono ?_
       rintro e wy_ ⟨Y, yc, ys, rfl, hyc, hY, hby, hvy, my_, hyl⟩
       have HVY := Lib.hid hvy
       clear hvy
       have hyp : 0 < ys.length := len_of_VD (by rw [HVY.out]; exact HDP.out)
       have hbp1 : Below wx_.heap.size wx_ wy_ := by first | exact hby | exact below_of_drew hby (Nat.le_refl _) | exact ((Below.refl _ _).alloc (Nat.le_refl _) _).trans (hby.mono (by simp)) | exact ((Below.refl _ _).alloc (Nat.le_refl _) _).trans ((below_of_drew hby (Nat.le_refl _)).mono (by simp)) | exact below_of_drew (((Below.refl _ _).alloc (Nat.le_refl _) _).trans (hby.mono (by simp))) (Nat.le_refl _)
       have hna_1 := hna_0.below hbp1
       have hda_1 := hda_0.below hbp1
       have hnb_1 := hnb_0.below hbp1
       have hdb_1 := hdb_0.below hbp1
       have hX_1 := hX.below hbp1
       have ka_1 := ka_0.below hbp1
       obtain ⟨ka0wy_, ka1wy_, ka2wy_, ka3wy_, ka4wy_, ka5wy_, ka6wy_⟩ := ka_1.facts
       have kb_1 := kb_0.below hbp1
       obtain ⟨kb0wy_, kb1wy_, kb2wy_, kb3wy_, kb4wy_, kb5wy_, kb6wy_⟩ := kb_1.facts
       have kr_1 := kr_0.below hbp1
       obtain ⟨kr0wy_, kr1wy_, kr2wy_, kr3wy_, kr4wy_, kr5wy_, kr6wy_⟩ := kr_1.facts
       have hwq1 := hwq0.trans (hbp1.mono hwq0.size))
    | (go_at_call 43
       refine (rmake (a.s != b.s) X Y xc yc xs ys _ (by first | exact hX_1 | exact hX_1.drew | exact hX_1.alloc _ | exact (hX_1.alloc _).drew | exact hX_1.drew.alloc _) (by first | exact hY | exact hY.drew | exact hY.alloc _ | exact (hY.alloc _).drew | exact hY.drew.alloc _) mx_ my_ (by omega) (by omega) hyp).mono ?_
       rintro e wm_ ⟨g, rfl, hg, hg1, hg2, hbm⟩
       rw [HVX.out, HVY.out, HQ.out] at hg
       have hbp2 : Below wy_.heap.size wy_ wm_ := by first | exact hbm | exact below_of_drew hbm (Nat.le_refl _) | exact ((Below.refl _ _).alloc (Nat.le_refl _) _).trans (hbm.mono (by simp)) | exact ((Below.refl _ _).alloc (Nat.le_refl _) _).trans ((below_of_drew hbm (Nat.le_refl _)).mono (by simp)) | exact below_of_drew (((Below.refl _ _).alloc (Nat.le_refl _) _).trans (hbm.mono (by simp))) (Nat.le_refl _)
       have hna_2 := hna_1.below hbp2
       have hda_2 := hda_1.below hbp2
       have hnb_2 := hnb_1.below hbp2
       have hdb_2 := hdb_1.below hbp2
       have hX_2 := hX_1.below hbp2
       have hY_2 := hY.below hbp2
       have ka_2 := ka_1.below hbp2
       obtain ⟨ka0wm_, ka1wm_, ka2wm_, ka3wm_, ka4wm_, ka5wm_, ka6wm_⟩ := ka_2.facts
       have kb_2 := kb_1.below hbp2
       obtain ⟨kb0wm_, kb1wm_, kb2wm_, kb3wm_, kb4wm_, kb5wm_, kb6wm_⟩ := kb_2.facts
       have kr_2 := kr_1.below hbp2
       obtain ⟨kr0wm_, kr1wm_, kr2wm_, kr3wm_, kr4wm_, kr5wm_, kr6wm_⟩ := kr_2.facts
       have hwq2 := hwq1.trans (hbp2.mono hwq1.size)))
  all_goals
    go_wp2_with fail
    refine bodyPost_ret (v := .agg #[.bool g.s, .slice g.N g.ns.length g.nc, .slice g.D g.ds.length g.dc]) (by simp [results, Tryz.results29, go_sem, kr0wm_, kr1wm_, kr2wm_]) rfl ?_
    exact RefP.put g hg kr_2 (by omega) hwq2 (by omega) (by omega)
set_option maxHeartbeats 1600000 in
theorem rdivq (a b : RL) (p q : Rat) (w : World) (ha : a.Ref w p) (hb_ : b.Ref w q) (bl : a.ns.length + a.ds.length + b.ns.length + b.ds.length ≤ 9000) (hn : 0 < VD b.ns) :
    Calls Tryz.prog 35 #[.agg #[.bool a.s, .slice a.N a.ns.length a.nc, .slice a.D a.ds.length a.dc], .agg #[.bool b.s, .slice b.N b.ns.length b.nc, .slice b.D b.ds.length b.dc]] w (RefP (p / q) (a.ns.length + b.ds.length + 1) (a.ds.length + b.ns.length + 1) w) := by
  go_enter Tryz.func35, Tryz.ntmps35
  go_wp2_with fail
  have hbox := boxes3 30 w (.bool a.s) (.slice a.N a.ns.length a.nc) (.slice a.D a.ds.length a.dc) (.bool b.s) (.slice b.N b.ns.length b.nc) (.slice b.D b.ds.length b.dc) (.bool false) (.slice none 0 0) (.slice none 0 0)
  obtain ⟨w1, hwe⟩ : ∃ x, ((w.alloc (.cells #[.bool a.s, .slice a.N a.ns.length a.nc, .slice a.D a.ds.length a.dc] 30)).alloc (.cells #[.bool b.s, .slice b.N b.ns.length b.nc, .slice b.D b.ds.length b.dc] 30)).alloc (.cells #[.bool false, .slice none 0 0, .slice none 0 0] 30) = x := ⟨_, rfl⟩
  rw [hwe] at hbox ⊢
  obtain ⟨ka1, kb1, kr1, hb1⟩ := hbox
  have HWE := Lib.hid hwe
  clear hwe HWE
  have ha1 := ha.below hb1
  have hb_1 := hb_.below hb1
  have hw1 := hb1
  clear ha hb_ hb1
  obtain ⟨a0, a1, a2, a3, a4, a5, a6⟩ := ka1.facts
  obtain ⟨b0, b1, b2, b3, b4, b5, b6⟩ := kb1.facts
  go_wp2_with fail
  refine (rmulq a ⟨b.s, b.D, b.dc, b.ds, b.N, b.nc, b.ns⟩ p q⁻¹ _ ha1 (hb_1.inv hn) (by dsimp only; omega)).mono ?_
  rintro e w2 ⟨g, rfl, hg2, hl1, hl2, hb2⟩
  have ha2 := ha1.below hb2
  have hb_2 := hb_1.below hb2
  have ka2 := ka1.below hb2
  have kb2 := kb1.below hb2
  have kr2 := kr1.below hb2
  have hw2 := hw1.trans (hb2.mono hw1.size)
  clear ha1 hb_1 ka1 kb1 kr1 hw1 hb2
  clear a0 a1 a2 a3 a4 a5 a6 b0 b1 b2 b3 b4 b5 b6
  obtain ⟨c0, c1, c2, c3, c4, c5, c6⟩ := kr2.facts
  go_wp2_with fail
  refine bodyPost_ret (v := .agg #[.bool g.s, .slice g.N g.ns.length g.nc, .slice g.D g.ds.length g.dc]) (by simp [results, Tryz.results35, go_sem, c0, c1, c2]) rfl ?_
  exact RefP.put g hg2 kr2 (by omega) hw2 hl1 hl2
end Go.Proofs.YtdonbgjmcbhecaaGreatDoor


/- isochroneref02.Pow. -/
namespace Go.Proofs.YtdonbgjmcbhecaaGreatDoor
open Go.RowKit V

set_option maxRecDepth 100000 in
set_option maxHeartbeats 3200000 in
theorem rpowq_f (a : RL) (q : Rat) (k : Nat) (w : World) (hs : a.s = false) (hk : k ≤ 100) (ha : a.Ref w q) (l1 : a.ns.length ≤ 100) (l2 : a.ds.length ≤ 100) :
    Calls Tryz.prog 38 #[.agg #[.bool false, .slice a.N a.ns.length a.nc, .slice a.D a.ds.length a.dc], .int .i64 k] w (RefP (q ^ k) (100 * k + 1) (100 * k + 1) w) := by
  have HS := Lib.hid hs
  clear hs
  go_enter Tryz.func38, Tryz.ntmps38
  go_wp2_with fail
  have hbox := boxes2 30 30 w (.bool false) (.slice a.N a.ns.length a.nc) (.slice a.D a.ds.length a.dc) (.bool false) (.slice none 0 0) (.slice none 0 0)
  obtain ⟨w1, hwe⟩ : ∃ x, (w.alloc (.cells #[.bool false, .slice a.N a.ns.length a.nc, .slice a.D a.ds.length a.dc] 30)).alloc (.cells #[.bool false, .slice none 0 0, .slice none 0 0] 30) = x := ⟨_, rfl⟩
  rw [hwe] at hbox ⊢
  obtain ⟨ka1, kr1, hb1⟩ := hbox
  have HWE := Lib.hid hwe
  clear hwe HWE
  have ha1 := ha.below hb1
  have hw1 := hb1
  clear ha hb1
  have hna1 := ha1.rn
  have hda1 := ha1.rd
  have mna := ha1.mn
  have mda := ha1.md
  have HQ := Lib.hid (pow_q2 ha1.q k)
  have HQ : Hid (QOf (false && decide (k % 2 = 1)) (VD a.ns ^ k) (VD a.ds ^ k) (q ^ k)) := Lib.hid (HS.out ▸ HQ.out)
  obtain ⟨a0, a1, a2, a3, a4, a5, a6⟩ := ka1.facts
  go_upto_region 1 with fail
  refine wp_region_held_drew (S := fun w' => w'.cell? ⟨w.heap.size, 0, none⟩ = some (.bool false) ∧ w'.cell? ⟨w.heap.size, 1, none⟩ = some (.slice a.N a.ns.length a.nc) ∧ w'.cell? ⟨w.heap.size, 2, none⟩ = some (.slice a.D a.ds.length a.dc)) (by kernel_rfl) ?_ (fun hHeld => ?_)
  · first | exact ⟨‹_›, ‹_›, ‹_›⟩ | go_keep
  refine wpAnyH_take (i := 0) (v := ?v0) rfl (by kernel_rfl) (by kernel_rfl) (by kernel_rfl) (fun _ _ _ h => h) (Or.inl ⟨by rfl, ?hy0⟩) (by assumption) ?rest0
  case hy0 =>
    intro w hSw
    (try dsimp only at hSw)
    go_simp
    all_goals with_reducible rfl
  simp only [Act.put, List.getElem_toArray, List.getElem_cons_zero, List.setIfInBounds_toArray, List.set_cons_zero, List.set_cons_succ]
  refine wpAnyH_take (i := 1) (v := ?v1) rfl (by kernel_rfl) (by kernel_rfl) (by kernel_rfl) (fun _ _ _ h => h) (Or.inl ⟨by rfl, ?hy1⟩) (by assumption) ?rest1
  case hy1 =>
    intro w hSw
    (try dsimp only at hSw)
    go_simp
    all_goals with_reducible rfl
  simp only [Act.put, List.getElem_toArray, List.getElem_cons_zero, List.getElem_cons_succ, List.setIfInBounds_toArray, List.set_cons_zero, List.set_cons_succ]
  refine wpAnyH_take (i := 2) (v := ?v2) rfl (by kernel_rfl) (by kernel_rfl) (by kernel_rfl) (fun _ _ _ h => h) (Or.inl ⟨by rfl, ?hy2⟩) (by assumption) ?rest2
  case hy2 =>
    intro w hSw
    (try dsimp only at hSw)
    go_simp
    all_goals with_reducible rfl
  simp only [Act.put, List.getElem_toArray, List.getElem_cons_zero, List.getElem_cons_succ, List.setIfInBounds_toArray, List.set_cons_zero, List.set_cons_succ]
  refine wpAnyH_take (i := 3) (v := undef) rfl (by kernel_rfl) (by kernel_rfl) (by kernel_rfl) (fun _ _ _ h => h) (Or.inr ⟨by rfl, rfl⟩) (by assumption) ?rest3
  simp only [Act.put, List.getElem_toArray, List.getElem_cons_zero, List.getElem_cons_succ, List.setIfInBounds_toArray, List.set_cons_zero, List.set_cons_succ]
  refine wpAnyH_take (i := 4) (v := undef) rfl (by kernel_rfl) (by kernel_rfl) (by kernel_rfl) (fun _ _ _ h => h) (Or.inr ⟨by rfl, rfl⟩) (by assumption) ?rest4
  simp only [Act.put, List.getElem_toArray, List.getElem_cons_zero, List.getElem_cons_succ, List.setIfInBounds_toArray, List.set_cons_zero, List.set_cons_succ]
  refine wpAnyH_take (i := 5) (v := undef) rfl (by kernel_rfl) (by kernel_rfl) (by kernel_rfl) (fun _ _ _ h => h) (Or.inr ⟨by rfl, rfl⟩) (by assumption) ?rest5
  simp only [Act.put, List.getElem_toArray, List.getElem_cons_zero, List.getElem_cons_succ, List.setIfInBounds_toArray, List.set_cons_zero, List.set_cons_succ]
  refine wpAnyH_take (i := 6) (v := ?v6) rfl (by kernel_rfl) (by kernel_rfl) (by kernel_rfl) (fun _ _ _ h => h) (Or.inl ⟨by rfl, ?hy6⟩) (by assumption) ?rest6
  case hy6 =>
    intro w hSw
    (try dsimp only at hSw)
    go_simp
    all_goals with_reducible rfl
  simp only [Act.put, List.getElem_toArray, List.getElem_cons_zero, List.getElem_cons_succ, List.setIfInBounds_toArray, List.set_cons_zero, List.set_cons_succ]
  refine wpAnyH_take (i := 7) (v := ?v7) rfl (by kernel_rfl) (by kernel_rfl) (by kernel_rfl) (fun _ _ _ h => h) (Or.inl ⟨by rfl, ?hy7⟩) (by assumption) ?rest7
  case hy7 =>
    intro w hSw
    (try dsimp only at hSw)
    go_simp
    all_goals with_reducible rfl
  simp only [Act.put, List.getElem_toArray, List.getElem_cons_zero, List.getElem_cons_succ, List.setIfInBounds_toArray, List.set_cons_zero, List.set_cons_succ]
  refine wpAnyH_take (i := 8) (v := ?v8) rfl (by kernel_rfl) (by kernel_rfl) (by kernel_rfl) (fun _ _ _ h => h) (Or.inl ⟨by rfl, ?hy8⟩) (by assumption) ?rest8
  case hy8 =>
    intro w hSw
    (try dsimp only at hSw)
    go_simp
    all_goals with_reducible rfl
  simp only [Act.put, List.getElem_toArray, List.getElem_cons_zero, List.getElem_cons_succ, List.setIfInBounds_toArray, List.set_cons_zero, List.set_cons_succ]
  refine wpAnyH_take (i := 9) (v := ?v9) rfl (by kernel_rfl) (by kernel_rfl) (by kernel_rfl) (fun _ _ _ h => h) (Or.inl ⟨by rfl, ?hy9⟩) (by assumption) ?rest9
  case hy9 =>
    intro w hSw
    (try dsimp only at hSw)
    go_simp
    all_goals with_reducible rfl
  simp only [Act.put, List.getElem_toArray, List.getElem_cons_zero, List.getElem_cons_succ, List.setIfInBounds_toArray, List.set_cons_zero, List.set_cons_succ]
  refine wpAnyH_take (i := 11) (v := ?v11) rfl (by kernel_rfl) (by kernel_rfl) (by kernel_rfl) (fun _ _ _ h => h) (Or.inl ⟨by rfl, ?hy11⟩) (by assumption) ?rest11
  case hy11 =>
    intro w hSw
    (try dsimp only at hSw)
    go_simp
    all_goals with_reducible rfl
  simp only [Act.put, List.getElem_toArray, List.getElem_cons_zero, List.getElem_cons_succ, List.setIfInBounds_toArray, List.set_cons_zero, List.set_cons_succ]
  refine wpAnyH_take (i := 12) (v := ?v12) rfl (by kernel_rfl) (by kernel_rfl) (by kernel_rfl) (fun _ _ _ h => h) (Or.inl ⟨by rfl, ?hy12⟩) (by assumption) ?rest12
  case hy12 =>
    intro w hSw
    (try dsimp only at hSw)
    go_simp
    all_goals with_reducible rfl
  simp only [Act.put, List.getElem_toArray, List.getElem_cons_zero, List.getElem_cons_succ, List.setIfInBounds_toArray, List.set_cons_zero, List.set_cons_succ]
  refine wpAnyH_take (i := 13) (v := ?v13) rfl (by kernel_rfl) (by kernel_rfl) (by kernel_rfl) (fun _ _ _ h => h) (Or.inl ⟨by rfl, ?hy13⟩) (by assumption) ?rest13
  case hy13 =>
    intro w hSw
    (try dsimp only at hSw)
    go_simp
    all_goals with_reducible rfl
  simp only [Act.put, List.getElem_toArray, List.getElem_cons_zero, List.getElem_cons_succ, List.setIfInBounds_toArray, List.set_cons_zero, List.set_cons_succ]
  refine wpAnyH_ready (rs := [10]) (by kernel_rfl) (by simp) ?_
  refine AllReadyH.cons (o := _) rfl (fun K hK => ?_) AllReadyH.nil
  go_simp
  go_at_call_of 111 (Value.slice a.N a.ns.length a.nc)
  refine (rpow_any a.N a.nc k a.ns _ (by first | exact hna1 | exact hna1.drew | exact hna1.alloc _ | exact (hna1.alloc _).drew | exact hna1.drew.alloc _) (by omega) (by omega) mna).mono ?_
  rintro e wx_ ⟨X, xc, xs, rfl, hxc, hX, hbx, hvx, mx_, hxl⟩
  have HVX := Lib.hid hvx
  clear hvx
  have hbp0 : Below w1.heap.size w1 wx_ := by first | exact hbx | exact below_of_drew hbx (Nat.le_refl _) | exact ((Below.refl _ _).alloc (Nat.le_refl _) _).trans (hbx.mono (by simp)) | exact ((Below.refl _ _).alloc (Nat.le_refl _) _).trans ((below_of_drew hbx (Nat.le_refl _)).mono (by simp)) | exact below_of_drew (((Below.refl _ _).alloc (Nat.le_refl _) _).trans (hbx.mono (by simp))) (Nat.le_refl _)
  have hna_0 := hna1.below hbp0
  have hda_0 := hda1.below hbp0
  have ka_0 := ka1.below hbp0
  obtain ⟨ka0wx_, ka1wx_, ka2wx_, ka3wx_, ka4wx_, ka5wx_, ka6wx_⟩ := ka_0.facts
  have kr_0 := kr1.below hbp0
  obtain ⟨kr0wx_, kr1wx_, kr2wx_, kr3wx_, kr4wx_, kr5wx_, kr6wx_⟩ := kr_0.facts
  have hwq0 := hw1.trans (hbp0.mono hw1.size)
  go_wp2_with fail
  refine hK.out _ _ ?_ (fun hHeld => ?_)
  · first | exact ⟨‹_›, ‹_›, ‹_›⟩ | go_keep
  clear hK K
  try simp only [Act.put, List.getElem_toArray, List.getElem_cons_zero, List.getElem_cons_succ, List.setIfInBounds_toArray, List.set_cons_zero, List.set_cons_succ]
  refine wpAnyH_ready (rs := [14]) (by kernel_rfl) (by simp) ?_
  refine AllReadyH.cons (o := _) rfl (fun K hK => ?_) AllReadyH.nil
  go_simp
  go_at_call_of 111 (Value.slice a.D a.ds.length a.dc)
  refine (rpow_any a.D a.dc k a.ds _ (by first | exact hda_0 | exact hda_0.drew | exact hda_0.alloc _ | exact (hda_0.alloc _).drew | exact hda_0.drew.alloc _) (by omega) (by omega) mda).mono ?_
  rintro e wy_ ⟨Y, yc, ys, rfl, hyc, hY, hby, hvy, my_, hyl⟩
  have HVY := Lib.hid hvy
  clear hvy
  have hbp1 : Below wx_.heap.size wx_ wy_ := by first | exact hby | exact below_of_drew hby (Nat.le_refl _) | exact ((Below.refl _ _).alloc (Nat.le_refl _) _).trans (hby.mono (by simp)) | exact ((Below.refl _ _).alloc (Nat.le_refl _) _).trans ((below_of_drew hby (Nat.le_refl _)).mono (by simp)) | exact below_of_drew (((Below.refl _ _).alloc (Nat.le_refl _) _).trans (hby.mono (by simp))) (Nat.le_refl _)
  have hna_1 := hna_0.below hbp1
  have hda_1 := hda_0.below hbp1
  have hX_1 := hX.below hbp1
  have ka_1 := ka_0.below hbp1
  obtain ⟨ka0wy_, ka1wy_, ka2wy_, ka3wy_, ka4wy_, ka5wy_, ka6wy_⟩ := ka_1.facts
  have kr_1 := kr_0.below hbp1
  obtain ⟨kr0wy_, kr1wy_, kr2wy_, kr3wy_, kr4wy_, kr5wy_, kr6wy_⟩ := kr_1.facts
  have hwq1 := hwq0.trans (hbp1.mono hwq0.size)
  go_wp2_with fail
  refine hK.out _ _ ?_ (fun hHeld => ?_)
  · first | exact ⟨‹_›, ‹_›, ‹_›⟩ | go_keep
  clear hK K
  try simp only [Act.put, List.getElem_toArray, List.getElem_cons_zero, List.getElem_cons_succ, List.setIfInBounds_toArray, List.set_cons_zero, List.set_cons_succ]
  refine wpAnyH_take (i := 15) (v := ?v15) rfl (by kernel_rfl) (by kernel_rfl) (by kernel_rfl) (fun _ _ _ h => h) (Or.inl ⟨by rfl, ?hy15⟩) (by assumption) ?rest15
  case hy15 =>
    intro w hSw
    (try dsimp only at hSw)
    go_simp
    all_goals with_reducible rfl
  simp only [Act.put, List.getElem_toArray, List.getElem_cons_zero, List.getElem_cons_succ, List.setIfInBounds_toArray, List.set_cons_zero, List.set_cons_succ]
  refine wpAnyH_ready (rs := [16]) (by kernel_rfl) (by simp) ?_
  refine AllReadyH.cons (o := _) rfl (fun K hK => ?_) AllReadyH.nil
  go_simp
  refine hK.out _ _ ?_ (fun hHeld => ?_)
  · first | exact ⟨‹_›, ‹_›, ‹_›⟩ | go_keep
  clear hK K
  try simp only [Act.put, List.getElem_toArray, List.getElem_cons_zero, List.getElem_cons_succ, List.setIfInBounds_toArray, List.set_cons_zero, List.set_cons_succ]
  refine wpAnyH_done (by kernel_rfl) ?_ _
  all_goals
    go_wp2_with fail
    refine bodyPost_ret (v := .agg #[.bool false, .slice X xs.length xc, .slice Y ys.length yc]) (by simp [results, Tryz.results38, go_sem, kr0wy_, kr1wy_, kr2wy_]) rfl ?_
    exact RefP.put ⟨false, X, xc, xs, Y, yc, ys⟩ ⟨hX_1, hY, mx_, my_, by dsimp only; rw [HVX.out, HVY.out]; have h := HQ.out; simp only [Bool.false_and] at h; exact h⟩ kr_1 (by omega) hwq1 hxl hyl
set_option maxRecDepth 100000 in
set_option maxHeartbeats 3200000 in
theorem rpowq_t (a : RL) (q : Rat) (k : Nat) (w : World) (hs : a.s = true) (hk : k ≤ 100) (ha : a.Ref w q) (l1 : a.ns.length ≤ 100) (l2 : a.ds.length ≤ 100) (p : Bool) (hp : p = (true && decide (k % 2 = 1))) (hpar : ((k : Int) % 2 == 1) = p) :
    Calls Tryz.prog 38 #[.agg #[.bool true, .slice a.N a.ns.length a.nc, .slice a.D a.ds.length a.dc], .int .i64 k] w (RefP (q ^ k) (100 * k + 1) (100 * k + 1) w) := by
  have hpar2 : (Int.tmod (k : Int) 2 == 1) = p := by rw [Int.tmod_eq_emod_of_nonneg (by omega)]; exact hpar
  have HP := Lib.hid hp
  clear hp
  have HS := Lib.hid hs
  clear hs
  go_enter Tryz.func38, Tryz.ntmps38
  go_wp2_with fail
  have hbox := boxes2 30 30 w (.bool true) (.slice a.N a.ns.length a.nc) (.slice a.D a.ds.length a.dc) (.bool false) (.slice none 0 0) (.slice none 0 0)
  obtain ⟨w1, hwe⟩ : ∃ x, (w.alloc (.cells #[.bool true, .slice a.N a.ns.length a.nc, .slice a.D a.ds.length a.dc] 30)).alloc (.cells #[.bool false, .slice none 0 0, .slice none 0 0] 30) = x := ⟨_, rfl⟩
  rw [hwe] at hbox ⊢
  obtain ⟨ka1, kr1, hb1⟩ := hbox
  have HWE := Lib.hid hwe
  clear hwe HWE
  have ha1 := ha.below hb1
  have hw1 := hb1
  clear ha hb1
  have hna1 := ha1.rn
  have hda1 := ha1.rd
  have mna := ha1.mn
  have mda := ha1.md
  have HQ := Lib.hid (pow_q2 ha1.q k)
  have HQ : Hid (QOf (true && decide (k % 2 = 1)) (VD a.ns ^ k) (VD a.ds ^ k) (q ^ k)) := Lib.hid (HS.out ▸ HQ.out)
  obtain ⟨a0, a1, a2, a3, a4, a5, a6⟩ := ka1.facts
  go_upto_region 1 with fail
  refine wp_region_held_drew (S := fun w' => w'.cell? ⟨w.heap.size, 0, none⟩ = some (.bool true) ∧ w'.cell? ⟨w.heap.size, 1, none⟩ = some (.slice a.N a.ns.length a.nc) ∧ w'.cell? ⟨w.heap.size, 2, none⟩ = some (.slice a.D a.ds.length a.dc)) (by kernel_rfl) ?_ (fun hHeld => ?_)
  · first | exact ⟨‹_›, ‹_›, ‹_›⟩ | go_keep
  refine wpAnyH_take (i := 0) (v := ?v0) rfl (by kernel_rfl) (by kernel_rfl) (by kernel_rfl) (fun _ _ _ h => h) (Or.inl ⟨by rfl, ?hy0⟩) (by assumption) ?rest0
  case hy0 =>
    intro w hSw
    (try dsimp only at hSw)
    go_simp
    all_goals with_reducible rfl
  simp only [Act.put, List.getElem_toArray, List.getElem_cons_zero, List.setIfInBounds_toArray, List.set_cons_zero, List.set_cons_succ]
  refine wpAnyH_take (i := 1) (v := ?v1) rfl (by kernel_rfl) (by kernel_rfl) (by kernel_rfl) (fun _ _ _ h => h) (Or.inl ⟨by rfl, ?hy1⟩) (by assumption) ?rest1
  case hy1 =>
    intro w hSw
    (try dsimp only at hSw)
    go_simp
    all_goals with_reducible rfl
  simp only [Act.put, List.getElem_toArray, List.getElem_cons_zero, List.getElem_cons_succ, List.setIfInBounds_toArray, List.set_cons_zero, List.set_cons_succ]
  refine wpAnyH_take (i := 2) (v := ?v2) rfl (by kernel_rfl) (by kernel_rfl) (by kernel_rfl) (fun _ _ _ h => h) (Or.inl ⟨by rfl, ?hy2⟩) (by assumption) ?rest2
  case hy2 =>
    intro w hSw
    (try dsimp only at hSw)
    go_simp
    all_goals with_reducible rfl
  simp only [Act.put, List.getElem_toArray, List.getElem_cons_zero, List.getElem_cons_succ, List.setIfInBounds_toArray, List.set_cons_zero, List.set_cons_succ]
  refine wpAnyH_take (i := 3) (v := ?v3) rfl (by kernel_rfl) (by kernel_rfl) (by kernel_rfl) (fun _ _ _ h => h) (Or.inl ⟨by rfl, ?hy3⟩) (by assumption) ?rest3
  case hy3 =>
    intro w hSw
    (try dsimp only at hSw)
    go_simp
    all_goals with_reducible rfl
  simp only [Act.put, List.getElem_toArray, List.getElem_cons_zero, List.getElem_cons_succ, List.setIfInBounds_toArray, List.set_cons_zero, List.set_cons_succ]
  refine wpAnyH_take (i := 4) (v := ?v4) rfl (by kernel_rfl) (by kernel_rfl) (by kernel_rfl) (fun _ _ _ h => h) (Or.inl ⟨by rfl, ?hy4⟩) (by assumption) ?rest4
  case hy4 =>
    intro w hSw
    (try dsimp only at hSw)
    go_simp
    all_goals with_reducible rfl
  simp only [Act.put, List.getElem_toArray, List.getElem_cons_zero, List.getElem_cons_succ, List.setIfInBounds_toArray, List.set_cons_zero, List.set_cons_succ]
  refine wpAnyH_take (i := 5) (v := ?v5) rfl (by kernel_rfl) (by kernel_rfl) (by kernel_rfl) (fun _ _ _ h => h) (Or.inl ⟨by rfl, ?hy5⟩) (by assumption) ?rest5
  case hy5 =>
    intro w hSw
    (try dsimp only at hSw)
    go_simp
    all_goals with_reducible rfl
  simp only [Act.put, List.getElem_toArray, List.getElem_cons_zero, List.getElem_cons_succ, List.setIfInBounds_toArray, List.set_cons_zero, List.set_cons_succ]
  refine wpAnyH_take (i := 6) (v := ?v6) rfl (by kernel_rfl) (by kernel_rfl) (by kernel_rfl) (fun _ _ _ h => h) (Or.inl ⟨by rfl, ?hy6⟩) (by assumption) ?rest6
  case hy6 =>
    intro w hSw
    (try dsimp only at hSw)
    go_simp
    all_goals with_reducible rfl
  simp only [Act.put, List.getElem_toArray, List.getElem_cons_zero, List.getElem_cons_succ, List.setIfInBounds_toArray, List.set_cons_zero, List.set_cons_succ]
  refine wpAnyH_take (i := 7) (v := ?v7) rfl (by kernel_rfl) (by kernel_rfl) (by kernel_rfl) (fun _ _ _ h => h) (Or.inl ⟨by rfl, ?hy7⟩) (by assumption) ?rest7
  case hy7 =>
    intro w hSw
    (try dsimp only at hSw)
    go_simp
    all_goals with_reducible rfl
  simp only [Act.put, List.getElem_toArray, List.getElem_cons_zero, List.getElem_cons_succ, List.setIfInBounds_toArray, List.set_cons_zero, List.set_cons_succ]
  refine wpAnyH_take (i := 8) (v := ?v8) rfl (by kernel_rfl) (by kernel_rfl) (by kernel_rfl) (fun _ _ _ h => h) (Or.inl ⟨by rfl, ?hy8⟩) (by assumption) ?rest8
  case hy8 =>
    intro w hSw
    (try dsimp only at hSw)
    go_simp
    all_goals with_reducible rfl
  simp only [Act.put, List.getElem_toArray, List.getElem_cons_zero, List.getElem_cons_succ, List.setIfInBounds_toArray, List.set_cons_zero, List.set_cons_succ]
  refine wpAnyH_take (i := 9) (v := ?v9) rfl (by kernel_rfl) (by kernel_rfl) (by kernel_rfl) (fun _ _ _ h => h) (Or.inl ⟨by rfl, ?hy9⟩) (by assumption) ?rest9
  case hy9 =>
    intro w hSw
    (try dsimp only at hSw)
    go_simp
    all_goals with_reducible rfl
  simp only [Act.put, List.getElem_toArray, List.getElem_cons_zero, List.getElem_cons_succ, List.setIfInBounds_toArray, List.set_cons_zero, List.set_cons_succ]
  refine wpAnyH_take (i := 11) (v := ?v11) rfl (by kernel_rfl) (by kernel_rfl) (by kernel_rfl) (fun _ _ _ h => h) (Or.inl ⟨by rfl, ?hy11⟩) (by assumption) ?rest11
  case hy11 =>
    intro w hSw
    (try dsimp only at hSw)
    go_simp
    all_goals with_reducible rfl
  simp only [Act.put, List.getElem_toArray, List.getElem_cons_zero, List.getElem_cons_succ, List.setIfInBounds_toArray, List.set_cons_zero, List.set_cons_succ]
  refine wpAnyH_take (i := 12) (v := ?v12) rfl (by kernel_rfl) (by kernel_rfl) (by kernel_rfl) (fun _ _ _ h => h) (Or.inl ⟨by rfl, ?hy12⟩) (by assumption) ?rest12
  case hy12 =>
    intro w hSw
    (try dsimp only at hSw)
    go_simp
    all_goals with_reducible rfl
  simp only [Act.put, List.getElem_toArray, List.getElem_cons_zero, List.getElem_cons_succ, List.setIfInBounds_toArray, List.set_cons_zero, List.set_cons_succ]
  refine wpAnyH_take (i := 13) (v := ?v13) rfl (by kernel_rfl) (by kernel_rfl) (by kernel_rfl) (fun _ _ _ h => h) (Or.inl ⟨by rfl, ?hy13⟩) (by assumption) ?rest13
  case hy13 =>
    intro w hSw
    (try dsimp only at hSw)
    go_simp
    all_goals with_reducible rfl
  simp only [Act.put, List.getElem_toArray, List.getElem_cons_zero, List.getElem_cons_succ, List.setIfInBounds_toArray, List.set_cons_zero, List.set_cons_succ]
  refine wpAnyH_ready (rs := [10]) (by kernel_rfl) (by simp) ?_
  refine AllReadyH.cons (o := _) rfl (fun K hK => ?_) AllReadyH.nil
  go_simp
  go_at_call_of 111 (Value.slice a.N a.ns.length a.nc)
  refine (rpow_any a.N a.nc k a.ns _ (by first | exact hna1 | exact hna1.drew | exact hna1.alloc _ | exact (hna1.alloc _).drew | exact hna1.drew.alloc _) (by omega) (by omega) mna).mono ?_
  rintro e wx_ ⟨X, xc, xs, rfl, hxc, hX, hbx, hvx, mx_, hxl⟩
  have HVX := Lib.hid hvx
  clear hvx
  have hbp0 : Below w1.heap.size w1 wx_ := by first | exact hbx | exact below_of_drew hbx (Nat.le_refl _) | exact ((Below.refl _ _).alloc (Nat.le_refl _) _).trans (hbx.mono (by simp)) | exact ((Below.refl _ _).alloc (Nat.le_refl _) _).trans ((below_of_drew hbx (Nat.le_refl _)).mono (by simp)) | exact below_of_drew (((Below.refl _ _).alloc (Nat.le_refl _) _).trans (hbx.mono (by simp))) (Nat.le_refl _)
  have hna_0 := hna1.below hbp0
  have hda_0 := hda1.below hbp0
  have ka_0 := ka1.below hbp0
  obtain ⟨ka0wx_, ka1wx_, ka2wx_, ka3wx_, ka4wx_, ka5wx_, ka6wx_⟩ := ka_0.facts
  have kr_0 := kr1.below hbp0
  obtain ⟨kr0wx_, kr1wx_, kr2wx_, kr3wx_, kr4wx_, kr5wx_, kr6wx_⟩ := kr_0.facts
  have hwq0 := hw1.trans (hbp0.mono hw1.size)
  go_wp2_with fail
  refine hK.out _ _ ?_ (fun hHeld => ?_)
  · first | exact ⟨‹_›, ‹_›, ‹_›⟩ | go_keep
  clear hK K
  try simp only [Act.put, List.getElem_toArray, List.getElem_cons_zero, List.getElem_cons_succ, List.setIfInBounds_toArray, List.set_cons_zero, List.set_cons_succ]
  refine wpAnyH_ready (rs := [14]) (by kernel_rfl) (by simp) ?_
  refine AllReadyH.cons (o := _) rfl (fun K hK => ?_) AllReadyH.nil
  go_simp
  go_at_call_of 111 (Value.slice a.D a.ds.length a.dc)
  refine (rpow_any a.D a.dc k a.ds _ (by first | exact hda_0 | exact hda_0.drew | exact hda_0.alloc _ | exact (hda_0.alloc _).drew | exact hda_0.drew.alloc _) (by omega) (by omega) mda).mono ?_
  rintro e wy_ ⟨Y, yc, ys, rfl, hyc, hY, hby, hvy, my_, hyl⟩
  have HVY := Lib.hid hvy
  clear hvy
  have hbp1 : Below wx_.heap.size wx_ wy_ := by first | exact hby | exact below_of_drew hby (Nat.le_refl _) | exact ((Below.refl _ _).alloc (Nat.le_refl _) _).trans (hby.mono (by simp)) | exact ((Below.refl _ _).alloc (Nat.le_refl _) _).trans ((below_of_drew hby (Nat.le_refl _)).mono (by simp)) | exact below_of_drew (((Below.refl _ _).alloc (Nat.le_refl _) _).trans (hby.mono (by simp))) (Nat.le_refl _)
  have hna_1 := hna_0.below hbp1
  have hda_1 := hda_0.below hbp1
  have hX_1 := hX.below hbp1
  have ka_1 := ka_0.below hbp1
  obtain ⟨ka0wy_, ka1wy_, ka2wy_, ka3wy_, ka4wy_, ka5wy_, ka6wy_⟩ := ka_1.facts
  have kr_1 := kr_0.below hbp1
  obtain ⟨kr0wy_, kr1wy_, kr2wy_, kr3wy_, kr4wy_, kr5wy_, kr6wy_⟩ := kr_1.facts
  have hwq1 := hwq0.trans (hbp1.mono hwq0.size)
  go_wp2_with fail
  refine hK.out _ _ ?_ (fun hHeld => ?_)
  · first | exact ⟨‹_›, ‹_›, ‹_›⟩ | go_keep
  clear hK K
  try simp only [Act.put, List.getElem_toArray, List.getElem_cons_zero, List.getElem_cons_succ, List.setIfInBounds_toArray, List.set_cons_zero, List.set_cons_succ]
  refine wpAnyH_take (i := 15) (v := ?v15) rfl (by kernel_rfl) (by kernel_rfl) (by kernel_rfl) (fun _ _ _ h => h) (Or.inl ⟨by rfl, ?hy15⟩) (by assumption) ?rest15
  case hy15 =>
    intro w hSw
    (try dsimp only at hSw)
    go_simp
    all_goals with_reducible rfl
  simp only [Act.put, List.getElem_toArray, List.getElem_cons_zero, List.getElem_cons_succ, List.setIfInBounds_toArray, List.set_cons_zero, List.set_cons_succ]
  refine wpAnyH_ready (rs := [16]) (by kernel_rfl) (by simp) ?_
  refine AllReadyH.cons (o := _) rfl (fun K hK => ?_) AllReadyH.nil
  go_simp
  refine hK.out _ _ ?_ (fun hHeld => ?_)
  · first | exact ⟨‹_›, ‹_›, ‹_›⟩ | go_keep
  clear hK K
  try simp only [Act.put, List.getElem_toArray, List.getElem_cons_zero, List.getElem_cons_succ, List.setIfInBounds_toArray, List.set_cons_zero, List.set_cons_succ]
  refine wpAnyH_done (by kernel_rfl) ?_ _
  all_goals
    go_wp2_with fail
    refine bodyPost_ret (v := .agg #[.bool p, .slice X xs.length xc, .slice Y ys.length yc]) (by simp [results, Tryz.results38, go_sem, kr0wy_, kr1wy_, kr2wy_]) rfl ?_
    exact RefP.put ⟨p, X, xc, xs, Y, yc, ys⟩ ⟨hX_1, hY, mx_, my_, by dsimp only; rw [HVX.out, HVY.out]; rw [HP.out]; exact HQ.out⟩ kr_1 (by omega) hwq1 hxl hyl
end Go.Proofs.YtdonbgjmcbhecaaGreatDoor


/- Powers of numbers of either sign. -/
namespace Go.Proofs.YtdonbgjmcbhecaaGreatDoor
open Go.RowKit V

theorem par_eq (k : Nat) : ((k : Int) % 2 == 1) = decide (k % 2 = 1) := by
  by_cases h : k % 2 = 1
  · rw [decide_eq_true h, beq_iff_eq]; omega
  · rw [decide_eq_false h, beq_eq_false_iff_ne]; omega
theorem qpow_pos (a : RL) (q : Rat) (k : Nat) (hk : k ≤ 1000) (w : World) (ha : a.Is w q) (l1 : a.ns.length ≤ 2) (l2 : a.ds.length ≤ 2) :
    Calls Tryz.prog 36 #[.agg #[.bool a.s, .slice a.N a.ns.length a.nc, .slice a.D a.ds.length a.dc], .int .i64 k] w (RatOk (q ^ k) 4096 w) := by
  obtain ⟨s, N, nc, ns, D, dc, ds⟩ := a
  cases s
  · exact qpow_pos_f N D nc dc ns ds q k hk w ha l1 l2
  · exact qpow_pos_t N D nc dc ns ds q k hk _ rfl (par_eq k) w ha l1 l2
theorem qpow_neg (a : RL) (q : Rat) (k : Nat) (n : Int) (hkn : -n = (k : Int)) (hnk : n < 0) (hn1 : -1000 ≤ n) (hn0 : 0 < a.ns.length) (w : World) (ha : a.Is w q) (l1 : a.ns.length ≤ 2) (l2 : a.ds.length ≤ 2) :
    Calls Tryz.prog 36 #[.agg #[.bool a.s, .slice a.N a.ns.length a.nc, .slice a.D a.ds.length a.dc], .int .i64 n] w (RatOk (q⁻¹ ^ k) 4096 w) := by
  obtain ⟨s, N, nc, ns, D, dc, ds⟩ := a
  have hk : k ≤ 1000 := by omega
  cases s
  · exact qpow_neg_f N D nc dc ns ds q k n hkn hnk hn1 hk hn0 w ha l1 l2
  · exact qpow_neg_t N D nc dc ns ds q k n hkn hnk hn1 hk hn0 _ rfl (par_eq k) w ha l1 l2
theorem qpow_zer (a : RL) (q : Rat) (n : Int) (hnk : n < 0) (hn1 : -1000 ≤ n) (hn0 : a.ns.length = 0) (w : World) (ha : a.Is w q) (l2 : a.ds.length ≤ 2) :
    Calls Tryz.prog 36 #[.agg #[.bool a.s, .slice a.N a.ns.length a.nc, .slice a.D a.ds.length a.dc], .int .i64 n] w (RatErr 20 w) := by
  obtain ⟨s, N, nc, ns, D, dc, ds⟩ := a
  obtain rfl : ns = [] := List.eq_nil_of_length_eq_zero hn0
  have hs : s = false := ha.q.zero (by simp [V32, val])
  subst hs
  exact qpow_zero N D nc dc ds q n hnk hn1 w ha l2
theorem rpowq (a : RL) (q : Rat) (k : Nat) (w : World) (hk : k ≤ 100) (ha : a.Ref w q) (l1 : a.ns.length ≤ 100) (l2 : a.ds.length ≤ 100) :
    Calls Tryz.prog 38 #[.agg #[.bool a.s, .slice a.N a.ns.length a.nc, .slice a.D a.ds.length a.dc], .int .i64 k] w (RefP (q ^ k) (100 * k + 1) (100 * k + 1) w) := by
  obtain ⟨s, N, nc, ns, D, dc, ds⟩ := a
  cases s
  · exact rpowq_f ⟨false, N, nc, ns, D, dc, ds⟩ q k w rfl hk ha l1 l2
  · exact rpowq_t ⟨true, N, nc, ns, D, dc, ds⟩ q k w rfl hk ha l1 l2 _ rfl (par_eq k)
end Go.Proofs.YtdonbgjmcbhecaaGreatDoor


/- rat.Text: sign, numerator, denominator in decimal digits. -/
namespace Go.Proofs.YtdonbgjmcbhecaaGreatDoor
open Go.RowKit V

/-- The text of a number. -/
def ratText (s : Bool) (n d : Nat) : List UInt8 := (if s then [45] else []) ++ Lib.decDigits n ++ (if d = 1 then [] else 47 :: Lib.decDigits d)

set_option maxHeartbeats 1600000 in
theorem qtext (a : RL) (q : Rat) (w : World) (ha : a.Is w q) (l1 : a.ns.length ≤ 4096) (l2 : a.ds.length ≤ 4096)
    (htab : Lib.TabBelow Tryz.prog w.heap.size w "internal/strconv.uint64pow10" .u64 Lib.pow10Tab) :
    Calls Tryz.prog 51 #[.agg #[.bool a.s, .slice a.N a.ns.length a.nc, .slice a.D a.ds.length a.dc]] w
      (Gives (.tuple #[.string ⟨(ratText a.s (V32 a.ns) (V32 a.ds)).toArray⟩, .int .i64 0]) w) := by
  obtain ⟨s, N, nc, ns, D, dc, ds⟩ := a
  dsimp only at l1 l2 ⊢
  obtain ⟨o, ho⟩ : ∃ o, Hid (decide (V32 ds = 1) = o) := ⟨_, Lib.hid rfl⟩
  have HT := Lib.hid htab
  clear htab
  have mn : Mag ns := ha.mn
  have md : Mag ds := ha.md
  have hk := Blk3.new w (.bool s) (.slice N ns.length nc) (.slice D ds.length dc)
  have HV := Lib.hid (qvalid_yes ⟨s, N, nc, ns, D, dc, ds⟩ q _ (ha.below ((Below.refl _ _).alloc (Nat.le_refl w.heap.size) (.cells #[.bool s, .slice N ns.length nc, .slice D ds.length dc] 24))) l1 l2)
  have hX := dec_short mn l1 (by omega)
  have hY := dec_short md l2 (by omega)
  obtain ⟨X, hXe⟩ : ∃ X, Hid (Lib.decDigits (V32 ns) = X) := ⟨_, Lib.hid rfl⟩
  obtain ⟨Y, hYe⟩ : ∃ Y, Hid (Lib.decDigits (V32 ds) = Y) := ⟨_, Lib.hid rfl⟩
  rw [hXe.out] at hX
  rw [hYe.out] at hY
  have f1 := fun W => run_string_add_lists (P := Tryz.prog) W [45] X (by simp) (by omega)
  have f2 := fun W => run_string_add_lists (P := Tryz.prog) W [47] Y (by simp) (by omega)
  have f3 := fun W => run_string_add_lists (P := Tryz.prog) W X ([47] ++ Y) (by omega) (by simp; omega)
  have f4 := fun W => run_string_add_lists (P := Tryz.prog) W ([45] ++ X) ([47] ++ Y) (by simp; omega) (by simp; omega)
  simp only [List.cons_append, List.nil_append] at f1 f2 f3 f4
  cases s <;> cases o
  all_goals
    go_enter Tryz.func51, Tryz.ntmps51
    go_wp2_with fail
    refine HV.out.mono ?_
    rintro e w1 ⟨rfl, hb1⟩
    have hk1 := hk.below hb1
    have hw1 : Below w.heap.size w w1 := ((Below.refl _ _).alloc (Nat.le_refl _) _).trans (hb1.mono (by simp))
    have rn1 : Rd .u32 w1 N ns := ha.rn.below hw1
    have rd1 : Rd .u32 w1 D ds := ha.rd.below hw1
    have HT1 : Hid (Lib.TabBelow Tryz.prog w1.heap.size w1 "internal/strconv.uint64pow10" .u64 Lib.pow10Tab) := fun w' h => HT.out w' (hw1.trans (h.mono hw1.size))
    obtain ⟨a0, a1, a2, a3, a4, a5, a6⟩ := hk1.facts
    clear hb1
    go_wp2_with fail
    refine (text_any N nc ns _ rn1 mn l1 HT1.out).mono ?_
    rintro e w2 ⟨he, hb2⟩
    rw [hXe.out] at he
    subst he
    have hk2 := hk1.below hb2
    have hw2 := hw1.trans (hb2.mono hw1.size)
    have rd2 := rd1.below hb2
    have HT2 : Hid (Lib.TabBelow Tryz.prog w2.heap.size w2 "internal/strconv.uint64pow10" .u64 Lib.pow10Tab) := fun w' h => HT.out w' (hw2.trans (h.mono hw2.size))
    clear a0 a1 a2 a3 a4 a5 a6 hb2 hk1 rn1 rd1
    obtain ⟨a0, a1, a2, a3, a4, a5, a6⟩ := hk2.facts
    go_wp2_with fail
    refine (isone_any D dc ds _ rd2 (by omega) md).mono ?_
    rintro e w3 ⟨he, n3, hwe⟩
    rw [ho.out] at he
    subst he
    have hb3 : Below w2.heap.size w2 w3 := by rw [hwe]; exact below_drew_ (Below.refl _ _) n3
    have hk3 := hk2.below hb3
    have hw3 := hw2.trans (hb3.mono hw2.size)
    have rd3 := rd2.below hb3
    have HT3 : Hid (Lib.TabBelow Tryz.prog w3.heap.size w3 "internal/strconv.uint64pow10" .u64 Lib.pow10Tab) := fun w' h => HT.out w' (hw3.trans (h.mono hw3.size))
    clear a0 a1 a2 a3 a4 a5 a6 hb3 hk2 hwe rd2
    obtain ⟨a0, a1, a2, a3, a4, a5, a6⟩ := hk3.facts
    go_wp2_with fail
    first
      | (go_ret2
         exact ⟨by unfold ratText; rw [hXe.out, of_decide_eq_true ho.out]; simp, hw3⟩)
      | (refine (text_any D dc ds _ rd3 md l2 HT3.out).mono ?_
         rintro e w4 ⟨he, hb4⟩
         rw [hYe.out] at he
         subst he
         go_wp2_with fail
         go_ret2
         exact ⟨by unfold ratText; rw [hXe.out, hYe.out, if_neg (of_decide_eq_false ho.out)]; simp, hw3.trans (hb4.mono hw3.size)⟩)
end Go.Proofs.YtdonbgjmcbhecaaGreatDoor

