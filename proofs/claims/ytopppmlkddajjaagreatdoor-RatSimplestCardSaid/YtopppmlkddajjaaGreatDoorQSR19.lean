/- isochroneref02: Add, Sub, Mid, Cmp. -/
import Derived.Test.YtopppmlkddajjaaGreatDoorQSR18
namespace Go.Proofs.YtopppmlkddajjaaGreatDoor
open Go.RowKit V

theorem add_q {s s1 s2 : Bool} {n1 d1 n2 d2 z : Nat} {p q : Rat} (hp : QOf s1 n1 d1 p) (hq : QOf s2 n2 d2 q) (hz : sgn s z = sgn s1 (n1 * d2) + sgn s2 (n2 * d1)) : mkRat (sgn s z) (d1 * d2) = p + q := by
  rw [hp.eq, hq.eq, mkRat_add _ _ _ _ hp.pos hq.pos, hz, sgn_mul_nat, sgn_mul_nat]
set_option maxRecDepth 100000 in
set_option maxHeartbeats 6400000 in
theorem radd_ffs (a b : RL) (p q : Rat) (hsa : a.s = false) (hsb : b.s = false) (w : World) (ha : a.Ref w p) (hb_ : b.Ref w q) (bl : a.ns.length + a.ds.length + b.ns.length + b.ds.length ≤ 3000) :
    Calls Tryz.prog 18 #[.agg #[.bool false, .slice a.N a.ns.length a.nc, .slice a.D a.ds.length a.dc], .agg #[.bool false, .slice b.N b.ns.length b.nc, .slice b.D b.ds.length b.dc]] w (RefP (p + q) (a.ns.length + a.ds.length + b.ns.length + b.ds.length + 3) (a.ds.length + b.ds.length + 1) w) := by
  have HSA := Lib.hid hsa
  have HSB := Lib.hid hsb
  clear hsa hsb
  go_enter Tryz.func18, Tryz.ntmps18
  go_wp2_with fail
  have hbox := boxes3 30 w (.bool false) (.slice a.N a.ns.length a.nc) (.slice a.D a.ds.length a.dc) (.bool false) (.slice b.N b.ns.length b.nc) (.slice b.D b.ds.length b.dc) (.bool false) (.slice none 0 0) (.slice none 0 0)
  obtain ⟨w1, hwe⟩ : ∃ x, ((w.alloc (.cells #[.bool false, .slice a.N a.ns.length a.nc, .slice a.D a.ds.length a.dc] 30)).alloc (.cells #[.bool false, .slice b.N b.ns.length b.nc, .slice b.D b.ds.length b.dc] 30)).alloc (.cells #[.bool false, .slice none 0 0, .slice none 0 0] 30) = x := ⟨_, rfl⟩
  rw [hwe] at hbox ⊢
  obtain ⟨ka1, kb1, kr1, hb1⟩ := hbox
  have HWE := Lib.hid hwe
  clear hwe HWE
  have ha1 := ha.below hb1
  have hb_1 := hb_.below hb1
  have hw1 := hb1
  clear ha hb_ hb1
  have hna1 := ha1.rn
  have hda1 := ha1.rd
  have hnb1 := hb_1.rn
  have hdb1 := hb_1.rd
  have mna := ha1.mn
  have mda := ha1.md
  have mnb := hb_1.mn
  have mdb := hb_1.md
  have QA := Lib.hid ha1.q
  have QB := Lib.hid hb_1.q
  clear ha1 hb_1
  have e1 : ¬ (w.heap.size = w.heap.size + 1 + 1) := by omega
  have e2 : ¬ (w.heap.size + 1 + 1 = w.heap.size) := by omega
  obtain ⟨a0, a1, a2, a3, a4, a5, a6⟩ := ka1.facts
  obtain ⟨b0, b1, b2, b3, b4, b5, b6⟩ := kb1.facts
  go_upto_region 1 with fail
  go_cut [5, 6] (fun s5 s6 wx => ∃ G gc gl H hc hl, s5 = .slice G (gl : List Nat).length gc ∧ s6 = .slice H (hl : List Nat).length hc ∧ Rd .i64 wx G gl ∧ Rd .i64 wx H hl ∧ Nm gl ∧ Nm hl ∧ Hid (VD gl = VD a.ns * VD b.ds) ∧ Hid (VD hl = VD b.ns * VD a.ds) ∧ gl.length ≤ a.ns.length + b.ds.length + 1 ∧ hl.length ≤ b.ns.length + a.ds.length + 1 ∧ Below w1.heap.size w1 wx)
  case first =>
    go_region_held3 (fun w' => w'.cell? ⟨w.heap.size, 1, none⟩ = some (.slice a.N a.ns.length a.nc) ∧ w'.cell? ⟨w.heap.size, 2, none⟩ = some (.slice a.D a.ds.length a.dc) ∧ w'.cell? ⟨w.heap.size + 1, 1, none⟩ = some (.slice b.N b.ns.length b.nc) ∧ w'.cell? ⟨w.heap.size + 1, 2, none⟩ = some (.slice b.D b.ds.length b.dc)) (first | exact ⟨‹_›, ‹_›, ‹_›, ‹_›⟩ | go_keep)
      (first
      | (go_at_call_of 50 (Value.slice a.N a.ns.length a.nc)
         refine (rmul_any a.N b.D a.nc b.dc a.ns b.ds _ (by first | exact hna1 | exact hna1.drew | exact hna1.alloc _ | exact (hna1.alloc _).drew | exact hna1.drew.alloc _) (by first | exact hdb1 | exact hdb1.drew | exact hdb1.alloc _ | exact (hdb1.alloc _).drew | exact hdb1.drew.alloc _) (by omega) mna mdb).mono ?_
         rintro e wx_ ⟨G, gc, gl, rfl, hgc, hG, hbx, hvg, mg, hgl⟩
         have HVG := Lib.hid hvg
         clear hvg
         have hbp0 : Below w1.heap.size w1 wx_ := by first | exact hbx | exact below_of_drew hbx (Nat.le_refl _) | exact ((Below.refl _ _).alloc (Nat.le_refl _) _).trans (hbx.mono (by simp)) | exact ((Below.refl _ _).alloc (Nat.le_refl _) _).trans ((below_of_drew hbx (Nat.le_refl _)).mono (by simp)) | exact below_of_drew (((Below.refl _ _).alloc (Nat.le_refl _) _).trans (hbx.mono (by simp))) (Nat.le_refl _)
         have hna_0 := hna1.below hbp0
         have hda_0 := hda1.below hbp0
         have hnb_0 := hnb1.below hbp0
         have hdb_0 := hdb1.below hbp0
         have ka_0 := ka1.below hbp0
         obtain ⟨ka0wx_, ka1wx_, ka2wx_, ka3wx_, ka4wx_, ka5wx_, ka6wx_⟩ := ka_0.facts
         have kb_0 := kb1.below hbp0
         obtain ⟨kb0wx_, kb1wx_, kb2wx_, kb3wx_, kb4wx_, kb5wx_, kb6wx_⟩ := kb_0.facts
         have hwq0 := hw1.trans (hbp0.mono hw1.size))
      | (go_at_call_of 50 (Value.slice b.N b.ns.length b.nc)
         refine (rmul_any b.N a.D b.nc a.dc b.ns a.ds _ (by first | exact hnb_0 | exact hnb_0.drew | exact hnb_0.alloc _ | exact (hnb_0.alloc _).drew | exact hnb_0.drew.alloc _) (by first | exact hda_0 | exact hda_0.drew | exact hda_0.alloc _ | exact (hda_0.alloc _).drew | exact hda_0.drew.alloc _) (by omega) mnb mda).mono ?_
         rintro e wy_ ⟨H, hc, hl, rfl, hhc, hH, hby, hvh, mh, hhl⟩
         have HVH := Lib.hid hvh
         clear hvh
         have hbp1 : Below wx_.heap.size wx_ wy_ := by first | exact hby | exact below_of_drew hby (Nat.le_refl _) | exact ((Below.refl _ _).alloc (Nat.le_refl _) _).trans (hby.mono (by simp)) | exact ((Below.refl _ _).alloc (Nat.le_refl _) _).trans ((below_of_drew hby (Nat.le_refl _)).mono (by simp)) | exact below_of_drew (((Below.refl _ _).alloc (Nat.le_refl _) _).trans (hby.mono (by simp))) (Nat.le_refl _)
         have hna_1 := hna_0.below hbp1
         have hda_1 := hda_0.below hbp1
         have hnb_1 := hnb_0.below hbp1
         have hdb_1 := hdb_0.below hbp1
         have hG_1 := hG.below hbp1
         have ka_1 := ka_0.below hbp1
         obtain ⟨ka0wy_, ka1wy_, ka2wy_, ka3wy_, ka4wy_, ka5wy_, ka6wy_⟩ := ka_1.facts
         have kb_1 := kb_0.below hbp1
         obtain ⟨kb0wy_, kb1wy_, kb2wy_, kb3wy_, kb4wy_, kb5wy_, kb6wy_⟩ := kb_1.facts
         have hwq1 := hwq0.trans (hbp1.mono hwq0.size)))
    all_goals
      go_wp2_with fail
      go_meet
      exact ⟨G, gc, gl, H, hc, hl, rfl, rfl, hG_1, hH, mg, mh, HVG, HVH, hgl, hhl, (hbp0).trans (hbp1.mono (hbp0).size)⟩
  clear a0 a1 a2 a3 a4 a5 a6
  clear b0 b1 b2 b3 b4 b5 b6
  obtain ⟨w2, rfl⟩ : ∃ x, x = wc := ⟨_, rfl⟩
  obtain ⟨G, gc, gl, H, hc, hl, rfl, rfl, hG2, hH2, mg, mh, HVG, HVH, hgl, hhl, hb2⟩ := hcut
  have ka2 := ka1.below hb2
  have kb2 := kb1.below hb2
  have kr2 := kr1.below hb2
  have hna2 := hna1.below hb2
  have hda2 := hda1.below hb2
  have hnb2 := hnb1.below hb2
  have hdb2 := hdb1.below hb2
  have hw2 := hw1.trans (hb2.mono hw1.size)
  clear ka1 kb1 kr1 hna1 hda1 hnb1 hdb1 hw1 hb2
  obtain ⟨a0, a1, a2, a3, a4, a5, a6⟩ := ka2.facts
  obtain ⟨b0, b1, b2, b3, b4, b5, b6⟩ := kb2.facts
  go_wp2_with fail
  refine (rmul_any a.D b.D a.dc b.dc a.ds b.ds _ hda2 hdb2 (by omega) mda mdb).mono ?_
  rintro e w3 ⟨D2, d2c, dl, rfl, hd2c, hE3, hb3, hvd, md2, hdl⟩
  have ka3 := ka2.below hb3
  have kb3 := kb2.below hb3
  have kr3 := kr2.below hb3
  have hna3 := hna2.below hb3
  have hda3 := hda2.below hb3
  have hnb3 := hnb2.below hb3
  have hdb3 := hdb2.below hb3
  have hG3 := hG2.below hb3
  have hH3 := hH2.below hb3
  have hw3 := hw2.trans (hb3.mono hw2.size)
  clear ka2 kb2 kr2 hna2 hda2 hnb2 hdb2 hG2 hH2 hw2 hb3
  clear a0 a1 a2 a3 a4 a5 a6
  clear b0 b1 b2 b3 b4 b5 b6
  have HVD := Lib.hid hvd
  clear hvd
  obtain ⟨a0, a1, a2, a3, a4, a5, a6⟩ := ka3.facts
  obtain ⟨b0, b1, b2, b3, b4, b5, b6⟩ := kb3.facts
  have hdp : 0 < dl.length := len_of_VD (by rw [HVD.out]; exact Nat.mul_pos QA.out.pos QB.out.pos)
  go_upto_region 4 with fail
  go_region_held3 (fun w' => w'.cell? ⟨w.heap.size, 0, none⟩ = some (.bool false) ∧ w'.cell? ⟨w.heap.size, 1, none⟩ = some (.slice a.N a.ns.length a.nc) ∧ w'.cell? ⟨w.heap.size, 2, none⟩ = some (.slice a.D a.ds.length a.dc) ∧ w'.cell? ⟨w.heap.size + 1, 0, none⟩ = some (.bool false) ∧ w'.cell? ⟨w.heap.size + 1, 1, none⟩ = some (.slice b.N b.ns.length b.nc) ∧ w'.cell? ⟨w.heap.size + 1, 2, none⟩ = some (.slice b.D b.ds.length b.dc)) (first | exact ⟨‹_›, ‹_›, ‹_›, ‹_›, ‹_›, ‹_›⟩ | go_keep)
    (first
    | (go_at_call 52
       refine (radd_any G H gc hc gl hl _ (by first | exact hG3 | exact hG3.drew | exact hG3.alloc _ | exact (hG3.alloc _).drew | exact hG3.drew.alloc _) (by first | exact hH3 | exact hH3.drew | exact hH3.alloc _ | exact (hH3.alloc _).drew | exact hH3.drew.alloc _) (by omega) (by omega) mg mh).mono ?_
       rintro e wx_ ⟨X, xc, xl, rfl, hxc, hX, hbx, hvx, mx, hxl⟩
       have HVX := Lib.hid hvx
       clear hvx
       have hbp0 : Below w3.heap.size w3 wx_ := by first | exact hbx | exact below_of_drew hbx (Nat.le_refl _) | exact ((Below.refl _ _).alloc (Nat.le_refl _) _).trans (hbx.mono (by simp)) | exact ((Below.refl _ _).alloc (Nat.le_refl _) _).trans ((below_of_drew hbx (Nat.le_refl _)).mono (by simp)) | exact below_of_drew (((Below.refl _ _).alloc (Nat.le_refl _) _).trans (hbx.mono (by simp))) (Nat.le_refl _)
       have hG_0 := hG3.below hbp0
       have hH_0 := hH3.below hbp0
       have hE_0 := hE3.below hbp0
       have ka_0 := ka3.below hbp0
       obtain ⟨ka0wx_, ka1wx_, ka2wx_, ka3wx_, ka4wx_, ka5wx_, ka6wx_⟩ := ka_0.facts
       have kb_0 := kb3.below hbp0
       obtain ⟨kb0wx_, kb1wx_, kb2wx_, kb3wx_, kb4wx_, kb5wx_, kb6wx_⟩ := kb_0.facts
       have kr_0 := kr3.below hbp0
       obtain ⟨kr0wx_, kr1wx_, kr2wx_, kr3wx_, kr4wx_, kr5wx_, kr6wx_⟩ := kr_0.facts
       have hwq0 := hw3.trans (hbp0.mono hw3.size))
    | (go_at_call 51
       refine (rmake false X D2 xc d2c xl dl _ (by first | exact hX | exact hX.drew | exact hX.alloc _ | exact (hX.alloc _).drew | exact hX.drew.alloc _) (by first | exact hE_0 | exact hE_0.drew | exact hE_0.alloc _ | exact (hE_0.alloc _).drew | exact hE_0.drew.alloc _) mx md2 (by omega) (by omega) hdp).mono ?_
       rintro e wm_ ⟨r, rfl, hr, hr1, hr2_, hbm⟩
       have HSG : Hid (sgn false (VD xl) = sgn false (VD a.ns * VD b.ds) + sgn false (VD b.ns * VD a.ds)) := by show _ = _; rw [HVX.out, HVG.out, HVH.out]; simp [sgn]
       rw [HVD.out, add_q QA.out QB.out (by rw [HSA.out, HSB.out]; exact HSG.out)] at hr
       have hbp1 : Below wx_.heap.size wx_ wm_ := by first | exact hbm | exact below_of_drew hbm (Nat.le_refl _) | exact ((Below.refl _ _).alloc (Nat.le_refl _) _).trans (hbm.mono (by simp)) | exact ((Below.refl _ _).alloc (Nat.le_refl _) _).trans ((below_of_drew hbm (Nat.le_refl _)).mono (by simp)) | exact below_of_drew (((Below.refl _ _).alloc (Nat.le_refl _) _).trans (hbm.mono (by simp))) (Nat.le_refl _)
       have hG_1 := hG_0.below hbp1
       have hH_1 := hH_0.below hbp1
       have hE_1 := hE_0.below hbp1
       have hX_1 := hX.below hbp1
       have ka_1 := ka_0.below hbp1
       obtain ⟨ka0wm_, ka1wm_, ka2wm_, ka3wm_, ka4wm_, ka5wm_, ka6wm_⟩ := ka_1.facts
       have kb_1 := kb_0.below hbp1
       obtain ⟨kb0wm_, kb1wm_, kb2wm_, kb3wm_, kb4wm_, kb5wm_, kb6wm_⟩ := kb_1.facts
       have kr_1 := kr_0.below hbp1
       obtain ⟨kr0wm_, kr1wm_, kr2wm_, kr3wm_, kr4wm_, kr5wm_, kr6wm_⟩ := kr_1.facts
       have hwq1 := hwq0.trans (hbp1.mono hwq0.size)))
  all_goals
    go_wp2_with fail
    refine bodyPost_ret (v := .agg #[.bool r.s, .slice r.N r.ns.length r.nc, .slice r.D r.ds.length r.dc]) (by simp [results, Tryz.results18, go_sem, kr0wm_, kr1wm_, kr2wm_]) rfl ?_
    exact RefP.put r hr kr_1 (by omega) hwq1 (by omega) (by omega)
set_option maxRecDepth 100000 in
set_option maxHeartbeats 6400000 in
theorem radd_tts (a b : RL) (p q : Rat) (hsa : a.s = true) (hsb : b.s = true) (w : World) (ha : a.Ref w p) (hb_ : b.Ref w q) (bl : a.ns.length + a.ds.length + b.ns.length + b.ds.length ≤ 3000) :
    Calls Tryz.prog 18 #[.agg #[.bool true, .slice a.N a.ns.length a.nc, .slice a.D a.ds.length a.dc], .agg #[.bool true, .slice b.N b.ns.length b.nc, .slice b.D b.ds.length b.dc]] w (RefP (p + q) (a.ns.length + a.ds.length + b.ns.length + b.ds.length + 3) (a.ds.length + b.ds.length + 1) w) := by
  have HSA := Lib.hid hsa
  have HSB := Lib.hid hsb
  clear hsa hsb
  go_enter Tryz.func18, Tryz.ntmps18
  go_wp2_with fail
  have hbox := boxes3 30 w (.bool true) (.slice a.N a.ns.length a.nc) (.slice a.D a.ds.length a.dc) (.bool true) (.slice b.N b.ns.length b.nc) (.slice b.D b.ds.length b.dc) (.bool false) (.slice none 0 0) (.slice none 0 0)
  obtain ⟨w1, hwe⟩ : ∃ x, ((w.alloc (.cells #[.bool true, .slice a.N a.ns.length a.nc, .slice a.D a.ds.length a.dc] 30)).alloc (.cells #[.bool true, .slice b.N b.ns.length b.nc, .slice b.D b.ds.length b.dc] 30)).alloc (.cells #[.bool false, .slice none 0 0, .slice none 0 0] 30) = x := ⟨_, rfl⟩
  rw [hwe] at hbox ⊢
  obtain ⟨ka1, kb1, kr1, hb1⟩ := hbox
  have HWE := Lib.hid hwe
  clear hwe HWE
  have ha1 := ha.below hb1
  have hb_1 := hb_.below hb1
  have hw1 := hb1
  clear ha hb_ hb1
  have hna1 := ha1.rn
  have hda1 := ha1.rd
  have hnb1 := hb_1.rn
  have hdb1 := hb_1.rd
  have mna := ha1.mn
  have mda := ha1.md
  have mnb := hb_1.mn
  have mdb := hb_1.md
  have QA := Lib.hid ha1.q
  have QB := Lib.hid hb_1.q
  clear ha1 hb_1
  have e1 : ¬ (w.heap.size = w.heap.size + 1 + 1) := by omega
  have e2 : ¬ (w.heap.size + 1 + 1 = w.heap.size) := by omega
  obtain ⟨a0, a1, a2, a3, a4, a5, a6⟩ := ka1.facts
  obtain ⟨b0, b1, b2, b3, b4, b5, b6⟩ := kb1.facts
  go_upto_region 1 with fail
  go_cut [5, 6] (fun s5 s6 wx => ∃ G gc gl H hc hl, s5 = .slice G (gl : List Nat).length gc ∧ s6 = .slice H (hl : List Nat).length hc ∧ Rd .i64 wx G gl ∧ Rd .i64 wx H hl ∧ Nm gl ∧ Nm hl ∧ Hid (VD gl = VD a.ns * VD b.ds) ∧ Hid (VD hl = VD b.ns * VD a.ds) ∧ gl.length ≤ a.ns.length + b.ds.length + 1 ∧ hl.length ≤ b.ns.length + a.ds.length + 1 ∧ Below w1.heap.size w1 wx)
  case first =>
    go_region_held3 (fun w' => w'.cell? ⟨w.heap.size, 1, none⟩ = some (.slice a.N a.ns.length a.nc) ∧ w'.cell? ⟨w.heap.size, 2, none⟩ = some (.slice a.D a.ds.length a.dc) ∧ w'.cell? ⟨w.heap.size + 1, 1, none⟩ = some (.slice b.N b.ns.length b.nc) ∧ w'.cell? ⟨w.heap.size + 1, 2, none⟩ = some (.slice b.D b.ds.length b.dc)) (first | exact ⟨‹_›, ‹_›, ‹_›, ‹_›⟩ | go_keep)
      (first
      | (go_at_call_of 50 (Value.slice a.N a.ns.length a.nc)
         refine (rmul_any a.N b.D a.nc b.dc a.ns b.ds _ (by first | exact hna1 | exact hna1.drew | exact hna1.alloc _ | exact (hna1.alloc _).drew | exact hna1.drew.alloc _) (by first | exact hdb1 | exact hdb1.drew | exact hdb1.alloc _ | exact (hdb1.alloc _).drew | exact hdb1.drew.alloc _) (by omega) mna mdb).mono ?_
         rintro e wx_ ⟨G, gc, gl, rfl, hgc, hG, hbx, hvg, mg, hgl⟩
         have HVG := Lib.hid hvg
         clear hvg
         have hbp0 : Below w1.heap.size w1 wx_ := by first | exact hbx | exact below_of_drew hbx (Nat.le_refl _) | exact ((Below.refl _ _).alloc (Nat.le_refl _) _).trans (hbx.mono (by simp)) | exact ((Below.refl _ _).alloc (Nat.le_refl _) _).trans ((below_of_drew hbx (Nat.le_refl _)).mono (by simp)) | exact below_of_drew (((Below.refl _ _).alloc (Nat.le_refl _) _).trans (hbx.mono (by simp))) (Nat.le_refl _)
         have hna_0 := hna1.below hbp0
         have hda_0 := hda1.below hbp0
         have hnb_0 := hnb1.below hbp0
         have hdb_0 := hdb1.below hbp0
         have ka_0 := ka1.below hbp0
         obtain ⟨ka0wx_, ka1wx_, ka2wx_, ka3wx_, ka4wx_, ka5wx_, ka6wx_⟩ := ka_0.facts
         have kb_0 := kb1.below hbp0
         obtain ⟨kb0wx_, kb1wx_, kb2wx_, kb3wx_, kb4wx_, kb5wx_, kb6wx_⟩ := kb_0.facts
         have hwq0 := hw1.trans (hbp0.mono hw1.size))
      | (go_at_call_of 50 (Value.slice b.N b.ns.length b.nc)
         refine (rmul_any b.N a.D b.nc a.dc b.ns a.ds _ (by first | exact hnb_0 | exact hnb_0.drew | exact hnb_0.alloc _ | exact (hnb_0.alloc _).drew | exact hnb_0.drew.alloc _) (by first | exact hda_0 | exact hda_0.drew | exact hda_0.alloc _ | exact (hda_0.alloc _).drew | exact hda_0.drew.alloc _) (by omega) mnb mda).mono ?_
         rintro e wy_ ⟨H, hc, hl, rfl, hhc, hH, hby, hvh, mh, hhl⟩
         have HVH := Lib.hid hvh
         clear hvh
         have hbp1 : Below wx_.heap.size wx_ wy_ := by first | exact hby | exact below_of_drew hby (Nat.le_refl _) | exact ((Below.refl _ _).alloc (Nat.le_refl _) _).trans (hby.mono (by simp)) | exact ((Below.refl _ _).alloc (Nat.le_refl _) _).trans ((below_of_drew hby (Nat.le_refl _)).mono (by simp)) | exact below_of_drew (((Below.refl _ _).alloc (Nat.le_refl _) _).trans (hby.mono (by simp))) (Nat.le_refl _)
         have hna_1 := hna_0.below hbp1
         have hda_1 := hda_0.below hbp1
         have hnb_1 := hnb_0.below hbp1
         have hdb_1 := hdb_0.below hbp1
         have hG_1 := hG.below hbp1
         have ka_1 := ka_0.below hbp1
         obtain ⟨ka0wy_, ka1wy_, ka2wy_, ka3wy_, ka4wy_, ka5wy_, ka6wy_⟩ := ka_1.facts
         have kb_1 := kb_0.below hbp1
         obtain ⟨kb0wy_, kb1wy_, kb2wy_, kb3wy_, kb4wy_, kb5wy_, kb6wy_⟩ := kb_1.facts
         have hwq1 := hwq0.trans (hbp1.mono hwq0.size)))
    all_goals
      go_wp2_with fail
      go_meet
      exact ⟨G, gc, gl, H, hc, hl, rfl, rfl, hG_1, hH, mg, mh, HVG, HVH, hgl, hhl, (hbp0).trans (hbp1.mono (hbp0).size)⟩
  clear a0 a1 a2 a3 a4 a5 a6
  clear b0 b1 b2 b3 b4 b5 b6
  obtain ⟨w2, rfl⟩ : ∃ x, x = wc := ⟨_, rfl⟩
  obtain ⟨G, gc, gl, H, hc, hl, rfl, rfl, hG2, hH2, mg, mh, HVG, HVH, hgl, hhl, hb2⟩ := hcut
  have ka2 := ka1.below hb2
  have kb2 := kb1.below hb2
  have kr2 := kr1.below hb2
  have hna2 := hna1.below hb2
  have hda2 := hda1.below hb2
  have hnb2 := hnb1.below hb2
  have hdb2 := hdb1.below hb2
  have hw2 := hw1.trans (hb2.mono hw1.size)
  clear ka1 kb1 kr1 hna1 hda1 hnb1 hdb1 hw1 hb2
  obtain ⟨a0, a1, a2, a3, a4, a5, a6⟩ := ka2.facts
  obtain ⟨b0, b1, b2, b3, b4, b5, b6⟩ := kb2.facts
  go_wp2_with fail
  refine (rmul_any a.D b.D a.dc b.dc a.ds b.ds _ hda2 hdb2 (by omega) mda mdb).mono ?_
  rintro e w3 ⟨D2, d2c, dl, rfl, hd2c, hE3, hb3, hvd, md2, hdl⟩
  have ka3 := ka2.below hb3
  have kb3 := kb2.below hb3
  have kr3 := kr2.below hb3
  have hna3 := hna2.below hb3
  have hda3 := hda2.below hb3
  have hnb3 := hnb2.below hb3
  have hdb3 := hdb2.below hb3
  have hG3 := hG2.below hb3
  have hH3 := hH2.below hb3
  have hw3 := hw2.trans (hb3.mono hw2.size)
  clear ka2 kb2 kr2 hna2 hda2 hnb2 hdb2 hG2 hH2 hw2 hb3
  clear a0 a1 a2 a3 a4 a5 a6
  clear b0 b1 b2 b3 b4 b5 b6
  have HVD := Lib.hid hvd
  clear hvd
  obtain ⟨a0, a1, a2, a3, a4, a5, a6⟩ := ka3.facts
  obtain ⟨b0, b1, b2, b3, b4, b5, b6⟩ := kb3.facts
  have hdp : 0 < dl.length := len_of_VD (by rw [HVD.out]; exact Nat.mul_pos QA.out.pos QB.out.pos)
  go_upto_region 4 with fail
  go_region_held3 (fun w' => w'.cell? ⟨w.heap.size, 0, none⟩ = some (.bool true) ∧ w'.cell? ⟨w.heap.size, 1, none⟩ = some (.slice a.N a.ns.length a.nc) ∧ w'.cell? ⟨w.heap.size, 2, none⟩ = some (.slice a.D a.ds.length a.dc) ∧ w'.cell? ⟨w.heap.size + 1, 0, none⟩ = some (.bool true) ∧ w'.cell? ⟨w.heap.size + 1, 1, none⟩ = some (.slice b.N b.ns.length b.nc) ∧ w'.cell? ⟨w.heap.size + 1, 2, none⟩ = some (.slice b.D b.ds.length b.dc)) (first | exact ⟨‹_›, ‹_›, ‹_›, ‹_›, ‹_›, ‹_›⟩ | go_keep)
    (first
    | (go_at_call 52
       refine (radd_any G H gc hc gl hl _ (by first | exact hG3 | exact hG3.drew | exact hG3.alloc _ | exact (hG3.alloc _).drew | exact hG3.drew.alloc _) (by first | exact hH3 | exact hH3.drew | exact hH3.alloc _ | exact (hH3.alloc _).drew | exact hH3.drew.alloc _) (by omega) (by omega) mg mh).mono ?_
       rintro e wx_ ⟨X, xc, xl, rfl, hxc, hX, hbx, hvx, mx, hxl⟩
       have HVX := Lib.hid hvx
       clear hvx
       have hbp0 : Below w3.heap.size w3 wx_ := by first | exact hbx | exact below_of_drew hbx (Nat.le_refl _) | exact ((Below.refl _ _).alloc (Nat.le_refl _) _).trans (hbx.mono (by simp)) | exact ((Below.refl _ _).alloc (Nat.le_refl _) _).trans ((below_of_drew hbx (Nat.le_refl _)).mono (by simp)) | exact below_of_drew (((Below.refl _ _).alloc (Nat.le_refl _) _).trans (hbx.mono (by simp))) (Nat.le_refl _)
       have hG_0 := hG3.below hbp0
       have hH_0 := hH3.below hbp0
       have hE_0 := hE3.below hbp0
       have ka_0 := ka3.below hbp0
       obtain ⟨ka0wx_, ka1wx_, ka2wx_, ka3wx_, ka4wx_, ka5wx_, ka6wx_⟩ := ka_0.facts
       have kb_0 := kb3.below hbp0
       obtain ⟨kb0wx_, kb1wx_, kb2wx_, kb3wx_, kb4wx_, kb5wx_, kb6wx_⟩ := kb_0.facts
       have kr_0 := kr3.below hbp0
       obtain ⟨kr0wx_, kr1wx_, kr2wx_, kr3wx_, kr4wx_, kr5wx_, kr6wx_⟩ := kr_0.facts
       have hwq0 := hw3.trans (hbp0.mono hw3.size))
    | (go_at_call 51
       refine (rmake true X D2 xc d2c xl dl _ (by first | exact hX | exact hX.drew | exact hX.alloc _ | exact (hX.alloc _).drew | exact hX.drew.alloc _) (by first | exact hE_0 | exact hE_0.drew | exact hE_0.alloc _ | exact (hE_0.alloc _).drew | exact hE_0.drew.alloc _) mx md2 (by omega) (by omega) hdp).mono ?_
       rintro e wm_ ⟨r, rfl, hr, hr1, hr2_, hbm⟩
       have HSG : Hid (sgn true (VD xl) = sgn true (VD a.ns * VD b.ds) + sgn true (VD b.ns * VD a.ds)) := by show _ = _; rw [HVX.out, HVG.out, HVH.out]; simp [sgn]; omega
       rw [HVD.out, add_q QA.out QB.out (by rw [HSA.out, HSB.out]; exact HSG.out)] at hr
       have hbp1 : Below wx_.heap.size wx_ wm_ := by first | exact hbm | exact below_of_drew hbm (Nat.le_refl _) | exact ((Below.refl _ _).alloc (Nat.le_refl _) _).trans (hbm.mono (by simp)) | exact ((Below.refl _ _).alloc (Nat.le_refl _) _).trans ((below_of_drew hbm (Nat.le_refl _)).mono (by simp)) | exact below_of_drew (((Below.refl _ _).alloc (Nat.le_refl _) _).trans (hbm.mono (by simp))) (Nat.le_refl _)
       have hG_1 := hG_0.below hbp1
       have hH_1 := hH_0.below hbp1
       have hE_1 := hE_0.below hbp1
       have hX_1 := hX.below hbp1
       have ka_1 := ka_0.below hbp1
       obtain ⟨ka0wm_, ka1wm_, ka2wm_, ka3wm_, ka4wm_, ka5wm_, ka6wm_⟩ := ka_1.facts
       have kb_1 := kb_0.below hbp1
       obtain ⟨kb0wm_, kb1wm_, kb2wm_, kb3wm_, kb4wm_, kb5wm_, kb6wm_⟩ := kb_1.facts
       have kr_1 := kr_0.below hbp1
       obtain ⟨kr0wm_, kr1wm_, kr2wm_, kr3wm_, kr4wm_, kr5wm_, kr6wm_⟩ := kr_1.facts
       have hwq1 := hwq0.trans (hbp1.mono hwq0.size)))
  all_goals
    go_wp2_with fail
    refine bodyPost_ret (v := .agg #[.bool r.s, .slice r.N r.ns.length r.nc, .slice r.D r.ds.length r.dc]) (by simp [results, Tryz.results18, go_sem, kr0wm_, kr1wm_, kr2wm_]) rfl ?_
    exact RefP.put r hr kr_1 (by omega) hwq1 (by omega) (by omega)
set_option maxRecDepth 100000 in
set_option maxHeartbeats 6400000 in
theorem radd_ftg (a b : RL) (p q : Rat) (hsa : a.s = false) (hsb : b.s = true) (hc : VD b.ns * VD a.ds ≤ VD a.ns * VD b.ds) (w : World) (ha : a.Ref w p) (hb_ : b.Ref w q) (bl : a.ns.length + a.ds.length + b.ns.length + b.ds.length ≤ 3000) :
    Calls Tryz.prog 18 #[.agg #[.bool false, .slice a.N a.ns.length a.nc, .slice a.D a.ds.length a.dc], .agg #[.bool true, .slice b.N b.ns.length b.nc, .slice b.D b.ds.length b.dc]] w (RefP (p + q) (a.ns.length + a.ds.length + b.ns.length + b.ds.length + 3) (a.ds.length + b.ds.length + 1) w) := by
  have HSA := Lib.hid hsa
  have HSB := Lib.hid hsb
  clear hsa hsb
  have HCMP := Lib.hid hc
  clear hc
  go_enter Tryz.func18, Tryz.ntmps18
  go_wp2_with fail
  have hbox := boxes3 30 w (.bool false) (.slice a.N a.ns.length a.nc) (.slice a.D a.ds.length a.dc) (.bool true) (.slice b.N b.ns.length b.nc) (.slice b.D b.ds.length b.dc) (.bool false) (.slice none 0 0) (.slice none 0 0)
  obtain ⟨w1, hwe⟩ : ∃ x, ((w.alloc (.cells #[.bool false, .slice a.N a.ns.length a.nc, .slice a.D a.ds.length a.dc] 30)).alloc (.cells #[.bool true, .slice b.N b.ns.length b.nc, .slice b.D b.ds.length b.dc] 30)).alloc (.cells #[.bool false, .slice none 0 0, .slice none 0 0] 30) = x := ⟨_, rfl⟩
  rw [hwe] at hbox ⊢
  obtain ⟨ka1, kb1, kr1, hb1⟩ := hbox
  have HWE := Lib.hid hwe
  clear hwe HWE
  have ha1 := ha.below hb1
  have hb_1 := hb_.below hb1
  have hw1 := hb1
  clear ha hb_ hb1
  have hna1 := ha1.rn
  have hda1 := ha1.rd
  have hnb1 := hb_1.rn
  have hdb1 := hb_1.rd
  have mna := ha1.mn
  have mda := ha1.md
  have mnb := hb_1.mn
  have mdb := hb_1.md
  have QA := Lib.hid ha1.q
  have QB := Lib.hid hb_1.q
  clear ha1 hb_1
  have e1 : ¬ (w.heap.size = w.heap.size + 1 + 1) := by omega
  have e2 : ¬ (w.heap.size + 1 + 1 = w.heap.size) := by omega
  obtain ⟨a0, a1, a2, a3, a4, a5, a6⟩ := ka1.facts
  obtain ⟨b0, b1, b2, b3, b4, b5, b6⟩ := kb1.facts
  go_upto_region 1 with fail
  go_cut [5, 6] (fun s5 s6 wx => ∃ G gc gl H hc hl, s5 = .slice G (gl : List Nat).length gc ∧ s6 = .slice H (hl : List Nat).length hc ∧ Rd .i64 wx G gl ∧ Rd .i64 wx H hl ∧ Nm gl ∧ Nm hl ∧ Hid (VD gl = VD a.ns * VD b.ds) ∧ Hid (VD hl = VD b.ns * VD a.ds) ∧ gl.length ≤ a.ns.length + b.ds.length + 1 ∧ hl.length ≤ b.ns.length + a.ds.length + 1 ∧ Below w1.heap.size w1 wx)
  case first =>
    go_region_held3 (fun w' => w'.cell? ⟨w.heap.size, 1, none⟩ = some (.slice a.N a.ns.length a.nc) ∧ w'.cell? ⟨w.heap.size, 2, none⟩ = some (.slice a.D a.ds.length a.dc) ∧ w'.cell? ⟨w.heap.size + 1, 1, none⟩ = some (.slice b.N b.ns.length b.nc) ∧ w'.cell? ⟨w.heap.size + 1, 2, none⟩ = some (.slice b.D b.ds.length b.dc)) (first | exact ⟨‹_›, ‹_›, ‹_›, ‹_›⟩ | go_keep)
      (first
      | (go_at_call_of 50 (Value.slice a.N a.ns.length a.nc)
         refine (rmul_any a.N b.D a.nc b.dc a.ns b.ds _ (by first | exact hna1 | exact hna1.drew | exact hna1.alloc _ | exact (hna1.alloc _).drew | exact hna1.drew.alloc _) (by first | exact hdb1 | exact hdb1.drew | exact hdb1.alloc _ | exact (hdb1.alloc _).drew | exact hdb1.drew.alloc _) (by omega) mna mdb).mono ?_
         rintro e wx_ ⟨G, gc, gl, rfl, hgc, hG, hbx, hvg, mg, hgl⟩
         have HVG := Lib.hid hvg
         clear hvg
         have hbp0 : Below w1.heap.size w1 wx_ := by first | exact hbx | exact below_of_drew hbx (Nat.le_refl _) | exact ((Below.refl _ _).alloc (Nat.le_refl _) _).trans (hbx.mono (by simp)) | exact ((Below.refl _ _).alloc (Nat.le_refl _) _).trans ((below_of_drew hbx (Nat.le_refl _)).mono (by simp)) | exact below_of_drew (((Below.refl _ _).alloc (Nat.le_refl _) _).trans (hbx.mono (by simp))) (Nat.le_refl _)
         have hna_0 := hna1.below hbp0
         have hda_0 := hda1.below hbp0
         have hnb_0 := hnb1.below hbp0
         have hdb_0 := hdb1.below hbp0
         have ka_0 := ka1.below hbp0
         obtain ⟨ka0wx_, ka1wx_, ka2wx_, ka3wx_, ka4wx_, ka5wx_, ka6wx_⟩ := ka_0.facts
         have kb_0 := kb1.below hbp0
         obtain ⟨kb0wx_, kb1wx_, kb2wx_, kb3wx_, kb4wx_, kb5wx_, kb6wx_⟩ := kb_0.facts
         have hwq0 := hw1.trans (hbp0.mono hw1.size))
      | (go_at_call_of 50 (Value.slice b.N b.ns.length b.nc)
         refine (rmul_any b.N a.D b.nc a.dc b.ns a.ds _ (by first | exact hnb_0 | exact hnb_0.drew | exact hnb_0.alloc _ | exact (hnb_0.alloc _).drew | exact hnb_0.drew.alloc _) (by first | exact hda_0 | exact hda_0.drew | exact hda_0.alloc _ | exact (hda_0.alloc _).drew | exact hda_0.drew.alloc _) (by omega) mnb mda).mono ?_
         rintro e wy_ ⟨H, hc, hl, rfl, hhc, hH, hby, hvh, mh, hhl⟩
         have HVH := Lib.hid hvh
         clear hvh
         have hbp1 : Below wx_.heap.size wx_ wy_ := by first | exact hby | exact below_of_drew hby (Nat.le_refl _) | exact ((Below.refl _ _).alloc (Nat.le_refl _) _).trans (hby.mono (by simp)) | exact ((Below.refl _ _).alloc (Nat.le_refl _) _).trans ((below_of_drew hby (Nat.le_refl _)).mono (by simp)) | exact below_of_drew (((Below.refl _ _).alloc (Nat.le_refl _) _).trans (hby.mono (by simp))) (Nat.le_refl _)
         have hna_1 := hna_0.below hbp1
         have hda_1 := hda_0.below hbp1
         have hnb_1 := hnb_0.below hbp1
         have hdb_1 := hdb_0.below hbp1
         have hG_1 := hG.below hbp1
         have ka_1 := ka_0.below hbp1
         obtain ⟨ka0wy_, ka1wy_, ka2wy_, ka3wy_, ka4wy_, ka5wy_, ka6wy_⟩ := ka_1.facts
         have kb_1 := kb_0.below hbp1
         obtain ⟨kb0wy_, kb1wy_, kb2wy_, kb3wy_, kb4wy_, kb5wy_, kb6wy_⟩ := kb_1.facts
         have hwq1 := hwq0.trans (hbp1.mono hwq0.size)))
    all_goals
      go_wp2_with fail
      go_meet
      exact ⟨G, gc, gl, H, hc, hl, rfl, rfl, hG_1, hH, mg, mh, HVG, HVH, hgl, hhl, (hbp0).trans (hbp1.mono (hbp0).size)⟩
  clear a0 a1 a2 a3 a4 a5 a6
  clear b0 b1 b2 b3 b4 b5 b6
  obtain ⟨w2, rfl⟩ : ∃ x, x = wc := ⟨_, rfl⟩
  obtain ⟨G, gc, gl, H, hc, hl, rfl, rfl, hG2, hH2, mg, mh, HVG, HVH, hgl, hhl, hb2⟩ := hcut
  have ka2 := ka1.below hb2
  have kb2 := kb1.below hb2
  have kr2 := kr1.below hb2
  have hna2 := hna1.below hb2
  have hda2 := hda1.below hb2
  have hnb2 := hnb1.below hb2
  have hdb2 := hdb1.below hb2
  have hw2 := hw1.trans (hb2.mono hw1.size)
  clear ka1 kb1 kr1 hna1 hda1 hnb1 hdb1 hw1 hb2
  obtain ⟨a0, a1, a2, a3, a4, a5, a6⟩ := ka2.facts
  obtain ⟨b0, b1, b2, b3, b4, b5, b6⟩ := kb2.facts
  go_wp2_with fail
  refine (rmul_any a.D b.D a.dc b.dc a.ds b.ds _ hda2 hdb2 (by omega) mda mdb).mono ?_
  rintro e w3 ⟨D2, d2c, dl, rfl, hd2c, hE3, hb3, hvd, md2, hdl⟩
  have ka3 := ka2.below hb3
  have kb3 := kb2.below hb3
  have kr3 := kr2.below hb3
  have hna3 := hna2.below hb3
  have hda3 := hda2.below hb3
  have hnb3 := hnb2.below hb3
  have hdb3 := hdb2.below hb3
  have hG3 := hG2.below hb3
  have hH3 := hH2.below hb3
  have hw3 := hw2.trans (hb3.mono hw2.size)
  clear ka2 kb2 kr2 hna2 hda2 hnb2 hdb2 hG2 hH2 hw2 hb3
  clear a0 a1 a2 a3 a4 a5 a6
  clear b0 b1 b2 b3 b4 b5 b6
  have HVD := Lib.hid hvd
  clear hvd
  obtain ⟨a0, a1, a2, a3, a4, a5, a6⟩ := ka3.facts
  obtain ⟨b0, b1, b2, b3, b4, b5, b6⟩ := kb3.facts
  have hdp : 0 < dl.length := len_of_VD (by rw [HVD.out]; exact Nat.mul_pos QA.out.pos QB.out.pos)
  obtain ⟨g, hg, hgs⟩ : ∃ g, Hid (cmpOf (VD gl) (VD hl) = g) ∧ 0 ≤ g := ⟨_, Lib.hid rfl, by have := HCMP.out; rw [← HVG.out, ← HVH.out] at this; unfold cmpOf; split; omega; split <;> omega⟩
  go_wp2_with fail
  refine (rcmp_any G H gc hc gl hl _ hG3 hH3 (by omega) mg mh).mono ?_
  rintro e w4 ⟨he, n0, hwe⟩
  have hb4 := below_of_says hwe
  clear hwe
  have ka4 := ka3.below hb4
  have kb4 := kb3.below hb4
  have kr4 := kr3.below hb4
  have hna4 := hna3.below hb4
  have hda4 := hda3.below hb4
  have hnb4 := hnb3.below hb4
  have hdb4 := hdb3.below hb4
  have hG4 := hG3.below hb4
  have hH4 := hH3.below hb4
  have hE4 := hE3.below hb4
  have hw4 := hw3.trans (hb4.mono hw3.size)
  clear ka3 kb3 kr3 hna3 hda3 hnb3 hdb3 hG3 hH3 hE3 hw3 hb4
  rw [hg.out] at he
  subst he
  clear a0 a1 a2 a3 a4 a5 a6
  clear b0 b1 b2 b3 b4 b5 b6
  obtain ⟨a0, a1, a2, a3, a4, a5, a6⟩ := ka4.facts
  obtain ⟨b0, b1, b2, b3, b4, b5, b6⟩ := kb4.facts
  go_upto_region 6 with fail
  go_region_held3 (fun w' => w'.cell? ⟨w.heap.size, 0, none⟩ = some (.bool false) ∧ w'.cell? ⟨w.heap.size, 1, none⟩ = some (.slice a.N a.ns.length a.nc) ∧ w'.cell? ⟨w.heap.size, 2, none⟩ = some (.slice a.D a.ds.length a.dc) ∧ w'.cell? ⟨w.heap.size + 1, 0, none⟩ = some (.bool true) ∧ w'.cell? ⟨w.heap.size + 1, 1, none⟩ = some (.slice b.N b.ns.length b.nc) ∧ w'.cell? ⟨w.heap.size + 1, 2, none⟩ = some (.slice b.D b.ds.length b.dc)) (first | exact ⟨‹_›, ‹_›, ‹_›, ‹_›, ‹_›, ‹_›⟩ | go_keep)
    (first
    | (go_at_call 54
       refine (rsub_any G H gc hc gl hl _ (by first | exact hG4 | exact hG4.drew | exact hG4.alloc _ | exact (hG4.alloc _).drew | exact hG4.drew.alloc _) (by first | exact hH4 | exact hH4.drew | exact hH4.alloc _ | exact (hH4.alloc _).drew | exact hH4.drew.alloc _) (by omega) mg mh (by have := HCMP.out; rw [HVG.out, HVH.out]; omega)).mono ?_
       rintro e wx_ ⟨X, xc, xl, rfl, hxc, hX, hbx, hvx, mx, hxl⟩
       have HVX := Lib.hid hvx
       clear hvx
       have hbp0 : Below w4.heap.size w4 wx_ := by first | exact hbx | exact below_of_drew hbx (Nat.le_refl _) | exact ((Below.refl _ _).alloc (Nat.le_refl _) _).trans (hbx.mono (by simp)) | exact ((Below.refl _ _).alloc (Nat.le_refl _) _).trans ((below_of_drew hbx (Nat.le_refl _)).mono (by simp)) | exact below_of_drew (((Below.refl _ _).alloc (Nat.le_refl _) _).trans (hbx.mono (by simp))) (Nat.le_refl _)
       have hG_0 := hG4.below hbp0
       have hH_0 := hH4.below hbp0
       have hE_0 := hE4.below hbp0
       have ka_0 := ka4.below hbp0
       obtain ⟨ka0wx_, ka1wx_, ka2wx_, ka3wx_, ka4wx_, ka5wx_, ka6wx_⟩ := ka_0.facts
       have kb_0 := kb4.below hbp0
       obtain ⟨kb0wx_, kb1wx_, kb2wx_, kb3wx_, kb4wx_, kb5wx_, kb6wx_⟩ := kb_0.facts
       have kr_0 := kr4.below hbp0
       obtain ⟨kr0wx_, kr1wx_, kr2wx_, kr3wx_, kr4wx_, kr5wx_, kr6wx_⟩ := kr_0.facts
       have hwq0 := hw4.trans (hbp0.mono hw4.size))
    | (go_at_call 51
       refine (rmake false X D2 xc d2c xl dl _ (by first | exact hX | exact hX.drew | exact hX.alloc _ | exact (hX.alloc _).drew | exact hX.drew.alloc _) (by first | exact hE_0 | exact hE_0.drew | exact hE_0.alloc _ | exact (hE_0.alloc _).drew | exact hE_0.drew.alloc _) mx md2 (by omega) (by omega) hdp).mono ?_
       rintro e wm_ ⟨r, rfl, hr, hr1, hr2_, hbm⟩
       have HSG : Hid (sgn false (VD xl) = sgn false (VD a.ns * VD b.ds) + sgn true (VD b.ns * VD a.ds)) := by show _ = _; have h1 := HVX.out; rw [HVG.out, HVH.out] at h1; have := HCMP.out; simp [sgn]; omega
       rw [HVD.out, add_q QA.out QB.out (by rw [HSA.out, HSB.out]; exact HSG.out)] at hr
       have hbp1 : Below wx_.heap.size wx_ wm_ := by first | exact hbm | exact below_of_drew hbm (Nat.le_refl _) | exact ((Below.refl _ _).alloc (Nat.le_refl _) _).trans (hbm.mono (by simp)) | exact ((Below.refl _ _).alloc (Nat.le_refl _) _).trans ((below_of_drew hbm (Nat.le_refl _)).mono (by simp)) | exact below_of_drew (((Below.refl _ _).alloc (Nat.le_refl _) _).trans (hbm.mono (by simp))) (Nat.le_refl _)
       have hG_1 := hG_0.below hbp1
       have hH_1 := hH_0.below hbp1
       have hE_1 := hE_0.below hbp1
       have hX_1 := hX.below hbp1
       have ka_1 := ka_0.below hbp1
       obtain ⟨ka0wm_, ka1wm_, ka2wm_, ka3wm_, ka4wm_, ka5wm_, ka6wm_⟩ := ka_1.facts
       have kb_1 := kb_0.below hbp1
       obtain ⟨kb0wm_, kb1wm_, kb2wm_, kb3wm_, kb4wm_, kb5wm_, kb6wm_⟩ := kb_1.facts
       have kr_1 := kr_0.below hbp1
       obtain ⟨kr0wm_, kr1wm_, kr2wm_, kr3wm_, kr4wm_, kr5wm_, kr6wm_⟩ := kr_1.facts
       have hwq1 := hwq0.trans (hbp1.mono hwq0.size)))
  all_goals
    go_wp2_with fail
    refine bodyPost_ret (v := .agg #[.bool r.s, .slice r.N r.ns.length r.nc, .slice r.D r.ds.length r.dc]) (by simp [results, Tryz.results18, go_sem, kr0wm_, kr1wm_, kr2wm_]) rfl ?_
    exact RefP.put r hr kr_1 (by omega) hwq1 (by omega) (by omega)
set_option maxRecDepth 100000 in
set_option maxHeartbeats 6400000 in
theorem radd_ftl (a b : RL) (p q : Rat) (hsa : a.s = false) (hsb : b.s = true) (hc : VD a.ns * VD b.ds < VD b.ns * VD a.ds) (w : World) (ha : a.Ref w p) (hb_ : b.Ref w q) (bl : a.ns.length + a.ds.length + b.ns.length + b.ds.length ≤ 3000) :
    Calls Tryz.prog 18 #[.agg #[.bool false, .slice a.N a.ns.length a.nc, .slice a.D a.ds.length a.dc], .agg #[.bool true, .slice b.N b.ns.length b.nc, .slice b.D b.ds.length b.dc]] w (RefP (p + q) (a.ns.length + a.ds.length + b.ns.length + b.ds.length + 3) (a.ds.length + b.ds.length + 1) w) := by
  have HSA := Lib.hid hsa
  have HSB := Lib.hid hsb
  clear hsa hsb
  have HCMP := Lib.hid hc
  clear hc
  go_enter Tryz.func18, Tryz.ntmps18
  go_wp2_with fail
  have hbox := boxes3 30 w (.bool false) (.slice a.N a.ns.length a.nc) (.slice a.D a.ds.length a.dc) (.bool true) (.slice b.N b.ns.length b.nc) (.slice b.D b.ds.length b.dc) (.bool false) (.slice none 0 0) (.slice none 0 0)
  obtain ⟨w1, hwe⟩ : ∃ x, ((w.alloc (.cells #[.bool false, .slice a.N a.ns.length a.nc, .slice a.D a.ds.length a.dc] 30)).alloc (.cells #[.bool true, .slice b.N b.ns.length b.nc, .slice b.D b.ds.length b.dc] 30)).alloc (.cells #[.bool false, .slice none 0 0, .slice none 0 0] 30) = x := ⟨_, rfl⟩
  rw [hwe] at hbox ⊢
  obtain ⟨ka1, kb1, kr1, hb1⟩ := hbox
  have HWE := Lib.hid hwe
  clear hwe HWE
  have ha1 := ha.below hb1
  have hb_1 := hb_.below hb1
  have hw1 := hb1
  clear ha hb_ hb1
  have hna1 := ha1.rn
  have hda1 := ha1.rd
  have hnb1 := hb_1.rn
  have hdb1 := hb_1.rd
  have mna := ha1.mn
  have mda := ha1.md
  have mnb := hb_1.mn
  have mdb := hb_1.md
  have QA := Lib.hid ha1.q
  have QB := Lib.hid hb_1.q
  clear ha1 hb_1
  have e1 : ¬ (w.heap.size = w.heap.size + 1 + 1) := by omega
  have e2 : ¬ (w.heap.size + 1 + 1 = w.heap.size) := by omega
  obtain ⟨a0, a1, a2, a3, a4, a5, a6⟩ := ka1.facts
  obtain ⟨b0, b1, b2, b3, b4, b5, b6⟩ := kb1.facts
  go_upto_region 1 with fail
  go_cut [5, 6] (fun s5 s6 wx => ∃ G gc gl H hc hl, s5 = .slice G (gl : List Nat).length gc ∧ s6 = .slice H (hl : List Nat).length hc ∧ Rd .i64 wx G gl ∧ Rd .i64 wx H hl ∧ Nm gl ∧ Nm hl ∧ Hid (VD gl = VD a.ns * VD b.ds) ∧ Hid (VD hl = VD b.ns * VD a.ds) ∧ gl.length ≤ a.ns.length + b.ds.length + 1 ∧ hl.length ≤ b.ns.length + a.ds.length + 1 ∧ Below w1.heap.size w1 wx)
  case first =>
    go_region_held3 (fun w' => w'.cell? ⟨w.heap.size, 1, none⟩ = some (.slice a.N a.ns.length a.nc) ∧ w'.cell? ⟨w.heap.size, 2, none⟩ = some (.slice a.D a.ds.length a.dc) ∧ w'.cell? ⟨w.heap.size + 1, 1, none⟩ = some (.slice b.N b.ns.length b.nc) ∧ w'.cell? ⟨w.heap.size + 1, 2, none⟩ = some (.slice b.D b.ds.length b.dc)) (first | exact ⟨‹_›, ‹_›, ‹_›, ‹_›⟩ | go_keep)
      (first
      | (go_at_call_of 50 (Value.slice a.N a.ns.length a.nc)
         refine (rmul_any a.N b.D a.nc b.dc a.ns b.ds _ (by first | exact hna1 | exact hna1.drew | exact hna1.alloc _ | exact (hna1.alloc _).drew | exact hna1.drew.alloc _) (by first | exact hdb1 | exact hdb1.drew | exact hdb1.alloc _ | exact (hdb1.alloc _).drew | exact hdb1.drew.alloc _) (by omega) mna mdb).mono ?_
         rintro e wx_ ⟨G, gc, gl, rfl, hgc, hG, hbx, hvg, mg, hgl⟩
         have HVG := Lib.hid hvg
         clear hvg
         have hbp0 : Below w1.heap.size w1 wx_ := by first | exact hbx | exact below_of_drew hbx (Nat.le_refl _) | exact ((Below.refl _ _).alloc (Nat.le_refl _) _).trans (hbx.mono (by simp)) | exact ((Below.refl _ _).alloc (Nat.le_refl _) _).trans ((below_of_drew hbx (Nat.le_refl _)).mono (by simp)) | exact below_of_drew (((Below.refl _ _).alloc (Nat.le_refl _) _).trans (hbx.mono (by simp))) (Nat.le_refl _)
         have hna_0 := hna1.below hbp0
         have hda_0 := hda1.below hbp0
         have hnb_0 := hnb1.below hbp0
         have hdb_0 := hdb1.below hbp0
         have ka_0 := ka1.below hbp0
         obtain ⟨ka0wx_, ka1wx_, ka2wx_, ka3wx_, ka4wx_, ka5wx_, ka6wx_⟩ := ka_0.facts
         have kb_0 := kb1.below hbp0
         obtain ⟨kb0wx_, kb1wx_, kb2wx_, kb3wx_, kb4wx_, kb5wx_, kb6wx_⟩ := kb_0.facts
         have hwq0 := hw1.trans (hbp0.mono hw1.size))
      | (go_at_call_of 50 (Value.slice b.N b.ns.length b.nc)
         refine (rmul_any b.N a.D b.nc a.dc b.ns a.ds _ (by first | exact hnb_0 | exact hnb_0.drew | exact hnb_0.alloc _ | exact (hnb_0.alloc _).drew | exact hnb_0.drew.alloc _) (by first | exact hda_0 | exact hda_0.drew | exact hda_0.alloc _ | exact (hda_0.alloc _).drew | exact hda_0.drew.alloc _) (by omega) mnb mda).mono ?_
         rintro e wy_ ⟨H, hc, hl, rfl, hhc, hH, hby, hvh, mh, hhl⟩
         have HVH := Lib.hid hvh
         clear hvh
         have hbp1 : Below wx_.heap.size wx_ wy_ := by first | exact hby | exact below_of_drew hby (Nat.le_refl _) | exact ((Below.refl _ _).alloc (Nat.le_refl _) _).trans (hby.mono (by simp)) | exact ((Below.refl _ _).alloc (Nat.le_refl _) _).trans ((below_of_drew hby (Nat.le_refl _)).mono (by simp)) | exact below_of_drew (((Below.refl _ _).alloc (Nat.le_refl _) _).trans (hby.mono (by simp))) (Nat.le_refl _)
         have hna_1 := hna_0.below hbp1
         have hda_1 := hda_0.below hbp1
         have hnb_1 := hnb_0.below hbp1
         have hdb_1 := hdb_0.below hbp1
         have hG_1 := hG.below hbp1
         have ka_1 := ka_0.below hbp1
         obtain ⟨ka0wy_, ka1wy_, ka2wy_, ka3wy_, ka4wy_, ka5wy_, ka6wy_⟩ := ka_1.facts
         have kb_1 := kb_0.below hbp1
         obtain ⟨kb0wy_, kb1wy_, kb2wy_, kb3wy_, kb4wy_, kb5wy_, kb6wy_⟩ := kb_1.facts
         have hwq1 := hwq0.trans (hbp1.mono hwq0.size)))
    all_goals
      go_wp2_with fail
      go_meet
      exact ⟨G, gc, gl, H, hc, hl, rfl, rfl, hG_1, hH, mg, mh, HVG, HVH, hgl, hhl, (hbp0).trans (hbp1.mono (hbp0).size)⟩
  clear a0 a1 a2 a3 a4 a5 a6
  clear b0 b1 b2 b3 b4 b5 b6
  obtain ⟨w2, rfl⟩ : ∃ x, x = wc := ⟨_, rfl⟩
  obtain ⟨G, gc, gl, H, hc, hl, rfl, rfl, hG2, hH2, mg, mh, HVG, HVH, hgl, hhl, hb2⟩ := hcut
  have ka2 := ka1.below hb2
  have kb2 := kb1.below hb2
  have kr2 := kr1.below hb2
  have hna2 := hna1.below hb2
  have hda2 := hda1.below hb2
  have hnb2 := hnb1.below hb2
  have hdb2 := hdb1.below hb2
  have hw2 := hw1.trans (hb2.mono hw1.size)
  clear ka1 kb1 kr1 hna1 hda1 hnb1 hdb1 hw1 hb2
  obtain ⟨a0, a1, a2, a3, a4, a5, a6⟩ := ka2.facts
  obtain ⟨b0, b1, b2, b3, b4, b5, b6⟩ := kb2.facts
  go_wp2_with fail
  refine (rmul_any a.D b.D a.dc b.dc a.ds b.ds _ hda2 hdb2 (by omega) mda mdb).mono ?_
  rintro e w3 ⟨D2, d2c, dl, rfl, hd2c, hE3, hb3, hvd, md2, hdl⟩
  have ka3 := ka2.below hb3
  have kb3 := kb2.below hb3
  have kr3 := kr2.below hb3
  have hna3 := hna2.below hb3
  have hda3 := hda2.below hb3
  have hnb3 := hnb2.below hb3
  have hdb3 := hdb2.below hb3
  have hG3 := hG2.below hb3
  have hH3 := hH2.below hb3
  have hw3 := hw2.trans (hb3.mono hw2.size)
  clear ka2 kb2 kr2 hna2 hda2 hnb2 hdb2 hG2 hH2 hw2 hb3
  clear a0 a1 a2 a3 a4 a5 a6
  clear b0 b1 b2 b3 b4 b5 b6
  have HVD := Lib.hid hvd
  clear hvd
  obtain ⟨a0, a1, a2, a3, a4, a5, a6⟩ := ka3.facts
  obtain ⟨b0, b1, b2, b3, b4, b5, b6⟩ := kb3.facts
  have hdp : 0 < dl.length := len_of_VD (by rw [HVD.out]; exact Nat.mul_pos QA.out.pos QB.out.pos)
  obtain ⟨g, hg, hgs⟩ : ∃ g, Hid (cmpOf (VD gl) (VD hl) = g) ∧ g < 0 := ⟨_, Lib.hid rfl, by have := HCMP.out; rw [← HVG.out, ← HVH.out] at this; unfold cmpOf; rw [if_pos (by omega)]; omega⟩
  go_wp2_with fail
  refine (rcmp_any G H gc hc gl hl _ hG3 hH3 (by omega) mg mh).mono ?_
  rintro e w4 ⟨he, n0, hwe⟩
  have hb4 := below_of_says hwe
  clear hwe
  have ka4 := ka3.below hb4
  have kb4 := kb3.below hb4
  have kr4 := kr3.below hb4
  have hna4 := hna3.below hb4
  have hda4 := hda3.below hb4
  have hnb4 := hnb3.below hb4
  have hdb4 := hdb3.below hb4
  have hG4 := hG3.below hb4
  have hH4 := hH3.below hb4
  have hE4 := hE3.below hb4
  have hw4 := hw3.trans (hb4.mono hw3.size)
  clear ka3 kb3 kr3 hna3 hda3 hnb3 hdb3 hG3 hH3 hE3 hw3 hb4
  rw [hg.out] at he
  subst he
  clear a0 a1 a2 a3 a4 a5 a6
  clear b0 b1 b2 b3 b4 b5 b6
  obtain ⟨a0, a1, a2, a3, a4, a5, a6⟩ := ka4.facts
  obtain ⟨b0, b1, b2, b3, b4, b5, b6⟩ := kb4.facts
  go_upto_region 7 with fail
  go_region_held3 (fun w' => w'.cell? ⟨w.heap.size, 0, none⟩ = some (.bool false) ∧ w'.cell? ⟨w.heap.size, 1, none⟩ = some (.slice a.N a.ns.length a.nc) ∧ w'.cell? ⟨w.heap.size, 2, none⟩ = some (.slice a.D a.ds.length a.dc) ∧ w'.cell? ⟨w.heap.size + 1, 0, none⟩ = some (.bool true) ∧ w'.cell? ⟨w.heap.size + 1, 1, none⟩ = some (.slice b.N b.ns.length b.nc) ∧ w'.cell? ⟨w.heap.size + 1, 2, none⟩ = some (.slice b.D b.ds.length b.dc)) (first | exact ⟨‹_›, ‹_›, ‹_›, ‹_›, ‹_›, ‹_›⟩ | go_keep)
    (first
    | (go_at_call 54
       refine (rsub_any H G hc gc hl gl _ (by first | exact hH4 | exact hH4.drew | exact hH4.alloc _ | exact (hH4.alloc _).drew | exact hH4.drew.alloc _) (by first | exact hG4 | exact hG4.drew | exact hG4.alloc _ | exact (hG4.alloc _).drew | exact hG4.drew.alloc _) (by omega) mh mg (by have := HCMP.out; rw [HVG.out, HVH.out]; omega)).mono ?_
       rintro e wx_ ⟨X, xc, xl, rfl, hxc, hX, hbx, hvx, mx, hxl⟩
       have HVX := Lib.hid hvx
       clear hvx
       have hbp0 : Below w4.heap.size w4 wx_ := by first | exact hbx | exact below_of_drew hbx (Nat.le_refl _) | exact ((Below.refl _ _).alloc (Nat.le_refl _) _).trans (hbx.mono (by simp)) | exact ((Below.refl _ _).alloc (Nat.le_refl _) _).trans ((below_of_drew hbx (Nat.le_refl _)).mono (by simp)) | exact below_of_drew (((Below.refl _ _).alloc (Nat.le_refl _) _).trans (hbx.mono (by simp))) (Nat.le_refl _)
       have hG_0 := hG4.below hbp0
       have hH_0 := hH4.below hbp0
       have hE_0 := hE4.below hbp0
       have ka_0 := ka4.below hbp0
       obtain ⟨ka0wx_, ka1wx_, ka2wx_, ka3wx_, ka4wx_, ka5wx_, ka6wx_⟩ := ka_0.facts
       have kb_0 := kb4.below hbp0
       obtain ⟨kb0wx_, kb1wx_, kb2wx_, kb3wx_, kb4wx_, kb5wx_, kb6wx_⟩ := kb_0.facts
       have kr_0 := kr4.below hbp0
       obtain ⟨kr0wx_, kr1wx_, kr2wx_, kr3wx_, kr4wx_, kr5wx_, kr6wx_⟩ := kr_0.facts
       have hwq0 := hw4.trans (hbp0.mono hw4.size))
    | (go_at_call 51
       refine (rmake true X D2 xc d2c xl dl _ (by first | exact hX | exact hX.drew | exact hX.alloc _ | exact (hX.alloc _).drew | exact hX.drew.alloc _) (by first | exact hE_0 | exact hE_0.drew | exact hE_0.alloc _ | exact (hE_0.alloc _).drew | exact hE_0.drew.alloc _) mx md2 (by omega) (by omega) hdp).mono ?_
       rintro e wm_ ⟨r, rfl, hr, hr1, hr2_, hbm⟩
       have HSG : Hid (sgn true (VD xl) = sgn false (VD a.ns * VD b.ds) + sgn true (VD b.ns * VD a.ds)) := by show _ = _; have h1 := HVX.out; rw [HVG.out, HVH.out] at h1; have := HCMP.out; simp [sgn]; omega
       rw [HVD.out, add_q QA.out QB.out (by rw [HSA.out, HSB.out]; exact HSG.out)] at hr
       have hbp1 : Below wx_.heap.size wx_ wm_ := by first | exact hbm | exact below_of_drew hbm (Nat.le_refl _) | exact ((Below.refl _ _).alloc (Nat.le_refl _) _).trans (hbm.mono (by simp)) | exact ((Below.refl _ _).alloc (Nat.le_refl _) _).trans ((below_of_drew hbm (Nat.le_refl _)).mono (by simp)) | exact below_of_drew (((Below.refl _ _).alloc (Nat.le_refl _) _).trans (hbm.mono (by simp))) (Nat.le_refl _)
       have hG_1 := hG_0.below hbp1
       have hH_1 := hH_0.below hbp1
       have hE_1 := hE_0.below hbp1
       have hX_1 := hX.below hbp1
       have ka_1 := ka_0.below hbp1
       obtain ⟨ka0wm_, ka1wm_, ka2wm_, ka3wm_, ka4wm_, ka5wm_, ka6wm_⟩ := ka_1.facts
       have kb_1 := kb_0.below hbp1
       obtain ⟨kb0wm_, kb1wm_, kb2wm_, kb3wm_, kb4wm_, kb5wm_, kb6wm_⟩ := kb_1.facts
       have kr_1 := kr_0.below hbp1
       obtain ⟨kr0wm_, kr1wm_, kr2wm_, kr3wm_, kr4wm_, kr5wm_, kr6wm_⟩ := kr_1.facts
       have hwq1 := hwq0.trans (hbp1.mono hwq0.size)))
  all_goals
    go_wp2_with fail
    refine bodyPost_ret (v := .agg #[.bool r.s, .slice r.N r.ns.length r.nc, .slice r.D r.ds.length r.dc]) (by simp [results, Tryz.results18, go_sem, kr0wm_, kr1wm_, kr2wm_]) rfl ?_
    exact RefP.put r hr kr_1 (by omega) hwq1 (by omega) (by omega)
set_option maxRecDepth 100000 in
set_option maxHeartbeats 6400000 in
theorem radd_tfg (a b : RL) (p q : Rat) (hsa : a.s = true) (hsb : b.s = false) (hc : VD b.ns * VD a.ds ≤ VD a.ns * VD b.ds) (w : World) (ha : a.Ref w p) (hb_ : b.Ref w q) (bl : a.ns.length + a.ds.length + b.ns.length + b.ds.length ≤ 3000) :
    Calls Tryz.prog 18 #[.agg #[.bool true, .slice a.N a.ns.length a.nc, .slice a.D a.ds.length a.dc], .agg #[.bool false, .slice b.N b.ns.length b.nc, .slice b.D b.ds.length b.dc]] w (RefP (p + q) (a.ns.length + a.ds.length + b.ns.length + b.ds.length + 3) (a.ds.length + b.ds.length + 1) w) := by
  have HSA := Lib.hid hsa
  have HSB := Lib.hid hsb
  clear hsa hsb
  have HCMP := Lib.hid hc
  clear hc
  go_enter Tryz.func18, Tryz.ntmps18
  go_wp2_with fail
  have hbox := boxes3 30 w (.bool true) (.slice a.N a.ns.length a.nc) (.slice a.D a.ds.length a.dc) (.bool false) (.slice b.N b.ns.length b.nc) (.slice b.D b.ds.length b.dc) (.bool false) (.slice none 0 0) (.slice none 0 0)
  obtain ⟨w1, hwe⟩ : ∃ x, ((w.alloc (.cells #[.bool true, .slice a.N a.ns.length a.nc, .slice a.D a.ds.length a.dc] 30)).alloc (.cells #[.bool false, .slice b.N b.ns.length b.nc, .slice b.D b.ds.length b.dc] 30)).alloc (.cells #[.bool false, .slice none 0 0, .slice none 0 0] 30) = x := ⟨_, rfl⟩
  rw [hwe] at hbox ⊢
  obtain ⟨ka1, kb1, kr1, hb1⟩ := hbox
  have HWE := Lib.hid hwe
  clear hwe HWE
  have ha1 := ha.below hb1
  have hb_1 := hb_.below hb1
  have hw1 := hb1
  clear ha hb_ hb1
  have hna1 := ha1.rn
  have hda1 := ha1.rd
  have hnb1 := hb_1.rn
  have hdb1 := hb_1.rd
  have mna := ha1.mn
  have mda := ha1.md
  have mnb := hb_1.mn
  have mdb := hb_1.md
  have QA := Lib.hid ha1.q
  have QB := Lib.hid hb_1.q
  clear ha1 hb_1
  have e1 : ¬ (w.heap.size = w.heap.size + 1 + 1) := by omega
  have e2 : ¬ (w.heap.size + 1 + 1 = w.heap.size) := by omega
  obtain ⟨a0, a1, a2, a3, a4, a5, a6⟩ := ka1.facts
  obtain ⟨b0, b1, b2, b3, b4, b5, b6⟩ := kb1.facts
  go_upto_region 1 with fail
  go_cut [5, 6] (fun s5 s6 wx => ∃ G gc gl H hc hl, s5 = .slice G (gl : List Nat).length gc ∧ s6 = .slice H (hl : List Nat).length hc ∧ Rd .i64 wx G gl ∧ Rd .i64 wx H hl ∧ Nm gl ∧ Nm hl ∧ Hid (VD gl = VD a.ns * VD b.ds) ∧ Hid (VD hl = VD b.ns * VD a.ds) ∧ gl.length ≤ a.ns.length + b.ds.length + 1 ∧ hl.length ≤ b.ns.length + a.ds.length + 1 ∧ Below w1.heap.size w1 wx)
  case first =>
    go_region_held3 (fun w' => w'.cell? ⟨w.heap.size, 1, none⟩ = some (.slice a.N a.ns.length a.nc) ∧ w'.cell? ⟨w.heap.size, 2, none⟩ = some (.slice a.D a.ds.length a.dc) ∧ w'.cell? ⟨w.heap.size + 1, 1, none⟩ = some (.slice b.N b.ns.length b.nc) ∧ w'.cell? ⟨w.heap.size + 1, 2, none⟩ = some (.slice b.D b.ds.length b.dc)) (first | exact ⟨‹_›, ‹_›, ‹_›, ‹_›⟩ | go_keep)
      (first
      | (go_at_call_of 50 (Value.slice a.N a.ns.length a.nc)
         refine (rmul_any a.N b.D a.nc b.dc a.ns b.ds _ (by first | exact hna1 | exact hna1.drew | exact hna1.alloc _ | exact (hna1.alloc _).drew | exact hna1.drew.alloc _) (by first | exact hdb1 | exact hdb1.drew | exact hdb1.alloc _ | exact (hdb1.alloc _).drew | exact hdb1.drew.alloc _) (by omega) mna mdb).mono ?_
         rintro e wx_ ⟨G, gc, gl, rfl, hgc, hG, hbx, hvg, mg, hgl⟩
         have HVG := Lib.hid hvg
         clear hvg
         have hbp0 : Below w1.heap.size w1 wx_ := by first | exact hbx | exact below_of_drew hbx (Nat.le_refl _) | exact ((Below.refl _ _).alloc (Nat.le_refl _) _).trans (hbx.mono (by simp)) | exact ((Below.refl _ _).alloc (Nat.le_refl _) _).trans ((below_of_drew hbx (Nat.le_refl _)).mono (by simp)) | exact below_of_drew (((Below.refl _ _).alloc (Nat.le_refl _) _).trans (hbx.mono (by simp))) (Nat.le_refl _)
         have hna_0 := hna1.below hbp0
         have hda_0 := hda1.below hbp0
         have hnb_0 := hnb1.below hbp0
         have hdb_0 := hdb1.below hbp0
         have ka_0 := ka1.below hbp0
         obtain ⟨ka0wx_, ka1wx_, ka2wx_, ka3wx_, ka4wx_, ka5wx_, ka6wx_⟩ := ka_0.facts
         have kb_0 := kb1.below hbp0
         obtain ⟨kb0wx_, kb1wx_, kb2wx_, kb3wx_, kb4wx_, kb5wx_, kb6wx_⟩ := kb_0.facts
         have hwq0 := hw1.trans (hbp0.mono hw1.size))
      | (go_at_call_of 50 (Value.slice b.N b.ns.length b.nc)
         refine (rmul_any b.N a.D b.nc a.dc b.ns a.ds _ (by first | exact hnb_0 | exact hnb_0.drew | exact hnb_0.alloc _ | exact (hnb_0.alloc _).drew | exact hnb_0.drew.alloc _) (by first | exact hda_0 | exact hda_0.drew | exact hda_0.alloc _ | exact (hda_0.alloc _).drew | exact hda_0.drew.alloc _) (by omega) mnb mda).mono ?_
         rintro e wy_ ⟨H, hc, hl, rfl, hhc, hH, hby, hvh, mh, hhl⟩
         have HVH := Lib.hid hvh
         clear hvh
         have hbp1 : Below wx_.heap.size wx_ wy_ := by first | exact hby | exact below_of_drew hby (Nat.le_refl _) | exact ((Below.refl _ _).alloc (Nat.le_refl _) _).trans (hby.mono (by simp)) | exact ((Below.refl _ _).alloc (Nat.le_refl _) _).trans ((below_of_drew hby (Nat.le_refl _)).mono (by simp)) | exact below_of_drew (((Below.refl _ _).alloc (Nat.le_refl _) _).trans (hby.mono (by simp))) (Nat.le_refl _)
         have hna_1 := hna_0.below hbp1
         have hda_1 := hda_0.below hbp1
         have hnb_1 := hnb_0.below hbp1
         have hdb_1 := hdb_0.below hbp1
         have hG_1 := hG.below hbp1
         have ka_1 := ka_0.below hbp1
         obtain ⟨ka0wy_, ka1wy_, ka2wy_, ka3wy_, ka4wy_, ka5wy_, ka6wy_⟩ := ka_1.facts
         have kb_1 := kb_0.below hbp1
         obtain ⟨kb0wy_, kb1wy_, kb2wy_, kb3wy_, kb4wy_, kb5wy_, kb6wy_⟩ := kb_1.facts
         have hwq1 := hwq0.trans (hbp1.mono hwq0.size)))
    all_goals
      go_wp2_with fail
      go_meet
      exact ⟨G, gc, gl, H, hc, hl, rfl, rfl, hG_1, hH, mg, mh, HVG, HVH, hgl, hhl, (hbp0).trans (hbp1.mono (hbp0).size)⟩
  clear a0 a1 a2 a3 a4 a5 a6
  clear b0 b1 b2 b3 b4 b5 b6
  obtain ⟨w2, rfl⟩ : ∃ x, x = wc := ⟨_, rfl⟩
  obtain ⟨G, gc, gl, H, hc, hl, rfl, rfl, hG2, hH2, mg, mh, HVG, HVH, hgl, hhl, hb2⟩ := hcut
  have ka2 := ka1.below hb2
  have kb2 := kb1.below hb2
  have kr2 := kr1.below hb2
  have hna2 := hna1.below hb2
  have hda2 := hda1.below hb2
  have hnb2 := hnb1.below hb2
  have hdb2 := hdb1.below hb2
  have hw2 := hw1.trans (hb2.mono hw1.size)
  clear ka1 kb1 kr1 hna1 hda1 hnb1 hdb1 hw1 hb2
  obtain ⟨a0, a1, a2, a3, a4, a5, a6⟩ := ka2.facts
  obtain ⟨b0, b1, b2, b3, b4, b5, b6⟩ := kb2.facts
  go_wp2_with fail
  refine (rmul_any a.D b.D a.dc b.dc a.ds b.ds _ hda2 hdb2 (by omega) mda mdb).mono ?_
  rintro e w3 ⟨D2, d2c, dl, rfl, hd2c, hE3, hb3, hvd, md2, hdl⟩
  have ka3 := ka2.below hb3
  have kb3 := kb2.below hb3
  have kr3 := kr2.below hb3
  have hna3 := hna2.below hb3
  have hda3 := hda2.below hb3
  have hnb3 := hnb2.below hb3
  have hdb3 := hdb2.below hb3
  have hG3 := hG2.below hb3
  have hH3 := hH2.below hb3
  have hw3 := hw2.trans (hb3.mono hw2.size)
  clear ka2 kb2 kr2 hna2 hda2 hnb2 hdb2 hG2 hH2 hw2 hb3
  clear a0 a1 a2 a3 a4 a5 a6
  clear b0 b1 b2 b3 b4 b5 b6
  have HVD := Lib.hid hvd
  clear hvd
  obtain ⟨a0, a1, a2, a3, a4, a5, a6⟩ := ka3.facts
  obtain ⟨b0, b1, b2, b3, b4, b5, b6⟩ := kb3.facts
  have hdp : 0 < dl.length := len_of_VD (by rw [HVD.out]; exact Nat.mul_pos QA.out.pos QB.out.pos)
  obtain ⟨g, hg, hgs⟩ : ∃ g, Hid (cmpOf (VD gl) (VD hl) = g) ∧ 0 ≤ g := ⟨_, Lib.hid rfl, by have := HCMP.out; rw [← HVG.out, ← HVH.out] at this; unfold cmpOf; split; omega; split <;> omega⟩
  go_wp2_with fail
  refine (rcmp_any G H gc hc gl hl _ hG3 hH3 (by omega) mg mh).mono ?_
  rintro e w4 ⟨he, n0, hwe⟩
  have hb4 := below_of_says hwe
  clear hwe
  have ka4 := ka3.below hb4
  have kb4 := kb3.below hb4
  have kr4 := kr3.below hb4
  have hna4 := hna3.below hb4
  have hda4 := hda3.below hb4
  have hnb4 := hnb3.below hb4
  have hdb4 := hdb3.below hb4
  have hG4 := hG3.below hb4
  have hH4 := hH3.below hb4
  have hE4 := hE3.below hb4
  have hw4 := hw3.trans (hb4.mono hw3.size)
  clear ka3 kb3 kr3 hna3 hda3 hnb3 hdb3 hG3 hH3 hE3 hw3 hb4
  rw [hg.out] at he
  subst he
  clear a0 a1 a2 a3 a4 a5 a6
  clear b0 b1 b2 b3 b4 b5 b6
  obtain ⟨a0, a1, a2, a3, a4, a5, a6⟩ := ka4.facts
  obtain ⟨b0, b1, b2, b3, b4, b5, b6⟩ := kb4.facts
  go_upto_region 6 with fail
  go_region_held3 (fun w' => w'.cell? ⟨w.heap.size, 0, none⟩ = some (.bool true) ∧ w'.cell? ⟨w.heap.size, 1, none⟩ = some (.slice a.N a.ns.length a.nc) ∧ w'.cell? ⟨w.heap.size, 2, none⟩ = some (.slice a.D a.ds.length a.dc) ∧ w'.cell? ⟨w.heap.size + 1, 0, none⟩ = some (.bool false) ∧ w'.cell? ⟨w.heap.size + 1, 1, none⟩ = some (.slice b.N b.ns.length b.nc) ∧ w'.cell? ⟨w.heap.size + 1, 2, none⟩ = some (.slice b.D b.ds.length b.dc)) (first | exact ⟨‹_›, ‹_›, ‹_›, ‹_›, ‹_›, ‹_›⟩ | go_keep)
    (first
    | (go_at_call 54
       refine (rsub_any G H gc hc gl hl _ (by first | exact hG4 | exact hG4.drew | exact hG4.alloc _ | exact (hG4.alloc _).drew | exact hG4.drew.alloc _) (by first | exact hH4 | exact hH4.drew | exact hH4.alloc _ | exact (hH4.alloc _).drew | exact hH4.drew.alloc _) (by omega) mg mh (by have := HCMP.out; rw [HVG.out, HVH.out]; omega)).mono ?_
       rintro e wx_ ⟨X, xc, xl, rfl, hxc, hX, hbx, hvx, mx, hxl⟩
       have HVX := Lib.hid hvx
       clear hvx
       have hbp0 : Below w4.heap.size w4 wx_ := by first | exact hbx | exact below_of_drew hbx (Nat.le_refl _) | exact ((Below.refl _ _).alloc (Nat.le_refl _) _).trans (hbx.mono (by simp)) | exact ((Below.refl _ _).alloc (Nat.le_refl _) _).trans ((below_of_drew hbx (Nat.le_refl _)).mono (by simp)) | exact below_of_drew (((Below.refl _ _).alloc (Nat.le_refl _) _).trans (hbx.mono (by simp))) (Nat.le_refl _)
       have hG_0 := hG4.below hbp0
       have hH_0 := hH4.below hbp0
       have hE_0 := hE4.below hbp0
       have ka_0 := ka4.below hbp0
       obtain ⟨ka0wx_, ka1wx_, ka2wx_, ka3wx_, ka4wx_, ka5wx_, ka6wx_⟩ := ka_0.facts
       have kb_0 := kb4.below hbp0
       obtain ⟨kb0wx_, kb1wx_, kb2wx_, kb3wx_, kb4wx_, kb5wx_, kb6wx_⟩ := kb_0.facts
       have kr_0 := kr4.below hbp0
       obtain ⟨kr0wx_, kr1wx_, kr2wx_, kr3wx_, kr4wx_, kr5wx_, kr6wx_⟩ := kr_0.facts
       have hwq0 := hw4.trans (hbp0.mono hw4.size))
    | (go_at_call 51
       refine (rmake true X D2 xc d2c xl dl _ (by first | exact hX | exact hX.drew | exact hX.alloc _ | exact (hX.alloc _).drew | exact hX.drew.alloc _) (by first | exact hE_0 | exact hE_0.drew | exact hE_0.alloc _ | exact (hE_0.alloc _).drew | exact hE_0.drew.alloc _) mx md2 (by omega) (by omega) hdp).mono ?_
       rintro e wm_ ⟨r, rfl, hr, hr1, hr2_, hbm⟩
       have HSG : Hid (sgn true (VD xl) = sgn true (VD a.ns * VD b.ds) + sgn false (VD b.ns * VD a.ds)) := by show _ = _; have h1 := HVX.out; rw [HVG.out, HVH.out] at h1; have := HCMP.out; simp [sgn]; omega
       rw [HVD.out, add_q QA.out QB.out (by rw [HSA.out, HSB.out]; exact HSG.out)] at hr
       have hbp1 : Below wx_.heap.size wx_ wm_ := by first | exact hbm | exact below_of_drew hbm (Nat.le_refl _) | exact ((Below.refl _ _).alloc (Nat.le_refl _) _).trans (hbm.mono (by simp)) | exact ((Below.refl _ _).alloc (Nat.le_refl _) _).trans ((below_of_drew hbm (Nat.le_refl _)).mono (by simp)) | exact below_of_drew (((Below.refl _ _).alloc (Nat.le_refl _) _).trans (hbm.mono (by simp))) (Nat.le_refl _)
       have hG_1 := hG_0.below hbp1
       have hH_1 := hH_0.below hbp1
       have hE_1 := hE_0.below hbp1
       have hX_1 := hX.below hbp1
       have ka_1 := ka_0.below hbp1
       obtain ⟨ka0wm_, ka1wm_, ka2wm_, ka3wm_, ka4wm_, ka5wm_, ka6wm_⟩ := ka_1.facts
       have kb_1 := kb_0.below hbp1
       obtain ⟨kb0wm_, kb1wm_, kb2wm_, kb3wm_, kb4wm_, kb5wm_, kb6wm_⟩ := kb_1.facts
       have kr_1 := kr_0.below hbp1
       obtain ⟨kr0wm_, kr1wm_, kr2wm_, kr3wm_, kr4wm_, kr5wm_, kr6wm_⟩ := kr_1.facts
       have hwq1 := hwq0.trans (hbp1.mono hwq0.size)))
  all_goals
    go_wp2_with fail
    refine bodyPost_ret (v := .agg #[.bool r.s, .slice r.N r.ns.length r.nc, .slice r.D r.ds.length r.dc]) (by simp [results, Tryz.results18, go_sem, kr0wm_, kr1wm_, kr2wm_]) rfl ?_
    exact RefP.put r hr kr_1 (by omega) hwq1 (by omega) (by omega)
set_option maxRecDepth 100000 in
set_option maxHeartbeats 6400000 in
theorem radd_tfl (a b : RL) (p q : Rat) (hsa : a.s = true) (hsb : b.s = false) (hc : VD a.ns * VD b.ds < VD b.ns * VD a.ds) (w : World) (ha : a.Ref w p) (hb_ : b.Ref w q) (bl : a.ns.length + a.ds.length + b.ns.length + b.ds.length ≤ 3000) :
    Calls Tryz.prog 18 #[.agg #[.bool true, .slice a.N a.ns.length a.nc, .slice a.D a.ds.length a.dc], .agg #[.bool false, .slice b.N b.ns.length b.nc, .slice b.D b.ds.length b.dc]] w (RefP (p + q) (a.ns.length + a.ds.length + b.ns.length + b.ds.length + 3) (a.ds.length + b.ds.length + 1) w) := by
  have HSA := Lib.hid hsa
  have HSB := Lib.hid hsb
  clear hsa hsb
  have HCMP := Lib.hid hc
  clear hc
  go_enter Tryz.func18, Tryz.ntmps18
  go_wp2_with fail
  have hbox := boxes3 30 w (.bool true) (.slice a.N a.ns.length a.nc) (.slice a.D a.ds.length a.dc) (.bool false) (.slice b.N b.ns.length b.nc) (.slice b.D b.ds.length b.dc) (.bool false) (.slice none 0 0) (.slice none 0 0)
  obtain ⟨w1, hwe⟩ : ∃ x, ((w.alloc (.cells #[.bool true, .slice a.N a.ns.length a.nc, .slice a.D a.ds.length a.dc] 30)).alloc (.cells #[.bool false, .slice b.N b.ns.length b.nc, .slice b.D b.ds.length b.dc] 30)).alloc (.cells #[.bool false, .slice none 0 0, .slice none 0 0] 30) = x := ⟨_, rfl⟩
  rw [hwe] at hbox ⊢
  obtain ⟨ka1, kb1, kr1, hb1⟩ := hbox
  have HWE := Lib.hid hwe
  clear hwe HWE
  have ha1 := ha.below hb1
  have hb_1 := hb_.below hb1
  have hw1 := hb1
  clear ha hb_ hb1
  have hna1 := ha1.rn
  have hda1 := ha1.rd
  have hnb1 := hb_1.rn
  have hdb1 := hb_1.rd
  have mna := ha1.mn
  have mda := ha1.md
  have mnb := hb_1.mn
  have mdb := hb_1.md
  have QA := Lib.hid ha1.q
  have QB := Lib.hid hb_1.q
  clear ha1 hb_1
  have e1 : ¬ (w.heap.size = w.heap.size + 1 + 1) := by omega
  have e2 : ¬ (w.heap.size + 1 + 1 = w.heap.size) := by omega
  obtain ⟨a0, a1, a2, a3, a4, a5, a6⟩ := ka1.facts
  obtain ⟨b0, b1, b2, b3, b4, b5, b6⟩ := kb1.facts
  go_upto_region 1 with fail
  go_cut [5, 6] (fun s5 s6 wx => ∃ G gc gl H hc hl, s5 = .slice G (gl : List Nat).length gc ∧ s6 = .slice H (hl : List Nat).length hc ∧ Rd .i64 wx G gl ∧ Rd .i64 wx H hl ∧ Nm gl ∧ Nm hl ∧ Hid (VD gl = VD a.ns * VD b.ds) ∧ Hid (VD hl = VD b.ns * VD a.ds) ∧ gl.length ≤ a.ns.length + b.ds.length + 1 ∧ hl.length ≤ b.ns.length + a.ds.length + 1 ∧ Below w1.heap.size w1 wx)
  case first =>
    go_region_held3 (fun w' => w'.cell? ⟨w.heap.size, 1, none⟩ = some (.slice a.N a.ns.length a.nc) ∧ w'.cell? ⟨w.heap.size, 2, none⟩ = some (.slice a.D a.ds.length a.dc) ∧ w'.cell? ⟨w.heap.size + 1, 1, none⟩ = some (.slice b.N b.ns.length b.nc) ∧ w'.cell? ⟨w.heap.size + 1, 2, none⟩ = some (.slice b.D b.ds.length b.dc)) (first | exact ⟨‹_›, ‹_›, ‹_›, ‹_›⟩ | go_keep)
      (first
      | (go_at_call_of 50 (Value.slice a.N a.ns.length a.nc)
         refine (rmul_any a.N b.D a.nc b.dc a.ns b.ds _ (by first | exact hna1 | exact hna1.drew | exact hna1.alloc _ | exact (hna1.alloc _).drew | exact hna1.drew.alloc _) (by first | exact hdb1 | exact hdb1.drew | exact hdb1.alloc _ | exact (hdb1.alloc _).drew | exact hdb1.drew.alloc _) (by omega) mna mdb).mono ?_
         rintro e wx_ ⟨G, gc, gl, rfl, hgc, hG, hbx, hvg, mg, hgl⟩
         have HVG := Lib.hid hvg
         clear hvg
         have hbp0 : Below w1.heap.size w1 wx_ := by first | exact hbx | exact below_of_drew hbx (Nat.le_refl _) | exact ((Below.refl _ _).alloc (Nat.le_refl _) _).trans (hbx.mono (by simp)) | exact ((Below.refl _ _).alloc (Nat.le_refl _) _).trans ((below_of_drew hbx (Nat.le_refl _)).mono (by simp)) | exact below_of_drew (((Below.refl _ _).alloc (Nat.le_refl _) _).trans (hbx.mono (by simp))) (Nat.le_refl _)
         have hna_0 := hna1.below hbp0
         have hda_0 := hda1.below hbp0
         have hnb_0 := hnb1.below hbp0
         have hdb_0 := hdb1.below hbp0
         have ka_0 := ka1.below hbp0
         obtain ⟨ka0wx_, ka1wx_, ka2wx_, ka3wx_, ka4wx_, ka5wx_, ka6wx_⟩ := ka_0.facts
         have kb_0 := kb1.below hbp0
         obtain ⟨kb0wx_, kb1wx_, kb2wx_, kb3wx_, kb4wx_, kb5wx_, kb6wx_⟩ := kb_0.facts
         have hwq0 := hw1.trans (hbp0.mono hw1.size))
      | (go_at_call_of 50 (Value.slice b.N b.ns.length b.nc)
         refine (rmul_any b.N a.D b.nc a.dc b.ns a.ds _ (by first | exact hnb_0 | exact hnb_0.drew | exact hnb_0.alloc _ | exact (hnb_0.alloc _).drew | exact hnb_0.drew.alloc _) (by first | exact hda_0 | exact hda_0.drew | exact hda_0.alloc _ | exact (hda_0.alloc _).drew | exact hda_0.drew.alloc _) (by omega) mnb mda).mono ?_
         rintro e wy_ ⟨H, hc, hl, rfl, hhc, hH, hby, hvh, mh, hhl⟩
         have HVH := Lib.hid hvh
         clear hvh
         have hbp1 : Below wx_.heap.size wx_ wy_ := by first | exact hby | exact below_of_drew hby (Nat.le_refl _) | exact ((Below.refl _ _).alloc (Nat.le_refl _) _).trans (hby.mono (by simp)) | exact ((Below.refl _ _).alloc (Nat.le_refl _) _).trans ((below_of_drew hby (Nat.le_refl _)).mono (by simp)) | exact below_of_drew (((Below.refl _ _).alloc (Nat.le_refl _) _).trans (hby.mono (by simp))) (Nat.le_refl _)
         have hna_1 := hna_0.below hbp1
         have hda_1 := hda_0.below hbp1
         have hnb_1 := hnb_0.below hbp1
         have hdb_1 := hdb_0.below hbp1
         have hG_1 := hG.below hbp1
         have ka_1 := ka_0.below hbp1
         obtain ⟨ka0wy_, ka1wy_, ka2wy_, ka3wy_, ka4wy_, ka5wy_, ka6wy_⟩ := ka_1.facts
         have kb_1 := kb_0.below hbp1
         obtain ⟨kb0wy_, kb1wy_, kb2wy_, kb3wy_, kb4wy_, kb5wy_, kb6wy_⟩ := kb_1.facts
         have hwq1 := hwq0.trans (hbp1.mono hwq0.size)))
    all_goals
      go_wp2_with fail
      go_meet
      exact ⟨G, gc, gl, H, hc, hl, rfl, rfl, hG_1, hH, mg, mh, HVG, HVH, hgl, hhl, (hbp0).trans (hbp1.mono (hbp0).size)⟩
  clear a0 a1 a2 a3 a4 a5 a6
  clear b0 b1 b2 b3 b4 b5 b6
  obtain ⟨w2, rfl⟩ : ∃ x, x = wc := ⟨_, rfl⟩
  obtain ⟨G, gc, gl, H, hc, hl, rfl, rfl, hG2, hH2, mg, mh, HVG, HVH, hgl, hhl, hb2⟩ := hcut
  have ka2 := ka1.below hb2
  have kb2 := kb1.below hb2
  have kr2 := kr1.below hb2
  have hna2 := hna1.below hb2
  have hda2 := hda1.below hb2
  have hnb2 := hnb1.below hb2
  have hdb2 := hdb1.below hb2
  have hw2 := hw1.trans (hb2.mono hw1.size)
  clear ka1 kb1 kr1 hna1 hda1 hnb1 hdb1 hw1 hb2
  obtain ⟨a0, a1, a2, a3, a4, a5, a6⟩ := ka2.facts
  obtain ⟨b0, b1, b2, b3, b4, b5, b6⟩ := kb2.facts
  go_wp2_with fail
  refine (rmul_any a.D b.D a.dc b.dc a.ds b.ds _ hda2 hdb2 (by omega) mda mdb).mono ?_
  rintro e w3 ⟨D2, d2c, dl, rfl, hd2c, hE3, hb3, hvd, md2, hdl⟩
  have ka3 := ka2.below hb3
  have kb3 := kb2.below hb3
  have kr3 := kr2.below hb3
  have hna3 := hna2.below hb3
  have hda3 := hda2.below hb3
  have hnb3 := hnb2.below hb3
  have hdb3 := hdb2.below hb3
  have hG3 := hG2.below hb3
  have hH3 := hH2.below hb3
  have hw3 := hw2.trans (hb3.mono hw2.size)
  clear ka2 kb2 kr2 hna2 hda2 hnb2 hdb2 hG2 hH2 hw2 hb3
  clear a0 a1 a2 a3 a4 a5 a6
  clear b0 b1 b2 b3 b4 b5 b6
  have HVD := Lib.hid hvd
  clear hvd
  obtain ⟨a0, a1, a2, a3, a4, a5, a6⟩ := ka3.facts
  obtain ⟨b0, b1, b2, b3, b4, b5, b6⟩ := kb3.facts
  have hdp : 0 < dl.length := len_of_VD (by rw [HVD.out]; exact Nat.mul_pos QA.out.pos QB.out.pos)
  obtain ⟨g, hg, hgs⟩ : ∃ g, Hid (cmpOf (VD gl) (VD hl) = g) ∧ g < 0 := ⟨_, Lib.hid rfl, by have := HCMP.out; rw [← HVG.out, ← HVH.out] at this; unfold cmpOf; rw [if_pos (by omega)]; omega⟩
  go_wp2_with fail
  refine (rcmp_any G H gc hc gl hl _ hG3 hH3 (by omega) mg mh).mono ?_
  rintro e w4 ⟨he, n0, hwe⟩
  have hb4 := below_of_says hwe
  clear hwe
  have ka4 := ka3.below hb4
  have kb4 := kb3.below hb4
  have kr4 := kr3.below hb4
  have hna4 := hna3.below hb4
  have hda4 := hda3.below hb4
  have hnb4 := hnb3.below hb4
  have hdb4 := hdb3.below hb4
  have hG4 := hG3.below hb4
  have hH4 := hH3.below hb4
  have hE4 := hE3.below hb4
  have hw4 := hw3.trans (hb4.mono hw3.size)
  clear ka3 kb3 kr3 hna3 hda3 hnb3 hdb3 hG3 hH3 hE3 hw3 hb4
  rw [hg.out] at he
  subst he
  clear a0 a1 a2 a3 a4 a5 a6
  clear b0 b1 b2 b3 b4 b5 b6
  obtain ⟨a0, a1, a2, a3, a4, a5, a6⟩ := ka4.facts
  obtain ⟨b0, b1, b2, b3, b4, b5, b6⟩ := kb4.facts
  go_upto_region 7 with fail
  go_region_held3 (fun w' => w'.cell? ⟨w.heap.size, 0, none⟩ = some (.bool true) ∧ w'.cell? ⟨w.heap.size, 1, none⟩ = some (.slice a.N a.ns.length a.nc) ∧ w'.cell? ⟨w.heap.size, 2, none⟩ = some (.slice a.D a.ds.length a.dc) ∧ w'.cell? ⟨w.heap.size + 1, 0, none⟩ = some (.bool false) ∧ w'.cell? ⟨w.heap.size + 1, 1, none⟩ = some (.slice b.N b.ns.length b.nc) ∧ w'.cell? ⟨w.heap.size + 1, 2, none⟩ = some (.slice b.D b.ds.length b.dc)) (first | exact ⟨‹_›, ‹_›, ‹_›, ‹_›, ‹_›, ‹_›⟩ | go_keep)
    (first
    | (go_at_call 54
       refine (rsub_any H G hc gc hl gl _ (by first | exact hH4 | exact hH4.drew | exact hH4.alloc _ | exact (hH4.alloc _).drew | exact hH4.drew.alloc _) (by first | exact hG4 | exact hG4.drew | exact hG4.alloc _ | exact (hG4.alloc _).drew | exact hG4.drew.alloc _) (by omega) mh mg (by have := HCMP.out; rw [HVG.out, HVH.out]; omega)).mono ?_
       rintro e wx_ ⟨X, xc, xl, rfl, hxc, hX, hbx, hvx, mx, hxl⟩
       have HVX := Lib.hid hvx
       clear hvx
       have hbp0 : Below w4.heap.size w4 wx_ := by first | exact hbx | exact below_of_drew hbx (Nat.le_refl _) | exact ((Below.refl _ _).alloc (Nat.le_refl _) _).trans (hbx.mono (by simp)) | exact ((Below.refl _ _).alloc (Nat.le_refl _) _).trans ((below_of_drew hbx (Nat.le_refl _)).mono (by simp)) | exact below_of_drew (((Below.refl _ _).alloc (Nat.le_refl _) _).trans (hbx.mono (by simp))) (Nat.le_refl _)
       have hG_0 := hG4.below hbp0
       have hH_0 := hH4.below hbp0
       have hE_0 := hE4.below hbp0
       have ka_0 := ka4.below hbp0
       obtain ⟨ka0wx_, ka1wx_, ka2wx_, ka3wx_, ka4wx_, ka5wx_, ka6wx_⟩ := ka_0.facts
       have kb_0 := kb4.below hbp0
       obtain ⟨kb0wx_, kb1wx_, kb2wx_, kb3wx_, kb4wx_, kb5wx_, kb6wx_⟩ := kb_0.facts
       have kr_0 := kr4.below hbp0
       obtain ⟨kr0wx_, kr1wx_, kr2wx_, kr3wx_, kr4wx_, kr5wx_, kr6wx_⟩ := kr_0.facts
       have hwq0 := hw4.trans (hbp0.mono hw4.size))
    | (go_at_call 51
       refine (rmake false X D2 xc d2c xl dl _ (by first | exact hX | exact hX.drew | exact hX.alloc _ | exact (hX.alloc _).drew | exact hX.drew.alloc _) (by first | exact hE_0 | exact hE_0.drew | exact hE_0.alloc _ | exact (hE_0.alloc _).drew | exact hE_0.drew.alloc _) mx md2 (by omega) (by omega) hdp).mono ?_
       rintro e wm_ ⟨r, rfl, hr, hr1, hr2_, hbm⟩
       have HSG : Hid (sgn false (VD xl) = sgn true (VD a.ns * VD b.ds) + sgn false (VD b.ns * VD a.ds)) := by show _ = _; have h1 := HVX.out; rw [HVG.out, HVH.out] at h1; have := HCMP.out; simp [sgn]; omega
       rw [HVD.out, add_q QA.out QB.out (by rw [HSA.out, HSB.out]; exact HSG.out)] at hr
       have hbp1 : Below wx_.heap.size wx_ wm_ := by first | exact hbm | exact below_of_drew hbm (Nat.le_refl _) | exact ((Below.refl _ _).alloc (Nat.le_refl _) _).trans (hbm.mono (by simp)) | exact ((Below.refl _ _).alloc (Nat.le_refl _) _).trans ((below_of_drew hbm (Nat.le_refl _)).mono (by simp)) | exact below_of_drew (((Below.refl _ _).alloc (Nat.le_refl _) _).trans (hbm.mono (by simp))) (Nat.le_refl _)
       have hG_1 := hG_0.below hbp1
       have hH_1 := hH_0.below hbp1
       have hE_1 := hE_0.below hbp1
       have hX_1 := hX.below hbp1
       have ka_1 := ka_0.below hbp1
       obtain ⟨ka0wm_, ka1wm_, ka2wm_, ka3wm_, ka4wm_, ka5wm_, ka6wm_⟩ := ka_1.facts
       have kb_1 := kb_0.below hbp1
       obtain ⟨kb0wm_, kb1wm_, kb2wm_, kb3wm_, kb4wm_, kb5wm_, kb6wm_⟩ := kb_1.facts
       have kr_1 := kr_0.below hbp1
       obtain ⟨kr0wm_, kr1wm_, kr2wm_, kr3wm_, kr4wm_, kr5wm_, kr6wm_⟩ := kr_1.facts
       have hwq1 := hwq0.trans (hbp1.mono hwq0.size)))
  all_goals
    go_wp2_with fail
    refine bodyPost_ret (v := .agg #[.bool r.s, .slice r.N r.ns.length r.nc, .slice r.D r.ds.length r.dc]) (by simp [results, Tryz.results18, go_sem, kr0wm_, kr1wm_, kr2wm_]) rfl ?_
    exact RefP.put r hr kr_1 (by omega) hwq1 (by omega) (by omega)
theorem raddq (a b : RL) (p q : Rat) (w : World) (ha : a.Ref w p) (hb_ : b.Ref w q) (bl : a.ns.length + a.ds.length + b.ns.length + b.ds.length ≤ 3000) :
    Calls Tryz.prog 18 #[.agg #[.bool a.s, .slice a.N a.ns.length a.nc, .slice a.D a.ds.length a.dc], .agg #[.bool b.s, .slice b.N b.ns.length b.nc, .slice b.D b.ds.length b.dc]] w (RefP (p + q) (a.ns.length + a.ds.length + b.ns.length + b.ds.length + 3) (a.ds.length + b.ds.length + 1) w) := by
  obtain ⟨s, N, nc, ns, D, dc, ds⟩ := a
  obtain ⟨t, M, mc, ms, E, ec, es⟩ := b
  rcases Nat.lt_or_ge (VD ns * VD es) (VD ms * VD ds) with h | h
  · cases s <;> cases t
    · exact radd_ffs _ _ p q rfl rfl w ha hb_ bl
    · exact radd_ftl ⟨false, N, nc, ns, D, dc, ds⟩ ⟨true, M, mc, ms, E, ec, es⟩ p q rfl rfl h w ha hb_ bl
    · exact radd_tfl ⟨true, N, nc, ns, D, dc, ds⟩ ⟨false, M, mc, ms, E, ec, es⟩ p q rfl rfl h w ha hb_ bl
    · exact radd_tts _ _ p q rfl rfl w ha hb_ bl
  · cases s <;> cases t
    · exact radd_ffs _ _ p q rfl rfl w ha hb_ bl
    · exact radd_ftg ⟨false, N, nc, ns, D, dc, ds⟩ ⟨true, M, mc, ms, E, ec, es⟩ p q rfl rfl h w ha hb_ bl
    · exact radd_tfg ⟨true, N, nc, ns, D, dc, ds⟩ ⟨false, M, mc, ms, E, ec, es⟩ p q rfl rfl h w ha hb_ bl
    · exact radd_tts _ _ p q rfl rfl w ha hb_ bl
set_option maxRecDepth 100000 in
set_option maxHeartbeats 6400000 in
theorem rsubq (a b : RL) (p q : Rat) (w : World) (ha : a.Ref w p) (hb_ : b.Ref w q) (bl : a.ns.length + a.ds.length + b.ns.length + b.ds.length ≤ 3000) :
    Calls Tryz.prog 19 #[.agg #[.bool a.s, .slice a.N a.ns.length a.nc, .slice a.D a.ds.length a.dc], .agg #[.bool b.s, .slice b.N b.ns.length b.nc, .slice b.D b.ds.length b.dc]] w (RefP (p - q) (a.ns.length + a.ds.length + b.ns.length + b.ds.length + 3) (a.ds.length + b.ds.length + 1) w) := by
  go_enter Tryz.func19, Tryz.ntmps19
  go_wp2_with fail
  have hbox := boxes3 30 w (.bool a.s) (.slice a.N a.ns.length a.nc) (.slice a.D a.ds.length a.dc) (.bool b.s) (.slice b.N b.ns.length b.nc) (.slice b.D b.ds.length b.dc) (.bool false) (.slice none 0 0) (.slice none 0 0)
  obtain ⟨w1, hwe⟩ : ∃ x, ((w.alloc (.cells #[.bool a.s, .slice a.N a.ns.length a.nc, .slice a.D a.ds.length a.dc] 30)).alloc (.cells #[.bool b.s, .slice b.N b.ns.length b.nc, .slice b.D b.ds.length b.dc] 30)).alloc (.cells #[.bool false, .slice none 0 0, .slice none 0 0] 30) = x := ⟨_, rfl⟩
  rw [hwe] at hbox ⊢
  obtain ⟨ka1, kb1, kr1, hb1⟩ := hbox
  have HWE := Lib.hid hwe
  clear hwe HWE
  have ha1 := ha.below hb1
  have hb_1 := hb_.below hb1
  have hw1 := hb1
  clear ha hb_ hb1
  have e1 : ¬ (w.heap.size = w.heap.size + 1 + 1) := by omega
  have e2 : ¬ (w.heap.size + 1 + 1 = w.heap.size) := by omega
  obtain ⟨a0, a1, a2, a3, a4, a5, a6⟩ := ka1.facts
  obtain ⟨b0, b1, b2, b3, b4, b5, b6⟩ := kb1.facts
  go_upto_region 1 with fail
  go_region_held3 (fun w' => w'.cell? ⟨w.heap.size, 0, none⟩ = some (.bool a.s) ∧ w'.cell? ⟨w.heap.size, 1, none⟩ = some (.slice a.N a.ns.length a.nc) ∧ w'.cell? ⟨w.heap.size, 2, none⟩ = some (.slice a.D a.ds.length a.dc) ∧ w'.cell? ⟨w.heap.size + 1, 0, none⟩ = some (.bool b.s) ∧ w'.cell? ⟨w.heap.size + 1, 1, none⟩ = some (.slice b.N b.ns.length b.nc) ∧ w'.cell? ⟨w.heap.size + 1, 2, none⟩ = some (.slice b.D b.ds.length b.dc)) (first | exact ⟨‹_›, ‹_›, ‹_›, ‹_›, ‹_›, ‹_›⟩ | go_keep)
    (first
    | (go_at_call 21
       refine (rneg b q _ (by first | exact hb_1 | exact hb_1.drew | exact hb_1.alloc _ | exact (hb_1.alloc _).drew | exact hb_1.drew.alloc _)).mono ?_
       rintro e wx_ ⟨m, rfl, hm, hm1, hm2_, hbx⟩
       have hbp0 : Below w1.heap.size w1 wx_ := by first | exact hbx | exact below_of_drew hbx (Nat.le_refl _) | exact ((Below.refl _ _).alloc (Nat.le_refl _) _).trans (hbx.mono (by simp)) | exact ((Below.refl _ _).alloc (Nat.le_refl _) _).trans ((below_of_drew hbx (Nat.le_refl _)).mono (by simp)) | exact below_of_drew (((Below.refl _ _).alloc (Nat.le_refl _) _).trans (hbx.mono (by simp))) (Nat.le_refl _)
       have ha_0 := ha1.below hbp0
       have hb__0 := hb_1.below hbp0
       have ka_0 := ka1.below hbp0
       obtain ⟨ka0wx_, ka1wx_, ka2wx_, ka3wx_, ka4wx_, ka5wx_, ka6wx_⟩ := ka_0.facts
       have kb_0 := kb1.below hbp0
       obtain ⟨kb0wx_, kb1wx_, kb2wx_, kb3wx_, kb4wx_, kb5wx_, kb6wx_⟩ := kb_0.facts
       have kr_0 := kr1.below hbp0
       obtain ⟨kr0wx_, kr1wx_, kr2wx_, kr3wx_, kr4wx_, kr5wx_, kr6wx_⟩ := kr_0.facts
       have hwq0 := hw1.trans (hbp0.mono hw1.size))
    | (go_at_call 18
       refine (raddq a m p (-q) _ (by first | exact ha_0 | exact ha_0.drew | exact ha_0.alloc _ | exact (ha_0.alloc _).drew | exact ha_0.drew.alloc _) (by first | exact hm | exact hm.drew | exact hm.alloc _ | exact (hm.alloc _).drew | exact hm.drew.alloc _) (by omega)).mono ?_
       rintro e wm_ ⟨r, rfl, hr, hr1, hr2_, hbm⟩
       have hbp1 : Below wx_.heap.size wx_ wm_ := by first | exact hbm | exact below_of_drew hbm (Nat.le_refl _) | exact ((Below.refl _ _).alloc (Nat.le_refl _) _).trans (hbm.mono (by simp)) | exact ((Below.refl _ _).alloc (Nat.le_refl _) _).trans ((below_of_drew hbm (Nat.le_refl _)).mono (by simp)) | exact below_of_drew (((Below.refl _ _).alloc (Nat.le_refl _) _).trans (hbm.mono (by simp))) (Nat.le_refl _)
       have ha_1 := ha_0.below hbp1
       have hb__1 := hb__0.below hbp1
       have hm_1 := hm.below hbp1
       have ka_1 := ka_0.below hbp1
       obtain ⟨ka0wm_, ka1wm_, ka2wm_, ka3wm_, ka4wm_, ka5wm_, ka6wm_⟩ := ka_1.facts
       have kb_1 := kb_0.below hbp1
       obtain ⟨kb0wm_, kb1wm_, kb2wm_, kb3wm_, kb4wm_, kb5wm_, kb6wm_⟩ := kb_1.facts
       have kr_1 := kr_0.below hbp1
       obtain ⟨kr0wm_, kr1wm_, kr2wm_, kr3wm_, kr4wm_, kr5wm_, kr6wm_⟩ := kr_1.facts
       have hwq1 := hwq0.trans (hbp1.mono hwq0.size)))
  all_goals
    go_wp2_with fail
    refine bodyPost_ret (v := .agg #[.bool r.s, .slice r.N r.ns.length r.nc, .slice r.D r.ds.length r.dc]) (by simp [results, Tryz.results19, go_sem, kr0wm_, kr1wm_, kr2wm_]) rfl ?_
    rw [Rat.sub_eq_add_neg]
    exact RefP.put r hr kr_1 (by omega) hwq1 (by omega) (by omega)
theorem sgnI_len {s : Bool} {xs : List Nat} (h : Nm xs) : sgnI s xs.length = sgnI s (VD xs) := by
  unfold sgnI
  rcases Nat.eq_zero_or_pos xs.length with h0 | h0
  · have h1 : VD xs = 0 := by rw [List.eq_nil_of_length_eq_zero h0]; simp [VD, val]
    rw [if_pos h0, if_pos h1]
  · have h1 : VD xs ≠ 0 := by have := VD_pos h h0; omega
    have h2 : xs.length ≠ 0 := by omega
    rw [if_neg h2, if_neg h1]
theorem sgnI_sgn (s : Bool) (n : Nat) : sgnI s n = cmpOf (sgn s n) 0 := by
  unfold sgnI cmpOf
  rcases Nat.eq_zero_or_pos n with h | h
  · subst h; cases s <;> rfl
  · cases s
    · simp [sgn]; omega
    · simp [sgn]; omega
/-- The sign of a difference compares. -/
theorem cmp_sub {s1 s2 s : Bool} {n1 d1 n2 d2 n d : Nat} {p q : Rat} (hp : QOf s1 n1 d1 p) (hq : QOf s2 n2 d2 q) (h : QOf s n d (p - q)) : sgnI s n = cmpOf (sgn s1 n1 * d2) (sgn s2 n2 * d1) := by
  have hd : 0 < d1 * d2 := Nat.mul_pos hp.pos hq.pos
  have e : p - q = mkRat (sgn s1 n1 * d2 - sgn s2 n2 * d1) (d1 * d2) := by
    rw [Rat.sub_eq_add_neg, hp.eq, hq.eq, Rat.neg_mkRat, mkRat_add _ _ _ _ hp.pos hq.pos]
    congr 1
    rw [Int.neg_mul]; rfl
  have h2 : mkRat (sgn s n) d = mkRat (sgn s1 n1 * d2 - sgn s2 n2 * d1) (d1 * d2) := h.eq.symm.trans e
  have h3 := (Rat.mkRat_eq_iff (by have := h.pos; omega) (by omega)).1 h2
  rw [sgnI_sgn]
  have p1 : (0 : Int) < d := by have := h.pos; omega
  have p2 : (0 : Int) < ((d1 * d2 : Nat) : Int) := by omega
  generalize sgn s n = x at h3 ⊢
  generalize ((d1 * d2 : Nat) : Int) = D at h3 p2
  generalize sgn s1 n1 * d2 = u at h3 ⊢
  generalize sgn s2 n2 * d1 = v at h3 ⊢
  unfold cmpOf
  rcases Int.lt_trichotomy x 0 with hx | hx | hx
  · have : (u - v) * d < 0 := by rw [← h3]; exact Int.mul_neg_of_neg_of_pos hx p2
    have : u - v < 0 := Int.neg_of_mul_neg_left this (by omega)
    rw [if_pos hx, if_pos (by omega)]
  · subst hx
    have : (u - v) * d = 0 := by rw [← h3, Int.zero_mul]
    have : u - v = 0 := (Int.mul_eq_zero.1 this).resolve_right (by omega)
    rw [if_neg (by omega), if_neg (by omega), if_neg (by omega), if_neg (by omega)]
  · have : 0 < (u - v) * d := by rw [← h3]; exact Int.mul_pos hx p2
    have : 0 < u - v := Int.pos_of_mul_pos_left this (by omega)
    rw [if_neg (by omega), if_pos hx, if_neg (by omega), if_pos (by omega)]
set_option maxRecDepth 100000 in
set_option maxHeartbeats 6400000 in
theorem rcmpq (a b : RL) (p q : Rat) (w : World) (ha : a.Ref w p) (hb_ : b.Ref w q) (bl : a.ns.length + a.ds.length + b.ns.length + b.ds.length ≤ 3000) :
    Calls Tryz.prog 23 #[.agg #[.bool a.s, .slice a.N a.ns.length a.nc, .slice a.D a.ds.length a.dc], .agg #[.bool b.s, .slice b.N b.ns.length b.nc, .slice b.D b.ds.length b.dc]] w (Gives (.int .i64 (cmpOf (sgn a.s (VD a.ns) * VD b.ds) (sgn b.s (VD b.ns) * VD a.ds))) w) := by
  have HQA := Lib.hid ha.q
  have HQB := Lib.hid hb_.q
  go_enter Tryz.func23, Tryz.ntmps23
  go_wp2_with fail
  have hbox := boxes2 30 30 w (.bool a.s) (.slice a.N a.ns.length a.nc) (.slice a.D a.ds.length a.dc) (.bool b.s) (.slice b.N b.ns.length b.nc) (.slice b.D b.ds.length b.dc)
  obtain ⟨w1, hwe⟩ : ∃ x, (w.alloc (.cells #[.bool a.s, .slice a.N a.ns.length a.nc, .slice a.D a.ds.length a.dc] 30)).alloc (.cells #[.bool b.s, .slice b.N b.ns.length b.nc, .slice b.D b.ds.length b.dc] 30) = x := ⟨_, rfl⟩
  rw [hwe] at hbox ⊢
  obtain ⟨ka1, kb1, hb1⟩ := hbox
  have HWE := Lib.hid hwe
  clear hwe HWE
  have ha1 := ha.below hb1
  have hb_1 := hb_.below hb1
  have hw1 := hb1
  clear ha hb_ hb1
  obtain ⟨a0, a1, a2, a3, a4, a5, a6⟩ := ka1.facts
  obtain ⟨b0, b1, b2, b3, b4, b5, b6⟩ := kb1.facts
  go_wp2_with fail
  refine (rsubq a b p q _ ha1 hb_1 bl).mono ?_
  rintro e w2 ⟨r, rfl, hr2, hra, hrb, hb2⟩
  have ha2 := ha1.below hb2
  have hb_2 := hb_1.below hb2
  have ka2 := ka1.below hb2
  have kb2 := kb1.below hb2
  have hw2 := hw1.trans (hb2.mono hw1.size)
  clear ha1 hb_1 ka1 kb1 hw1 hb2
  clear a0 a1 a2 a3 a4 a5 a6
  clear b0 b1 b2 b3 b4 b5 b6
  go_wp2_with fail
  refine (rsign r.s r.N r.D r.ns.length r.nc r.ds.length r.dc _).mono ?_
  rintro e w3 ⟨he, hb3⟩
  have ha3 := ha2.below hb3
  have hb_3 := hb_2.below hb3
  have ka3 := ka2.below hb3
  have kb3 := kb2.below hb3
  have hr3 := hr2.below hb3
  have hw3 := hw2.trans (hb3.mono hw2.size)
  clear ha2 hb_2 ka2 kb2 hr2 hw2 hb3
  have hv := cmp_sub HQA.out HQB.out hr3.q
  have hz : sgnI r.s r.ns.length = sgnI r.s (VD r.ns) := sgnI_len hr3.mn
  rw [hz, hv] at he
  subst he
  go_wp2_with fail
  go_ret
  exact ⟨rfl, hw3⟩
end Go.Proofs.YtopppmlkddajjaaGreatDoor

