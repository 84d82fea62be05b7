/- isochroneref02: Int at 2, Mid. -/
import Derived.Test.YtopppmlkddajjaaGreatDoorQFR18
namespace Go.Proofs.YtopppmlkddajjaaGreatDoor
open Go.RowKit V

set_option maxRecDepth 20000 in
set_option maxHeartbeats 1600000 in
theorem rint2 (w : World) : Calls Tryz.prog 27 #[.int .i64 2] w (RefP (mkRat (sgn false 2) 1) 5 1 w) := by
  go_enter Tryz.func27, Tryz.ntmps27
  go_wp2_with fail
  have hbox := (⟨BlkT.new 30 w (.bool false) (.slice none 0 0) (.slice none 0 0), (Below.refl _ _).alloc (Nat.le_refl _) _⟩ : _ ∧ Below w.heap.size w (w.alloc (.cells #[.bool false, .slice none 0 0, .slice none 0 0] 30)))
  obtain ⟨w1, hwe⟩ : ∃ x, w.alloc (.cells #[.bool false, .slice none 0 0, .slice none 0 0] 30) = x := ⟨_, rfl⟩
  rw [hwe] at hbox ⊢
  obtain ⟨kr1, hb1⟩ := hbox
  have HWE := Lib.hid hwe
  clear hwe HWE
  have hw1 := hb1
  clear hb1
  refine (int_any 2 _ (by omega)).mono ?_
  rintro e w2 ⟨H, hc, hl, rfl, hhc, hH2, hb2, hvh, hnh, hlh⟩
  have kr2 := kr1.below hb2
  have hw2 := hw1.trans (hb2.mono hw1.size)
  clear kr1 hw1 hb2
  have HVH := Lib.hid hvh
  clear hvh
  obtain ⟨d0, d1, d2, d3, d4, d5, d6⟩ := ((kr2.put3_ (.bool false) (.slice H hl.length hc) (.slice (some ⟨w2.heap.size, 0, none⟩) 1 1)).alloc (.cells #[.int .i64 1] 3)).facts
  dsimp only [Go.Proofs.YtopppmlkddajjaaGreatDoor.put3] at d0 d1 d2
  clear d3 d4 d5 d6
  obtain ⟨c0, c1, c2, c3, c4, c5, c6⟩ := kr2.facts
  go_wp2_with fail
  refine bodyPost_ret (v := .agg #[.bool false, .slice H hl.length hc, .slice (some ⟨w2.heap.size, 0, none⟩) 1 1]) (by simp [results, Tryz.results27, go_sem, d0, d1, d2]) rfl ?_
  have hbw := below_put3 hw2 (show w.heap.size ≤ w.heap.size by omega) (.bool false) (.slice H hl.length hc) (.slice (some ⟨w2.heap.size, 0, none⟩) 1 1)
  exact ⟨⟨false, H, hc, hl, some ⟨w2.heap.size, 0, none⟩, 1, [1]⟩, rfl, ⟨(hH2.put3 kr2 _ _ _).alloc _, nat1_rd _ _ (by simp), hnh, nm_one, by dsimp only; rw [HVH.out, vd_one]; exact QOf.mk_ (neg := false) (n := 2) (d := 1) (by omega) (by decide) (fun _ => rfl)⟩, by dsimp only; omega, by simp, hbw.alloc hbw.size _⟩
theorem two_rat : mkRat (sgn false 2) 1 = (2 : Rat) := by decide
set_option maxRecDepth 100000 in
set_option maxHeartbeats 3200000 in
theorem rmidq (a b : RL) (p q : Rat) (w : World) (ha : a.Ref w p) (hb_ : b.Ref w q) (bl : a.ns.length + a.ds.length + b.ns.length + b.ds.length ≤ 2000) :
    Calls Tryz.prog 22 #[.agg #[.bool a.s, .slice a.N a.ns.length a.nc, .slice a.D a.ds.length a.dc], .agg #[.bool b.s, .slice b.N b.ns.length b.nc, .slice b.D b.ds.length b.dc]] w (RefP ((p + q) / 2) 9000 9000 w) := by
  go_enter Tryz.func22, Tryz.ntmps22
  go_wp2_with fail
  have hbox := boxes3 30 w (.bool a.s) (.slice a.N a.ns.length a.nc) (.slice a.D a.ds.length a.dc) (.bool b.s) (.slice b.N b.ns.length b.nc) (.slice b.D b.ds.length b.dc) (.bool false) (.slice none 0 0) (.slice none 0 0)
  obtain ⟨w1, hwe⟩ : ∃ x, ((w.alloc (.cells #[.bool a.s, .slice a.N a.ns.length a.nc, .slice a.D a.ds.length a.dc] 30)).alloc (.cells #[.bool b.s, .slice b.N b.ns.length b.nc, .slice b.D b.ds.length b.dc] 30)).alloc (.cells #[.bool false, .slice none 0 0, .slice none 0 0] 30) = x := ⟨_, rfl⟩
  rw [hwe] at hbox ⊢
  obtain ⟨ka1, kb1, kr1, hb1⟩ := hbox
  have HWE := Lib.hid hwe
  clear hwe HWE
  have ha1 := ha.below hb1
  have hb_1 := hb_.below hb1
  have hw1 := hb1
  clear ha hb_ hb1
  obtain ⟨a0, a1, a2, a3, a4, a5, a6⟩ := ka1.facts
  obtain ⟨b0, b1, b2, b3, b4, b5, b6⟩ := kb1.facts
  go_wp2_with fail
  refine (raddq a b p q _ ha1 hb_1 (by omega)).mono ?_
  rintro e w2 ⟨r, rfl, hr2, hra, hrb, hb2⟩
  have ha2 := ha1.below hb2
  have hb_2 := hb_1.below hb2
  have ka2 := ka1.below hb2
  have kb2 := kb1.below hb2
  have kr2 := kr1.below hb2
  have hw2 := hw1.trans (hb2.mono hw1.size)
  clear ha1 hb_1 ka1 kb1 kr1 hw1 hb2
  clear a0 a1 a2 a3 a4 a5 a6
  clear b0 b1 b2 b3 b4 b5 b6
  go_wp2_with fail
  refine (rint2 _).mono ?_
  rintro e w3 ⟨m, rfl, hm3, hma, hmb, hb3⟩
  have ha3 := ha2.below hb3
  have hb_3 := hb_2.below hb3
  have ka3 := ka2.below hb3
  have kb3 := kb2.below hb3
  have kr3 := kr2.below hb3
  have hr3 := hr2.below hb3
  have hw3 := hw2.trans (hb3.mono hw2.size)
  clear ha2 hb_2 ka2 kb2 kr2 hr2 hw2 hb3
  have hmn : 0 < VD m.ns := by rw [(QOf.inj hm3.q (QOf.mk_ (neg := false) (n := 2) (d := 1) (by omega) (by decide) (fun _ => rfl))).2.1]; omega
  go_wp2_with fail
  refine (rdivq r m (p + q) (mkRat (sgn false 2) 1) _ hr3 hm3 (by omega) hmn).mono ?_
  rintro e w4 ⟨t, rfl, ht4, hta, htb, hb4⟩
  have ha4 := ha3.below hb4
  have hb_4 := hb_3.below hb4
  have ka4 := ka3.below hb4
  have kb4 := kb3.below hb4
  have kr4 := kr3.below hb4
  have hr4 := hr3.below hb4
  have hm4 := hm3.below hb4
  have hw4 := hw3.trans (hb4.mono hw3.size)
  clear ha3 hb_3 ka3 kb3 kr3 hr3 hm3 hw3 hb4
  obtain ⟨c0, c1, c2, c3, c4, c5, c6⟩ := kr4.facts
  go_wp2_with fail
  refine bodyPost_ret (v := .agg #[.bool t.s, .slice t.N t.ns.length t.nc, .slice t.D t.ds.length t.dc]) (by simp [results, Tryz.results22, go_sem, c0, c1, c2]) rfl ?_
  exact RefP.put t (two_rat ▸ ht4) kr4 (by omega) hw4 (by omega) (by omega)
end Go.Proofs.YtopppmlkddajjaaGreatDoor


/- rat.product, half, copied. -/
namespace Go.Proofs.YtopppmlkddajjaaGreatDoor
open Go.RowKit V

theorem len_of_V32 {xs : List Nat} (h : 0 < V32 xs) : 0 < xs.length := by
  rcases Nat.eq_zero_or_pos xs.length with h0 | h0
  · rw [List.eq_nil_of_length_eq_zero h0] at h; simp [V32, val] at h
  · exact h0
set_option maxRecDepth 100000 in
set_option maxHeartbeats 6400000 in
theorem product_of (a b : RL) (p q : Rat) (w : World) (ha : a.Is w p) (hb_ : b.Is w q) (bl : a.ns.length + a.ds.length + b.ns.length + b.ds.length ≤ 2000) :
    Calls Tryz.prog 44 #[.agg #[.bool a.s, .slice a.N a.ns.length a.nc, .slice a.D a.ds.length a.dc], .agg #[.bool b.s, .slice b.N b.ns.length b.nc, .slice b.D b.ds.length b.dc]] w (RatP (p * q) (a.ns.length + a.ds.length + b.ns.length + b.ds.length) w) := by
  go_enter Tryz.func44, Tryz.ntmps44
  go_wp2_with fail
  have hbox := box2r w (.bool a.s) (.slice a.N a.ns.length a.nc) (.slice a.D a.ds.length a.dc) (.bool b.s) (.slice b.N b.ns.length b.nc) (.slice b.D b.ds.length b.dc) (.bool false) (.slice none 0 0) (.slice none 0 0)
  obtain ⟨w1, hwe⟩ : ∃ x, ((w.alloc (.cells #[.bool a.s, .slice a.N a.ns.length a.nc, .slice a.D a.ds.length a.dc] 24)).alloc (.cells #[.bool b.s, .slice b.N b.ns.length b.nc, .slice b.D b.ds.length b.dc] 24)).alloc (.cells #[.bool false, .slice none 0 0, .slice none 0 0] 24) = x := ⟨_, rfl⟩
  rw [hwe] at hbox ⊢
  obtain ⟨ka1, kb1, kr1, hb1⟩ := hbox
  have HWE := Lib.hid hwe
  clear hwe HWE
  have ha1 := ha.below hb1
  have hb_1 := hb_.below hb1
  have hw1 := hb1
  clear ha hb_ hb1
  have hna1 := ha1.rn
  have hda1 := ha1.rd
  have hnb1 := hb_1.rn
  have hdb1 := hb_1.rd
  have mna := ha1.mn
  have mda := ha1.md
  have mnb := hb_1.mn
  have mdb := hb_1.md
  have cna := ha1.cn
  have cda := ha1.cd
  have cnb := hb_1.cn
  have cdb := hb_1.cd
  have dpa := ha1.q.pos
  have dpb := hb_1.q.pos
  have HQ := Lib.hid (fun (g h : Nat) => prod_q (g := g) (h := h) ha1.q hb_1.q)
  have DPA := Lib.hid dpa
  have DPB := Lib.hid dpb
  clear dpa dpb
  clear ha1 hb_1
  obtain ⟨a0, a1, a2, a3, a4, a5, a6⟩ := ka1.facts
  obtain ⟨b0, b1, b2, b3, b4, b5, b6⟩ := kb1.facts
  go_upto_region 1 with fail
  go_cut [5, 6] (fun s5 s6 wx => ∃ G gc gl H hc hl, s5 = .slice G (gl : List Nat).length gc ∧ s6 = .slice H (hl : List Nat).length hc ∧ Rd .u32 wx G gl ∧ Rd .u32 wx H hl ∧ Mag gl ∧ Mag hl ∧ Hid (V32 gl = Nat.gcd (V32 a.ns) (V32 b.ds)) ∧ Hid (V32 hl = Nat.gcd (V32 b.ns) (V32 a.ds)) ∧ Below w1.heap.size w1 wx)
  case first =>
    go_region_held3 (fun w' => w'.cell? ⟨w.heap.size, 1, none⟩ = some (.slice a.N a.ns.length a.nc) ∧ w'.cell? ⟨w.heap.size, 2, none⟩ = some (.slice a.D a.ds.length a.dc) ∧ w'.cell? ⟨w.heap.size + 1, 1, none⟩ = some (.slice b.N b.ns.length b.nc) ∧ w'.cell? ⟨w.heap.size + 1, 2, none⟩ = some (.slice b.D b.ds.length b.dc)) (first | exact ⟨‹_›, ‹_›, ‹_›, ‹_›⟩ | go_keep)
      (first
      | (go_at_call_of 74 (Value.slice a.N a.ns.length a.nc)
         refine (qgcd a.N b.D a.nc b.dc a.ns b.ds _ (by first | exact hna1 | exact hna1.drew | exact hna1.alloc _ | exact (hna1.alloc _).drew | exact hna1.drew.alloc _) (by first | exact hdb1 | exact hdb1.drew | exact hdb1.alloc _ | exact (hdb1.alloc _).drew | exact hdb1.drew.alloc _) cna cdb (by omega) (by omega) mna mdb).mono ?_
         rintro e wx_ ⟨G, gc, gl, rfl, hgc, hG, hbx, hvg, mg⟩
         have HVG := Lib.hid hvg
         clear hvg
         have hbp0 : Below w1.heap.size w1 wx_ := by first | exact hbx | exact below_of_drew hbx (Nat.le_refl _) | exact ((Below.refl _ _).alloc (Nat.le_refl _) _).trans (hbx.mono (by simp)) | exact ((Below.refl _ _).alloc (Nat.le_refl _) _).trans ((below_of_drew hbx (Nat.le_refl _)).mono (by simp)) | exact below_of_drew (((Below.refl _ _).alloc (Nat.le_refl _) _).trans (hbx.mono (by simp))) (Nat.le_refl _)
         have hna_0 := hna1.below hbp0
         have hda_0 := hda1.below hbp0
         have hnb_0 := hnb1.below hbp0
         have hdb_0 := hdb1.below hbp0
         have ka_0 := ka1.below hbp0
         obtain ⟨ka0wx_, ka1wx_, ka2wx_, ka3wx_, ka4wx_, ka5wx_, ka6wx_⟩ := ka_0.facts
         have kb_0 := kb1.below hbp0
         obtain ⟨kb0wx_, kb1wx_, kb2wx_, kb3wx_, kb4wx_, kb5wx_, kb6wx_⟩ := kb_0.facts
         have hwq0 := hw1.trans (hbp0.mono hw1.size))
      | (go_at_call_of 74 (Value.slice b.N b.ns.length b.nc)
         refine (qgcd b.N a.D b.nc a.dc b.ns a.ds _ (by first | exact hnb_0 | exact hnb_0.drew | exact hnb_0.alloc _ | exact (hnb_0.alloc _).drew | exact hnb_0.drew.alloc _) (by first | exact hda_0 | exact hda_0.drew | exact hda_0.alloc _ | exact (hda_0.alloc _).drew | exact hda_0.drew.alloc _) cnb cda (by omega) (by omega) mnb mda).mono ?_
         rintro e wy_ ⟨H, hc, hl, rfl, hhc, hH, hby, hvh, mh⟩
         have HVH := Lib.hid hvh
         clear hvh
         have hbp1 : Below wx_.heap.size wx_ wy_ := by first | exact hby | exact below_of_drew hby (Nat.le_refl _) | exact ((Below.refl _ _).alloc (Nat.le_refl _) _).trans (hby.mono (by simp)) | exact ((Below.refl _ _).alloc (Nat.le_refl _) _).trans ((below_of_drew hby (Nat.le_refl _)).mono (by simp)) | exact below_of_drew (((Below.refl _ _).alloc (Nat.le_refl _) _).trans (hby.mono (by simp))) (Nat.le_refl _)
         have hna_1 := hna_0.below hbp1
         have hda_1 := hda_0.below hbp1
         have hnb_1 := hnb_0.below hbp1
         have hdb_1 := hdb_0.below hbp1
         have hG_1 := hG.below hbp1
         have ka_1 := ka_0.below hbp1
         obtain ⟨ka0wy_, ka1wy_, ka2wy_, ka3wy_, ka4wy_, ka5wy_, ka6wy_⟩ := ka_1.facts
         have kb_1 := kb_0.below hbp1
         obtain ⟨kb0wy_, kb1wy_, kb2wy_, kb3wy_, kb4wy_, kb5wy_, kb6wy_⟩ := kb_1.facts
         have hwq1 := hwq0.trans (hbp1.mono hwq0.size)))
    all_goals
      go_wp2_with fail
      go_meet
      exact ⟨G, gc, gl, H, hc, hl, rfl, rfl, hG_1, hH, mg, mh, HVG, HVH, (hbp0).trans (hbp1.mono (hbp0).size)⟩
  clear a0 a1 a2 a3 a4 a5 a6
  clear b0 b1 b2 b3 b4 b5 b6
  obtain ⟨w2, rfl⟩ : ∃ x, x = wc := ⟨_, rfl⟩
  obtain ⟨G, gc, gl, H, hc, hl, rfl, rfl, hG2, hH2, mg, mh, HVG, HVH, hb2⟩ := hcut
  have ka2 := ka1.below hb2
  have kb2 := kb1.below hb2
  have kr2 := kr1.below hb2
  have hna2 := hna1.below hb2
  have hda2 := hda1.below hb2
  have hnb2 := hnb1.below hb2
  have hdb2 := hdb1.below hb2
  have hw2 := hw1.trans (hb2.mono hw1.size)
  clear ka1 kb1 kr1 hna1 hda1 hnb1 hdb1 hw1 hb2
  have gp : 0 < gl.length := len_of_V32 (by rw [HVG.out]; exact Nat.gcd_pos_of_pos_right _ DPB.out)
  have hp : 0 < hl.length := len_of_V32 (by rw [HVH.out]; exact Nat.gcd_pos_of_pos_right _ DPA.out)
  have glen : gl.length ≤ b.ds.length := len_of_lt (B := 4294967296) (by omega) mg.2 (Nat.lt_of_le_of_lt (by rw [show val 4294967296 gl = V32 gl from rfl, HVG.out]; exact Nat.gcd_le_right _ DPB.out) (val_lt _ _ mdb.1))
  have hlen : hl.length ≤ a.ds.length := len_of_lt (B := 4294967296) (by omega) mh.2 (Nat.lt_of_le_of_lt (by rw [show val 4294967296 hl = V32 hl from rfl, HVH.out]; exact Nat.gcd_le_right _ DPA.out) (val_lt _ _ mda.1))
  obtain ⟨a0, a1, a2, a3, a4, a5, a6⟩ := ka2.facts
  obtain ⟨b0, b1, b2, b3, b4, b5, b6⟩ := kb2.facts
  go_upto_region 2 with fail
  go_cut [7] (fun s7 wx => ∃ P pc pl, s7 = .slice P (pl : List Nat).length pc ∧ pl.length ≤ pc ∧ Rd .u32 wx P pl ∧ Mag pl ∧ Hid (V32 pl = V32 a.ns / V32 gl * (V32 b.ns / V32 hl)) ∧ pl.length ≤ a.ns.length + b.ns.length ∧ Below w2.heap.size w2 wx)
  case first =>
    go_region_held3 (fun w' => w'.cell? ⟨w.heap.size, 1, none⟩ = some (.slice a.N a.ns.length a.nc) ∧ w'.cell? ⟨w.heap.size + 1, 1, none⟩ = some (.slice b.N b.ns.length b.nc)) (first | exact ⟨‹_›, ‹_›⟩ | go_keep)
      (first
      | (go_at_call_of 75 (Value.slice a.N a.ns.length a.nc)
         refine (qquot a.N G a.nc gc a.ns gl _ (by first | exact hna2 | exact hna2.drew | exact hna2.alloc _ | exact (hna2.alloc _).drew | exact hna2.drew.alloc _) (by first | exact hG2 | exact hG2.drew | exact hG2.alloc _ | exact (hG2.alloc _).drew | exact hG2.drew.alloc _) (by omega) (by omega) mna mg gp).mono ?_
         rintro e wx_ ⟨X, xc, xl, rfl, hxc, hX, hbx, hvx, mx, hxl⟩
         have HVX := Lib.hid hvx
         clear hvx
         have hbp0 : Below w2.heap.size w2 wx_ := by first | exact hbx | exact below_of_drew hbx (Nat.le_refl _) | exact ((Below.refl _ _).alloc (Nat.le_refl _) _).trans (hbx.mono (by simp)) | exact ((Below.refl _ _).alloc (Nat.le_refl _) _).trans ((below_of_drew hbx (Nat.le_refl _)).mono (by simp)) | exact below_of_drew (((Below.refl _ _).alloc (Nat.le_refl _) _).trans (hbx.mono (by simp))) (Nat.le_refl _)
         have hna_0 := hna2.below hbp0
         have hda_0 := hda2.below hbp0
         have hnb_0 := hnb2.below hbp0
         have hdb_0 := hdb2.below hbp0
         have hG_0 := hG2.below hbp0
         have hH_0 := hH2.below hbp0
         have ka_0 := ka2.below hbp0
         obtain ⟨ka0wx_, ka1wx_, ka2wx_, ka3wx_, ka4wx_, ka5wx_, ka6wx_⟩ := ka_0.facts
         have kb_0 := kb2.below hbp0
         obtain ⟨kb0wx_, kb1wx_, kb2wx_, kb3wx_, kb4wx_, kb5wx_, kb6wx_⟩ := kb_0.facts
         have hwq0 := hw2.trans (hbp0.mono hw2.size))
      | (go_at_call_of 75 (Value.slice b.N b.ns.length b.nc)
         refine (qquot b.N H b.nc hc b.ns hl _ (by first | exact hnb_0 | exact hnb_0.drew | exact hnb_0.alloc _ | exact (hnb_0.alloc _).drew | exact hnb_0.drew.alloc _) (by first | exact hH_0 | exact hH_0.drew | exact hH_0.alloc _ | exact (hH_0.alloc _).drew | exact hH_0.drew.alloc _) (by omega) (by omega) mnb mh hp).mono ?_
         rintro e wy_ ⟨Y, yc, yl, rfl, hyc, hY, hby, hvy, my_, hyl⟩
         have HVY := Lib.hid hvy
         clear hvy
         have hbp1 : Below wx_.heap.size wx_ wy_ := by first | exact hby | exact below_of_drew hby (Nat.le_refl _) | exact ((Below.refl _ _).alloc (Nat.le_refl _) _).trans (hby.mono (by simp)) | exact ((Below.refl _ _).alloc (Nat.le_refl _) _).trans ((below_of_drew hby (Nat.le_refl _)).mono (by simp)) | exact below_of_drew (((Below.refl _ _).alloc (Nat.le_refl _) _).trans (hby.mono (by simp))) (Nat.le_refl _)
         have hna_1 := hna_0.below hbp1
         have hda_1 := hda_0.below hbp1
         have hnb_1 := hnb_0.below hbp1
         have hdb_1 := hdb_0.below hbp1
         have hG_1 := hG_0.below hbp1
         have hH_1 := hH_0.below hbp1
         have hX_1 := hX.below hbp1
         have ka_1 := ka_0.below hbp1
         obtain ⟨ka0wy_, ka1wy_, ka2wy_, ka3wy_, ka4wy_, ka5wy_, ka6wy_⟩ := ka_1.facts
         have kb_1 := kb_0.below hbp1
         obtain ⟨kb0wy_, kb1wy_, kb2wy_, kb3wy_, kb4wy_, kb5wy_, kb6wy_⟩ := kb_1.facts
         have hwq1 := hwq0.trans (hbp1.mono hwq0.size))
      | (go_at_call 77
         refine (qtimes X Y xc yc xl yl _ (by first | exact hX_1 | exact hX_1.drew | exact hX_1.alloc _ | exact (hX_1.alloc _).drew | exact hX_1.drew.alloc _) (by first | exact hY | exact hY.drew | exact hY.alloc _ | exact (hY.alloc _).drew | exact hY.drew.alloc _) (by omega) mx my_).mono ?_
         rintro e wz_ ⟨Z, zc, zl, rfl, hzc, hZ, hbz, hvz, mz, hzl⟩
         have HVZ := Lib.hid hvz
         clear hvz
         have hbp2 : Below wy_.heap.size wy_ wz_ := by first | exact hbz | exact below_of_drew hbz (Nat.le_refl _) | exact ((Below.refl _ _).alloc (Nat.le_refl _) _).trans (hbz.mono (by simp)) | exact ((Below.refl _ _).alloc (Nat.le_refl _) _).trans ((below_of_drew hbz (Nat.le_refl _)).mono (by simp)) | exact below_of_drew (((Below.refl _ _).alloc (Nat.le_refl _) _).trans (hbz.mono (by simp))) (Nat.le_refl _)
         have hna_2 := hna_1.below hbp2
         have hda_2 := hda_1.below hbp2
         have hnb_2 := hnb_1.below hbp2
         have hdb_2 := hdb_1.below hbp2
         have hG_2 := hG_1.below hbp2
         have hH_2 := hH_1.below hbp2
         have hX_2 := hX_1.below hbp2
         have hY_2 := hY.below hbp2
         have ka_2 := ka_1.below hbp2
         obtain ⟨ka0wz_, ka1wz_, ka2wz_, ka3wz_, ka4wz_, ka5wz_, ka6wz_⟩ := ka_2.facts
         have kb_2 := kb_1.below hbp2
         obtain ⟨kb0wz_, kb1wz_, kb2wz_, kb3wz_, kb4wz_, kb5wz_, kb6wz_⟩ := kb_2.facts
         have hwq2 := hwq1.trans (hbp2.mono hwq1.size)))
    all_goals
      go_wp2_with fail
      go_meet
      exact ⟨Z, zc, zl, rfl, hzc, hZ, mz, by show _ = _; rw [HVZ.out, HVX.out, HVY.out], by omega, ((hbp0).trans (hbp1.mono (hbp0).size)).trans (hbp2.mono ((hbp0).trans (hbp1.mono (hbp0).size)).size)⟩
  clear a0 a1 a2 a3 a4 a5 a6
  clear b0 b1 b2 b3 b4 b5 b6
  obtain ⟨w3, rfl⟩ : ∃ x, x = wc := ⟨_, rfl⟩
  obtain ⟨P, pc, pl, rfl, hpc, hP3, mp, HVP, hlP, hb3⟩ := hcut
  have ka3 := ka2.below hb3
  have kb3 := kb2.below hb3
  have kr3 := kr2.below hb3
  have hna3 := hna2.below hb3
  have hda3 := hda2.below hb3
  have hnb3 := hnb2.below hb3
  have hdb3 := hdb2.below hb3
  have hG3 := hG2.below hb3
  have hH3 := hH2.below hb3
  have hw3 := hw2.trans (hb3.mono hw2.size)
  clear ka2 kb2 kr2 hna2 hda2 hnb2 hdb2 hG2 hH2 hw2 hb3
  obtain ⟨a0, a1, a2, a3, a4, a5, a6⟩ := ka3.facts
  obtain ⟨b0, b1, b2, b3, b4, b5, b6⟩ := kb3.facts
  go_upto_region 3 with fail
  go_cut [8] (fun s8 wx => ∃ P pc pl, s8 = .slice P (pl : List Nat).length pc ∧ pl.length ≤ pc ∧ Rd .u32 wx P pl ∧ Mag pl ∧ Hid (V32 pl = V32 a.ds / V32 hl * (V32 b.ds / V32 gl)) ∧ pl.length ≤ a.ds.length + b.ds.length ∧ Below w3.heap.size w3 wx)
  case first =>
    go_region_held3 (fun w' => w'.cell? ⟨w.heap.size, 2, none⟩ = some (.slice a.D a.ds.length a.dc) ∧ w'.cell? ⟨w.heap.size + 1, 2, none⟩ = some (.slice b.D b.ds.length b.dc)) (first | exact ⟨‹_›, ‹_›⟩ | go_keep)
      (first
      | (go_at_call_of 75 (Value.slice a.D a.ds.length a.dc)
         refine (qquot a.D H a.dc hc a.ds hl _ (by first | exact hda3 | exact hda3.drew | exact hda3.alloc _ | exact (hda3.alloc _).drew | exact hda3.drew.alloc _) (by first | exact hH3 | exact hH3.drew | exact hH3.alloc _ | exact (hH3.alloc _).drew | exact hH3.drew.alloc _) (by omega) (by omega) mda mh hp).mono ?_
         rintro e wx_ ⟨X, xc, xl, rfl, hxc, hX, hbx, hvx, mx, hxl⟩
         have HVX := Lib.hid hvx
         clear hvx
         have hbp0 : Below w3.heap.size w3 wx_ := by first | exact hbx | exact below_of_drew hbx (Nat.le_refl _) | exact ((Below.refl _ _).alloc (Nat.le_refl _) _).trans (hbx.mono (by simp)) | exact ((Below.refl _ _).alloc (Nat.le_refl _) _).trans ((below_of_drew hbx (Nat.le_refl _)).mono (by simp)) | exact below_of_drew (((Below.refl _ _).alloc (Nat.le_refl _) _).trans (hbx.mono (by simp))) (Nat.le_refl _)
         have hna_0 := hna3.below hbp0
         have hda_0 := hda3.below hbp0
         have hnb_0 := hnb3.below hbp0
         have hdb_0 := hdb3.below hbp0
         have hG_0 := hG3.below hbp0
         have hH_0 := hH3.below hbp0
         have hP_0 := hP3.below hbp0
         have ka_0 := ka3.below hbp0
         obtain ⟨ka0wx_, ka1wx_, ka2wx_, ka3wx_, ka4wx_, ka5wx_, ka6wx_⟩ := ka_0.facts
         have kb_0 := kb3.below hbp0
         obtain ⟨kb0wx_, kb1wx_, kb2wx_, kb3wx_, kb4wx_, kb5wx_, kb6wx_⟩ := kb_0.facts
         have hwq0 := hw3.trans (hbp0.mono hw3.size))
      | (go_at_call_of 75 (Value.slice b.D b.ds.length b.dc)
         refine (qquot b.D G b.dc gc b.ds gl _ (by first | exact hdb_0 | exact hdb_0.drew | exact hdb_0.alloc _ | exact (hdb_0.alloc _).drew | exact hdb_0.drew.alloc _) (by first | exact hG_0 | exact hG_0.drew | exact hG_0.alloc _ | exact (hG_0.alloc _).drew | exact hG_0.drew.alloc _) (by omega) (by omega) mdb mg gp).mono ?_
         rintro e wy_ ⟨Y, yc, yl, rfl, hyc, hY, hby, hvy, my_, hyl⟩
         have HVY := Lib.hid hvy
         clear hvy
         have hbp1 : Below wx_.heap.size wx_ wy_ := by first | exact hby | exact below_of_drew hby (Nat.le_refl _) | exact ((Below.refl _ _).alloc (Nat.le_refl _) _).trans (hby.mono (by simp)) | exact ((Below.refl _ _).alloc (Nat.le_refl _) _).trans ((below_of_drew hby (Nat.le_refl _)).mono (by simp)) | exact below_of_drew (((Below.refl _ _).alloc (Nat.le_refl _) _).trans (hby.mono (by simp))) (Nat.le_refl _)
         have hna_1 := hna_0.below hbp1
         have hda_1 := hda_0.below hbp1
         have hnb_1 := hnb_0.below hbp1
         have hdb_1 := hdb_0.below hbp1
         have hG_1 := hG_0.below hbp1
         have hH_1 := hH_0.below hbp1
         have hP_1 := hP_0.below hbp1
         have hX_1 := hX.below hbp1
         have ka_1 := ka_0.below hbp1
         obtain ⟨ka0wy_, ka1wy_, ka2wy_, ka3wy_, ka4wy_, ka5wy_, ka6wy_⟩ := ka_1.facts
         have kb_1 := kb_0.below hbp1
         obtain ⟨kb0wy_, kb1wy_, kb2wy_, kb3wy_, kb4wy_, kb5wy_, kb6wy_⟩ := kb_1.facts
         have hwq1 := hwq0.trans (hbp1.mono hwq0.size))
      | (go_at_call 77
         refine (qtimes X Y xc yc xl yl _ (by first | exact hX_1 | exact hX_1.drew | exact hX_1.alloc _ | exact (hX_1.alloc _).drew | exact hX_1.drew.alloc _) (by first | exact hY | exact hY.drew | exact hY.alloc _ | exact (hY.alloc _).drew | exact hY.drew.alloc _) (by omega) mx my_).mono ?_
         rintro e wz_ ⟨Z, zc, zl, rfl, hzc, hZ, hbz, hvz, mz, hzl⟩
         have HVZ := Lib.hid hvz
         clear hvz
         have hbp2 : Below wy_.heap.size wy_ wz_ := by first | exact hbz | exact below_of_drew hbz (Nat.le_refl _) | exact ((Below.refl _ _).alloc (Nat.le_refl _) _).trans (hbz.mono (by simp)) | exact ((Below.refl _ _).alloc (Nat.le_refl _) _).trans ((below_of_drew hbz (Nat.le_refl _)).mono (by simp)) | exact below_of_drew (((Below.refl _ _).alloc (Nat.le_refl _) _).trans (hbz.mono (by simp))) (Nat.le_refl _)
         have hna_2 := hna_1.below hbp2
         have hda_2 := hda_1.below hbp2
         have hnb_2 := hnb_1.below hbp2
         have hdb_2 := hdb_1.below hbp2
         have hG_2 := hG_1.below hbp2
         have hH_2 := hH_1.below hbp2
         have hP_2 := hP_1.below hbp2
         have hX_2 := hX_1.below hbp2
         have hY_2 := hY.below hbp2
         have ka_2 := ka_1.below hbp2
         obtain ⟨ka0wz_, ka1wz_, ka2wz_, ka3wz_, ka4wz_, ka5wz_, ka6wz_⟩ := ka_2.facts
         have kb_2 := kb_1.below hbp2
         obtain ⟨kb0wz_, kb1wz_, kb2wz_, kb3wz_, kb4wz_, kb5wz_, kb6wz_⟩ := kb_2.facts
         have hwq2 := hwq1.trans (hbp2.mono hwq1.size)))
    all_goals
      go_wp2_with fail
      go_meet
      exact ⟨Z, zc, zl, rfl, hzc, hZ, mz, by show _ = _; rw [HVZ.out, HVX.out, HVY.out], by omega, ((hbp0).trans (hbp1.mono (hbp0).size)).trans (hbp2.mono ((hbp0).trans (hbp1.mono (hbp0).size)).size)⟩
  clear a0 a1 a2 a3 a4 a5 a6
  clear b0 b1 b2 b3 b4 b5 b6
  obtain ⟨w4, rfl⟩ : ∃ x, x = wc := ⟨_, rfl⟩
  obtain ⟨E, ec, el, rfl, hec, hE4, me, HVE, hlE, hb4⟩ := hcut
  have ka4 := ka3.below hb4
  have kb4 := kb3.below hb4
  have kr4 := kr3.below hb4
  have hna4 := hna3.below hb4
  have hda4 := hda3.below hb4
  have hnb4 := hnb3.below hb4
  have hdb4 := hdb3.below hb4
  have hG4 := hG3.below hb4
  have hH4 := hH3.below hb4
  have hP4 := hP3.below hb4
  have hw4 := hw3.trans (hb4.mono hw3.size)
  clear ka3 kb3 kr3 hna3 hda3 hnb3 hdb3 hG3 hH3 hP3 hw3 hb4
  obtain ⟨a0, a1, a2, a3, a4, a5, a6⟩ := ka4.facts
  obtain ⟨b0, b1, b2, b3, b4, b5, b6⟩ := kb4.facts
  go_wp2_with fail
  refine (signed_any (a.s != b.s) P E pl.length pc el.length ec _).mono ?_
  rintro e w5 ⟨rfl, hb5⟩
  have ka5 := ka4.below hb5
  have kb5 := kb4.below hb5
  have kr5 := kr4.below hb5
  have hna5 := hna4.below hb5
  have hda5 := hda4.below hb5
  have hnb5 := hnb4.below hb5
  have hdb5 := hdb4.below hb5
  have hG5 := hG4.below hb5
  have hH5 := hH4.below hb5
  have hP5 := hP4.below hb5
  have hE5 := hE4.below hb5
  have hw5 := hw4.trans (hb5.mono hw4.size)
  clear ka4 kb4 kr4 hna4 hda4 hnb4 hdb4 hG4 hH4 hP4 hE4 hw4 hb5
  clear a0 a1 a2 a3 a4 a5 a6
  clear b0 b1 b2 b3 b4 b5 b6
  obtain ⟨c0, c1, c2, c3, c4, c5, c6⟩ := kr5.facts
  go_wp2_with fail
  refine bodyPost_ret (v := .agg #[.bool ((a.s != b.s) && decide (0 < pl.length)), .slice P pl.length pc, .slice E el.length ec]) (by simp [results, Tryz.results44, go_sem, c0, c1, c2]) rfl ?_
  refine RatP.put ⟨(a.s != b.s) && decide (0 < pl.length), P, pc, pl, E, ec, el⟩ ⟨hP5, hE5, mp, me, hpc, hec, ?_⟩ kr5 (by omega) hw5 (by dsimp only; omega) (by dsimp only; omega)
  dsimp only
  rw [dec_len mp, HVP.out, HVE.out]
  exact HQ.out _ _ HVG.out HVH.out
end Go.Proofs.YtopppmlkddajjaaGreatDoor


/- rat.half, copied. -/
namespace Go.Proofs.YtopppmlkddajjaaGreatDoor
open Go.RowKit V

set_option maxRecDepth 100000 in
set_option maxHeartbeats 3200000 in
theorem half_e (a : RL) (p : Rat) (w : World) (ha : a.Is w p) (bl : a.ns.length + a.ds.length ≤ 4000) (hpr : V32 a.ns % 2 = 0) :
    Calls Tryz.prog 48 #[.agg #[.bool a.s, .slice a.N a.ns.length a.nc, .slice a.D a.ds.length a.dc]] w (RatP (p / 2) (a.ns.length + a.ds.length + 2) w) := by
  have HPR := Lib.hid hpr
  clear hpr
  go_enter Tryz.func48, Tryz.ntmps48
  go_wp2_with fail
  have hbox := box1r w (.bool a.s) (.slice a.N a.ns.length a.nc) (.slice a.D a.ds.length a.dc) (.bool false) (.slice none 0 0) (.slice none 0 0)
  obtain ⟨w1, hwe⟩ : ∃ x, (w.alloc (.cells #[.bool a.s, .slice a.N a.ns.length a.nc, .slice a.D a.ds.length a.dc] 24)).alloc (.cells #[.bool false, .slice none 0 0, .slice none 0 0] 24) = x := ⟨_, rfl⟩
  rw [hwe] at hbox ⊢
  obtain ⟨ka1, kr1, hb1⟩ := hbox
  have HWE := Lib.hid hwe
  clear hwe HWE
  have ha1 := ha.below hb1
  have hw1 := hb1
  clear ha hb1
  have hna1 := ha1.rn
  have hda1 := ha1.rd
  have mna := ha1.mn
  have mda := ha1.md
  have cna := ha1.cn
  have cda := ha1.cd
  have HQ := Lib.hid (half_even ha1.q HPR.out)
  refine (from_any 2 _ (by omega)).mono ?_
  rintro e w2 ⟨O, oc, ol, rfl, hoc, hO2, hb2, hvo, mo, hol⟩
  have ha2 := ha1.below hb2
  have ka2 := ka1.below hb2
  have kr2 := kr1.below hb2
  have hna2 := hna1.below hb2
  have hda2 := hda1.below hb2
  have hw2 := hw1.trans (hb2.mono hw1.size)
  clear ha1 ka1 kr1 hna1 hda1 hw1 hb2
  have HVO := Lib.hid hvo
  clear hvo
  have hop : 0 < ol.length := len_of_V32 (by rw [HVO.out]; decide)
  obtain ⟨a0, a1, a2, a3, a4, a5, a6⟩ := ka2.facts
  go_wp2_with fail
  refine (qrem a.N O a.nc oc a.ns ol _ hna2 hO2 (by omega) (by omega) mna mo hop).mono ?_
  rintro e w3 ⟨Y, yc, yl, rfl, hyc, hY3, hb3, hvy, my_, hyl⟩
  have ha3 := ha2.below hb3
  have ka3 := ka2.below hb3
  have kr3 := kr2.below hb3
  have hna3 := hna2.below hb3
  have hda3 := hda2.below hb3
  have hO3 := hO2.below hb3
  have hw3 := hw2.trans (hb3.mono hw2.size)
  clear ha2 ka2 kr2 hna2 hda2 hO2 hw2 hb3
  clear a0 a1 a2 a3 a4 a5 a6
  have HVY := Lib.hid hvy
  clear hvy
  have hyp : yl.length = 0 := by rcases Nat.eq_zero_or_pos yl.length with h | h; exact h; (have h3 := V32_pos my_ h; rw [HVY.out, HVO.out, HPR.out] at h3; omega)
  have hyz : ((yl.length : Int) == 0) = true := by simp [hyp]
  clear hyp
  obtain ⟨a0, a1, a2, a3, a4, a5, a6⟩ := ka3.facts
  go_upto_region 3 with fail
  go_region_held3 (fun w' => w'.cell? ⟨w.heap.size, 0, none⟩ = some (.bool a.s) ∧ w'.cell? ⟨w.heap.size, 1, none⟩ = some (.slice a.N a.ns.length a.nc) ∧ w'.cell? ⟨w.heap.size, 2, none⟩ = some (.slice a.D a.ds.length a.dc)) (first | exact ⟨‹_›, ‹_›, ‹_›⟩ | go_keep)
    (first
    | (go_at_call 75
       refine (qquot a.N O a.nc oc a.ns ol _ (by first | exact hna3 | exact hna3.drew | exact hna3.alloc _ | exact (hna3.alloc _).drew | exact hna3.drew.alloc _) (by first | exact hO3 | exact hO3.drew | exact hO3.alloc _ | exact (hO3.alloc _).drew | exact hO3.drew.alloc _) (by omega) (by omega) mna mo hop).mono ?_
       rintro e wx_ ⟨X, xc, xl, rfl, hxc, hX, hbx, hvx, mx, hxl⟩
       have HVX := Lib.hid hvx
       clear hvx
       have hbp0 : Below w3.heap.size w3 wx_ := by first | exact hbx | exact below_of_drew hbx (Nat.le_refl _) | exact ((Below.refl _ _).alloc (Nat.le_refl _) _).trans (hbx.mono (by simp)) | exact ((Below.refl _ _).alloc (Nat.le_refl _) _).trans ((below_of_drew hbx (Nat.le_refl _)).mono (by simp)) | exact below_of_drew (((Below.refl _ _).alloc (Nat.le_refl _) _).trans (hbx.mono (by simp))) (Nat.le_refl _)
       have hna_0 := hna3.below hbp0
       have hda_0 := hda3.below hbp0
       have hO_0 := hO3.below hbp0
       have ka_0 := ka3.below hbp0
       obtain ⟨ka0wx_, ka1wx_, ka2wx_, ka3wx_, ka4wx_, ka5wx_, ka6wx_⟩ := ka_0.facts
       have kr_0 := kr3.below hbp0
       obtain ⟨kr0wx_, kr1wx_, kr2wx_, kr3wx_, kr4wx_, kr5wx_, kr6wx_⟩ := kr_0.facts
       have hwq0 := hw3.trans (hbp0.mono hw3.size))
    | (go_at_call 79
       refine (signed_any a.s X a.D xl.length xc a.ds.length a.dc _).mono ?_
       rintro e wy_ ⟨rfl, hby⟩
       have hbp1 : Below wx_.heap.size wx_ wy_ := by first | exact hby | exact below_of_drew hby (Nat.le_refl _) | exact ((Below.refl _ _).alloc (Nat.le_refl _) _).trans (hby.mono (by simp)) | exact ((Below.refl _ _).alloc (Nat.le_refl _) _).trans ((below_of_drew hby (Nat.le_refl _)).mono (by simp)) | exact below_of_drew (((Below.refl _ _).alloc (Nat.le_refl _) _).trans (hby.mono (by simp))) (Nat.le_refl _)
       have hna_1 := hna_0.below hbp1
       have hda_1 := hda_0.below hbp1
       have hO_1 := hO_0.below hbp1
       have hX_1 := hX.below hbp1
       have ka_1 := ka_0.below hbp1
       obtain ⟨ka0wy_, ka1wy_, ka2wy_, ka3wy_, ka4wy_, ka5wy_, ka6wy_⟩ := ka_1.facts
       have kr_1 := kr_0.below hbp1
       obtain ⟨kr0wy_, kr1wy_, kr2wy_, kr3wy_, kr4wy_, kr5wy_, kr6wy_⟩ := kr_1.facts
       have hwq1 := hwq0.trans (hbp1.mono hwq0.size)))
  all_goals
    go_wp2_with fail
    refine bodyPost_ret (v := .agg #[.bool (a.s && decide (0 < xl.length)), .slice X xl.length xc, .slice a.D a.ds.length a.dc]) (by simp [results, Tryz.results48, go_sem, kr0wy_, kr1wy_, kr2wy_]) rfl ?_
    refine RatP.put ⟨a.s && decide (0 < xl.length), X, xc, xl, a.D, a.dc, a.ds⟩ ⟨hX_1, hda_1, mx, mda, hxc, cda, ?_⟩ kr_1 (by omega) hwq1 (by dsimp only; omega) (by dsimp only; omega)
    dsimp only
    rw [dec_len mx, HVX.out, HVO.out]
    exact HQ.out
set_option maxRecDepth 100000 in
set_option maxHeartbeats 3200000 in
theorem half_o (a : RL) (p : Rat) (w : World) (ha : a.Is w p) (bl : a.ns.length + a.ds.length ≤ 4000) (hpr : V32 a.ns % 2 = 1) :
    Calls Tryz.prog 48 #[.agg #[.bool a.s, .slice a.N a.ns.length a.nc, .slice a.D a.ds.length a.dc]] w (RatP (p / 2) (a.ns.length + a.ds.length + 2) w) := by
  have HPR := Lib.hid hpr
  clear hpr
  go_enter Tryz.func48, Tryz.ntmps48
  go_wp2_with fail
  have hbox := box1r w (.bool a.s) (.slice a.N a.ns.length a.nc) (.slice a.D a.ds.length a.dc) (.bool false) (.slice none 0 0) (.slice none 0 0)
  obtain ⟨w1, hwe⟩ : ∃ x, (w.alloc (.cells #[.bool a.s, .slice a.N a.ns.length a.nc, .slice a.D a.ds.length a.dc] 24)).alloc (.cells #[.bool false, .slice none 0 0, .slice none 0 0] 24) = x := ⟨_, rfl⟩
  rw [hwe] at hbox ⊢
  obtain ⟨ka1, kr1, hb1⟩ := hbox
  have HWE := Lib.hid hwe
  clear hwe HWE
  have ha1 := ha.below hb1
  have hw1 := hb1
  clear ha hb1
  have hna1 := ha1.rn
  have hda1 := ha1.rd
  have mna := ha1.mn
  have mda := ha1.md
  have cna := ha1.cn
  have cda := ha1.cd
  have HQ := Lib.hid (half_odd ha1.q HPR.out)
  refine (from_any 2 _ (by omega)).mono ?_
  rintro e w2 ⟨O, oc, ol, rfl, hoc, hO2, hb2, hvo, mo, hol⟩
  have ha2 := ha1.below hb2
  have ka2 := ka1.below hb2
  have kr2 := kr1.below hb2
  have hna2 := hna1.below hb2
  have hda2 := hda1.below hb2
  have hw2 := hw1.trans (hb2.mono hw1.size)
  clear ha1 ka1 kr1 hna1 hda1 hw1 hb2
  have HVO := Lib.hid hvo
  clear hvo
  have hop : 0 < ol.length := len_of_V32 (by rw [HVO.out]; decide)
  obtain ⟨a0, a1, a2, a3, a4, a5, a6⟩ := ka2.facts
  go_wp2_with fail
  refine (qrem a.N O a.nc oc a.ns ol _ hna2 hO2 (by omega) (by omega) mna mo hop).mono ?_
  rintro e w3 ⟨Y, yc, yl, rfl, hyc, hY3, hb3, hvy, my_, hyl⟩
  have ha3 := ha2.below hb3
  have ka3 := ka2.below hb3
  have kr3 := kr2.below hb3
  have hna3 := hna2.below hb3
  have hda3 := hda2.below hb3
  have hO3 := hO2.below hb3
  have hw3 := hw2.trans (hb3.mono hw2.size)
  clear ha2 ka2 kr2 hna2 hda2 hO2 hw2 hb3
  clear a0 a1 a2 a3 a4 a5 a6
  have HVY := Lib.hid hvy
  clear hvy
  have hyp : 0 < yl.length := len_of_V32 (by rw [HVY.out, HVO.out, HPR.out]; decide)
  have hyz : ((yl.length : Int) == 0) = false := beq_eq_false_iff_ne.2 (by omega)
  obtain ⟨a0, a1, a2, a3, a4, a5, a6⟩ := ka3.facts
  go_upto_region 4 with fail
  go_region_held3 (fun w' => w'.cell? ⟨w.heap.size, 0, none⟩ = some (.bool a.s) ∧ w'.cell? ⟨w.heap.size, 1, none⟩ = some (.slice a.N a.ns.length a.nc) ∧ w'.cell? ⟨w.heap.size, 2, none⟩ = some (.slice a.D a.ds.length a.dc)) (first | exact ⟨‹_›, ‹_›, ‹_›⟩ | go_keep)
    (first
    | (go_at_call 77
       refine (qtimes a.D O a.dc oc a.ds ol _ (by first | exact hda3 | exact hda3.drew | exact hda3.alloc _ | exact (hda3.alloc _).drew | exact hda3.drew.alloc _) (by first | exact hO3 | exact hO3.drew | exact hO3.alloc _ | exact (hO3.alloc _).drew | exact hO3.drew.alloc _) (by omega) mda mo).mono ?_
       rintro e wx_ ⟨X, xc, xl, rfl, hxc, hX, hbx, hvx, mx, hxl⟩
       have HVX := Lib.hid hvx
       clear hvx
       have hbp0 : Below w3.heap.size w3 wx_ := by first | exact hbx | exact below_of_drew hbx (Nat.le_refl _) | exact ((Below.refl _ _).alloc (Nat.le_refl _) _).trans (hbx.mono (by simp)) | exact ((Below.refl _ _).alloc (Nat.le_refl _) _).trans ((below_of_drew hbx (Nat.le_refl _)).mono (by simp)) | exact below_of_drew (((Below.refl _ _).alloc (Nat.le_refl _) _).trans (hbx.mono (by simp))) (Nat.le_refl _)
       have hna_0 := hna3.below hbp0
       have hda_0 := hda3.below hbp0
       have hO_0 := hO3.below hbp0
       have ka_0 := ka3.below hbp0
       obtain ⟨ka0wx_, ka1wx_, ka2wx_, ka3wx_, ka4wx_, ka5wx_, ka6wx_⟩ := ka_0.facts
       have kr_0 := kr3.below hbp0
       obtain ⟨kr0wx_, kr1wx_, kr2wx_, kr3wx_, kr4wx_, kr5wx_, kr6wx_⟩ := kr_0.facts
       have hwq0 := hw3.trans (hbp0.mono hw3.size))
    | (go_at_call 79
       refine (signed_any a.s a.N X a.ns.length a.nc xl.length xc _).mono ?_
       rintro e wy_ ⟨rfl, hby⟩
       have hbp1 : Below wx_.heap.size wx_ wy_ := by first | exact hby | exact below_of_drew hby (Nat.le_refl _) | exact ((Below.refl _ _).alloc (Nat.le_refl _) _).trans (hby.mono (by simp)) | exact ((Below.refl _ _).alloc (Nat.le_refl _) _).trans ((below_of_drew hby (Nat.le_refl _)).mono (by simp)) | exact below_of_drew (((Below.refl _ _).alloc (Nat.le_refl _) _).trans (hby.mono (by simp))) (Nat.le_refl _)
       have hna_1 := hna_0.below hbp1
       have hda_1 := hda_0.below hbp1
       have hO_1 := hO_0.below hbp1
       have hX_1 := hX.below hbp1
       have ka_1 := ka_0.below hbp1
       obtain ⟨ka0wy_, ka1wy_, ka2wy_, ka3wy_, ka4wy_, ka5wy_, ka6wy_⟩ := ka_1.facts
       have kr_1 := kr_0.below hbp1
       obtain ⟨kr0wy_, kr1wy_, kr2wy_, kr3wy_, kr4wy_, kr5wy_, kr6wy_⟩ := kr_1.facts
       have hwq1 := hwq0.trans (hbp1.mono hwq0.size)))
  all_goals
    go_wp2_with fail
    refine bodyPost_ret (v := .agg #[.bool (a.s && decide (0 < a.ns.length)), .slice a.N a.ns.length a.nc, .slice X xl.length xc]) (by simp [results, Tryz.results48, go_sem, kr0wy_, kr1wy_, kr2wy_]) rfl ?_
    refine RatP.put ⟨a.s && decide (0 < a.ns.length), a.N, a.nc, a.ns, X, xc, xl⟩ ⟨hna_1, hX_1, mna, mx, cna, hxc, ?_⟩ kr_1 (by omega) hwq1 (by dsimp only; omega) (by dsimp only; omega)
    dsimp only
    rw [dec_len mna, HVX.out, HVO.out]
    exact HQ.out
theorem half_of (a : RL) (p : Rat) (w : World) (ha : a.Is w p) (bl : a.ns.length + a.ds.length ≤ 4000) :
    Calls Tryz.prog 48 #[.agg #[.bool a.s, .slice a.N a.ns.length a.nc, .slice a.D a.ds.length a.dc]] w (RatP (p / 2) (a.ns.length + a.ds.length + 2) w) := by
  rcases Nat.mod_two_eq_zero_or_one (V32 a.ns) with h | h
  · exact half_e a p w ha bl h
  · exact half_o a p w ha bl h
set_option maxRecDepth 100000 in
set_option maxHeartbeats 3200000 in
theorem copied_of (a : RL) (p : Rat) (w : World) (ha : a.Is w p) (bl : a.ns.length + a.ds.length ≤ 4000) :
    Calls Tryz.prog 47 #[.agg #[.bool a.s, .slice a.N a.ns.length a.nc, .slice a.D a.ds.length a.dc]] w (RatP p (a.ns.length + a.ds.length) w) := by
  go_enter Tryz.func47, Tryz.ntmps47
  go_wp2_with fail
  have hbox := box1r w (.bool a.s) (.slice a.N a.ns.length a.nc) (.slice a.D a.ds.length a.dc) (.bool false) (.slice none 0 0) (.slice none 0 0)
  obtain ⟨w1, hwe⟩ : ∃ x, (w.alloc (.cells #[.bool a.s, .slice a.N a.ns.length a.nc, .slice a.D a.ds.length a.dc] 24)).alloc (.cells #[.bool false, .slice none 0 0, .slice none 0 0] 24) = x := ⟨_, rfl⟩
  rw [hwe] at hbox ⊢
  obtain ⟨ka1, kr1, hb1⟩ := hbox
  have HWE := Lib.hid hwe
  clear hwe HWE
  have ha1 := ha.below hb1
  have hw1 := hb1
  clear ha hb1
  have hna1 := ha1.rn
  have hda1 := ha1.rd
  have mna := ha1.mn
  have mda := ha1.md
  have HQ := Lib.hid ha1.q
  obtain ⟨a0, a1, a2, a3, a4, a5, a6⟩ := ka1.facts
  go_upto_region 1 with fail
  go_region_held3 (fun w' => w'.cell? ⟨w.heap.size, 0, none⟩ = some (.bool a.s) ∧ w'.cell? ⟨w.heap.size, 1, none⟩ = some (.slice a.N a.ns.length a.nc) ∧ w'.cell? ⟨w.heap.size, 2, none⟩ = some (.slice a.D a.ds.length a.dc)) (first | exact ⟨‹_›, ‹_›, ‹_›⟩ | go_keep)
    (first
    | (go_at_call_of 80 (Value.slice a.N a.ns.length a.nc)
       refine (clone_u32 a.N a.nc a.ns _ (by first | exact hna1 | exact hna1.drew | exact hna1.alloc _ | exact (hna1.alloc _).drew | exact hna1.drew.alloc _) (by omega)).mono ?_
       rintro e wx_ ⟨v, he, hown, hbx⟩
       obtain ⟨X, xc, rfl, hxc, hX⟩ := hown.form
       subst he
       have hbp0 : Below w1.heap.size w1 wx_ := by first | exact hbx | exact below_of_drew hbx (Nat.le_refl _) | exact ((Below.refl _ _).alloc (Nat.le_refl _) _).trans (hbx.mono (by simp)) | exact ((Below.refl _ _).alloc (Nat.le_refl _) _).trans ((below_of_drew hbx (Nat.le_refl _)).mono (by simp)) | exact below_of_drew (((Below.refl _ _).alloc (Nat.le_refl _) _).trans (hbx.mono (by simp))) (Nat.le_refl _)
       have hna_0 := hna1.below hbp0
       have hda_0 := hda1.below hbp0
       have ka_0 := ka1.below hbp0
       obtain ⟨ka0wx_, ka1wx_, ka2wx_, ka3wx_, ka4wx_, ka5wx_, ka6wx_⟩ := ka_0.facts
       have kr_0 := kr1.below hbp0
       obtain ⟨kr0wx_, kr1wx_, kr2wx_, kr3wx_, kr4wx_, kr5wx_, kr6wx_⟩ := kr_0.facts
       have hwq0 := hw1.trans (hbp0.mono hw1.size))
    | (go_at_call_of 80 (Value.slice a.D a.ds.length a.dc)
       refine (clone_u32 a.D a.dc a.ds _ (by first | exact hda_0 | exact hda_0.drew | exact hda_0.alloc _ | exact (hda_0.alloc _).drew | exact hda_0.drew.alloc _) (by omega)).mono ?_
       rintro e wy_ ⟨v, he, hown2, hby⟩
       obtain ⟨Y, yc, rfl, hyc, hY⟩ := hown2.form
       subst he
       have hbp1 : Below wx_.heap.size wx_ wy_ := by first | exact hby | exact below_of_drew hby (Nat.le_refl _) | exact ((Below.refl _ _).alloc (Nat.le_refl _) _).trans (hby.mono (by simp)) | exact ((Below.refl _ _).alloc (Nat.le_refl _) _).trans ((below_of_drew hby (Nat.le_refl _)).mono (by simp)) | exact below_of_drew (((Below.refl _ _).alloc (Nat.le_refl _) _).trans (hby.mono (by simp))) (Nat.le_refl _)
       have hna_1 := hna_0.below hbp1
       have hda_1 := hda_0.below hbp1
       have hX_1 := hX.below hbp1
       have ka_1 := ka_0.below hbp1
       obtain ⟨ka0wy_, ka1wy_, ka2wy_, ka3wy_, ka4wy_, ka5wy_, ka6wy_⟩ := ka_1.facts
       have kr_1 := kr_0.below hbp1
       obtain ⟨kr0wy_, kr1wy_, kr2wy_, kr3wy_, kr4wy_, kr5wy_, kr6wy_⟩ := kr_1.facts
       have hwq1 := hwq0.trans (hbp1.mono hwq0.size)))
  all_goals
    go_wp2_with fail
    refine bodyPost_ret (v := .agg #[.bool a.s, .slice X a.ns.length xc, .slice Y a.ds.length yc]) (by simp [results, Tryz.results47, go_sem, kr0wy_, kr1wy_, kr2wy_]) rfl ?_
    exact RatP.put ⟨a.s, X, xc, a.ns, Y, yc, a.ds⟩ ⟨hX_1, hY, mna, mda, hxc, hyc, HQ.out⟩ kr_1 (by omega) hwq1 (by dsimp only; omega) (by dsimp only; omega)
end Go.Proofs.YtopppmlkddajjaaGreatDoor

