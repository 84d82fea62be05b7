/- (*rat.fraction).extend: three ways. -/
import Derived.Test.YtopppmlkddajjaaGreatDoorQSR24
import Derived.Deep.RegionHeld3
import Derived.Deep.DeepCutAuto
import Derived.Deep.CutBlock
namespace Go.Proofs.YtopppmlkddajjaaGreatDoor
open Go.RowKit V
set_option maxRecDepth 100000 in
set_option maxHeartbeats 6400000 in
theorem ext_next (A B C D X : Nat) (f : FL) (g : Nat) (w : World) (hf : f.In w g) (hF : Frac A B C D X (V32 f.an.xs) (V32 f.ad.xs) (V32 f.bn.xs) (V32 f.bd.xs) (V32 f.vn.xs) (V32 f.vd.xs) (V32 f.un.xs) (V32 f.ud.xs)) (hX : X < 4294967296 ^ 12) (hr : V32 f.an.xs % V32 f.ad.xs ≠ 0) (hc : V32 f.bn.xs - V32 f.an.xs / V32 f.ad.xs * V32 f.bd.xs < V32 f.bd.xs) :
    Calls Tryz.prog 86 #[.pointer (some ⟨g, 0, none⟩)] w (ExtP A B C D X f g w) := by
  have HRZ := Lib.hid hr
  clear hr
  have HCZ := Lib.hid hc
  clear hc
  have hxp := hF.xp
  have hrest := hF.rest
  have hft := hF.t
  have l_an : f.an.xs.length ≤ 12 := short_of_lt hf.an.m (Nat.lt_of_le_of_lt hF.xa hX)
  have l_ad : f.ad.xs.length ≤ 12 := short_of_lt hf.ad.m (Nat.lt_of_le_of_lt hF.xb hX)
  have l_bn : f.bn.xs.length ≤ 12 := short_of_lt hf.bn.m (Nat.lt_of_le_of_lt hF.xc hX)
  have l_bd : f.bd.xs.length ≤ 12 := short_of_lt hf.bd.m (Nat.lt_of_le_of_lt hF.xd hX)
  have l_vn : f.vn.xs.length ≤ 12 := short_of_lt hf.vn.m (Nat.lt_of_le_of_lt hxp.1 hX)
  have l_vd : f.vd.xs.length ≤ 12 := short_of_lt hf.vd.m (Nat.lt_of_le_of_lt hxp.2.2.1 hX)
  have l_un : f.un.xs.length ≤ 12 := short_of_lt hf.un.m (Nat.lt_of_le_of_lt hxp.2.1 hX)
  have l_ud : f.ud.xs.length ≤ 12 := short_of_lt hf.ud.m (Nat.lt_of_le_of_lt hxp.2.2.2 hX)
  have hposd : 0 < f.ad.xs.length := (V32_pos_iff hf.ad.m).2 hF.hb
  have HF := Lib.hid hF
  have HX := Lib.hid hX
  have HR := Lib.hid hrest
  have HFT := Lib.hid hft
  clear hF hX hxp hrest hft
  go_enter Tryz.func86, Tryz.ntmps86
  go_wp2_with fail
  have he := hf
  have hw0 := Below.refl w.heap.size w
  obtain ⟨c0, c1, c2, c3, c4, c5, c6, c7, d0, d1, d2, d3, d4, d5, d6, d7, dl⟩ := hf.facts
  go_upto_region 1 with fail
  go_region_held3 (fun w' => w'.cell? ⟨g, 0, none⟩ = some (.slice f.an.p f.an.xs.length f.an.c) ∧ w'.cell? ⟨g, 1, none⟩ = some (.slice f.ad.p f.ad.xs.length f.ad.c)) (first | exact ⟨‹_›, ‹_›⟩ | go_keep)
    (first
    | (go_at_call 98
       refine (qdivide f.an.p f.ad.p f.an.c f.ad.c f.an.xs f.ad.xs _ (show f.In _ g from (by first | exact hf | exact hf.drew | exact hf.alloc _ | exact (hf.alloc _).drew | exact hf.drew.alloc _)).an.rd (show f.In _ g from (by first | exact hf | exact hf.drew | exact hf.alloc _ | exact (hf.alloc _).drew | exact hf.drew.alloc _)).ad.rd (by omega) (by omega) (show f.In _ g from (by first | exact hf | exact hf.drew | exact hf.alloc _ | exact (hf.alloc _).drew | exact hf.drew.alloc _)).an.m (show f.In _ g from (by first | exact hf | exact hf.drew | exact hf.alloc _ | exact (hf.alloc _).drew | exact hf.drew.alloc _)).ad.m hposd).mono ?_
       rintro e v1_ ⟨T, tc, t, R, rc, r, rfl, hT, hR, mt, mr, htc, hrc, HT, HR2, lt_, lr_, hbx⟩
       have hbp0 : Below w.heap.size w v1_ := by first | exact hbx | exact below_of_drew hbx (Nat.le_refl _) | exact ((Below.refl _ _).alloc (Nat.le_refl _) _).trans (hbx.mono (by simp)) | exact ((Below.refl _ _).alloc (Nat.le_refl _) _).trans ((below_of_drew hbx (Nat.le_refl _)).mono (by simp)) | exact below_of_drew (((Below.refl _ _).alloc (Nat.le_refl _) _).trans (hbx.mono (by simp))) (Nat.le_refl _)
       have hf_0 := hf.below hbp0
       have he_0 := he.below hbp0
       obtain ⟨he0v1_, he1v1_, he2v1_, he3v1_, he4v1_, he5v1_, he6v1_, he7v1_, he8v1_, he9v1_, he10v1_, he11v1_, he12v1_, he13v1_, he14v1_, he15v1_, he16v1_⟩ := he_0.facts
       have hwq0 := hw0.trans (hbp0.mono hw0.size)))
  clear c0 c1 c2 c3 c4 c5 c6 c7 d0 d1 d2 d3 d4 d5 d6 d7 dl
  obtain ⟨w1, rfl⟩ : ∃ x, x = v1_ := ⟨_, rfl⟩
  have hb1 := hbp0
  have hf1 := hf_0
  have he1 := hf1
  have hT1 := hT
  have hR1 := hR
  have hw1 := hb1
  obtain ⟨c0, c1, c2, c3, c4, c5, c6, c7, d0, d1, d2, d3, d4, d5, d6, d7, dl⟩ := hf1.facts
  go_upto_region 2 with fail
  go_region_held3 (fun w' => w'.cell? ⟨g, 2, none⟩ = some (.slice f.bn.p f.bn.xs.length f.bn.c) ∧ w'.cell? ⟨g, 3, none⟩ = some (.slice f.bd.p f.bd.xs.length f.bd.c)) (first | exact ⟨‹_›, ‹_›⟩ | go_keep)
    (first
    | (go_at_call 77
       refine (qtimes T f.bd.p tc f.bd.c t f.bd.xs _ (by first | exact hT1 | exact hT1.drew | exact hT1.alloc _ | exact (hT1.alloc _).drew | exact hT1.drew.alloc _) (show f.In _ g from (by first | exact hf1 | exact hf1.drew | exact hf1.alloc _ | exact (hf1.alloc _).drew | exact hf1.drew.alloc _)).bd.rd (by omega) mt (show f.In _ g from (by first | exact hf1 | exact hf1.drew | exact hf1.alloc _ | exact (hf1.alloc _).drew | exact hf1.drew.alloc _)).bd.m).mono ?_
       rintro e v2_ ⟨M, mc, m, rfl, hmc, hM, hbx, hvm, mm, lm⟩
       have HVM := Lib.hid hvm
       clear hvm
       have hbp0 : Below w1.heap.size w1 v2_ := by first | exact hbx | exact below_of_drew hbx (Nat.le_refl _) | exact ((Below.refl _ _).alloc (Nat.le_refl _) _).trans (hbx.mono (by simp)) | exact ((Below.refl _ _).alloc (Nat.le_refl _) _).trans ((below_of_drew hbx (Nat.le_refl _)).mono (by simp)) | exact below_of_drew (((Below.refl _ _).alloc (Nat.le_refl _) _).trans (hbx.mono (by simp))) (Nat.le_refl _)
       have hf_0 := hf1.below hbp0
       have hT_0 := hT1.below hbp0
       have hR_0 := hR1.below hbp0
       have he_0 := he1.below hbp0
       obtain ⟨he0v2_, he1v2_, he2v2_, he3v2_, he4v2_, he5v2_, he6v2_, he7v2_, he8v2_, he9v2_, he10v2_, he11v2_, he12v2_, he13v2_, he14v2_, he15v2_, he16v2_⟩ := he_0.facts
       have hwq0 := hw1.trans (hbp0.mono hw1.size))
    | (go_at_call 100
       refine (qminus f.bn.p M f.bn.c mc f.bn.xs m _ (show f.In _ g from (by first | exact hf_0 | exact hf_0.drew | exact hf_0.alloc _ | exact (hf_0.alloc _).drew | exact hf_0.drew.alloc _)).bn.rd (by first | exact hM | exact hM.drew | exact hM.alloc _ | exact (hM.alloc _).drew | exact hM.drew.alloc _) (by omega) (by omega) (show f.In _ g from (by first | exact hf_0 | exact hf_0.drew | exact hf_0.alloc _ | exact (hf_0.alloc _).drew | exact hf_0.drew.alloc _)).bn.m.1 mm.1 (by rw [HVM.out, HT.out]; exact Nat.le_of_lt HR.out)).mono ?_
       rintro e v3_ ⟨H, hc_, h, rfl, hhc, hH, hby, hvh, mh⟩
       have HVH := Lib.hid hvh
       clear hvh
       have hbp1 : Below v2_.heap.size v2_ v3_ := by first | exact hby | exact below_of_drew hby (Nat.le_refl _) | exact ((Below.refl _ _).alloc (Nat.le_refl _) _).trans (hby.mono (by simp)) | exact ((Below.refl _ _).alloc (Nat.le_refl _) _).trans ((below_of_drew hby (Nat.le_refl _)).mono (by simp)) | exact below_of_drew (((Below.refl _ _).alloc (Nat.le_refl _) _).trans (hby.mono (by simp))) (Nat.le_refl _)
       have hf_1 := hf_0.below hbp1
       have hT_1 := hT_0.below hbp1
       have hR_1 := hR_0.below hbp1
       have hM_1 := hM.below hbp1
       have he_1 := he_0.below hbp1
       obtain ⟨he0v3_, he1v3_, he2v3_, he3v3_, he4v3_, he5v3_, he6v3_, he7v3_, he8v3_, he9v3_, he10v3_, he11v3_, he12v3_, he13v3_, he14v3_, he15v3_, he16v3_⟩ := he_1.facts
       have hwq1 := hwq0.trans (hbp1.mono hwq0.size)))
  clear c0 c1 c2 c3 c4 c5 c6 c7 d0 d1 d2 d3 d4 d5 d6 d7 dl
  obtain ⟨w2, rfl⟩ : ∃ x, x = v3_ := ⟨_, rfl⟩
  have hf2 := hf_1
  have he2 := hf2
  have hT2 := hT_1
  have hR2 := hR_1
  have hH2 := hH
  have hw2 := hwq1
  have HH : Hid (V32 h = V32 f.bn.xs - V32 f.an.xs / V32 f.ad.xs * V32 f.bd.xs) := Lib.hid (by rw [HVH.out, HVM.out, HT.out])
  clear HVH HVM
  have hq0 : ((r.length : Int) == 0) = false := by
    rw [beq_eq_false_iff_ne]
    intro h0
    have h1 : r = [] := List.eq_nil_of_length_eq_zero (by omega)
    exact HRZ.out (by rw [← HR2.out, h1]; rfl)
  obtain ⟨v, hv, hv2⟩ : ∃ v : Int, Hid (cmpOf (V32 h) (V32 f.bd.xs) = v) ∧ v < 0 := ⟨_, Lib.hid rfl, by have h1 := HH.out; have h2 := HCZ.out; rw [h1]; unfold cmpOf; rw [if_pos (by omega)]; omega⟩
  have HBG0 : Hid (Below g w w2) := Lib.hid (hw2.mono (Nat.le_of_lt hf.lt))
  go_upto_block 0 with fail
  go_cut [3, 6] (fun s3 s6 wx => s3 = .slice T t.length tc ∧ s6 = .bool false ∧ FL.In wx g (⟨f.bd, ⟨H, hc_, h⟩, f.ad, ⟨R, rc, r⟩, f.vn, f.vd, f.un, f.ud⟩ : FL) ∧ SL.Ok wx ⟨T, tc, t⟩ ∧ Below g w wx)
  case first =>
    obtain ⟨c0, c1, c2, c3, c4, c5, c6, c7, d0, d1, d2, d3, d4, d5, d6, d7, dl⟩ := hf2.facts
    go_wp2_with fail
    refine (qcompare H f.bd.p hc_ f.bd.c h f.bd.xs _ hH2 (show f.In _ g from hf2).bd.rd (len_cap mh (by rw [HH.out]; exact Nat.lt_of_le_of_lt (Nat.le_trans (Nat.sub_le _ _) HF.out.xc) HX.out)) mh (show f.In _ g from hf2).bd.m).mono ?_
    rintro e w3 ⟨he_, hb3⟩
    rw [hv.out] at he_
    subst he_
    have hf3 := hf2.below hb3
    have he3 := he2.below hb3
    have hT3 := hT2.below hb3
    have hR3 := hR2.below hb3
    have hH3 := hH2.below hb3
    have hw3 := hw2.trans (hb3.mono hw2.size)
    clear hf2 he2 hT2 hR2 hH2 hw2 hb3
    clear c0 c1 c2 c3 c4 c5 c6 c7 d0 d1 d2 d3 d4 d5 d6 d7 dl
    have HBG1 : Hid (Below g w w3) := Lib.hid (hw3.mono (Nat.le_of_lt hf.lt))
    obtain ⟨c0, c1, c2, c3, c4, c5, c6, c7, d0, d1, d2, d3, d4, d5, d6, d7, dl⟩ := hf3.facts
    go_upto_region 5 with fail
    have hlow := (hf3.low (a := f.bd) (b := ⟨H, hc_, h⟩) (c := f.ad) (d := ⟨R, rc, r⟩) hf3.bd ⟨hH3, mh, hhc⟩ hf3.ad ⟨hR3, mr, hrc⟩).drew
    have hTl := (SL.Ok.put4 (s := ⟨T, tc, t⟩) ⟨hT3, mt, htc⟩ hf3.blk 0 f.bd.v (SL.mk H hc_ h).v f.ad.v (SL.mk R rc r).v).drew
    have HBG : Hid (Below g w (put4 w3 g 0 f.bd.v (SL.mk H hc_ h).v f.ad.v (SL.mk R rc r).v).drew) := Lib.hid (below_drew_ (below_put4 HBG1.out (Nat.le_refl _) 0 _ _ _ _) 1)
    go_region_with (fail)
    all_goals
      go_wp2_with fail
      go_meet
      exact ⟨rfl, rfl, hlow, hTl, HBG.out⟩
  obtain ⟨w4, rfl⟩ : ∃ x, x = wc := ⟨_, rfl⟩
  obtain ⟨rfl, rfl, hg4, hTl, HBG_⟩ := hcut
  have HBG := Lib.hid HBG_
  clear HBG_ HBG0
  go_upto_region 9 with fail
  have hT4 := hTl.rd
  have hw4 := Below.refl w4.heap.size w4
  go_cut [7] (fun s7 wx => ∃ g7 Np nc n Dp dc d, s7 = .pointer (some ⟨g7, 0, none⟩) ∧ Blk2 wx g7 (.slice Np (n : List Nat).length nc) (.slice Dp (d : List Nat).length dc) ∧ FL.In wx g (⟨f.bd, ⟨H, hc_, h⟩, f.ad, ⟨R, rc, r⟩, f.vn, f.vd, f.un, f.ud⟩ : FL) ∧ SL.Ok wx ⟨Np, nc, n⟩ ∧ SL.Ok wx ⟨Dp, dc, d⟩ ∧ Hid (V32 n = V32 f.an.xs / V32 f.ad.xs * V32 f.vn.xs + V32 f.un.xs) ∧ Hid (V32 d = V32 f.an.xs / V32 f.ad.xs * V32 f.vd.xs + V32 f.ud.xs) ∧ g < g7 ∧ Below w4.heap.size w4 wx)
  case first =>
    refine wp_region_held_drew (S := fun w' => w'.cell? ⟨g, 4, none⟩ = some (.slice f.vn.p f.vn.xs.length f.vn.c) ∧ w'.cell? ⟨g, 5, none⟩ = some (.slice f.vd.p f.vd.xs.length f.vd.c) ∧ w'.cell? ⟨g, 6, none⟩ = some (.slice f.un.p f.un.xs.length f.un.c) ∧ w'.cell? ⟨g, 7, none⟩ = some (.slice f.ud.p f.ud.xs.length f.ud.c)) (by kernel_rfl) ?_ (fun hHeld => ?_)
    · first | exact ⟨hg4.facts.c4, hg4.facts.c5, hg4.facts.c6, hg4.facts.c7⟩ | exact ⟨‹_›, ‹_›, ‹_›, ‹_›⟩ | go_keep
    refine wpAnyH_take (i := 0) (v := ?v0) rfl (by kernel_rfl) (by kernel_rfl) (by kernel_rfl) (fun _ _ _ h => h) (Or.inl ⟨by rfl, ?hy0⟩) (by assumption) ?rest0
    case hy0 =>
      intro w hSw
      (try dsimp only at hSw)
      go_simp
      all_goals with_reducible rfl
    simp only [Act.put, List.getElem_toArray, List.getElem_cons_zero, List.setIfInBounds_toArray, List.set_cons_zero, List.set_cons_succ]
    refine wpAnyH_take (i := 1) (v := ?v1) rfl (by kernel_rfl) (by kernel_rfl) (by kernel_rfl) (fun _ _ _ h => h) (Or.inl ⟨by rfl, ?hy1⟩) (by assumption) ?rest1
    case hy1 =>
      intro w hSw
      (try dsimp only at hSw)
      go_simp
      all_goals with_reducible rfl
    simp only [Act.put, List.getElem_toArray, List.getElem_cons_zero, List.getElem_cons_succ, List.setIfInBounds_toArray, List.set_cons_zero, List.set_cons_succ]
    refine wpAnyH_take (i := 2) (v := ?v2) rfl (by kernel_rfl) (by kernel_rfl) (by kernel_rfl) (fun _ _ _ h => h) (Or.inl ⟨by rfl, ?hy2⟩) (by assumption) ?rest2
    case hy2 =>
      intro w hSw
      (try dsimp only at hSw)
      go_simp
      all_goals with_reducible rfl
    simp only [Act.put, List.getElem_toArray, List.getElem_cons_zero, List.getElem_cons_succ, List.setIfInBounds_toArray, List.set_cons_zero, List.set_cons_succ]
    refine wpAnyH_take (i := 3) (v := ?v3) rfl (by kernel_rfl) (by kernel_rfl) (by kernel_rfl) (fun _ _ _ h => h) (Or.inl ⟨by rfl, ?hy3⟩) (by assumption) ?rest3
    case hy3 =>
      intro w hSw
      (try dsimp only at hSw)
      go_simp
      all_goals with_reducible rfl
    simp only [Act.put, List.getElem_toArray, List.getElem_cons_zero, List.getElem_cons_succ, List.setIfInBounds_toArray, List.set_cons_zero, List.set_cons_succ]
    refine wpAnyH_take (i := 4) (v := ?v4) rfl (by kernel_rfl) (by kernel_rfl) (by kernel_rfl) (fun _ _ _ h => h) (Or.inl ⟨by rfl, ?hy4⟩) (by assumption) ?rest4
    case hy4 =>
      intro w hSw
      (try dsimp only at hSw)
      go_simp
      all_goals with_reducible rfl
    simp only [Act.put, List.getElem_toArray, List.getElem_cons_zero, List.getElem_cons_succ, List.setIfInBounds_toArray, List.set_cons_zero, List.set_cons_succ]
    refine wpAnyH_take (i := 5) (v := ?v5) rfl (by kernel_rfl) (by kernel_rfl) (by kernel_rfl) (fun _ _ _ h => h) (Or.inl ⟨by rfl, ?hy5⟩) (by assumption) ?rest5
    case hy5 =>
      intro w hSw
      (try dsimp only at hSw)
      go_simp
      all_goals with_reducible rfl
    simp only [Act.put, List.getElem_toArray, List.getElem_cons_zero, List.getElem_cons_succ, List.setIfInBounds_toArray, List.set_cons_zero, List.set_cons_succ]
    refine wpAnyH_take (i := 7) (v := ?v7) rfl (by kernel_rfl) (by kernel_rfl) (by kernel_rfl) (fun _ _ _ h => h) (Or.inl ⟨by rfl, ?hy7⟩) (by assumption) ?rest7
    case hy7 =>
      intro w hSw
      (try dsimp only at hSw)
      go_simp
      all_goals with_reducible rfl
    simp only [Act.put, List.getElem_toArray, List.getElem_cons_zero, List.getElem_cons_succ, List.setIfInBounds_toArray, List.set_cons_zero, List.set_cons_succ]
    refine wpAnyH_take (i := 8) (v := ?v8) rfl (by kernel_rfl) (by kernel_rfl) (by kernel_rfl) (fun _ _ _ h => h) (Or.inl ⟨by rfl, ?hy8⟩) (by assumption) ?rest8
    case hy8 =>
      intro w hSw
      (try dsimp only at hSw)
      go_simp
      all_goals with_reducible rfl
    simp only [Act.put, List.getElem_toArray, List.getElem_cons_zero, List.getElem_cons_succ, List.setIfInBounds_toArray, List.set_cons_zero, List.set_cons_succ]
    refine wpAnyH_take (i := 9) (v := ?v9) rfl (by kernel_rfl) (by kernel_rfl) (by kernel_rfl) (fun _ _ _ h => h) (Or.inl ⟨by rfl, ?hy9⟩) (by assumption) ?rest9
    case hy9 =>
      intro w hSw
      (try dsimp only at hSw)
      go_simp
      all_goals with_reducible rfl
    simp only [Act.put, List.getElem_toArray, List.getElem_cons_zero, List.getElem_cons_succ, List.setIfInBounds_toArray, List.set_cons_zero, List.set_cons_succ]
    refine wpAnyH_take (i := 10) (v := ?v10) rfl (by kernel_rfl) (by kernel_rfl) (by kernel_rfl) (fun _ _ _ h => h) (Or.inl ⟨by rfl, ?hy10⟩) (by assumption) ?rest10
    case hy10 =>
      intro w hSw
      (try dsimp only at hSw)
      go_simp
      all_goals with_reducible rfl
    simp only [Act.put, List.getElem_toArray, List.getElem_cons_zero, List.getElem_cons_succ, List.setIfInBounds_toArray, List.set_cons_zero, List.set_cons_succ]
    refine wpAnyH_take (i := 11) (v := ?v11) rfl (by kernel_rfl) (by kernel_rfl) (by kernel_rfl) (fun _ _ _ h => h) (Or.inl ⟨by rfl, ?hy11⟩) (by assumption) ?rest11
    case hy11 =>
      intro w hSw
      (try dsimp only at hSw)
      go_simp
      all_goals with_reducible rfl
    simp only [Act.put, List.getElem_toArray, List.getElem_cons_zero, List.getElem_cons_succ, List.setIfInBounds_toArray, List.set_cons_zero, List.set_cons_succ]
    refine wpAnyH_take (i := 13) (v := ?v13) rfl (by kernel_rfl) (by kernel_rfl) (by kernel_rfl) (fun _ _ _ h => h) (Or.inl ⟨by rfl, ?hy13⟩) (by assumption) ?rest13
    case hy13 =>
      intro w hSw
      (try dsimp only at hSw)
      go_simp
      all_goals with_reducible rfl
    simp only [Act.put, List.getElem_toArray, List.getElem_cons_zero, List.getElem_cons_succ, List.setIfInBounds_toArray, List.set_cons_zero, List.set_cons_succ]
    refine wpAnyH_take (i := 14) (v := ?v14) rfl (by kernel_rfl) (by kernel_rfl) (by kernel_rfl) (fun _ _ _ h => h) (Or.inl ⟨by rfl, ?hy14⟩) (by assumption) ?rest14
    case hy14 =>
      intro w hSw
      (try dsimp only at hSw)
      go_simp
      all_goals with_reducible rfl
    simp only [Act.put, List.getElem_toArray, List.getElem_cons_zero, List.getElem_cons_succ, List.setIfInBounds_toArray, List.set_cons_zero, List.set_cons_succ]
    refine wpAnyH_take (i := 15) (v := ?v15) rfl (by kernel_rfl) (by kernel_rfl) (by kernel_rfl) (fun _ _ _ h => h) (Or.inl ⟨by rfl, ?hy15⟩) (by assumption) ?rest15
    case hy15 =>
      intro w hSw
      (try dsimp only at hSw)
      go_simp
      all_goals with_reducible rfl
    simp only [Act.put, List.getElem_toArray, List.getElem_cons_zero, List.getElem_cons_succ, List.setIfInBounds_toArray, List.set_cons_zero, List.set_cons_succ]
    refine wpAnyH_take (i := 16) (v := ?v16) rfl (by kernel_rfl) (by kernel_rfl) (by kernel_rfl) (fun _ _ _ h => h) (Or.inl ⟨by rfl, ?hy16⟩) (by assumption) ?rest16
    case hy16 =>
      intro w hSw
      (try dsimp only at hSw)
      go_simp
      all_goals with_reducible rfl
    simp only [Act.put, List.getElem_toArray, List.getElem_cons_zero, List.getElem_cons_succ, List.setIfInBounds_toArray, List.set_cons_zero, List.set_cons_succ]
    refine wpAnyH_take (i := 17) (v := ?v17) rfl (by kernel_rfl) (by kernel_rfl) (by kernel_rfl) (fun _ _ _ h => h) (Or.inl ⟨by rfl, ?hy17⟩) (by assumption) ?rest17
    case hy17 =>
      intro w hSw
      (try dsimp only at hSw)
      go_simp
      all_goals with_reducible rfl
    simp only [Act.put, List.getElem_toArray, List.getElem_cons_zero, List.getElem_cons_succ, List.setIfInBounds_toArray, List.set_cons_zero, List.set_cons_succ]
    refine wpAnyH_take (i := 18) (v := ?v18) rfl (by kernel_rfl) (by kernel_rfl) (by kernel_rfl) (fun _ _ _ h => h) (Or.inl ⟨by rfl, ?hy18⟩) (by assumption) ?rest18
    case hy18 =>
      intro w hSw
      (try dsimp only at hSw)
      go_simp
      all_goals with_reducible rfl
    simp only [Act.put, List.getElem_toArray, List.getElem_cons_zero, List.getElem_cons_succ, List.setIfInBounds_toArray, List.set_cons_zero, List.set_cons_succ]
    refine wpAnyH_take (i := 20) (v := ?v20) rfl (by kernel_rfl) (by kernel_rfl) (by kernel_rfl) (fun _ _ _ h => h) (Or.inl ⟨by rfl, ?hy20⟩) (by assumption) ?rest20
    case hy20 =>
      intro w hSw
      (try dsimp only at hSw)
      go_simp
      all_goals with_reducible rfl
    simp only [Act.put, List.getElem_toArray, List.getElem_cons_zero, List.getElem_cons_succ, List.setIfInBounds_toArray, List.set_cons_zero, List.set_cons_succ]
    refine wpAnyH_take (i := 21) (v := ?v21) rfl (by kernel_rfl) (by kernel_rfl) (by kernel_rfl) (fun _ _ _ h => h) (Or.inl ⟨by rfl, ?hy21⟩) (by assumption) ?rest21
    case hy21 =>
      intro w hSw
      (try dsimp only at hSw)
      go_simp
      all_goals with_reducible rfl
    simp only [Act.put, List.getElem_toArray, List.getElem_cons_zero, List.getElem_cons_succ, List.setIfInBounds_toArray, List.set_cons_zero, List.set_cons_succ]
    refine wpAnyH_take (i := 22) (v := ?v22) rfl (by kernel_rfl) (by kernel_rfl) (by kernel_rfl) (fun _ _ _ h => h) (Or.inl ⟨by rfl, ?hy22⟩) (by assumption) ?rest22
    case hy22 =>
      intro w hSw
      (try dsimp only at hSw)
      go_simp
      all_goals with_reducible rfl
    simp only [Act.put, List.getElem_toArray, List.getElem_cons_zero, List.getElem_cons_succ, List.setIfInBounds_toArray, List.set_cons_zero, List.set_cons_succ]
    refine wpAnyH_take (i := 23) (v := ?v23) rfl (by kernel_rfl) (by kernel_rfl) (by kernel_rfl) (fun _ _ _ h => h) (Or.inl ⟨by rfl, ?hy23⟩) (by assumption) ?rest23
    case hy23 =>
      intro w hSw
      (try dsimp only at hSw)
      go_simp
      all_goals with_reducible rfl
    simp only [Act.put, List.getElem_toArray, List.getElem_cons_zero, List.getElem_cons_succ, List.setIfInBounds_toArray, List.set_cons_zero, List.set_cons_succ]
    refine wpAnyH_take (i := 24) (v := ?v24) rfl (by kernel_rfl) (by kernel_rfl) (by kernel_rfl) (fun _ _ _ h => h) (Or.inl ⟨by rfl, ?hy24⟩) (by assumption) ?rest24
    case hy24 =>
      intro w hSw
      (try dsimp only at hSw)
      go_simp
      all_goals with_reducible rfl
    simp only [Act.put, List.getElem_toArray, List.getElem_cons_zero, List.getElem_cons_succ, List.setIfInBounds_toArray, List.set_cons_zero, List.set_cons_succ]
    have hbd : Below w4.heap.size w4 w4.drew := below_drew_ (Below.refl _ _) 1
    obtain ⟨wd, hwd⟩ : ∃ x, w4.drew = x := ⟨_, rfl⟩
    rw [hwd] at hbd ⊢
    clear hwd
    have hg_d := hg4.below hbd
    have hT_d := hT4.below hbd
    refine wpAnyH_ready (rs := [6, 27]) (by kernel_rfl) (by simp) ?_
    refine AllReadyH.cons (o := _) rfl (fun K hK => ?_) (AllReadyH.cons (o := _) rfl (fun K hK => ?_) AllReadyH.nil)
    · go_simp
      go_at_call 77
      refine (qtimes T f.vn.p tc f.vn.c t f.vn.xs _ hT_d (show FL.In _ g (⟨f.bd, ⟨H, hc_, h⟩, f.ad, ⟨R, rc, r⟩, f.vn, f.vd, f.un, f.ud⟩ : FL) from hg_d).vn.rd (by omega) mt (show FL.In _ g (⟨f.bd, ⟨H, hc_, h⟩, f.ad, ⟨R, rc, r⟩, f.vn, f.vd, f.un, f.ud⟩ : FL) from hg_d).vn.m).mono ?_
      rintro e x1 ⟨P1, p1c, p1, rfl, hp1c, hP1x1, hbx1, hvp1, mp1, lp1⟩
      have HP1 := Lib.hid hvp1
      clear hvp1
      go_wp2_with fail
      have hgx1 := hg_d.below hbx1
      have hTx1 := hT_d.below hbx1
      have hwx1 := hbd.trans (hbx1.mono hbd.size)
      refine hK.out _ _ ?_ (fun hHeld => ?_)
      · exact ⟨hgx1.facts.c4, hgx1.facts.c5, hgx1.facts.c6, hgx1.facts.c7⟩
      clear hK K
      try simp only [Act.put, List.getElem_toArray, List.getElem_cons_zero, List.getElem_cons_succ, List.setIfInBounds_toArray, List.set_cons_zero, List.set_cons_succ]
      clear hHeld
      refine wpAnyH_ready (rs := [12, 27]) (by kernel_rfl) (by simp) ?_
      refine AllReadyH.cons (o := _) rfl (fun K hK => ?_) (AllReadyH.cons (o := _) rfl (fun K hK => ?_) AllReadyH.nil)
      · go_simp
        go_at_call 99
        refine (qplus P1 f.un.p p1c f.un.c p1 f.un.xs _ hP1x1 (show FL.In _ g (⟨f.bd, ⟨H, hc_, h⟩, f.ad, ⟨R, rc, r⟩, f.vn, f.vd, f.un, f.ud⟩ : FL) from hgx1).un.rd (by omega) (by omega) mp1.1 (show FL.In _ g (⟨f.bd, ⟨H, hc_, h⟩, f.ad, ⟨R, rc, r⟩, f.vn, f.vd, f.un, f.ud⟩ : FL) from hgx1).un.m.1).mono ?_
        rintro e x2 ⟨Np, nc, n, rfl, hnc, hNx2, hbx2, hvn, mn, ln⟩
        have HN := Lib.hid hvn
        clear hvn
        go_wp2_with fail
        have hgx2 := hgx1.below hbx2
        have hTx2 := hTx1.below hbx2
        have hP1x2 := hP1x1.below hbx2
        have hwx2 := hwx1.trans (hbx2.mono hwx1.size)
        refine hK.out _ _ ?_ (fun hHeld => ?_)
        · exact ⟨hgx2.facts.c4, hgx2.facts.c5, hgx2.facts.c6, hgx2.facts.c7⟩
        clear hK K
        try simp only [Act.put, List.getElem_toArray, List.getElem_cons_zero, List.getElem_cons_succ, List.setIfInBounds_toArray, List.set_cons_zero, List.set_cons_succ]
        clear hHeld
        refine wpAnyH_ready (rs := [19, 27]) (by kernel_rfl) (by simp) ?_
        refine AllReadyH.cons (o := _) rfl (fun K hK => ?_) (AllReadyH.cons (o := _) rfl (fun K hK => ?_) AllReadyH.nil)
        · go_simp
          go_at_call 77
          refine (qtimes T f.vd.p tc f.vd.c t f.vd.xs _ hTx2 (show FL.In _ g (⟨f.bd, ⟨H, hc_, h⟩, f.ad, ⟨R, rc, r⟩, f.vn, f.vd, f.un, f.ud⟩ : FL) from hgx2).vd.rd (by omega) mt (show FL.In _ g (⟨f.bd, ⟨H, hc_, h⟩, f.ad, ⟨R, rc, r⟩, f.vn, f.vd, f.un, f.ud⟩ : FL) from hgx2).vd.m).mono ?_
          rintro e x3 ⟨P2, p2c, p2, rfl, hp2c, hP2x3, hbx3, hvp2, mp2, lp2⟩
          have HP2 := Lib.hid hvp2
          clear hvp2
          go_wp2_with fail
          have hgx3 := hgx2.below hbx3
          have hTx3 := hTx2.below hbx3
          have hP1x3 := hP1x2.below hbx3
          have hNx3 := hNx2.below hbx3
          have hwx3 := hwx2.trans (hbx3.mono hwx2.size)
          refine hK.out _ _ ?_ (fun hHeld => ?_)
          · exact ⟨hgx3.facts.c4, hgx3.facts.c5, hgx3.facts.c6, hgx3.facts.c7⟩
          clear hK K
          try simp only [Act.put, List.getElem_toArray, List.getElem_cons_zero, List.getElem_cons_succ, List.setIfInBounds_toArray, List.set_cons_zero, List.set_cons_succ]
          clear hHeld
          refine wpAnyH_ready (rs := [25, 27]) (by kernel_rfl) (by simp) ?_
          refine AllReadyH.cons (o := _) rfl (fun K hK => ?_) (AllReadyH.cons (o := _) rfl (fun K hK => ?_) AllReadyH.nil)
          · go_simp
            go_at_call 99
            refine (qplus P2 f.ud.p p2c f.ud.c p2 f.ud.xs _ hP2x3 (show FL.In _ g (⟨f.bd, ⟨H, hc_, h⟩, f.ad, ⟨R, rc, r⟩, f.vn, f.vd, f.un, f.ud⟩ : FL) from hgx3).ud.rd (by omega) (by omega) mp2.1 (show FL.In _ g (⟨f.bd, ⟨H, hc_, h⟩, f.ad, ⟨R, rc, r⟩, f.vn, f.vd, f.un, f.ud⟩ : FL) from hgx3).ud.m.1).mono ?_
            rintro e x4 ⟨Dp, dc, d, rfl, hdc, hDx4, hbx4, hvd, md, ld⟩
            have HD := Lib.hid hvd
            clear hvd
            go_wp2_with fail
            have hgx4 := hgx3.below hbx4
            have hTx4 := hTx3.below hbx4
            have hP1x4 := hP1x3.below hbx4
            have hNx4 := hNx3.below hbx4
            have hP2x4 := hP2x3.below hbx4
            have hwx4 := hwx3.trans (hbx4.mono hwx3.size)
            refine hK.out _ _ ?_ (fun hHeld => ?_)
            · exact ⟨hgx4.facts.c4, hgx4.facts.c5, hgx4.facts.c6, hgx4.facts.c7⟩
            clear hK K
            try simp only [Act.put, List.getElem_toArray, List.getElem_cons_zero, List.getElem_cons_succ, List.setIfInBounds_toArray, List.set_cons_zero, List.set_cons_succ]
            refine wpAnyH_take (i := 26) (v := ?v26x4) rfl (by kernel_rfl) (by kernel_rfl) (by kernel_rfl) (fun _ _ _ h => h) (Or.inl ⟨by rfl, ?hy26x4⟩) (by assumption) ?rest26x4
            case hy26x4 =>
              intro w hSw
              (try dsimp only at hSw)
              go_simp
              all_goals with_reducible rfl
            simp only [Act.put, List.getElem_toArray, List.getElem_cons_zero, List.getElem_cons_succ, List.setIfInBounds_toArray, List.set_cons_zero, List.set_cons_succ]
            clear hHeld
            refine wpAnyH_ready (rs := [27]) (by kernel_rfl) (by simp) ?_
            refine AllReadyH.cons (o := _) rfl (fun K hK => ?_) AllReadyH.nil
            · go_simp
              refine hK.out _ _ ?_ (fun hHeld => ?_)
              · exact ⟨(hgx4.alloc _).facts.c4, (hgx4.alloc _).facts.c5, (hgx4.alloc _).facts.c6, (hgx4.alloc _).facts.c7⟩
              clear hK K hHeld
              try simp only [Act.put, List.getElem_toArray, List.getElem_cons_zero, List.getElem_cons_succ, List.setIfInBounds_toArray, List.set_cons_zero, List.set_cons_succ]
              have hbx5 : Below x4.heap.size x4 (x4.alloc (.cells #[.slice none 0 0, .slice none 0 0] 98)) := (Below.refl _ _).alloc (Nat.le_refl _) _
              have hzx5 := Blk2.new x4 (.slice none 0 0) (.slice none 0 0)
              obtain ⟨x5, hwe⟩ : ∃ x, x4.alloc (.cells #[.slice none 0 0, .slice none 0 0] 98) = x := ⟨_, rfl⟩
              rw [hwe] at hbx5 hzx5 ⊢
              clear hwe
              have hgx5 := hgx4.below hbx5
              have hTx5 := hTx4.below hbx5
              have hP1x5 := hP1x4.below hbx5
              have hNx5 := hNx4.below hbx5
              have hP2x5 := hP2x4.below hbx5
              have hDx5 := hDx4.below hbx5
              have hwx5 := hwx4.trans (hbx5.mono hwx4.size)
              have hgehz : w4.heap.size ≤ x4.heap.size := hwx4.size
              refine wpAnyH_ready (rs := [28]) (by kernel_rfl) (by simp) ?_
              refine AllReadyH.cons (o := _) rfl (fun K hK => ?_) AllReadyH.nil
              obtain ⟨y0, y1, y2, y3, y4⟩ := hzx5.facts
              go_simp
              clear y0 y1 y2 y3 y4
              have hgg : g < x4.heap.size := Nat.lt_of_lt_of_le hg4.lt hgehz
              have hfs : FL.In (put2 x5 (x4.heap.size) (.slice Np n.length nc) (.slice Dp d.length dc)) g (⟨f.bd, ⟨H, hc_, h⟩, f.ad, ⟨R, rc, r⟩, f.vn, f.vd, f.un, f.ud⟩ : FL) := hgx5.put2 hzx5 (Nat.ne_of_lt hgg) _ _
              have hNs : SL.Ok (put2 x5 (x4.heap.size) (.slice Np n.length nc) (.slice Dp d.length dc)) ⟨Np, nc, n⟩ := SL.Ok.put2 (s := ⟨Np, nc, n⟩) ⟨hNx5, mn, hnc⟩ hzx5 _ _
              have hDs : SL.Ok (put2 x5 (x4.heap.size) (.slice Np n.length nc) (.slice Dp d.length dc)) ⟨Dp, dc, d⟩ := SL.Ok.put2 (s := ⟨Dp, dc, d⟩) ⟨hDx5, md, hdc⟩ hzx5 _ _
              have hzs : Blk2 (put2 x5 (x4.heap.size) (.slice Np n.length nc) (.slice Dp d.length dc)) (x4.heap.size) (.slice Np n.length nc) (.slice Dp d.length dc) := hzx5.put2 _ _
              have hws : Below w4.heap.size w4 (put2 x5 (x4.heap.size) (.slice Np n.length nc) (.slice Dp d.length dc)) := below_put2 hwx5 hgehz _ _
              refine hK.out _ _ ?_ (fun hHeld => ?_)
              · exact ⟨hfs.facts.c4, hfs.facts.c5, hfs.facts.c6, hfs.facts.c7⟩
              clear hK K hHeld
              try simp only [Act.put, List.getElem_toArray, List.getElem_cons_zero, List.getElem_cons_succ, List.setIfInBounds_toArray, List.set_cons_zero, List.set_cons_succ]
              refine wpAnyH_done (by kernel_rfl) ?_ _
              go_wp2_with fail
              go_meet
              exact ⟨_, Np, nc, n, Dp, dc, d, rfl, hzs, hfs, hNs, hDs, Lib.hid (by rw [HN.out, HP1.out, HT.out]), Lib.hid (by rw [HD.out, HP2.out, HT.out]), hgg, hws⟩
          · go_simp
            refine hK.out _ _ ?_ (fun hHeld => ?_)
            · exact ⟨(hgx3.alloc _).facts.c4, (hgx3.alloc _).facts.c5, (hgx3.alloc _).facts.c6, (hgx3.alloc _).facts.c7⟩
            clear hK K hHeld
            try simp only [Act.put, List.getElem_toArray, List.getElem_cons_zero, List.getElem_cons_succ, List.setIfInBounds_toArray, List.set_cons_zero, List.set_cons_succ]
            have hbx6 : Below x3.heap.size x3 (x3.alloc (.cells #[.slice none 0 0, .slice none 0 0] 98)) := (Below.refl _ _).alloc (Nat.le_refl _) _
            have hzx6 := Blk2.new x3 (.slice none 0 0) (.slice none 0 0)
            obtain ⟨x6, hwe⟩ : ∃ x, x3.alloc (.cells #[.slice none 0 0, .slice none 0 0] 98) = x := ⟨_, rfl⟩
            rw [hwe] at hbx6 hzx6 ⊢
            clear hwe
            have hgx6 := hgx3.below hbx6
            have hTx6 := hTx3.below hbx6
            have hP1x6 := hP1x3.below hbx6
            have hNx6 := hNx3.below hbx6
            have hP2x6 := hP2x3.below hbx6
            have hwx6 := hwx3.trans (hbx6.mono hwx3.size)
            have hgehz : w4.heap.size ≤ x3.heap.size := hwx3.size
            refine wpAnyH_ready (rs := [25]) (by kernel_rfl) (by simp) ?_
            refine AllReadyH.cons (o := _) rfl (fun K hK => ?_) AllReadyH.nil
            · go_simp
              go_at_call 99
              refine (qplus P2 f.ud.p p2c f.ud.c p2 f.ud.xs _ hP2x6 (show FL.In _ g (⟨f.bd, ⟨H, hc_, h⟩, f.ad, ⟨R, rc, r⟩, f.vn, f.vd, f.un, f.ud⟩ : FL) from hgx6).ud.rd (by omega) (by omega) mp2.1 (show FL.In _ g (⟨f.bd, ⟨H, hc_, h⟩, f.ad, ⟨R, rc, r⟩, f.vn, f.vd, f.un, f.ud⟩ : FL) from hgx6).ud.m.1).mono ?_
              rintro e x7 ⟨Dp, dc, d, rfl, hdc, hDx7, hbx7, hvd, md, ld⟩
              have HD := Lib.hid hvd
              clear hvd
              go_wp2_with fail
              have hgx7 := hgx6.below hbx7
              have hTx7 := hTx6.below hbx7
              have hP1x7 := hP1x6.below hbx7
              have hNx7 := hNx6.below hbx7
              have hP2x7 := hP2x6.below hbx7
              have hzx7 := hzx6.below hbx7
              have hwx7 := hwx6.trans (hbx7.mono hwx6.size)
              refine hK.out _ _ ?_ (fun hHeld => ?_)
              · exact ⟨hgx7.facts.c4, hgx7.facts.c5, hgx7.facts.c6, hgx7.facts.c7⟩
              clear hK K
              try simp only [Act.put, List.getElem_toArray, List.getElem_cons_zero, List.getElem_cons_succ, List.setIfInBounds_toArray, List.set_cons_zero, List.set_cons_succ]
              refine wpAnyH_take (i := 26) (v := ?v26x7) rfl (by kernel_rfl) (by kernel_rfl) (by kernel_rfl) (fun _ _ _ h => h) (Or.inl ⟨by rfl, ?hy26x7⟩) (by assumption) ?rest26x7
              case hy26x7 =>
                intro w hSw
                (try dsimp only at hSw)
                go_simp
                all_goals with_reducible rfl
              simp only [Act.put, List.getElem_toArray, List.getElem_cons_zero, List.getElem_cons_succ, List.setIfInBounds_toArray, List.set_cons_zero, List.set_cons_succ]
              clear hHeld
              refine wpAnyH_ready (rs := [28]) (by kernel_rfl) (by simp) ?_
              refine AllReadyH.cons (o := _) rfl (fun K hK => ?_) AllReadyH.nil
              obtain ⟨y0, y1, y2, y3, y4⟩ := hzx7.facts
              go_simp
              clear y0 y1 y2 y3 y4
              have hgg : g < x3.heap.size := Nat.lt_of_lt_of_le hg4.lt hgehz
              have hfs : FL.In (put2 x7 (x3.heap.size) (.slice Np n.length nc) (.slice Dp d.length dc)) g (⟨f.bd, ⟨H, hc_, h⟩, f.ad, ⟨R, rc, r⟩, f.vn, f.vd, f.un, f.ud⟩ : FL) := hgx7.put2 hzx7 (Nat.ne_of_lt hgg) _ _
              have hNs : SL.Ok (put2 x7 (x3.heap.size) (.slice Np n.length nc) (.slice Dp d.length dc)) ⟨Np, nc, n⟩ := SL.Ok.put2 (s := ⟨Np, nc, n⟩) ⟨hNx7, mn, hnc⟩ hzx7 _ _
              have hDs : SL.Ok (put2 x7 (x3.heap.size) (.slice Np n.length nc) (.slice Dp d.length dc)) ⟨Dp, dc, d⟩ := SL.Ok.put2 (s := ⟨Dp, dc, d⟩) ⟨hDx7, md, hdc⟩ hzx7 _ _
              have hzs : Blk2 (put2 x7 (x3.heap.size) (.slice Np n.length nc) (.slice Dp d.length dc)) (x3.heap.size) (.slice Np n.length nc) (.slice Dp d.length dc) := hzx7.put2 _ _
              have hws : Below w4.heap.size w4 (put2 x7 (x3.heap.size) (.slice Np n.length nc) (.slice Dp d.length dc)) := below_put2 hwx7 hgehz _ _
              refine hK.out _ _ ?_ (fun hHeld => ?_)
              · exact ⟨hfs.facts.c4, hfs.facts.c5, hfs.facts.c6, hfs.facts.c7⟩
              clear hK K hHeld
              try simp only [Act.put, List.getElem_toArray, List.getElem_cons_zero, List.getElem_cons_succ, List.setIfInBounds_toArray, List.set_cons_zero, List.set_cons_succ]
              refine wpAnyH_done (by kernel_rfl) ?_ _
              go_wp2_with fail
              go_meet
              exact ⟨_, Np, nc, n, Dp, dc, d, rfl, hzs, hfs, hNs, hDs, Lib.hid (by rw [HN.out, HP1.out, HT.out]), Lib.hid (by rw [HD.out, HP2.out, HT.out]), hgg, hws⟩
        · go_simp
          refine hK.out _ _ ?_ (fun hHeld => ?_)
          · exact ⟨(hgx2.alloc _).facts.c4, (hgx2.alloc _).facts.c5, (hgx2.alloc _).facts.c6, (hgx2.alloc _).facts.c7⟩
          clear hK K hHeld
          try simp only [Act.put, List.getElem_toArray, List.getElem_cons_zero, List.getElem_cons_succ, List.setIfInBounds_toArray, List.set_cons_zero, List.set_cons_succ]
          have hbx8 : Below x2.heap.size x2 (x2.alloc (.cells #[.slice none 0 0, .slice none 0 0] 98)) := (Below.refl _ _).alloc (Nat.le_refl _) _
          have hzx8 := Blk2.new x2 (.slice none 0 0) (.slice none 0 0)
          obtain ⟨x8, hwe⟩ : ∃ x, x2.alloc (.cells #[.slice none 0 0, .slice none 0 0] 98) = x := ⟨_, rfl⟩
          rw [hwe] at hbx8 hzx8 ⊢
          clear hwe
          have hgx8 := hgx2.below hbx8
          have hTx8 := hTx2.below hbx8
          have hP1x8 := hP1x2.below hbx8
          have hNx8 := hNx2.below hbx8
          have hwx8 := hwx2.trans (hbx8.mono hwx2.size)
          have hgehz : w4.heap.size ≤ x2.heap.size := hwx2.size
          refine wpAnyH_ready (rs := [19]) (by kernel_rfl) (by simp) ?_
          refine AllReadyH.cons (o := _) rfl (fun K hK => ?_) AllReadyH.nil
          · go_simp
            go_at_call 77
            refine (qtimes T f.vd.p tc f.vd.c t f.vd.xs _ hTx8 (show FL.In _ g (⟨f.bd, ⟨H, hc_, h⟩, f.ad, ⟨R, rc, r⟩, f.vn, f.vd, f.un, f.ud⟩ : FL) from hgx8).vd.rd (by omega) mt (show FL.In _ g (⟨f.bd, ⟨H, hc_, h⟩, f.ad, ⟨R, rc, r⟩, f.vn, f.vd, f.un, f.ud⟩ : FL) from hgx8).vd.m).mono ?_
            rintro e x9 ⟨P2, p2c, p2, rfl, hp2c, hP2x9, hbx9, hvp2, mp2, lp2⟩
            have HP2 := Lib.hid hvp2
            clear hvp2
            go_wp2_with fail
            have hgx9 := hgx8.below hbx9
            have hTx9 := hTx8.below hbx9
            have hP1x9 := hP1x8.below hbx9
            have hNx9 := hNx8.below hbx9
            have hzx9 := hzx8.below hbx9
            have hwx9 := hwx8.trans (hbx9.mono hwx8.size)
            refine hK.out _ _ ?_ (fun hHeld => ?_)
            · exact ⟨hgx9.facts.c4, hgx9.facts.c5, hgx9.facts.c6, hgx9.facts.c7⟩
            clear hK K
            try simp only [Act.put, List.getElem_toArray, List.getElem_cons_zero, List.getElem_cons_succ, List.setIfInBounds_toArray, List.set_cons_zero, List.set_cons_succ]
            clear hHeld
            refine wpAnyH_ready (rs := [25]) (by kernel_rfl) (by simp) ?_
            refine AllReadyH.cons (o := _) rfl (fun K hK => ?_) AllReadyH.nil
            · go_simp
              go_at_call 99
              refine (qplus P2 f.ud.p p2c f.ud.c p2 f.ud.xs _ hP2x9 (show FL.In _ g (⟨f.bd, ⟨H, hc_, h⟩, f.ad, ⟨R, rc, r⟩, f.vn, f.vd, f.un, f.ud⟩ : FL) from hgx9).ud.rd (by omega) (by omega) mp2.1 (show FL.In _ g (⟨f.bd, ⟨H, hc_, h⟩, f.ad, ⟨R, rc, r⟩, f.vn, f.vd, f.un, f.ud⟩ : FL) from hgx9).ud.m.1).mono ?_
              rintro e x10 ⟨Dp, dc, d, rfl, hdc, hDx10, hbx10, hvd, md, ld⟩
              have HD := Lib.hid hvd
              clear hvd
              go_wp2_with fail
              have hgx10 := hgx9.below hbx10
              have hTx10 := hTx9.below hbx10
              have hP1x10 := hP1x9.below hbx10
              have hNx10 := hNx9.below hbx10
              have hzx10 := hzx9.below hbx10
              have hP2x10 := hP2x9.below hbx10
              have hwx10 := hwx9.trans (hbx10.mono hwx9.size)
              refine hK.out _ _ ?_ (fun hHeld => ?_)
              · exact ⟨hgx10.facts.c4, hgx10.facts.c5, hgx10.facts.c6, hgx10.facts.c7⟩
              clear hK K
              try simp only [Act.put, List.getElem_toArray, List.getElem_cons_zero, List.getElem_cons_succ, List.setIfInBounds_toArray, List.set_cons_zero, List.set_cons_succ]
              refine wpAnyH_take (i := 26) (v := ?v26x10) rfl (by kernel_rfl) (by kernel_rfl) (by kernel_rfl) (fun _ _ _ h => h) (Or.inl ⟨by rfl, ?hy26x10⟩) (by assumption) ?rest26x10
              case hy26x10 =>
                intro w hSw
                (try dsimp only at hSw)
                go_simp
                all_goals with_reducible rfl
              simp only [Act.put, List.getElem_toArray, List.getElem_cons_zero, List.getElem_cons_succ, List.setIfInBounds_toArray, List.set_cons_zero, List.set_cons_succ]
              clear hHeld
              refine wpAnyH_ready (rs := [28]) (by kernel_rfl) (by simp) ?_
              refine AllReadyH.cons (o := _) rfl (fun K hK => ?_) AllReadyH.nil
              obtain ⟨y0, y1, y2, y3, y4⟩ := hzx10.facts
              go_simp
              clear y0 y1 y2 y3 y4
              have hgg : g < x2.heap.size := Nat.lt_of_lt_of_le hg4.lt hgehz
              have hfs : FL.In (put2 x10 (x2.heap.size) (.slice Np n.length nc) (.slice Dp d.length dc)) g (⟨f.bd, ⟨H, hc_, h⟩, f.ad, ⟨R, rc, r⟩, f.vn, f.vd, f.un, f.ud⟩ : FL) := hgx10.put2 hzx10 (Nat.ne_of_lt hgg) _ _
              have hNs : SL.Ok (put2 x10 (x2.heap.size) (.slice Np n.length nc) (.slice Dp d.length dc)) ⟨Np, nc, n⟩ := SL.Ok.put2 (s := ⟨Np, nc, n⟩) ⟨hNx10, mn, hnc⟩ hzx10 _ _
              have hDs : SL.Ok (put2 x10 (x2.heap.size) (.slice Np n.length nc) (.slice Dp d.length dc)) ⟨Dp, dc, d⟩ := SL.Ok.put2 (s := ⟨Dp, dc, d⟩) ⟨hDx10, md, hdc⟩ hzx10 _ _
              have hzs : Blk2 (put2 x10 (x2.heap.size) (.slice Np n.length nc) (.slice Dp d.length dc)) (x2.heap.size) (.slice Np n.length nc) (.slice Dp d.length dc) := hzx10.put2 _ _
              have hws : Below w4.heap.size w4 (put2 x10 (x2.heap.size) (.slice Np n.length nc) (.slice Dp d.length dc)) := below_put2 hwx10 hgehz _ _
              refine hK.out _ _ ?_ (fun hHeld => ?_)
              · exact ⟨hfs.facts.c4, hfs.facts.c5, hfs.facts.c6, hfs.facts.c7⟩
              clear hK K hHeld
              try simp only [Act.put, List.getElem_toArray, List.getElem_cons_zero, List.getElem_cons_succ, List.setIfInBounds_toArray, List.set_cons_zero, List.set_cons_succ]
              refine wpAnyH_done (by kernel_rfl) ?_ _
              go_wp2_with fail
              go_meet
              exact ⟨_, Np, nc, n, Dp, dc, d, rfl, hzs, hfs, hNs, hDs, Lib.hid (by rw [HN.out, HP1.out, HT.out]), Lib.hid (by rw [HD.out, HP2.out, HT.out]), hgg, hws⟩
      · go_simp
        refine hK.out _ _ ?_ (fun hHeld => ?_)
        · exact ⟨(hgx1.alloc _).facts.c4, (hgx1.alloc _).facts.c5, (hgx1.alloc _).facts.c6, (hgx1.alloc _).facts.c7⟩
        clear hK K hHeld
        try simp only [Act.put, List.getElem_toArray, List.getElem_cons_zero, List.getElem_cons_succ, List.setIfInBounds_toArray, List.set_cons_zero, List.set_cons_succ]
        have hbx11 : Below x1.heap.size x1 (x1.alloc (.cells #[.slice none 0 0, .slice none 0 0] 98)) := (Below.refl _ _).alloc (Nat.le_refl _) _
        have hzx11 := Blk2.new x1 (.slice none 0 0) (.slice none 0 0)
        obtain ⟨x11, hwe⟩ : ∃ x, x1.alloc (.cells #[.slice none 0 0, .slice none 0 0] 98) = x := ⟨_, rfl⟩
        rw [hwe] at hbx11 hzx11 ⊢
        clear hwe
        have hgx11 := hgx1.below hbx11
        have hTx11 := hTx1.below hbx11
        have hP1x11 := hP1x1.below hbx11
        have hwx11 := hwx1.trans (hbx11.mono hwx1.size)
        have hgehz : w4.heap.size ≤ x1.heap.size := hwx1.size
        refine wpAnyH_ready (rs := [12]) (by kernel_rfl) (by simp) ?_
        refine AllReadyH.cons (o := _) rfl (fun K hK => ?_) AllReadyH.nil
        · go_simp
          go_at_call 99
          refine (qplus P1 f.un.p p1c f.un.c p1 f.un.xs _ hP1x11 (show FL.In _ g (⟨f.bd, ⟨H, hc_, h⟩, f.ad, ⟨R, rc, r⟩, f.vn, f.vd, f.un, f.ud⟩ : FL) from hgx11).un.rd (by omega) (by omega) mp1.1 (show FL.In _ g (⟨f.bd, ⟨H, hc_, h⟩, f.ad, ⟨R, rc, r⟩, f.vn, f.vd, f.un, f.ud⟩ : FL) from hgx11).un.m.1).mono ?_
          rintro e x12 ⟨Np, nc, n, rfl, hnc, hNx12, hbx12, hvn, mn, ln⟩
          have HN := Lib.hid hvn
          clear hvn
          go_wp2_with fail
          have hgx12 := hgx11.below hbx12
          have hTx12 := hTx11.below hbx12
          have hP1x12 := hP1x11.below hbx12
          have hzx12 := hzx11.below hbx12
          have hwx12 := hwx11.trans (hbx12.mono hwx11.size)
          refine hK.out _ _ ?_ (fun hHeld => ?_)
          · exact ⟨hgx12.facts.c4, hgx12.facts.c5, hgx12.facts.c6, hgx12.facts.c7⟩
          clear hK K
          try simp only [Act.put, List.getElem_toArray, List.getElem_cons_zero, List.getElem_cons_succ, List.setIfInBounds_toArray, List.set_cons_zero, List.set_cons_succ]
          clear hHeld
          refine wpAnyH_ready (rs := [19]) (by kernel_rfl) (by simp) ?_
          refine AllReadyH.cons (o := _) rfl (fun K hK => ?_) AllReadyH.nil
          · go_simp
            go_at_call 77
            refine (qtimes T f.vd.p tc f.vd.c t f.vd.xs _ hTx12 (show FL.In _ g (⟨f.bd, ⟨H, hc_, h⟩, f.ad, ⟨R, rc, r⟩, f.vn, f.vd, f.un, f.ud⟩ : FL) from hgx12).vd.rd (by omega) mt (show FL.In _ g (⟨f.bd, ⟨H, hc_, h⟩, f.ad, ⟨R, rc, r⟩, f.vn, f.vd, f.un, f.ud⟩ : FL) from hgx12).vd.m).mono ?_
            rintro e x13 ⟨P2, p2c, p2, rfl, hp2c, hP2x13, hbx13, hvp2, mp2, lp2⟩
            have HP2 := Lib.hid hvp2
            clear hvp2
            go_wp2_with fail
            have hgx13 := hgx12.below hbx13
            have hTx13 := hTx12.below hbx13
            have hP1x13 := hP1x12.below hbx13
            have hzx13 := hzx12.below hbx13
            have hNx13 := hNx12.below hbx13
            have hwx13 := hwx12.trans (hbx13.mono hwx12.size)
            refine hK.out _ _ ?_ (fun hHeld => ?_)
            · exact ⟨hgx13.facts.c4, hgx13.facts.c5, hgx13.facts.c6, hgx13.facts.c7⟩
            clear hK K
            try simp only [Act.put, List.getElem_toArray, List.getElem_cons_zero, List.getElem_cons_succ, List.setIfInBounds_toArray, List.set_cons_zero, List.set_cons_succ]
            clear hHeld
            refine wpAnyH_ready (rs := [25]) (by kernel_rfl) (by simp) ?_
            refine AllReadyH.cons (o := _) rfl (fun K hK => ?_) AllReadyH.nil
            · go_simp
              go_at_call 99
              refine (qplus P2 f.ud.p p2c f.ud.c p2 f.ud.xs _ hP2x13 (show FL.In _ g (⟨f.bd, ⟨H, hc_, h⟩, f.ad, ⟨R, rc, r⟩, f.vn, f.vd, f.un, f.ud⟩ : FL) from hgx13).ud.rd (by omega) (by omega) mp2.1 (show FL.In _ g (⟨f.bd, ⟨H, hc_, h⟩, f.ad, ⟨R, rc, r⟩, f.vn, f.vd, f.un, f.ud⟩ : FL) from hgx13).ud.m.1).mono ?_
              rintro e x14 ⟨Dp, dc, d, rfl, hdc, hDx14, hbx14, hvd, md, ld⟩
              have HD := Lib.hid hvd
              clear hvd
              go_wp2_with fail
              have hgx14 := hgx13.below hbx14
              have hTx14 := hTx13.below hbx14
              have hP1x14 := hP1x13.below hbx14
              have hzx14 := hzx13.below hbx14
              have hNx14 := hNx13.below hbx14
              have hP2x14 := hP2x13.below hbx14
              have hwx14 := hwx13.trans (hbx14.mono hwx13.size)
              refine hK.out _ _ ?_ (fun hHeld => ?_)
              · exact ⟨hgx14.facts.c4, hgx14.facts.c5, hgx14.facts.c6, hgx14.facts.c7⟩
              clear hK K
              try simp only [Act.put, List.getElem_toArray, List.getElem_cons_zero, List.getElem_cons_succ, List.setIfInBounds_toArray, List.set_cons_zero, List.set_cons_succ]
              refine wpAnyH_take (i := 26) (v := ?v26x14) rfl (by kernel_rfl) (by kernel_rfl) (by kernel_rfl) (fun _ _ _ h => h) (Or.inl ⟨by rfl, ?hy26x14⟩) (by assumption) ?rest26x14
              case hy26x14 =>
                intro w hSw
                (try dsimp only at hSw)
                go_simp
                all_goals with_reducible rfl
              simp only [Act.put, List.getElem_toArray, List.getElem_cons_zero, List.getElem_cons_succ, List.setIfInBounds_toArray, List.set_cons_zero, List.set_cons_succ]
              clear hHeld
              refine wpAnyH_ready (rs := [28]) (by kernel_rfl) (by simp) ?_
              refine AllReadyH.cons (o := _) rfl (fun K hK => ?_) AllReadyH.nil
              obtain ⟨y0, y1, y2, y3, y4⟩ := hzx14.facts
              go_simp
              clear y0 y1 y2 y3 y4
              have hgg : g < x1.heap.size := Nat.lt_of_lt_of_le hg4.lt hgehz
              have hfs : FL.In (put2 x14 (x1.heap.size) (.slice Np n.length nc) (.slice Dp d.length dc)) g (⟨f.bd, ⟨H, hc_, h⟩, f.ad, ⟨R, rc, r⟩, f.vn, f.vd, f.un, f.ud⟩ : FL) := hgx14.put2 hzx14 (Nat.ne_of_lt hgg) _ _
              have hNs : SL.Ok (put2 x14 (x1.heap.size) (.slice Np n.length nc) (.slice Dp d.length dc)) ⟨Np, nc, n⟩ := SL.Ok.put2 (s := ⟨Np, nc, n⟩) ⟨hNx14, mn, hnc⟩ hzx14 _ _
              have hDs : SL.Ok (put2 x14 (x1.heap.size) (.slice Np n.length nc) (.slice Dp d.length dc)) ⟨Dp, dc, d⟩ := SL.Ok.put2 (s := ⟨Dp, dc, d⟩) ⟨hDx14, md, hdc⟩ hzx14 _ _
              have hzs : Blk2 (put2 x14 (x1.heap.size) (.slice Np n.length nc) (.slice Dp d.length dc)) (x1.heap.size) (.slice Np n.length nc) (.slice Dp d.length dc) := hzx14.put2 _ _
              have hws : Below w4.heap.size w4 (put2 x14 (x1.heap.size) (.slice Np n.length nc) (.slice Dp d.length dc)) := below_put2 hwx14 hgehz _ _
              refine hK.out _ _ ?_ (fun hHeld => ?_)
              · exact ⟨hfs.facts.c4, hfs.facts.c5, hfs.facts.c6, hfs.facts.c7⟩
              clear hK K hHeld
              try simp only [Act.put, List.getElem_toArray, List.getElem_cons_zero, List.getElem_cons_succ, List.setIfInBounds_toArray, List.set_cons_zero, List.set_cons_succ]
              refine wpAnyH_done (by kernel_rfl) ?_ _
              go_wp2_with fail
              go_meet
              exact ⟨_, Np, nc, n, Dp, dc, d, rfl, hzs, hfs, hNs, hDs, Lib.hid (by rw [HN.out, HP1.out, HT.out]), Lib.hid (by rw [HD.out, HP2.out, HT.out]), hgg, hws⟩
    · go_simp
      refine hK.out _ _ ?_ (fun hHeld => ?_)
      · exact ⟨(hg_d.alloc _).facts.c4, (hg_d.alloc _).facts.c5, (hg_d.alloc _).facts.c6, (hg_d.alloc _).facts.c7⟩
      clear hK K hHeld
      try simp only [Act.put, List.getElem_toArray, List.getElem_cons_zero, List.getElem_cons_succ, List.setIfInBounds_toArray, List.set_cons_zero, List.set_cons_succ]
      have hbx15 : Below wd.heap.size wd (wd.alloc (.cells #[.slice none 0 0, .slice none 0 0] 98)) := (Below.refl _ _).alloc (Nat.le_refl _) _
      have hzx15 := Blk2.new wd (.slice none 0 0) (.slice none 0 0)
      obtain ⟨x15, hwe⟩ : ∃ x, wd.alloc (.cells #[.slice none 0 0, .slice none 0 0] 98) = x := ⟨_, rfl⟩
      rw [hwe] at hbx15 hzx15 ⊢
      clear hwe
      have hgx15 := hg_d.below hbx15
      have hTx15 := hT_d.below hbx15
      have hwx15 := hbd.trans (hbx15.mono hbd.size)
      have hgehz : w4.heap.size ≤ wd.heap.size := hbd.size
      refine wpAnyH_ready (rs := [6]) (by kernel_rfl) (by simp) ?_
      refine AllReadyH.cons (o := _) rfl (fun K hK => ?_) AllReadyH.nil
      · go_simp
        go_at_call 77
        refine (qtimes T f.vn.p tc f.vn.c t f.vn.xs _ hTx15 (show FL.In _ g (⟨f.bd, ⟨H, hc_, h⟩, f.ad, ⟨R, rc, r⟩, f.vn, f.vd, f.un, f.ud⟩ : FL) from hgx15).vn.rd (by omega) mt (show FL.In _ g (⟨f.bd, ⟨H, hc_, h⟩, f.ad, ⟨R, rc, r⟩, f.vn, f.vd, f.un, f.ud⟩ : FL) from hgx15).vn.m).mono ?_
        rintro e x16 ⟨P1, p1c, p1, rfl, hp1c, hP1x16, hbx16, hvp1, mp1, lp1⟩
        have HP1 := Lib.hid hvp1
        clear hvp1
        go_wp2_with fail
        have hgx16 := hgx15.below hbx16
        have hTx16 := hTx15.below hbx16
        have hzx16 := hzx15.below hbx16
        have hwx16 := hwx15.trans (hbx16.mono hwx15.size)
        refine hK.out _ _ ?_ (fun hHeld => ?_)
        · exact ⟨hgx16.facts.c4, hgx16.facts.c5, hgx16.facts.c6, hgx16.facts.c7⟩
        clear hK K
        try simp only [Act.put, List.getElem_toArray, List.getElem_cons_zero, List.getElem_cons_succ, List.setIfInBounds_toArray, List.set_cons_zero, List.set_cons_succ]
        clear hHeld
        refine wpAnyH_ready (rs := [12]) (by kernel_rfl) (by simp) ?_
        refine AllReadyH.cons (o := _) rfl (fun K hK => ?_) AllReadyH.nil
        · go_simp
          go_at_call 99
          refine (qplus P1 f.un.p p1c f.un.c p1 f.un.xs _ hP1x16 (show FL.In _ g (⟨f.bd, ⟨H, hc_, h⟩, f.ad, ⟨R, rc, r⟩, f.vn, f.vd, f.un, f.ud⟩ : FL) from hgx16).un.rd (by omega) (by omega) mp1.1 (show FL.In _ g (⟨f.bd, ⟨H, hc_, h⟩, f.ad, ⟨R, rc, r⟩, f.vn, f.vd, f.un, f.ud⟩ : FL) from hgx16).un.m.1).mono ?_
          rintro e x17 ⟨Np, nc, n, rfl, hnc, hNx17, hbx17, hvn, mn, ln⟩
          have HN := Lib.hid hvn
          clear hvn
          go_wp2_with fail
          have hgx17 := hgx16.below hbx17
          have hTx17 := hTx16.below hbx17
          have hzx17 := hzx16.below hbx17
          have hP1x17 := hP1x16.below hbx17
          have hwx17 := hwx16.trans (hbx17.mono hwx16.size)
          refine hK.out _ _ ?_ (fun hHeld => ?_)
          · exact ⟨hgx17.facts.c4, hgx17.facts.c5, hgx17.facts.c6, hgx17.facts.c7⟩
          clear hK K
          try simp only [Act.put, List.getElem_toArray, List.getElem_cons_zero, List.getElem_cons_succ, List.setIfInBounds_toArray, List.set_cons_zero, List.set_cons_succ]
          clear hHeld
          refine wpAnyH_ready (rs := [19]) (by kernel_rfl) (by simp) ?_
          refine AllReadyH.cons (o := _) rfl (fun K hK => ?_) AllReadyH.nil
          · go_simp
            go_at_call 77
            refine (qtimes T f.vd.p tc f.vd.c t f.vd.xs _ hTx17 (show FL.In _ g (⟨f.bd, ⟨H, hc_, h⟩, f.ad, ⟨R, rc, r⟩, f.vn, f.vd, f.un, f.ud⟩ : FL) from hgx17).vd.rd (by omega) mt (show FL.In _ g (⟨f.bd, ⟨H, hc_, h⟩, f.ad, ⟨R, rc, r⟩, f.vn, f.vd, f.un, f.ud⟩ : FL) from hgx17).vd.m).mono ?_
            rintro e x18 ⟨P2, p2c, p2, rfl, hp2c, hP2x18, hbx18, hvp2, mp2, lp2⟩
            have HP2 := Lib.hid hvp2
            clear hvp2
            go_wp2_with fail
            have hgx18 := hgx17.below hbx18
            have hTx18 := hTx17.below hbx18
            have hzx18 := hzx17.below hbx18
            have hP1x18 := hP1x17.below hbx18
            have hNx18 := hNx17.below hbx18
            have hwx18 := hwx17.trans (hbx18.mono hwx17.size)
            refine hK.out _ _ ?_ (fun hHeld => ?_)
            · exact ⟨hgx18.facts.c4, hgx18.facts.c5, hgx18.facts.c6, hgx18.facts.c7⟩
            clear hK K
            try simp only [Act.put, List.getElem_toArray, List.getElem_cons_zero, List.getElem_cons_succ, List.setIfInBounds_toArray, List.set_cons_zero, List.set_cons_succ]
            clear hHeld
            refine wpAnyH_ready (rs := [25]) (by kernel_rfl) (by simp) ?_
            refine AllReadyH.cons (o := _) rfl (fun K hK => ?_) AllReadyH.nil
            · go_simp
              go_at_call 99
              refine (qplus P2 f.ud.p p2c f.ud.c p2 f.ud.xs _ hP2x18 (show FL.In _ g (⟨f.bd, ⟨H, hc_, h⟩, f.ad, ⟨R, rc, r⟩, f.vn, f.vd, f.un, f.ud⟩ : FL) from hgx18).ud.rd (by omega) (by omega) mp2.1 (show FL.In _ g (⟨f.bd, ⟨H, hc_, h⟩, f.ad, ⟨R, rc, r⟩, f.vn, f.vd, f.un, f.ud⟩ : FL) from hgx18).ud.m.1).mono ?_
              rintro e x19 ⟨Dp, dc, d, rfl, hdc, hDx19, hbx19, hvd, md, ld⟩
              have HD := Lib.hid hvd
              clear hvd
              go_wp2_with fail
              have hgx19 := hgx18.below hbx19
              have hTx19 := hTx18.below hbx19
              have hzx19 := hzx18.below hbx19
              have hP1x19 := hP1x18.below hbx19
              have hNx19 := hNx18.below hbx19
              have hP2x19 := hP2x18.below hbx19
              have hwx19 := hwx18.trans (hbx19.mono hwx18.size)
              refine hK.out _ _ ?_ (fun hHeld => ?_)
              · exact ⟨hgx19.facts.c4, hgx19.facts.c5, hgx19.facts.c6, hgx19.facts.c7⟩
              clear hK K
              try simp only [Act.put, List.getElem_toArray, List.getElem_cons_zero, List.getElem_cons_succ, List.setIfInBounds_toArray, List.set_cons_zero, List.set_cons_succ]
              refine wpAnyH_take (i := 26) (v := ?v26x19) rfl (by kernel_rfl) (by kernel_rfl) (by kernel_rfl) (fun _ _ _ h => h) (Or.inl ⟨by rfl, ?hy26x19⟩) (by assumption) ?rest26x19
              case hy26x19 =>
                intro w hSw
                (try dsimp only at hSw)
                go_simp
                all_goals with_reducible rfl
              simp only [Act.put, List.getElem_toArray, List.getElem_cons_zero, List.getElem_cons_succ, List.setIfInBounds_toArray, List.set_cons_zero, List.set_cons_succ]
              clear hHeld
              refine wpAnyH_ready (rs := [28]) (by kernel_rfl) (by simp) ?_
              refine AllReadyH.cons (o := _) rfl (fun K hK => ?_) AllReadyH.nil
              obtain ⟨y0, y1, y2, y3, y4⟩ := hzx19.facts
              go_simp
              clear y0 y1 y2 y3 y4
              have hgg : g < wd.heap.size := Nat.lt_of_lt_of_le hg4.lt hgehz
              have hfs : FL.In (put2 x19 (wd.heap.size) (.slice Np n.length nc) (.slice Dp d.length dc)) g (⟨f.bd, ⟨H, hc_, h⟩, f.ad, ⟨R, rc, r⟩, f.vn, f.vd, f.un, f.ud⟩ : FL) := hgx19.put2 hzx19 (Nat.ne_of_lt hgg) _ _
              have hNs : SL.Ok (put2 x19 (wd.heap.size) (.slice Np n.length nc) (.slice Dp d.length dc)) ⟨Np, nc, n⟩ := SL.Ok.put2 (s := ⟨Np, nc, n⟩) ⟨hNx19, mn, hnc⟩ hzx19 _ _
              have hDs : SL.Ok (put2 x19 (wd.heap.size) (.slice Np n.length nc) (.slice Dp d.length dc)) ⟨Dp, dc, d⟩ := SL.Ok.put2 (s := ⟨Dp, dc, d⟩) ⟨hDx19, md, hdc⟩ hzx19 _ _
              have hzs : Blk2 (put2 x19 (wd.heap.size) (.slice Np n.length nc) (.slice Dp d.length dc)) (wd.heap.size) (.slice Np n.length nc) (.slice Dp d.length dc) := hzx19.put2 _ _
              have hws : Below w4.heap.size w4 (put2 x19 (wd.heap.size) (.slice Np n.length nc) (.slice Dp d.length dc)) := below_put2 hwx19 hgehz _ _
              refine hK.out _ _ ?_ (fun hHeld => ?_)
              · exact ⟨hfs.facts.c4, hfs.facts.c5, hfs.facts.c6, hfs.facts.c7⟩
              clear hK K hHeld
              try simp only [Act.put, List.getElem_toArray, List.getElem_cons_zero, List.getElem_cons_succ, List.setIfInBounds_toArray, List.set_cons_zero, List.set_cons_succ]
              refine wpAnyH_done (by kernel_rfl) ?_ _
              go_wp2_with fail
              go_meet
              exact ⟨_, Np, nc, n, Dp, dc, d, rfl, hzs, hfs, hNs, hDs, Lib.hid (by rw [HN.out, HP1.out, HT.out]), Lib.hid (by rw [HD.out, HP2.out, HT.out]), hgg, hws⟩
  obtain ⟨w5, rfl⟩ : ∃ x, x = wc := ⟨_, rfl⟩
  obtain ⟨g7, Np, nc, n, Dp, dc, d, rfl, hz, hfc, hN, hD, HVN, HVD, hgg, hb5⟩ := hcut
  have HBG2 : Hid (Below g w w5) := Lib.hid (HBG.out.trans (hb5.mono (Nat.le_of_lt hg4.lt)))
  obtain ⟨y0, y1, y2, y3, y4⟩ := hz.facts
  obtain ⟨c0, c1, c2, c3, c4, c5, c6, c7, d0, d1, d2, d3, d4, d5, d6, d7, dl⟩ := hfc.facts
  dsimp only at c0 c1 c2 c3 c4 c5 c6 c7
  have hne1 : ¬ g = g7 := Nat.ne_of_lt hgg
  have hne2 : ¬ g7 = g := fun h => hne1 h.symm
  go_upto_region 10 with fail
  go_region_with (fail)
  all_goals
    go_wp2_with fail
    go_ret
    have hfin := (hfc.high (a := ⟨Np, nc, n⟩) (b := ⟨Dp, dc, d⟩) (c := f.vn) (d := f.vd) hN hD hfc.vn hfc.vd).drew
    refine ⟨_, false, rfl, hfin, below_drew_ (below_put4 HBG2.out (Nat.le_refl _) 4 _ _ _ _) 1, fun _ => ⟨?_, ?_⟩, fun h => by cases h⟩
    · show Frac A B C D X (V32 f.bd.xs) (V32 h) (V32 f.ad.xs) (V32 r) (V32 n) (V32 d) (V32 f.vn.xs) (V32 f.vd.xs)
      rw [HH.out, HR2.out, HVN.out, HVD.out]; exact HF.out.next HRZ.out HCZ.out
    · show V32 h + V32 r < V32 f.ad.xs + V32 f.bd.xs
      have h1 := HH.out; have h2 := HCZ.out; have h3 := HR2.out; have h4 := Nat.mod_lt (V32 f.an.xs) HF.out.hb; omega
end Go.Proofs.YtopppmlkddajjaaGreatDoor

