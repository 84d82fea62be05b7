/- isochroneref02: Floor, Neg. -/
import Derived.Test.YtopppmlkddajjaaGreatDoorQSR17
namespace Go.Proofs.YtopppmlkddajjaaGreatDoor
open Go.RowKit V

theorem nm_len_le {xs ys : List Nat} (h : Nm ys) (h2 : Nm xs) (hv : VD ys ≤ VD xs) : ys.length ≤ xs.length :=
  len_of_lt (B := 10000) (by omega) h.2 (Nat.lt_of_le_of_lt hv (val_lt _ _ h2.1))
theorem floor_q (s : Bool) (m : Nat) (h : s = true → 0 < m) : QOf s m 1 (mkRat (sgn s m) 1) :=
  QOf.mk_ (by omega) (Nat.gcd_one_right _) (fun h0 => by cases s with | false => rfl | true => have := h rfl; omega)
theorem rnd_pos {n d : Nat} (hn : 0 < n) : 0 < rnd n d true := by
  unfold rnd
  rcases Nat.eq_zero_or_pos (n % d) with h | h
  · have h1 := Nat.div_add_mod n d
    rw [h] at h1
    rcases Nat.eq_zero_or_pos (n / d) with h2 | h2
    · rw [h2] at h1; omega
    · omega
  · simp [h]
theorem vd_one : VD [1] = 1 := by simp [VD, val]
set_option maxRecDepth 20000 in
set_option maxHeartbeats 1600000 in
theorem rfloor_fz (N D : Option Addr) (nc dc : Nat) (ns ds : List Nat) (q : Rat) (w : World) (ha : RL.Ref w ⟨false, N, nc, ns, D, dc, ds⟩ q) (l1 : ns.length ≤ 10000) :
    Calls Tryz.prog 32 #[.agg #[.bool false, .slice N ns.length nc, .slice D ds.length dc]] w (RefP (mkRat (sgn false (rnd (VD ns) (VD ds) false)) 1) (ns.length + 2) 1 w) := by
  go_enter Tryz.func32, Tryz.ntmps32
  go_wp2_with fail
  have hbox := boxes2 30 30 w (.bool false) (.slice N ns.length nc) (.slice D ds.length dc) (.bool false) (.slice none 0 0) (.slice none 0 0)
  obtain ⟨w1, hwe⟩ : ∃ x, (w.alloc (.cells #[.bool false, .slice N ns.length nc, .slice D ds.length dc] 30)).alloc (.cells #[.bool false, .slice none 0 0, .slice none 0 0] 30) = x := ⟨_, rfl⟩
  rw [hwe] at hbox ⊢
  obtain ⟨ka1, kr1, hb1⟩ := hbox
  have HWE := Lib.hid hwe
  clear hwe HWE
  have ha1 := ha.below hb1
  have hw1 := hb1
  clear ha hb1
  have hns := ha1.rn
  have hds := ha1.rd
  have mns := ha1.mn
  have mds := ha1.md
  have hdp := ha1.dpos
  have hq := ha1.q
  dsimp only at hns hds mns mds hdp hq
  have hns1 := hns
  have hds1 := hds
  clear hns hds
  have hvd := VD_pos mds hdp
  obtain ⟨a0, a1, a2, a3, a4, a5, a6⟩ := ka1.facts
  go_wp2_with fail
  refine (rdiv_any N D nc dc ns ds _ hns1 hds1 (by omega) mns mds hdp).mono ?_
  rintro e w2 ⟨X, xc, xl, Y, yc, yl, rfl, hX2, hY2, mx, my_, hdm, hlt, hb2⟩
  have ka2 := ka1.below hb2
  have kr2 := kr1.below hb2
  have hns2 := hns1.below hb2
  have hds2 := hds1.below hb2
  have hw2 := hw1.trans (hb2.mono hw1.size)
  clear ka1 kr1 hns1 hds1 hw1 hb2
  clear a0 a1 a2 a3 a4 a5 a6
  have HU := Lib.hid (div_uniq hdm.out hlt.out)
  obtain ⟨a0, a1, a2, a3, a4, a5, a6⟩ := ka2.facts
  have hxl : xl.length ≤ ns.length := nm_len_le mx mns (by rw [HU.out.1]; exact Nat.div_le_self _ _)
  have HS : Hid (VD xl = rnd (VD ns) (VD ds) false) := by show _ = _; rw [HU.out.1]; simp [rnd]
  obtain ⟨d0, d1, d2, d3, d4, d5, d6⟩ := ((kr2.put3_ (.bool false) (.slice X xl.length xc) (.slice (some ⟨w2.heap.size, 0, none⟩) 1 1)).alloc (.cells #[.int .i64 1] 3)).facts
  dsimp only [Go.Proofs.YtopppmlkddajjaaGreatDoor.put3] at d0 d1 d2
  clear d3 d4 d5 d6
  obtain ⟨c0, c1, c2, c3, c4, c5, c6⟩ := kr2.facts
  go_wp2_with fail
  refine bodyPost_ret (v := .agg #[.bool false, .slice X xl.length xc, .slice (some ⟨w2.heap.size, 0, none⟩) 1 1]) (by simp [results, Tryz.results32, go_sem, d0, d1, d2]) rfl ?_
  have hbw := below_put3 hw2 (show w.heap.size ≤ w.heap.size + 1 by omega) (.bool false) (.slice X xl.length xc) (.slice (some ⟨w2.heap.size, 0, none⟩) 1 1)
  exact ⟨⟨false, X, xc, xl, some ⟨w2.heap.size, 0, none⟩, 1, [1]⟩, rfl, ⟨(hX2.put3 kr2 _ _ _).alloc _, nat1_rd _ _ (by simp), mx, nm_one, by dsimp only; rw [HS.out, vd_one]; exact floor_q _ _ (fun h => by cases h)⟩, by dsimp only; omega, by simp, hbw.alloc hbw.size _⟩
set_option maxRecDepth 20000 in
set_option maxHeartbeats 1600000 in
theorem rfloor_tr (N D : Option Addr) (nc dc : Nat) (ns ds : List Nat) (q : Rat) (hrs : 0 < VD ns % VD ds) (w : World) (ha : RL.Ref w ⟨true, N, nc, ns, D, dc, ds⟩ q) (l1 : ns.length ≤ 10000) :
    Calls Tryz.prog 32 #[.agg #[.bool true, .slice N ns.length nc, .slice D ds.length dc]] w (RefP (mkRat (sgn true (rnd (VD ns) (VD ds) true)) 1) (ns.length + 2) 1 w) := by
  have HRS := Lib.hid hrs
  clear hrs
  go_enter Tryz.func32, Tryz.ntmps32
  go_wp2_with fail
  have hbox := boxes2 30 30 w (.bool true) (.slice N ns.length nc) (.slice D ds.length dc) (.bool false) (.slice none 0 0) (.slice none 0 0)
  obtain ⟨w1, hwe⟩ : ∃ x, (w.alloc (.cells #[.bool true, .slice N ns.length nc, .slice D ds.length dc] 30)).alloc (.cells #[.bool false, .slice none 0 0, .slice none 0 0] 30) = x := ⟨_, rfl⟩
  rw [hwe] at hbox ⊢
  obtain ⟨ka1, kr1, hb1⟩ := hbox
  have HWE := Lib.hid hwe
  clear hwe HWE
  have ha1 := ha.below hb1
  have hw1 := hb1
  clear ha hb1
  have hns := ha1.rn
  have hds := ha1.rd
  have mns := ha1.mn
  have mds := ha1.md
  have hdp := ha1.dpos
  have hq := ha1.q
  dsimp only at hns hds mns mds hdp hq
  have hns1 := hns
  have hds1 := hds
  clear hns hds
  have hvd := VD_pos mds hdp
  have hvn : 0 < VD ns := by rcases Nat.eq_zero_or_pos (VD ns) with h | h; (have := hq.zero h; cases this); exact h
  have HRP := Lib.hid (rnd_pos (d := VD ds) hvn)
  obtain ⟨a0, a1, a2, a3, a4, a5, a6⟩ := ka1.facts
  go_wp2_with fail
  refine (rdiv_any N D nc dc ns ds _ hns1 hds1 (by omega) mns mds hdp).mono ?_
  rintro e w2 ⟨X, xc, xl, Y, yc, yl, rfl, hX2, hY2, mx, my_, hdm, hlt, hb2⟩
  have ka2 := ka1.below hb2
  have kr2 := kr1.below hb2
  have hns2 := hns1.below hb2
  have hds2 := hds1.below hb2
  have hw2 := hw1.trans (hb2.mono hw1.size)
  clear ka1 kr1 hns1 hds1 hw1 hb2
  clear a0 a1 a2 a3 a4 a5 a6
  have HU := Lib.hid (div_uniq hdm.out hlt.out)
  obtain ⟨a0, a1, a2, a3, a4, a5, a6⟩ := ka2.facts
  have hxl : xl.length ≤ ns.length := nm_len_le mx mns (by rw [HU.out.1]; exact Nat.div_le_self _ _)
  have hyp : 0 < yl.length := len_of_VD (by rw [HU.out.2]; exact HRS.out)
  go_wp2_with fail
  refine (radd_any X (some ⟨_, 0, none⟩) xc 1 xl [1] _ (hX2.alloc _) (rd_nat1 _ 1) (by omega) (by simp) mx nm_one).mono ?_
  rintro e w3 ⟨V, vc, vl, rfl, hvc, hV3, hbv, hvv, mv, hvl⟩
  have hb3 : Below w2.heap.size w2 w3 := ((Below.refl _ _).alloc (Nat.le_refl _) _).trans (hbv.mono (by simp))
  clear hbv
  have ka3 := ka2.below hb3
  have kr3 := kr2.below hb3
  have hns3 := hns2.below hb3
  have hds3 := hds2.below hb3
  have hX3 := hX2.below hb3
  have hw3 := hw2.trans (hb3.mono hw2.size)
  clear ka2 kr2 hns2 hds2 hX2 hw2 hb3
  clear a0 a1 a2 a3 a4 a5 a6
  have HVV := Lib.hid hvv
  clear hvv
  obtain ⟨a0, a1, a2, a3, a4, a5, a6⟩ := ka3.facts
  have HS : Hid (VD vl = rnd (VD ns) (VD ds) true) := by show _ = _; rw [HVV.out, HU.out.1, vd_one]; simp [rnd, HRS.out]
  have hvp : 0 < vl.length := len_of_VD (by rw [HS.out]; exact HRP.out)
  obtain ⟨d0, d1, d2, d3, d4, d5, d6⟩ := ((kr3.put3_ (.bool true) (.slice V vl.length vc) (.slice (some ⟨w3.heap.size, 0, none⟩) 1 1)).alloc (.cells #[.int .i64 1] 3)).facts
  dsimp only [Go.Proofs.YtopppmlkddajjaaGreatDoor.put3] at d0 d1 d2
  clear d3 d4 d5 d6
  obtain ⟨c0, c1, c2, c3, c4, c5, c6⟩ := kr3.facts
  go_wp2_with fail
  refine bodyPost_ret (v := .agg #[.bool true, .slice V vl.length vc, .slice (some ⟨w3.heap.size, 0, none⟩) 1 1]) (by simp [results, Tryz.results32, go_sem, d0, d1, d2]) rfl ?_
  have hbw := below_put3 hw3 (show w.heap.size ≤ w.heap.size + 1 by omega) (.bool true) (.slice V vl.length vc) (.slice (some ⟨w3.heap.size, 0, none⟩) 1 1)
  exact ⟨⟨true, V, vc, vl, some ⟨w3.heap.size, 0, none⟩, 1, [1]⟩, rfl, ⟨(hV3.put3 kr3 _ _ _).alloc _, nat1_rd _ _ (by simp), mv, nm_one, by dsimp only; rw [HS.out, vd_one]; exact floor_q _ _ (fun _ => HRP.out)⟩, by dsimp only; simp at hvl; omega, by simp, hbw.alloc hbw.size _⟩
set_option maxRecDepth 20000 in
set_option maxHeartbeats 1600000 in
theorem rfloor_tz (N D : Option Addr) (nc dc : Nat) (ns ds : List Nat) (q : Rat) (hrs : VD ns % VD ds = 0) (w : World) (ha : RL.Ref w ⟨true, N, nc, ns, D, dc, ds⟩ q) (l1 : ns.length ≤ 10000) :
    Calls Tryz.prog 32 #[.agg #[.bool true, .slice N ns.length nc, .slice D ds.length dc]] w (RefP (mkRat (sgn true (rnd (VD ns) (VD ds) true)) 1) (ns.length + 2) 1 w) := by
  have HRS := Lib.hid hrs
  clear hrs
  go_enter Tryz.func32, Tryz.ntmps32
  go_wp2_with fail
  have hbox := boxes2 30 30 w (.bool true) (.slice N ns.length nc) (.slice D ds.length dc) (.bool false) (.slice none 0 0) (.slice none 0 0)
  obtain ⟨w1, hwe⟩ : ∃ x, (w.alloc (.cells #[.bool true, .slice N ns.length nc, .slice D ds.length dc] 30)).alloc (.cells #[.bool false, .slice none 0 0, .slice none 0 0] 30) = x := ⟨_, rfl⟩
  rw [hwe] at hbox ⊢
  obtain ⟨ka1, kr1, hb1⟩ := hbox
  have HWE := Lib.hid hwe
  clear hwe HWE
  have ha1 := ha.below hb1
  have hw1 := hb1
  clear ha hb1
  have hns := ha1.rn
  have hds := ha1.rd
  have mns := ha1.mn
  have mds := ha1.md
  have hdp := ha1.dpos
  have hq := ha1.q
  dsimp only at hns hds mns mds hdp hq
  have hns1 := hns
  have hds1 := hds
  clear hns hds
  have hvd := VD_pos mds hdp
  have hvn : 0 < VD ns := by rcases Nat.eq_zero_or_pos (VD ns) with h | h; (have := hq.zero h; cases this); exact h
  have HRP := Lib.hid (rnd_pos (d := VD ds) hvn)
  obtain ⟨a0, a1, a2, a3, a4, a5, a6⟩ := ka1.facts
  go_wp2_with fail
  refine (rdiv_any N D nc dc ns ds _ hns1 hds1 (by omega) mns mds hdp).mono ?_
  rintro e w2 ⟨X, xc, xl, Y, yc, yl, rfl, hX2, hY2, mx, my_, hdm, hlt, hb2⟩
  have ka2 := ka1.below hb2
  have kr2 := kr1.below hb2
  have hns2 := hns1.below hb2
  have hds2 := hds1.below hb2
  have hw2 := hw1.trans (hb2.mono hw1.size)
  clear ka1 kr1 hns1 hds1 hw1 hb2
  clear a0 a1 a2 a3 a4 a5 a6
  have HU := Lib.hid (div_uniq hdm.out hlt.out)
  obtain ⟨a0, a1, a2, a3, a4, a5, a6⟩ := ka2.facts
  have hxl : xl.length ≤ ns.length := nm_len_le mx mns (by rw [HU.out.1]; exact Nat.div_le_self _ _)
  have hyp : ¬ 0 < yl.length := fun h => by have h3 := VD_pos my_ h; rw [HU.out.2, HRS.out] at h3; omega
  have HS : Hid (VD xl = rnd (VD ns) (VD ds) true) := by show _ = _; rw [HU.out.1]; simp [rnd, HRS.out]
  have hvp : 0 < xl.length := len_of_VD (by rw [HS.out]; exact HRP.out)
  obtain ⟨d0, d1, d2, d3, d4, d5, d6⟩ := ((kr2.put3_ (.bool true) (.slice X xl.length xc) (.slice (some ⟨w2.heap.size, 0, none⟩) 1 1)).alloc (.cells #[.int .i64 1] 3)).facts
  dsimp only [Go.Proofs.YtopppmlkddajjaaGreatDoor.put3] at d0 d1 d2
  clear d3 d4 d5 d6
  obtain ⟨c0, c1, c2, c3, c4, c5, c6⟩ := kr2.facts
  go_wp2_with fail
  refine bodyPost_ret (v := .agg #[.bool true, .slice X xl.length xc, .slice (some ⟨w2.heap.size, 0, none⟩) 1 1]) (by simp [results, Tryz.results32, go_sem, d0, d1, d2]) rfl ?_
  have hbw := below_put3 hw2 (show w.heap.size ≤ w.heap.size + 1 by omega) (.bool true) (.slice X xl.length xc) (.slice (some ⟨w2.heap.size, 0, none⟩) 1 1)
  exact ⟨⟨true, X, xc, xl, some ⟨w2.heap.size, 0, none⟩, 1, [1]⟩, rfl, ⟨(hX2.put3 kr2 _ _ _).alloc _, nat1_rd _ _ (by simp), mx, nm_one, by dsimp only; rw [HS.out, vd_one]; exact floor_q _ _ (fun _ => HRP.out)⟩, by dsimp only; omega, by simp, hbw.alloc hbw.size _⟩
theorem rfloor (a : RL) (q : Rat) (w : World) (ha : a.Ref w q) (l1 : a.ns.length ≤ 10000) :
    Calls Tryz.prog 32 #[.agg #[.bool a.s, .slice a.N a.ns.length a.nc, .slice a.D a.ds.length a.dc]] w (RefP (mkRat (sgn a.s (rnd (VD a.ns) (VD a.ds) a.s)) 1) (a.ns.length + 2) 1 w) := by
  obtain ⟨s, N, nc, ns, D, dc, ds⟩ := a
  cases s
  · exact rfloor_fz N D nc dc ns ds q w ha l1
  · rcases Nat.eq_zero_or_pos (VD ns % VD ds) with h | h
    · exact rfloor_tz N D nc dc ns ds q h w ha l1
    · exact rfloor_tr N D nc dc ns ds q h w ha l1
set_option maxRecDepth 20000 in
set_option maxHeartbeats 1600000 in
theorem rneg_fz (N D : Option Addr) (nc dc : Nat) (ns ds : List Nat) (q : Rat) (hz : ns.length = 0) (w : World) (ha : RL.Ref w ⟨false, N, nc, ns, D, dc, ds⟩ q) :
    Calls Tryz.prog 21 #[.agg #[.bool false, .slice N ns.length nc, .slice D ds.length dc]] w (RefP (-q) ns.length ds.length w) := by
  have hq := neg_q ha.q
  dsimp only at hq
  have hv0 : VD ns = 0 := by rw [List.eq_nil_of_length_eq_zero hz]; simp [VD, val]
  have HQ : Hid (QOf false (VD ns) (VD ds) (-q)) := Lib.hid (by rw [hv0] at hq ⊢; simpa using hq)
  have hzi : ((ns.length : Int) == 0) = true := by simp [hz]
  clear hz hv0 hq
  go_enter Tryz.func21, Tryz.ntmps21
  go_wp2
  exact bodyPost_ret (v := .agg #[.bool false, .slice N ns.length nc, .slice D ds.length dc]) (by simp [results, Tryz.results21, go_sem]) rfl ⟨⟨false, N, nc, ns, D, dc, ds⟩, rfl, ⟨(ha.rn.alloc _).alloc _, (ha.rd.alloc _).alloc _, ha.mn, ha.md, HQ.out⟩, Nat.le_refl _, Nat.le_refl _, ((Below.refl _ _).alloc (Nat.le_refl _) _).alloc (by simp) _⟩
set_option maxRecDepth 20000 in
set_option maxHeartbeats 1600000 in
theorem rneg_fp (N D : Option Addr) (nc dc : Nat) (ns ds : List Nat) (q : Rat) (hz : 0 < ns.length) (w : World) (ha : RL.Ref w ⟨false, N, nc, ns, D, dc, ds⟩ q) :
    Calls Tryz.prog 21 #[.agg #[.bool false, .slice N ns.length nc, .slice D ds.length dc]] w (RefP (-q) ns.length ds.length w) := by
  have hq := neg_q ha.q
  dsimp only at hq
  have hv0 : 0 < VD ns := VD_pos ha.mn hz
  have HQ : Hid (QOf true (VD ns) (VD ds) (-q)) := Lib.hid (by rw [decide_eq_true hv0] at hq; simpa using hq)
  have hzi : ((ns.length : Int) == 0) = false := beq_eq_false_iff_ne.2 (by omega)
  clear hq
  go_enter Tryz.func21, Tryz.ntmps21
  go_wp2
  exact bodyPost_ret (v := .agg #[.bool true, .slice N ns.length nc, .slice D ds.length dc]) (by simp [results, Tryz.results21, go_sem]) rfl ⟨⟨true, N, nc, ns, D, dc, ds⟩, rfl, ⟨(ha.rn.alloc _).alloc _, (ha.rd.alloc _).alloc _, ha.mn, ha.md, HQ.out⟩, Nat.le_refl _, Nat.le_refl _, ((Below.refl _ _).alloc (Nat.le_refl _) _).alloc (by simp) _⟩
set_option maxRecDepth 20000 in
set_option maxHeartbeats 1600000 in
theorem rneg_tp (N D : Option Addr) (nc dc : Nat) (ns ds : List Nat) (q : Rat) (hz : 0 < ns.length) (w : World) (ha : RL.Ref w ⟨true, N, nc, ns, D, dc, ds⟩ q) :
    Calls Tryz.prog 21 #[.agg #[.bool true, .slice N ns.length nc, .slice D ds.length dc]] w (RefP (-q) ns.length ds.length w) := by
  have hq := neg_q ha.q
  dsimp only at hq
  have hv0 : 0 < VD ns := VD_pos ha.mn hz
  have HQ : Hid (QOf false (VD ns) (VD ds) (-q)) := Lib.hid (by rw [decide_eq_true hv0] at hq; simpa using hq)
  have hzi : ((ns.length : Int) == 0) = false := beq_eq_false_iff_ne.2 (by omega)
  clear hq
  go_enter Tryz.func21, Tryz.ntmps21
  go_wp2
  exact bodyPost_ret (v := .agg #[.bool false, .slice N ns.length nc, .slice D ds.length dc]) (by simp [results, Tryz.results21, go_sem]) rfl ⟨⟨false, N, nc, ns, D, dc, ds⟩, rfl, ⟨(ha.rn.alloc _).alloc _, (ha.rd.alloc _).alloc _, ha.mn, ha.md, HQ.out⟩, Nat.le_refl _, Nat.le_refl _, ((Below.refl _ _).alloc (Nat.le_refl _) _).alloc (by simp) _⟩
theorem rneg (a : RL) (q : Rat) (w : World) (ha : a.Ref w q) :
    Calls Tryz.prog 21 #[.agg #[.bool a.s, .slice a.N a.ns.length a.nc, .slice a.D a.ds.length a.dc]] w (RefP (-q) a.ns.length a.ds.length w) := by
  obtain ⟨s, N, nc, ns, D, dc, ds⟩ := a
  rcases Nat.eq_zero_or_pos ns.length with h | h
  · have hs : s = false := ha.q.zero (by dsimp only; rw [List.eq_nil_of_length_eq_zero h]; simp [VD, val])
    subst hs
    exact rneg_fz N D nc dc ns ds q h w ha
  · cases s
    · exact rneg_fp N D nc dc ns ds q h w ha
    · exact rneg_tp N D nc dc ns ds q h w ha
end Go.Proofs.YtopppmlkddajjaaGreatDoor


/- isochroneref02.Valid. -/
namespace Go.Proofs.YtopppmlkddajjaaGreatDoor
open Go.RowKit V

set_option maxHeartbeats 400000 in
theorem rqvalid_no1 (s : Bool) (N D : Option Addr) (nc dc : Nat) (ns ds : List Nat) (w : World) (rn : Rd .u32 w N ns) (h : ¬ Ok ns) :
    Calls Tryz.prog 31 #[.agg #[.bool s, .slice N ns.length nc, .slice D ds.length dc]] w (Gives (.bool false) w) := by
  have hb : Below w.heap.size w (w.alloc (.cells #[.bool s, .slice N ns.length nc, .slice D ds.length dc] 24)) := (Below.refl _ _).alloc (Nat.le_refl _) _
  go_enter Tryz.func31, Tryz.ntmps31
  go_wp2_with fail
  refine (rvalid_no N nc ns _ (rn.below hb) h).mono ?_
  rintro e w1 ⟨rfl, rfl⟩
  go_wp2
  go_ret
  exact ⟨rfl, hb⟩
set_option maxHeartbeats 400000 in
theorem rqvalid_no2 (s : Bool) (N D : Option Addr) (nc dc : Nat) (ns ds : List Nat) (w : World) (rn : Rd .u32 w N ns) (rd : Rd .u32 w D ds) (h1 : Ok ns) (h : ¬ Ok ds) :
    Calls Tryz.prog 31 #[.agg #[.bool s, .slice N ns.length nc, .slice D ds.length dc]] w (Gives (.bool false) w) := by
  have hb : Below w.heap.size w (w.alloc (.cells #[.bool s, .slice N ns.length nc, .slice D ds.length dc] 24)) := (Below.refl _ _).alloc (Nat.le_refl _) _
  go_enter Tryz.func31, Tryz.ntmps31
  go_wp2_with fail
  refine (rvalid_yes N nc ns _ (rn.below hb) h1).mono ?_
  rintro e w1 ⟨rfl, rfl⟩
  go_wp2_with fail
  refine (rvalid_no D dc ds _ (rd.below hb) h).mono ?_
  rintro e w1 ⟨rfl, rfl⟩
  go_wp2
  go_ret
  exact ⟨rfl, hb⟩
set_option maxHeartbeats 400000 in
theorem rqvalid_no3 (s : Bool) (N D : Option Addr) (nc dc : Nat) (ns : List Nat) (w : World) (rn : Rd .u32 w N ns) (rd : Rd .u32 w D []) (h1 : Ok ns) :
    Calls Tryz.prog 31 #[.agg #[.bool s, .slice N ns.length nc, .slice D ([] : List Nat).length dc]] w (Gives (.bool false) w) := by
  have h2 : Ok ([] : List Nat) := ⟨by simp, nrm_nil⟩
  have hb : Below w.heap.size w (w.alloc (.cells #[.bool s, .slice N ns.length nc, .slice D ([] : List Nat).length dc] 24)) := (Below.refl _ _).alloc (Nat.le_refl _) _
  go_enter Tryz.func31, Tryz.ntmps31
  go_wp2_with fail
  refine (rvalid_yes N nc ns _ (rn.below hb) h1).mono ?_
  rintro e w1 ⟨rfl, rfl⟩
  go_wp2_with fail
  refine (rvalid_yes D dc [] _ (rd.below hb) h2).mono ?_
  rintro e w1 ⟨rfl, rfl⟩
  go_wp2
  go_ret
  exact ⟨rfl, hb⟩
set_option maxHeartbeats 1600000 in
theorem rqvalid_zero (s : Bool) (N D : Option Addr) (nc dc : Nat) (ds : List Nat) (w : World) (rn : Rd .u32 w N []) (rd : Rd .u32 w D ds) (h2 : Ok ds) (dd : Dig 4294967296 ds) (hpos : 0 < ds.length) (v : Bool) (hv : v = true ↔ (s = false ∧ V32 ds = 1)) :
    Calls Tryz.prog 31 #[.agg #[.bool s, .slice N ([] : List Nat).length nc, .slice D ds.length dc]] w (Gives (.bool v) w) := by
  have h1 : Ok ([] : List Nat) := ⟨by simp, nrm_nil⟩
  have hb : Below w.heap.size w (w.alloc (.cells #[.bool s, .slice N ([] : List Nat).length nc, .slice D ds.length dc] 24)) := (Below.refl _ _).alloc (Nat.le_refl _) _
  have md : Mag ds := ⟨dd, h2.2⟩
  have hne : ((ds.length : Int) == 0) = false := beq_eq_false_iff_ne.2 (by omega)
  have V1 := Lib.hid (rvalid_yes N nc [] _ (rn.below hb) h1)
  have V2 := Lib.hid (rvalid_yes D dc ds _ (rd.below hb) h2)
  cases s
  · by_cases hl : ds.length = 1
    · obtain ⟨ad, x, rfl, hbl, ex, hc⟩ := (rd.below hb).ask (i := 0) (by omega)
      rw [add_zero_] at hc
      simp only [List.length_nil] at hc
      have hvx : V32 ds = x := by rw [one_of_len hl, ex.out]; unfold V32; simp [val]
      have hq : Hid (((x : Int) == 1) = v) := by
        show _ = _
        rw [Bool.eq_iff_iff, hv, hvx, beq_iff_eq]
        constructor
        · intro h; exact ⟨rfl, by omega⟩
        · intro h; omega
      have hl1 : ((ds.length : Int) == 1) = true := by simp [hl]
      have HL := Lib.hid hl
      clear hl hv hvx
      obtain ⟨p, hp⟩ : ∃ p, ((x : Int) == 1) = p := ⟨_, rfl⟩
      rw [hp] at hq
      cases p
      all_goals
        go_enter Tryz.func31, Tryz.ntmps31
        go_wp2_with fail
        refine V1.out.mono ?_
        rintro e w1 ⟨rfl, rfl⟩
        go_wp2_with fail
        refine V2.out.mono ?_
        rintro e w1 ⟨rfl, rfl⟩
        go_wp2_with (go_quiet (fail))
        go_ret
        first
          | exact ⟨ret_bool hq.out, hb⟩
          | exact ⟨ret_bool hq.out, below_drew_ hb _⟩
          | exact ⟨ret_bool hq.out, hb.drew⟩
    · have hvf : Hid (false = v) := by
        show _ = _
        cases v with
        | false => rfl
        | true =>
          exfalso
          have h3 := (hv.1 rfl).2
          have h4 := val_ge (B := 4294967296) md.2 (by omega)
          have h5 : 4294967296 ^ 1 ≤ 4294967296 ^ (ds.length - 1) := Nat.pow_le_pow_right (by omega) (by omega)
          unfold V32 at h3; omega
      have hl1 : ((ds.length : Int) == 1) = false := beq_eq_false_iff_ne.2 (by omega)
      clear hv
      go_enter Tryz.func31, Tryz.ntmps31
      go_wp2_with fail
      refine V1.out.mono ?_
      rintro e w1 ⟨rfl, rfl⟩
      go_wp2_with fail
      refine V2.out.mono ?_
      rintro e w1 ⟨rfl, rfl⟩
      go_wp2_with (go_quiet (fail))
      go_ret
      exact ⟨ret_bool hvf.out, hb⟩
  · have hvf : Hid (false = v) := by
      show _ = _
      cases v with
      | false => rfl
      | true => have := (hv.1 rfl).1; cases this
    clear hv
    go_enter Tryz.func31, Tryz.ntmps31
    go_wp2_with fail
    refine V1.out.mono ?_
    rintro e w1 ⟨rfl, rfl⟩
    go_wp2_with fail
    refine V2.out.mono ?_
    rintro e w1 ⟨rfl, rfl⟩
    go_wp2_with (go_quiet (fail))
    go_ret
    exact ⟨ret_bool hvf.out, hb⟩

theorem below_of_says {w w' : World} {n : Nat} (h : w' = w.drewN n) : Below w.heap.size w w' := by rw [h]; exact below_drew_ (Below.refl _ _) n
theorem cmp_one {g : Nat} : ((cmpOf (g : Int) ((VD [1] : Nat) : Int) == 0) = true) ↔ g = 1 := by
  have e : ((VD [1] : Nat) : Int) = 1 := by simp [VD, val]
  rw [e, beq_iff_eq]
  unfold cmpOf
  split
  · constructor <;> intro h <;> omega
  · split
    · constructor <;> intro h <;> omega
    · constructor <;> intro h <;> omega

set_option maxRecDepth 100000 in
set_option maxHeartbeats 1600000 in
theorem rqvalid_gcd (s : Bool) (N D : Option Addr) (nc dc : Nat) (ns ds : List Nat) (w : World) (rn : Rd .u32 w N ns) (rd : Rd .u32 w D ds) (h1 : Ok ns) (h2 : Ok ds) (dn : Dig 4294967296 ns) (dd : Dig 4294967296 ds) (hpos : 0 < ds.length) (hn : 0 < ns.length) (v : Bool) (hv : v = true ↔ Nat.gcd (V32 ns) (V32 ds) = 1) :
    Calls Tryz.prog 31 #[.agg #[.bool s, .slice N ns.length nc, .slice D ds.length dc]] w (Gives (.bool v) w) := by
  have hb : Below w.heap.size w (w.alloc (.cells #[.bool s, .slice N ns.length nc, .slice D ds.length dc] 24)) := (Below.refl _ _).alloc (Nat.le_refl _) _
  have hk := Blk3.new w (.bool s) (.slice N ns.length nc) (.slice D ds.length dc)
  have HV := Lib.hid hv
  have hne : ((ds.length : Int) == 0) = false := beq_eq_false_iff_ne.2 (by omega)
  have hne2 : ((ns.length : Int) == 0) = false := beq_eq_false_iff_ne.2 (by omega)
  have l1 := h1.1
  have l2 := h2.1
  clear hv
  go_enter Tryz.func31, Tryz.ntmps31
  go_wp2_with fail
  obtain ⟨w1, hwe⟩ : ∃ x, w.alloc (.cells #[.bool s, .slice N ns.length nc, .slice D ds.length dc] 24) = x := ⟨_, rfl⟩
  rw [hwe] at hb hk ⊢
  have ka1 := hk
  have hb1 := hb
  clear hwe hk hb
  have rn1 := rn.below hb1
  have rd1 := rd.below hb1
  have hw1 := hb1
  clear rn rd hb1
  refine (rvalid_yes N nc ns _ rn1 h1).mono ?_
  rintro e w' ⟨rfl, rfl⟩
  obtain ⟨a0, a1, a2, a3, a4, a5, a6⟩ := ka1.facts
  go_wp2_with fail
  refine (rvalid_yes D dc ds _ rd1 h2).mono ?_
  rintro e w' ⟨rfl, rfl⟩
  go_upto_region 5 with fail
  go_region_held3 (fun w' => w'.cell? ⟨w.heap.size, 1, none⟩ = some (.slice N ns.length nc) ∧ w'.cell? ⟨w.heap.size, 2, none⟩ = some (.slice D ds.length dc)) (first | exact ⟨‹_›, ‹_›⟩ | go_keep)
    (first
    | (go_at_call_of 39 (Value.slice N ns.length nc)
       refine (of_any N nc ns _ (by first | exact rn1 | exact rn1.drew | exact rn1.alloc _ | exact (rn1.alloc _).drew | exact rn1.drew.alloc _) (by omega) dn).mono ?_
       rintro e wx_ ⟨X, xc, xs, rfl, hxc, hX, hbx, hvx, mx_, hxl⟩
       have HVX := Lib.hid hvx
       clear hvx
       have hbp0 : Below w1.heap.size w1 wx_ := by first | exact hbx | exact below_of_drew hbx (Nat.le_refl _) | exact ((Below.refl _ _).alloc (Nat.le_refl _) _).trans (hbx.mono (by simp)) | exact ((Below.refl _ _).alloc (Nat.le_refl _) _).trans ((below_of_drew hbx (Nat.le_refl _)).mono (by simp)) | exact below_of_drew (((Below.refl _ _).alloc (Nat.le_refl _) _).trans (hbx.mono (by simp))) (Nat.le_refl _)
       first | (have hL := hL.below hbp0) | (have hL := (rd_nat1 w1 1).below hbx) | (have hL := (rd_nat1 w1 1).drew.below hbx) | (have hL := (rd_nat1 w1.drew 1).below hbx) | skip
       have rn_0 := rn1.below hbp0
       have rd_0 := rd1.below hbp0
       have ka_0 := ka1.below hbp0
       obtain ⟨ka0wx_, ka1wx_, ka2wx_, ka3wx_, ka4wx_, ka5wx_, ka6wx_⟩ := ka_0.facts
       have hwq0 := hw1.trans (hbp0.mono hw1.size))
    | (go_at_call_of 39 (Value.slice D ds.length dc)
       refine (of_any D dc ds _ (by first | exact rd_0 | exact rd_0.drew | exact rd_0.alloc _ | exact (rd_0.alloc _).drew | exact rd_0.drew.alloc _) (by omega) dd).mono ?_
       rintro e wy_ ⟨Y, yc, ys, rfl, hyc, hY, hby, hvy, my_, hyl⟩
       have HVY := Lib.hid hvy
       clear hvy
       have hbp1 : Below wx_.heap.size wx_ wy_ := by first | exact hby | exact below_of_drew hby (Nat.le_refl _) | exact ((Below.refl _ _).alloc (Nat.le_refl _) _).trans (hby.mono (by simp)) | exact ((Below.refl _ _).alloc (Nat.le_refl _) _).trans ((below_of_drew hby (Nat.le_refl _)).mono (by simp)) | exact below_of_drew (((Below.refl _ _).alloc (Nat.le_refl _) _).trans (hby.mono (by simp))) (Nat.le_refl _)
       first | (have hL := hL.below hbp1) | (have hL := (rd_nat1 wx_ 1).below hby) | (have hL := (rd_nat1 wx_ 1).drew.below hby) | (have hL := (rd_nat1 wx_.drew 1).below hby) | skip
       have rn_1 := rn_0.below hbp1
       have rd_1 := rd_0.below hbp1
       have hX_1 := hX.below hbp1
       have ka_1 := ka_0.below hbp1
       obtain ⟨ka0wy_, ka1wy_, ka2wy_, ka3wy_, ka4wy_, ka5wy_, ka6wy_⟩ := ka_1.facts
       have hwq1 := hwq0.trans (hbp1.mono hwq0.size))
    | (go_at_call 60
       refine (rgcd_any X Y xc yc xs ys _ (by first | exact hX_1 | exact hX_1.drew | exact hX_1.alloc _ | exact (hX_1.alloc _).drew | exact hX_1.drew.alloc _) (by first | exact hY | exact hY.drew | exact hY.alloc _ | exact (hY.alloc _).drew | exact hY.drew.alloc _) (by omega) (by omega) mx_ my_).mono ?_
       rintro e wg_ ⟨G, gc, gl, rfl, hG, hng, hlg, hvg, hbg⟩
       obtain ⟨c, hcc, hcv⟩ : ∃ c : Int, Hid (cmpOf (VD gl) (VD [1]) = c) ∧ Hid ((c == 0) = v) := ⟨_, Lib.hid rfl, by show _ = _; rw [Bool.eq_iff_iff, HV.out, cmp_one, hvg.out, HVX.out, HVY.out]⟩
       have hbp2 : Below wy_.heap.size wy_ wg_ := by first | exact hbg | exact below_of_drew hbg (Nat.le_refl _) | exact ((Below.refl _ _).alloc (Nat.le_refl _) _).trans (hbg.mono (by simp)) | exact ((Below.refl _ _).alloc (Nat.le_refl _) _).trans ((below_of_drew hbg (Nat.le_refl _)).mono (by simp)) | exact below_of_drew (((Below.refl _ _).alloc (Nat.le_refl _) _).trans (hbg.mono (by simp))) (Nat.le_refl _)
       first | (have hL := hL.below hbp2) | (have hL := (rd_nat1 wy_ 1).below hbg) | (have hL := (rd_nat1 wy_ 1).drew.below hbg) | (have hL := (rd_nat1 wy_.drew 1).below hbg) | skip
       have rn_2 := rn_1.below hbp2
       have rd_2 := rd_1.below hbp2
       have hX_2 := hX_1.below hbp2
       have hY_2 := hY.below hbp2
       have ka_2 := ka_1.below hbp2
       obtain ⟨ka0wg_, ka1wg_, ka2wg_, ka3wg_, ka4wg_, ka5wg_, ka6wg_⟩ := ka_2.facts
       have hwq2 := hwq1.trans (hbp2.mono hwq1.size))
    | (go_at_call 53
       refine (rcmp_any G (some ⟨_, 0, none⟩) gc 1 gl [1] _ (by first | exact hG | exact hG.drew | exact hG.alloc _ | exact (hG.alloc _).drew | exact hG.drew.alloc _) (by first | exact hL | exact hL.drew | exact (rd_nat1 _ 1) | exact (rd_nat1 _ 1).drew | exact hL.alloc _ | exact (rd_nat1 _ 1).alloc _) (by omega) hng nm_one).mono ?_
       rintro e wc_ ⟨he, n4, hwe⟩
       rw [hcc.out] at he
       subst he
       have hbc := below_of_says hwe
       clear hwe
       have hbp3 : Below wg_.heap.size wg_ wc_ := by first | exact hbc | exact below_of_drew hbc (Nat.le_refl _) | exact ((Below.refl _ _).alloc (Nat.le_refl _) _).trans (hbc.mono (by simp)) | exact ((Below.refl _ _).alloc (Nat.le_refl _) _).trans ((below_of_drew hbc (Nat.le_refl _)).mono (by simp)) | exact below_of_drew (((Below.refl _ _).alloc (Nat.le_refl _) _).trans (hbc.mono (by simp))) (Nat.le_refl _)
       first | (have hL := hL.below hbp3) | (have hL := (rd_nat1 wg_ 1).below hbc) | (have hL := (rd_nat1 wg_ 1).drew.below hbc) | (have hL := (rd_nat1 wg_.drew 1).below hbc) | skip
       have rn_3 := rn_2.below hbp3
       have rd_3 := rd_2.below hbp3
       have hX_3 := hX_2.below hbp3
       have hY_3 := hY_2.below hbp3
       have hG_3 := hG.below hbp3
       have ka_3 := ka_2.below hbp3
       obtain ⟨ka0wc_, ka1wc_, ka2wc_, ka3wc_, ka4wc_, ka5wc_, ka6wc_⟩ := ka_3.facts
       have hwq3 := hwq2.trans (hbp3.mono hwq2.size)))
  all_goals
    go_wp2_with fail
    go_ret
    exact ⟨ret_bool (by first | exact hcv.out | exact hpv.out | (rw [hp]; exact hpv.out)), hwq3⟩

theorem rqvalid (s : Bool) (N D : Option Addr) (nc dc : Nat) (ns ds : List Nat) (w : World) (rn : Rd .u32 w N ns) (rd : Rd .u32 w D ds) (dn : Dig 4294967296 ns) (dd : Dig 4294967296 ds) (v : Bool) (hv : v = true ↔ RVal s ns ds) :
    Calls Tryz.prog 31 #[.agg #[.bool s, .slice N ns.length nc, .slice D ds.length dc]] w (Gives (.bool v) w) := by
  have hf : ¬ RVal s ns ds → v = false := fun h => by cases v with
    | false => rfl
    | true => exact absurd (hv.1 rfl) h
  by_cases h1 : Ok ns
  · by_cases h2 : Ok ds
    · rcases Nat.eq_zero_or_pos ds.length with h0 | hpos
      · rw [hf fun h => by have := h.2.2.1; omega]
        obtain rfl : ds = [] := List.eq_nil_of_length_eq_zero h0
        exact rqvalid_no3 s N D nc dc ns w rn rd h1
      · rcases Nat.eq_zero_or_pos ns.length with h3 | h3
        · obtain rfl : ns = [] := List.eq_nil_of_length_eq_zero h3
          refine rqvalid_zero s N D nc dc ds w rn rd h2 dd hpos v (hv.trans ⟨fun h => ⟨?_, ?_⟩, fun h => ⟨h1, h2, hpos, ?_, ?_⟩⟩)
          · cases s with
            | false => rfl
            | true => have := h.2.2.2.1 rfl; simp at this
          · have := h.2.2.2.2; simpa [V32, val] using this
          · intro hs; rw [h.1] at hs; cases hs
          · have := h.2; simpa [V32, val] using this
        · exact rqvalid_gcd s N D nc dc ns ds w rn rd h1 h2 dn dd hpos h3 v (hv.trans ⟨fun h => h.2.2.2.2, fun h => ⟨h1, h2, hpos, fun _ => h3, h⟩⟩)
    · rw [hf fun h => h2 h.2.1]; exact rqvalid_no2 s N D nc dc ns ds w rn rd h1 h2
  · rw [hf fun h => h1 h.1]; exact rqvalid_no1 s N D nc dc ns ds w rn h1
end Go.Proofs.YtopppmlkddajjaaGreatDoor


/- The document's Valid of numbers as they come in; isochronelaw02.small. -/
namespace Go.Proofs.YtopppmlkddajjaaGreatDoor
open Go.RowKit V

theorem rqvalid_raw (a : RL) (w : World) (h : a.Raw w) (v : Bool) (hv : v = true ↔ a.Val) :
    Calls Tryz.prog 31 #[.agg #[.bool a.s, .slice a.N a.ns.length a.nc, .slice a.D a.ds.length a.dc]] w (Gives (.bool v) w) := rqvalid a.s a.N a.D a.nc a.dc a.ns a.ds w h.rn h.rd h.dn h.dd v hv
theorem rqvalid_rawyes (a : RL) (w : World) (h : a.Raw w) (hv : a.Val) :
    Calls Tryz.prog 31 #[.agg #[.bool a.s, .slice a.N a.ns.length a.nc, .slice a.D a.ds.length a.dc]] w (Gives (.bool true) w) := rqvalid_raw a w h true ⟨fun _ => hv, fun _ => rfl⟩
theorem RL.Ref.drew {w : World} {a : RL} {q : Rat} (h : a.Ref w q) : a.Ref w.drew q := ⟨h.rn.drew, h.rd.drew, h.mn, h.md, h.q⟩
theorem RL.Ref.alloc {w : World} {a : RL} {q : Rat} (h : a.Ref w q) (o : Obj) : a.Ref (w.alloc o) q := ⟨h.rn.alloc _, h.rd.alloc _, h.mn, h.md, h.q⟩
end Go.Proofs.YtopppmlkddajjaaGreatDoor

