/- isochroneref02: Floor, Neg. -/
import Derived.Test.YtdonbgjmcbhecaaGreatDoorRMR18
namespace Go.Proofs.YtdonbgjmcbhecaaGreatDoor
open Go.RowKit V

theorem nm_len_le {xs ys : List Nat} (h : Nm ys) (h2 : Nm xs) (hv : VD ys ≤ VD xs) : ys.length ≤ xs.length :=
  len_of_lt (B := 10000) (by omega) h.2 (Nat.lt_of_le_of_lt hv (val_lt _ _ h2.1))
theorem floor_q (s : Bool) (m : Nat) (h : s = true → 0 < m) : QOf s m 1 (mkRat (sgn s m) 1) :=
  QOf.mk_ (by omega) (Nat.gcd_one_right _) (fun h0 => by cases s with | false => rfl | true => have := h rfl; omega)
theorem rnd_pos {n d : Nat} (hn : 0 < n) : 0 < rnd n d true := by
  unfold rnd
  rcases Nat.eq_zero_or_pos (n % d) with h | h
  · have h1 := Nat.div_add_mod n d
    rw [h] at h1
    rcases Nat.eq_zero_or_pos (n / d) with h2 | h2
    · rw [h2] at h1; omega
    · omega
  · simp [h]
theorem vd_one : VD [1] = 1 := by simp [VD, val]
set_option maxRecDepth 20000 in
set_option maxHeartbeats 1600000 in
theorem rfloor_fz (N D : Option Addr) (nc dc : Nat) (ns ds : List Nat) (q : Rat) (w : World) (ha : RL.Ref w ⟨false, N, nc, ns, D, dc, ds⟩ q) (l1 : ns.length ≤ 10000) :
    Calls Tryz.prog 42 #[.agg #[.bool false, .slice N ns.length nc, .slice D ds.length dc]] w (RefP (mkRat (sgn false (rnd (VD ns) (VD ds) false)) 1) (ns.length + 2) 1 w) := by
  go_enter Tryz.func42, Tryz.ntmps42
  go_wp2_with fail
  have hbox := boxes2 30 30 w (.bool false) (.slice N ns.length nc) (.slice D ds.length dc) (.bool false) (.slice none 0 0) (.slice none 0 0)
  obtain ⟨w1, hwe⟩ : ∃ x, (w.alloc (.cells #[.bool false, .slice N ns.length nc, .slice D ds.length dc] 30)).alloc (.cells #[.bool false, .slice none 0 0, .slice none 0 0] 30) = x := ⟨_, rfl⟩
  rw [hwe] at hbox ⊢
  obtain ⟨ka1, kr1, hb1⟩ := hbox
  have HWE := Lib.hid hwe
  clear hwe HWE
  have ha1 := ha.below hb1
  have hw1 := hb1
  clear ha hb1
  have hns := ha1.rn
  have hds := ha1.rd
  have mns := ha1.mn
  have mds := ha1.md
  have hdp := ha1.dpos
  have hq := ha1.q
  dsimp only at hns hds mns mds hdp hq
  have hns1 := hns
  have hds1 := hds
  clear hns hds
  have hvd := VD_pos mds hdp
  obtain ⟨a0, a1, a2, a3, a4, a5, a6⟩ := ka1.facts
  go_wp2_with fail
  refine (rdiv_any N D nc dc ns ds _ hns1 hds1 (by omega) mns mds hdp).mono ?_
  rintro e w2 ⟨X, xc, xl, Y, yc, yl, rfl, hX2, hY2, mx, my_, hdm, hlt, hb2⟩
  have ka2 := ka1.below hb2
  have kr2 := kr1.below hb2
  have hns2 := hns1.below hb2
  have hds2 := hds1.below hb2
  have hw2 := hw1.trans (hb2.mono hw1.size)
  clear ka1 kr1 hns1 hds1 hw1 hb2
  clear a0 a1 a2 a3 a4 a5 a6
  have HU := Lib.hid (div_uniq hdm.out hlt.out)
  obtain ⟨a0, a1, a2, a3, a4, a5, a6⟩ := ka2.facts
  have hxl : xl.length ≤ ns.length := nm_len_le mx mns (by rw [HU.out.1]; exact Nat.div_le_self _ _)
  have HS : Hid (VD xl = rnd (VD ns) (VD ds) false) := by show _ = _; rw [HU.out.1]; simp [rnd]
  obtain ⟨d0, d1, d2, d3, d4, d5, d6⟩ := ((kr2.put3_ (.bool false) (.slice X xl.length xc) (.slice (some ⟨w2.heap.size, 0, none⟩) 1 1)).alloc (.cells #[.int .i64 1] 3)).facts
  dsimp only [Go.Proofs.YtdonbgjmcbhecaaGreatDoor.put3] at d0 d1 d2
  clear d3 d4 d5 d6
  obtain ⟨c0, c1, c2, c3, c4, c5, c6⟩ := kr2.facts
  go_wp2_with fail
  refine bodyPost_ret (v := .agg #[.bool false, .slice X xl.length xc, .slice (some ⟨w2.heap.size, 0, none⟩) 1 1]) (by simp [results, Tryz.results42, go_sem, d0, d1, d2]) rfl ?_
  have hbw := below_put3 hw2 (show w.heap.size ≤ w.heap.size + 1 by omega) (.bool false) (.slice X xl.length xc) (.slice (some ⟨w2.heap.size, 0, none⟩) 1 1)
  exact ⟨⟨false, X, xc, xl, some ⟨w2.heap.size, 0, none⟩, 1, [1]⟩, rfl, ⟨(hX2.put3 kr2 _ _ _).alloc _, nat1_rd _ _ (by simp), mx, nm_one, by dsimp only; rw [HS.out, vd_one]; exact floor_q _ _ (fun h => by cases h)⟩, by dsimp only; omega, by simp, hbw.alloc hbw.size _⟩
set_option maxRecDepth 20000 in
set_option maxHeartbeats 1600000 in
theorem rfloor_tr (N D : Option Addr) (nc dc : Nat) (ns ds : List Nat) (q : Rat) (hrs : 0 < VD ns % VD ds) (w : World) (ha : RL.Ref w ⟨true, N, nc, ns, D, dc, ds⟩ q) (l1 : ns.length ≤ 10000) :
    Calls Tryz.prog 42 #[.agg #[.bool true, .slice N ns.length nc, .slice D ds.length dc]] w (RefP (mkRat (sgn true (rnd (VD ns) (VD ds) true)) 1) (ns.length + 2) 1 w) := by
  have HRS := Lib.hid hrs
  clear hrs
  go_enter Tryz.func42, Tryz.ntmps42
  go_wp2_with fail
  have hbox := boxes2 30 30 w (.bool true) (.slice N ns.length nc) (.slice D ds.length dc) (.bool false) (.slice none 0 0) (.slice none 0 0)
  obtain ⟨w1, hwe⟩ : ∃ x, (w.alloc (.cells #[.bool true, .slice N ns.length nc, .slice D ds.length dc] 30)).alloc (.cells #[.bool false, .slice none 0 0, .slice none 0 0] 30) = x := ⟨_, rfl⟩
  rw [hwe] at hbox ⊢
  obtain ⟨ka1, kr1, hb1⟩ := hbox
  have HWE := Lib.hid hwe
  clear hwe HWE
  have ha1 := ha.below hb1
  have hw1 := hb1
  clear ha hb1
  have hns := ha1.rn
  have hds := ha1.rd
  have mns := ha1.mn
  have mds := ha1.md
  have hdp := ha1.dpos
  have hq := ha1.q
  dsimp only at hns hds mns mds hdp hq
  have hns1 := hns
  have hds1 := hds
  clear hns hds
  have hvd := VD_pos mds hdp
  have hvn : 0 < VD ns := by rcases Nat.eq_zero_or_pos (VD ns) with h | h; (have := hq.zero h; cases this); exact h
  have HRP := Lib.hid (rnd_pos (d := VD ds) hvn)
  obtain ⟨a0, a1, a2, a3, a4, a5, a6⟩ := ka1.facts
  go_wp2_with fail
  refine (rdiv_any N D nc dc ns ds _ hns1 hds1 (by omega) mns mds hdp).mono ?_
  rintro e w2 ⟨X, xc, xl, Y, yc, yl, rfl, hX2, hY2, mx, my_, hdm, hlt, hb2⟩
  have ka2 := ka1.below hb2
  have kr2 := kr1.below hb2
  have hns2 := hns1.below hb2
  have hds2 := hds1.below hb2
  have hw2 := hw1.trans (hb2.mono hw1.size)
  clear ka1 kr1 hns1 hds1 hw1 hb2
  clear a0 a1 a2 a3 a4 a5 a6
  have HU := Lib.hid (div_uniq hdm.out hlt.out)
  obtain ⟨a0, a1, a2, a3, a4, a5, a6⟩ := ka2.facts
  have hxl : xl.length ≤ ns.length := nm_len_le mx mns (by rw [HU.out.1]; exact Nat.div_le_self _ _)
  have hyp : 0 < yl.length := len_of_VD (by rw [HU.out.2]; exact HRS.out)
  go_wp2_with fail
  refine (radd_any X (some ⟨_, 0, none⟩) xc 1 xl [1] _ (hX2.alloc _) (rd_nat1 _ 1) (by omega) (by simp) mx nm_one).mono ?_
  rintro e w3 ⟨V, vc, vl, rfl, hvc, hV3, hbv, hvv, mv, hvl⟩
  have hb3 : Below w2.heap.size w2 w3 := ((Below.refl _ _).alloc (Nat.le_refl _) _).trans (hbv.mono (by simp))
  clear hbv
  have ka3 := ka2.below hb3
  have kr3 := kr2.below hb3
  have hns3 := hns2.below hb3
  have hds3 := hds2.below hb3
  have hX3 := hX2.below hb3
  have hw3 := hw2.trans (hb3.mono hw2.size)
  clear ka2 kr2 hns2 hds2 hX2 hw2 hb3
  clear a0 a1 a2 a3 a4 a5 a6
  have HVV := Lib.hid hvv
  clear hvv
  obtain ⟨a0, a1, a2, a3, a4, a5, a6⟩ := ka3.facts
  have HS : Hid (VD vl = rnd (VD ns) (VD ds) true) := by show _ = _; rw [HVV.out, HU.out.1, vd_one]; simp [rnd, HRS.out]
  have hvp : 0 < vl.length := len_of_VD (by rw [HS.out]; exact HRP.out)
  obtain ⟨d0, d1, d2, d3, d4, d5, d6⟩ := ((kr3.put3_ (.bool true) (.slice V vl.length vc) (.slice (some ⟨w3.heap.size, 0, none⟩) 1 1)).alloc (.cells #[.int .i64 1] 3)).facts
  dsimp only [Go.Proofs.YtdonbgjmcbhecaaGreatDoor.put3] at d0 d1 d2
  clear d3 d4 d5 d6
  obtain ⟨c0, c1, c2, c3, c4, c5, c6⟩ := kr3.facts
  go_wp2_with fail
  refine bodyPost_ret (v := .agg #[.bool true, .slice V vl.length vc, .slice (some ⟨w3.heap.size, 0, none⟩) 1 1]) (by simp [results, Tryz.results42, go_sem, d0, d1, d2]) rfl ?_
  have hbw := below_put3 hw3 (show w.heap.size ≤ w.heap.size + 1 by omega) (.bool true) (.slice V vl.length vc) (.slice (some ⟨w3.heap.size, 0, none⟩) 1 1)
  exact ⟨⟨true, V, vc, vl, some ⟨w3.heap.size, 0, none⟩, 1, [1]⟩, rfl, ⟨(hV3.put3 kr3 _ _ _).alloc _, nat1_rd _ _ (by simp), mv, nm_one, by dsimp only; rw [HS.out, vd_one]; exact floor_q _ _ (fun _ => HRP.out)⟩, by dsimp only; simp at hvl; omega, by simp, hbw.alloc hbw.size _⟩
set_option maxRecDepth 20000 in
set_option maxHeartbeats 1600000 in
theorem rfloor_tz (N D : Option Addr) (nc dc : Nat) (ns ds : List Nat) (q : Rat) (hrs : VD ns % VD ds = 0) (w : World) (ha : RL.Ref w ⟨true, N, nc, ns, D, dc, ds⟩ q) (l1 : ns.length ≤ 10000) :
    Calls Tryz.prog 42 #[.agg #[.bool true, .slice N ns.length nc, .slice D ds.length dc]] w (RefP (mkRat (sgn true (rnd (VD ns) (VD ds) true)) 1) (ns.length + 2) 1 w) := by
  have HRS := Lib.hid hrs
  clear hrs
  go_enter Tryz.func42, Tryz.ntmps42
  go_wp2_with fail
  have hbox := boxes2 30 30 w (.bool true) (.slice N ns.length nc) (.slice D ds.length dc) (.bool false) (.slice none 0 0) (.slice none 0 0)
  obtain ⟨w1, hwe⟩ : ∃ x, (w.alloc (.cells #[.bool true, .slice N ns.length nc, .slice D ds.length dc] 30)).alloc (.cells #[.bool false, .slice none 0 0, .slice none 0 0] 30) = x := ⟨_, rfl⟩
  rw [hwe] at hbox ⊢
  obtain ⟨ka1, kr1, hb1⟩ := hbox
  have HWE := Lib.hid hwe
  clear hwe HWE
  have ha1 := ha.below hb1
  have hw1 := hb1
  clear ha hb1
  have hns := ha1.rn
  have hds := ha1.rd
  have mns := ha1.mn
  have mds := ha1.md
  have hdp := ha1.dpos
  have hq := ha1.q
  dsimp only at hns hds mns mds hdp hq
  have hns1 := hns
  have hds1 := hds
  clear hns hds
  have hvd := VD_pos mds hdp
  have hvn : 0 < VD ns := by rcases Nat.eq_zero_or_pos (VD ns) with h | h; (have := hq.zero h; cases this); exact h
  have HRP := Lib.hid (rnd_pos (d := VD ds) hvn)
  obtain ⟨a0, a1, a2, a3, a4, a5, a6⟩ := ka1.facts
  go_wp2_with fail
  refine (rdiv_any N D nc dc ns ds _ hns1 hds1 (by omega) mns mds hdp).mono ?_
  rintro e w2 ⟨X, xc, xl, Y, yc, yl, rfl, hX2, hY2, mx, my_, hdm, hlt, hb2⟩
  have ka2 := ka1.below hb2
  have kr2 := kr1.below hb2
  have hns2 := hns1.below hb2
  have hds2 := hds1.below hb2
  have hw2 := hw1.trans (hb2.mono hw1.size)
  clear ka1 kr1 hns1 hds1 hw1 hb2
  clear a0 a1 a2 a3 a4 a5 a6
  have HU := Lib.hid (div_uniq hdm.out hlt.out)
  obtain ⟨a0, a1, a2, a3, a4, a5, a6⟩ := ka2.facts
  have hxl : xl.length ≤ ns.length := nm_len_le mx mns (by rw [HU.out.1]; exact Nat.div_le_self _ _)
  have hyp : ¬ 0 < yl.length := fun h => by have h3 := VD_pos my_ h; rw [HU.out.2, HRS.out] at h3; omega
  have HS : Hid (VD xl = rnd (VD ns) (VD ds) true) := by show _ = _; rw [HU.out.1]; simp [rnd, HRS.out]
  have hvp : 0 < xl.length := len_of_VD (by rw [HS.out]; exact HRP.out)
  obtain ⟨d0, d1, d2, d3, d4, d5, d6⟩ := ((kr2.put3_ (.bool true) (.slice X xl.length xc) (.slice (some ⟨w2.heap.size, 0, none⟩) 1 1)).alloc (.cells #[.int .i64 1] 3)).facts
  dsimp only [Go.Proofs.YtdonbgjmcbhecaaGreatDoor.put3] at d0 d1 d2
  clear d3 d4 d5 d6
  obtain ⟨c0, c1, c2, c3, c4, c5, c6⟩ := kr2.facts
  go_wp2_with fail
  refine bodyPost_ret (v := .agg #[.bool true, .slice X xl.length xc, .slice (some ⟨w2.heap.size, 0, none⟩) 1 1]) (by simp [results, Tryz.results42, go_sem, d0, d1, d2]) rfl ?_
  have hbw := below_put3 hw2 (show w.heap.size ≤ w.heap.size + 1 by omega) (.bool true) (.slice X xl.length xc) (.slice (some ⟨w2.heap.size, 0, none⟩) 1 1)
  exact ⟨⟨true, X, xc, xl, some ⟨w2.heap.size, 0, none⟩, 1, [1]⟩, rfl, ⟨(hX2.put3 kr2 _ _ _).alloc _, nat1_rd _ _ (by simp), mx, nm_one, by dsimp only; rw [HS.out, vd_one]; exact floor_q _ _ (fun _ => HRP.out)⟩, by dsimp only; omega, by simp, hbw.alloc hbw.size _⟩
theorem rfloor (a : RL) (q : Rat) (w : World) (ha : a.Ref w q) (l1 : a.ns.length ≤ 10000) :
    Calls Tryz.prog 42 #[.agg #[.bool a.s, .slice a.N a.ns.length a.nc, .slice a.D a.ds.length a.dc]] w (RefP (mkRat (sgn a.s (rnd (VD a.ns) (VD a.ds) a.s)) 1) (a.ns.length + 2) 1 w) := by
  obtain ⟨s, N, nc, ns, D, dc, ds⟩ := a
  cases s
  · exact rfloor_fz N D nc dc ns ds q w ha l1
  · rcases Nat.eq_zero_or_pos (VD ns % VD ds) with h | h
    · exact rfloor_tz N D nc dc ns ds q h w ha l1
    · exact rfloor_tr N D nc dc ns ds q h w ha l1
set_option maxRecDepth 20000 in
set_option maxHeartbeats 1600000 in
theorem rneg_fz (N D : Option Addr) (nc dc : Nat) (ns ds : List Nat) (q : Rat) (hz : ns.length = 0) (w : World) (ha : RL.Ref w ⟨false, N, nc, ns, D, dc, ds⟩ q) :
    Calls Tryz.prog 30 #[.agg #[.bool false, .slice N ns.length nc, .slice D ds.length dc]] w (RefP (-q) ns.length ds.length w) := by
  have hq := neg_q ha.q
  dsimp only at hq
  have hv0 : VD ns = 0 := by rw [List.eq_nil_of_length_eq_zero hz]; simp [VD, val]
  have HQ : Hid (QOf false (VD ns) (VD ds) (-q)) := Lib.hid (by rw [hv0] at hq ⊢; simpa using hq)
  have hzi : ((ns.length : Int) == 0) = true := by simp [hz]
  clear hz hv0 hq
  go_enter Tryz.func30, Tryz.ntmps30
  go_wp2
  exact bodyPost_ret (v := .agg #[.bool false, .slice N ns.length nc, .slice D ds.length dc]) (by simp [results, Tryz.results30, go_sem]) rfl ⟨⟨false, N, nc, ns, D, dc, ds⟩, rfl, ⟨(ha.rn.alloc _).alloc _, (ha.rd.alloc _).alloc _, ha.mn, ha.md, HQ.out⟩, Nat.le_refl _, Nat.le_refl _, ((Below.refl _ _).alloc (Nat.le_refl _) _).alloc (by simp) _⟩
set_option maxRecDepth 20000 in
set_option maxHeartbeats 1600000 in
theorem rneg_fp (N D : Option Addr) (nc dc : Nat) (ns ds : List Nat) (q : Rat) (hz : 0 < ns.length) (w : World) (ha : RL.Ref w ⟨false, N, nc, ns, D, dc, ds⟩ q) :
    Calls Tryz.prog 30 #[.agg #[.bool false, .slice N ns.length nc, .slice D ds.length dc]] w (RefP (-q) ns.length ds.length w) := by
  have hq := neg_q ha.q
  dsimp only at hq
  have hv0 : 0 < VD ns := VD_pos ha.mn hz
  have HQ : Hid (QOf true (VD ns) (VD ds) (-q)) := Lib.hid (by rw [decide_eq_true hv0] at hq; simpa using hq)
  have hzi : ((ns.length : Int) == 0) = false := beq_eq_false_iff_ne.2 (by omega)
  clear hq
  go_enter Tryz.func30, Tryz.ntmps30
  go_wp2
  exact bodyPost_ret (v := .agg #[.bool true, .slice N ns.length nc, .slice D ds.length dc]) (by simp [results, Tryz.results30, go_sem]) rfl ⟨⟨true, N, nc, ns, D, dc, ds⟩, rfl, ⟨(ha.rn.alloc _).alloc _, (ha.rd.alloc _).alloc _, ha.mn, ha.md, HQ.out⟩, Nat.le_refl _, Nat.le_refl _, ((Below.refl _ _).alloc (Nat.le_refl _) _).alloc (by simp) _⟩
set_option maxRecDepth 20000 in
set_option maxHeartbeats 1600000 in
theorem rneg_tp (N D : Option Addr) (nc dc : Nat) (ns ds : List Nat) (q : Rat) (hz : 0 < ns.length) (w : World) (ha : RL.Ref w ⟨true, N, nc, ns, D, dc, ds⟩ q) :
    Calls Tryz.prog 30 #[.agg #[.bool true, .slice N ns.length nc, .slice D ds.length dc]] w (RefP (-q) ns.length ds.length w) := by
  have hq := neg_q ha.q
  dsimp only at hq
  have hv0 : 0 < VD ns := VD_pos ha.mn hz
  have HQ : Hid (QOf false (VD ns) (VD ds) (-q)) := Lib.hid (by rw [decide_eq_true hv0] at hq; simpa using hq)
  have hzi : ((ns.length : Int) == 0) = false := beq_eq_false_iff_ne.2 (by omega)
  clear hq
  go_enter Tryz.func30, Tryz.ntmps30
  go_wp2
  exact bodyPost_ret (v := .agg #[.bool false, .slice N ns.length nc, .slice D ds.length dc]) (by simp [results, Tryz.results30, go_sem]) rfl ⟨⟨false, N, nc, ns, D, dc, ds⟩, rfl, ⟨(ha.rn.alloc _).alloc _, (ha.rd.alloc _).alloc _, ha.mn, ha.md, HQ.out⟩, Nat.le_refl _, Nat.le_refl _, ((Below.refl _ _).alloc (Nat.le_refl _) _).alloc (by simp) _⟩
theorem rneg (a : RL) (q : Rat) (w : World) (ha : a.Ref w q) :
    Calls Tryz.prog 30 #[.agg #[.bool a.s, .slice a.N a.ns.length a.nc, .slice a.D a.ds.length a.dc]] w (RefP (-q) a.ns.length a.ds.length w) := by
  obtain ⟨s, N, nc, ns, D, dc, ds⟩ := a
  rcases Nat.eq_zero_or_pos ns.length with h | h
  · have hs : s = false := ha.q.zero (by dsimp only; rw [List.eq_nil_of_length_eq_zero h]; simp [VD, val])
    subst hs
    exact rneg_fz N D nc dc ns ds q h w ha
  · cases s
    · exact rneg_fp N D nc dc ns ds q h w ha
    · exact rneg_tp N D nc dc ns ds q h w ha
end Go.Proofs.YtdonbgjmcbhecaaGreatDoor


/- Plain facts on rounding to multiples of 1 and of 2^-k. -/
namespace Go.Proofs.YtdonbgjmcbhecaaGreatDoor
open Go.RowKit V

theorem rnd_div {m d g : Nat} (b : Bool) (hg : 0 < g) (h1 : g ∣ m) (h2 : g ∣ d) : rnd (m / g) (d / g) b = rnd m d b := by
  obtain ⟨x, rfl⟩ := h1
  obtain ⟨y, rfl⟩ := h2
  unfold rnd
  rw [Nat.mul_div_cancel_left _ hg, Nat.mul_div_cancel_left _ hg, Nat.mul_div_mul_left _ _ hg, Nat.mul_mod_mul_left]
  have e : decide (0 < x % y) = decide (0 < g * (x % y)) := by
    rcases Nat.eq_zero_or_pos (x % y) with h | h
    · rw [h]; rfl
    · rw [decide_eq_true h, decide_eq_true (Nat.mul_pos hg h)]
  rw [e]
theorem rnd_zero (d : Nat) (b : Bool) : rnd 0 d b = 0 := by simp [rnd]
theorem sgn_zero (s : Bool) : sgn s 0 = 0 := by cases s <;> rfl
theorem scale_mul {s : Bool} {n d k : Nat} {q : Rat} (hq : QOf s n d q) : q * mkRat ((2 ^ k : Nat) : Int) 1 = mkRat (sgn s (n * 2 ^ k)) d := by
  rw [hq.eq, mkRat_mul, Nat.mul_one, sgn_mul_nat]
theorem flr {s s' : Bool} {m d n' d' : Nat} (hd : 0 < d) (hp : QOf s' n' d' (mkRat (sgn s m) d)) : sgn s' (rnd n' d' s') = sgn s (rnd m d s) := by
  have hr := QOf.red (neg := s) (n := m) hd
  obtain ⟨e1, e2, e3⟩ := QOf.inj hp hr
  have hg : 0 < Nat.gcd m d := Nat.gcd_pos_of_pos_right _ hd
  rw [e2, e3, rnd_div _ hg (Nat.gcd_dvd_left _ _) (Nat.gcd_dvd_right _ _)]
  rcases Nat.eq_zero_or_pos m with h0 | h0
  · rw [h0, rnd_zero, rnd_zero, sgn_zero, sgn_zero]
  · have h1 : 0 < m / Nat.gcd m d := Nat.div_pos (Nat.gcd_le_left _ h0) hg
    rw [decide_eq_true h1, Bool.and_true] at e1
    rw [e1]
theorem scale_div (z : Int) (k : Nat) : mkRat z 1 / mkRat ((2 ^ k : Nat) : Int) 1 = mkRat z (2 ^ k) := by
  have h2 : 0 < 2 ^ k := Nat.pow_pos (by omega)
  have hs : QOf false (2 ^ k) 1 (mkRat ((2 ^ k : Nat) : Int) 1) := QOf.mk_ (by omega) (Nat.gcd_one_right _) (fun _ => rfl)
  have hi := inv_q hs h2
  rw [Rat.div_def, hi.eq, mkRat_mul, Nat.one_mul]
  simp [sgn]
theorem xor_false (s : Bool) : (false != s) = s := by cases s <;> rfl
theorem xor_true (s : Bool) : (true != s) = !s := by cases s <;> rfl
theorem rq0 {s s' : Bool} {n d n' d' : Nat} {q : Rat} (hq : QOf s n d q) (hx : QOf s' n' d' q) : mkRat (sgn s' (rnd n' d' s')) 1 = mkRat (sgn s (rnd (n * 2 ^ 0) d (false != s))) (2 ^ 0) := by
  obtain ⟨e1, e2, e3⟩ := QOf.inj hx hq
  rw [e1, e2, e3, xor_false, Nat.pow_zero, Nat.mul_one]
theorem rq1 {s s' : Bool} {n d n' d' k : Nat} {q : Rat} (hq : QOf s n d q) (hp : QOf s' n' d' (q * mkRat ((2 ^ k : Nat) : Int) 1)) :
    mkRat (sgn s' (rnd n' d' s')) 1 / mkRat ((2 ^ k : Nat) : Int) 1 = mkRat (sgn s (rnd (n * 2 ^ k) d (false != s))) (2 ^ k) := by
  rw [scale_mul hq] at hp
  rw [scale_div, flr hq.pos hp, xor_false]
theorem rq2 {s s' : Bool} {n d n' d' k : Nat} {q : Rat} (hq : QOf s n d q) (hp : QOf s' n' d' (-(q * mkRat ((2 ^ k : Nat) : Int) 1))) :
    -(mkRat (sgn s' (rnd n' d' s')) 1) / mkRat ((2 ^ k : Nat) : Int) 1 = mkRat (sgn s (rnd (n * 2 ^ k) d (true != s))) (2 ^ k) := by
  have hn := neg_q hq
  have e : -(q * mkRat ((2 ^ k : Nat) : Int) 1) = (-q) * mkRat ((2 ^ k : Nat) : Int) 1 := by rw [Rat.neg_mul]
  rw [e, scale_mul hn] at hp
  have hf := flr hq.pos hp
  have e2 : -(mkRat (sgn s' (rnd n' d' s')) 1) = mkRat (-(sgn s' (rnd n' d' s'))) 1 := Rat.neg_mkRat _ _
  rw [e2, scale_div, hf, xor_true]
  rcases Nat.eq_zero_or_pos n with h0 | h0
  · rw [h0, Nat.zero_mul, rnd_zero, rnd_zero, sgn_zero, sgn_zero]; rfl
  · rw [decide_eq_true h0, Bool.and_true, sgn_not]
    simp
end Go.Proofs.YtdonbgjmcbhecaaGreatDoor


/- rat.Text: sign, numerator, denominator in decimal digits. -/
namespace Go.Proofs.YtdonbgjmcbhecaaGreatDoor
open Go.RowKit V

/-- The text of a number. -/
def ratText (s : Bool) (n d : Nat) : List UInt8 := (if s then [45] else []) ++ Lib.decDigits n ++ (if d = 1 then [] else 47 :: Lib.decDigits d)

set_option maxHeartbeats 1600000 in
theorem qtext (a : RL) (q : Rat) (w : World) (ha : a.Is w q) (l1 : a.ns.length ≤ 4096) (l2 : a.ds.length ≤ 4096)
    (htab : Lib.TabBelow Tryz.prog w.heap.size w "internal/strconv.uint64pow10" .u64 Lib.pow10Tab) :
    Calls Tryz.prog 51 #[.agg #[.bool a.s, .slice a.N a.ns.length a.nc, .slice a.D a.ds.length a.dc]] w
      (Gives (.tuple #[.string ⟨(ratText a.s (V32 a.ns) (V32 a.ds)).toArray⟩, .int .i64 0]) w) := by
  obtain ⟨s, N, nc, ns, D, dc, ds⟩ := a
  dsimp only at l1 l2 ⊢
  obtain ⟨o, ho⟩ : ∃ o, Hid (decide (V32 ds = 1) = o) := ⟨_, Lib.hid rfl⟩
  have HT := Lib.hid htab
  clear htab
  have mn : Mag ns := ha.mn
  have md : Mag ds := ha.md
  have hk := Blk3.new w (.bool s) (.slice N ns.length nc) (.slice D ds.length dc)
  have HV := Lib.hid (qvalid_yes ⟨s, N, nc, ns, D, dc, ds⟩ q _ (ha.below ((Below.refl _ _).alloc (Nat.le_refl w.heap.size) (.cells #[.bool s, .slice N ns.length nc, .slice D ds.length dc] 24))) l1 l2)
  have hX := dec_short mn l1 (by omega)
  have hY := dec_short md l2 (by omega)
  obtain ⟨X, hXe⟩ : ∃ X, Hid (Lib.decDigits (V32 ns) = X) := ⟨_, Lib.hid rfl⟩
  obtain ⟨Y, hYe⟩ : ∃ Y, Hid (Lib.decDigits (V32 ds) = Y) := ⟨_, Lib.hid rfl⟩
  rw [hXe.out] at hX
  rw [hYe.out] at hY
  have f1 := fun W => run_string_add_lists (P := Tryz.prog) W [45] X (by simp) (by omega)
  have f2 := fun W => run_string_add_lists (P := Tryz.prog) W [47] Y (by simp) (by omega)
  have f3 := fun W => run_string_add_lists (P := Tryz.prog) W X ([47] ++ Y) (by omega) (by simp; omega)
  have f4 := fun W => run_string_add_lists (P := Tryz.prog) W ([45] ++ X) ([47] ++ Y) (by simp; omega) (by simp; omega)
  simp only [List.cons_append, List.nil_append] at f1 f2 f3 f4
  cases s <;> cases o
  all_goals
    go_enter Tryz.func51, Tryz.ntmps51
    go_wp2_with fail
    refine HV.out.mono ?_
    rintro e w1 ⟨rfl, hb1⟩
    have hk1 := hk.below hb1
    have hw1 : Below w.heap.size w w1 := ((Below.refl _ _).alloc (Nat.le_refl _) _).trans (hb1.mono (by simp))
    have rn1 : Rd .u32 w1 N ns := ha.rn.below hw1
    have rd1 : Rd .u32 w1 D ds := ha.rd.below hw1
    have HT1 : Hid (Lib.TabBelow Tryz.prog w1.heap.size w1 "internal/strconv.uint64pow10" .u64 Lib.pow10Tab) := fun w' h => HT.out w' (hw1.trans (h.mono hw1.size))
    obtain ⟨a0, a1, a2, a3, a4, a5, a6⟩ := hk1.facts
    clear hb1
    go_wp2_with fail
    refine (text_any N nc ns _ rn1 mn l1 HT1.out).mono ?_
    rintro e w2 ⟨he, hb2⟩
    rw [hXe.out] at he
    subst he
    have hk2 := hk1.below hb2
    have hw2 := hw1.trans (hb2.mono hw1.size)
    have rd2 := rd1.below hb2
    have HT2 : Hid (Lib.TabBelow Tryz.prog w2.heap.size w2 "internal/strconv.uint64pow10" .u64 Lib.pow10Tab) := fun w' h => HT.out w' (hw2.trans (h.mono hw2.size))
    clear a0 a1 a2 a3 a4 a5 a6 hb2 hk1 rn1 rd1
    obtain ⟨a0, a1, a2, a3, a4, a5, a6⟩ := hk2.facts
    go_wp2_with fail
    refine (isone_any D dc ds _ rd2 (by omega) md).mono ?_
    rintro e w3 ⟨he, n3, hwe⟩
    rw [ho.out] at he
    subst he
    have hb3 : Below w2.heap.size w2 w3 := by rw [hwe]; exact below_drew_ (Below.refl _ _) n3
    have hk3 := hk2.below hb3
    have hw3 := hw2.trans (hb3.mono hw2.size)
    have rd3 := rd2.below hb3
    have HT3 : Hid (Lib.TabBelow Tryz.prog w3.heap.size w3 "internal/strconv.uint64pow10" .u64 Lib.pow10Tab) := fun w' h => HT.out w' (hw3.trans (h.mono hw3.size))
    clear a0 a1 a2 a3 a4 a5 a6 hb3 hk2 hwe rd2
    obtain ⟨a0, a1, a2, a3, a4, a5, a6⟩ := hk3.facts
    go_wp2_with fail
    first
      | (go_ret2
         exact ⟨by unfold ratText; rw [hXe.out, of_decide_eq_true ho.out]; simp, hw3⟩)
      | (refine (text_any D dc ds _ rd3 md l2 HT3.out).mono ?_
         rintro e w4 ⟨he, hb4⟩
         rw [hYe.out] at he
         subst he
         go_wp2_with fail
         go_ret2
         exact ⟨by unfold ratText; rw [hXe.out, hYe.out, if_neg (of_decide_eq_false ho.out)]; simp, hw3.trans (hb4.mono hw3.size)⟩)
end Go.Proofs.YtdonbgjmcbhecaaGreatDoor


/- isochronelaw02.awake answers true. -/
namespace Go.Proofs.YtdonbgjmcbhecaaGreatDoor
open Go.RowKit V

theorem half_third : mkRat 1 2 + mkRat 1 3 = mkRat 5 6 := by
  rw [mkRat_add _ _ _ _ (by omega) (by omega)]; rfl
theorem text_56 : ratText false 5 6 = [53, 47, 54] := by
  unfold ratText
  simp [Lib.decDigits]
theorem q56 {s : Bool} {n d : Nat} (h : QOf s n d (mkRat 1 2 + mkRat 1 3)) : s = false ∧ n = 5 ∧ d = 6 := by
  rw [half_third] at h
  exact h.inj (QOf.mk_ (neg := false) (n := 5) (d := 6) (by omega) (by decide) (by simp))

theorem lit_at (W : World) (k : Nat) (xs : List Nat) (h : W.heap.size = k) : Rd .u32 (lit W xs) (some ⟨k, 0, none⟩) xs := h ▸ lit_rd W xs
/-- Two numbers as the check lays them. -/
theorem lits_is (W : World) (k n d : Nat) (o : Obj) (h : W.heap.size = k) (hn : 0 < n) (hn2 : n < 4294967296) (hd : 0 < d) (hd2 : d < 4294967296) (hc : Nat.Coprime n d) :
    RL.Is ((lit (lit W [n]) [d]).alloc o) ⟨false, some ⟨k, 0, none⟩, 1, [n], some ⟨k + 1, 0, none⟩, 1, [d]⟩ (mkRat n d) := by
  refine ⟨((lit_at W k [n] h).alloc _).alloc _, (lit_at (lit W [n]) (k + 1) [d] (by rw [lit_size, h])).alloc _, mag_one n hn2 (by omega), mag_one d hd2 (by omega), Nat.le_refl _, Nat.le_refl _, ?_⟩
  show QOf false (V32 [n]) (V32 [d]) _
  rw [V32_one, V32_one]
  exact QOf.mk_ (neg := false) hd hc (fun _ => rfl)

set_option maxRecDepth 100000 in
set_option maxHeartbeats 800000 in
theorem qawake_yes (w : World) (htab : Lib.TabBelow Tryz.prog w.heap.size w "internal/strconv.uint64pow10" .u64 Lib.pow10Tab) :
    Calls Tryz.prog 15 #[] w (Yes w) := by
  have HT := Lib.hid htab
  clear htab
  have h1 := fun o => lits_is w w.heap.size 1 2 o rfl (by omega) (by omega) (by omega) (by omega) (by decide)
  have hb1 : ∀ o, Below w.heap.size w ((lit (lit w [1]) [2]).alloc o) := fun o => (((Below.refl _ _).alloc (Nat.le_refl _) _).alloc (by simp) _).alloc (by simp; omega) _
  have hs1 : ∀ o, ((lit (lit w [1]) [2]).alloc o).heap.size = w.heap.size + 1 + 1 + 1 := fun o => by simp
  have HH := Lib.hid h1
  have HB := Lib.hid hb1
  have HS := Lib.hid hs1
  clear h1 hb1 hs1
  go_enter Tryz.func15, Tryz.ntmps15
  go_wp2_with fail
  obtain ⟨W, hW, hWB, hWS⟩ : ∃ W, W = (lit (lit w [1]) [2]).alloc (.cells #[.bool false, .slice (some ⟨w.heap.size, 0, none⟩) 1 1, .slice (some ⟨w.heap.size + 1, 0, none⟩) 1 1] 24) ∧ Below w.heap.size w W ∧ W.heap.size = w.heap.size + 1 + 1 + 1 := ⟨_, rfl, HB.out _, HS.out _⟩
  have ha : RL.Is W ⟨false, some ⟨w.heap.size, 0, none⟩, 1, [1], some ⟨w.heap.size + 1, 0, none⟩, 1, [2]⟩ (mkRat 1 2) := by rw [hW]; exact HH.out _
  have hcb := fun o => lits_is W (w.heap.size + 1 + 1 + 1) 1 3 o hWS (by omega) (by omega) (by omega) (by omega) (by decide)
  have hbb : ∀ o, Below W.heap.size W ((lit (lit W [1]) [3]).alloc o) := fun o => (((Below.refl _ _).alloc (Nat.le_refl _) _).alloc (by simp) _).alloc (by simp; omega) _
  refine (Add_same ⟨false, some ⟨w.heap.size, 0, none⟩, 1, [1], some ⟨w.heap.size + 1, 0, none⟩, 1, [2]⟩ ⟨false, some ⟨w.heap.size + 1 + 1 + 1, 0, none⟩, 1, [1], some ⟨w.heap.size + 1 + 1 + 1 + 1, 0, none⟩, 1, [3]⟩ (mkRat 1 2) (mkRat 1 3) _ (by rw [hW] at ha hbb; exact ha.below (hbb _)) (by rw [hW] at hcb; exact hcb _) (by simp) rfl).mono ?_
  rintro e w1 ⟨r, rfl, hr, hl1, hl2, hb⟩
  have hw1 : Below w.heap.size w w1 := by
    refine Below.trans ?_ (hb.mono ?_)
    · exact hWB.trans (by rw [hW] at hbb ⊢; exact (hbb _).mono (by simp; omega))
    · simp; omega
  clear hb hbb hcb ha hW hWB hWS HH HB HS
  go_wp2_with fail
  have hbx : Below w1.heap.size w1 (w1.alloc (.cells #[.bool r.s, .slice r.N r.ns.length r.nc, .slice r.D r.ds.length r.dc] 24)) := (Below.refl _ _).alloc (Nat.le_refl _) _
  refine (qtext r _ _ (hr.below hbx) (by simp at hl1; omega) (by simp at hl2; omega) (fun w' h => HT.out w' ((hw1.trans (hbx.mono hw1.size)).trans (h.mono (by have := hw1.size; simp; omega))))).mono ?_
  rintro e w2 ⟨he, hb2⟩
  obtain ⟨e1, e2, e3⟩ := q56 hr.q
  rw [e1, e2, e3, text_56] at he
  subst he
  have hw2 := (hw1.trans (hbx.mono hw1.size)).trans (hb2.mono (by have := hw1.size; simp; omega))
  clear e1 e2 e3 hb2 hbx
  go_wp2_with fail
  go_ret
  exact ⟨rfl, hw2⟩
end Go.Proofs.YtdonbgjmcbhecaaGreatDoor

