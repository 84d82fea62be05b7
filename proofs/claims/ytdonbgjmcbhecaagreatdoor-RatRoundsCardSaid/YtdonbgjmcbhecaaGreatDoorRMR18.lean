/- rat.rounded, Floor, Down, Up. -/
import Derived.Test.YtdonbgjmcbhecaaGreatDoorRMR17
namespace Go.Proofs.YtdonbgjmcbhecaaGreatDoor
open Go.RowKit V

/-- n/d to the whole number below, or above where a rest is left. -/
def rnd (n d : Nat) (away : Bool) : Nat := n / d + (if (away && decide (0 < n % d)) then 1 else 0)
theorem units_len {zs : List Nat} {k t : Nat} (m : Mag zs) (h : V32 zs = 2 ^ k) (hk : k < 32 * t) : zs.length ≤ t := by
  refine short_of_lt m ?_
  rw [h]
  have h1 : (2 : Nat) ^ k < 2 ^ (32 * t) := Nat.pow_lt_pow_right (by omega) hk
  have e : (2 : Nat) ^ 32 = 4294967296 := by decide
  rw [Nat.pow_mul, e] at h1
  exact h1
set_option maxRecDepth 20000 in
set_option maxHeartbeats 1600000 in
theorem qrnd_ffr (N D : Option Addr) (nc dc : Nat) (ns ds : List Nat) (q : Rat) (k : Nat) (hrs : 0 < V32 ns * 2 ^ k % V32 ds) (hk : k ≤ 4000) (w : World) (ha : RL.Is w ⟨false, N, nc, ns, D, dc, ds⟩ q) (l1 : ns.length ≤ 6) (l2 : ds.length ≤ 6) :
    Calls Tryz.prog 112 #[.agg #[.bool false, .slice N ns.length nc, .slice D ds.length dc], .int .i64 k, .bool false] w (RatOk (mkRat (sgn false (rnd (V32 ns * 2 ^ k) (V32 ds) (false != false))) (2 ^ k)) 200 w) := by
  have HRS := Lib.hid hrs
  clear hrs
  go_enter Tryz.func112, Tryz.ntmps112
  go_wp2_with fail
  have hbox := box1r w (.bool false) (.slice N ns.length nc) (.slice D ds.length dc) (.bool false) (.slice none 0 0) (.slice none 0 0)
  obtain ⟨w1, hwe⟩ : ∃ x, (w.alloc (.cells #[.bool false, .slice N ns.length nc, .slice D ds.length dc] 24)).alloc (.cells #[.bool false, .slice none 0 0, .slice none 0 0] 24) = x := ⟨_, rfl⟩
  rw [hwe] at hbox ⊢
  obtain ⟨ka1, kr1, hb1⟩ := hbox
  have HWE := Lib.hid hwe
  clear hwe HWE
  have ha1 := ha.below hb1
  have hw1 := hb1
  clear ha hb1
  obtain ⟨a0, a1, a2, a3, a4, a5, a6⟩ := ka1.facts
  go_wp2_with fail
  refine (qvalid_yes ⟨false, N, nc, ns, D, dc, ds⟩ q _ ha1 (by dsimp only; omega) (by dsimp only; omega)).mono ?_
  rintro e w2 ⟨rfl, hb2⟩
  have ha2 := ha1.below hb2
  have ka2 := ka1.below hb2
  have kr2 := kr1.below hb2
  have hw2 := hw1.trans (hb2.mono hw1.size)
  clear ha1 ka1 kr1 hw1 hb2
  clear a0 a1 a2 a3 a4 a5 a6
  have hns := ha2.rn
  have hds := ha2.rd
  have mns := ha2.mn
  have mds := ha2.md
  have hdp := ha2.dpos
  dsimp only at hns hds mns mds hdp
  have hns2 := hns
  have hds2 := hds
  clear hns hds
  go_wp2_with fail
  refine (from_any 1 _ (by omega)).mono ?_
  rintro e w3 ⟨O, oc, ol, rfl, hoc, hO3, hb3, hvo, mo, hol_⟩
  have ka3 := ka2.below hb3
  have kr3 := kr2.below hb3
  have hns3 := hns2.below hb3
  have hds3 := hds2.below hb3
  have hw3 := hw2.trans (hb3.mono hw2.size)
  clear ka2 kr2 hns2 hds2 hw2 hb3
  have HVO := Lib.hid hvo
  clear hvo
  have hol : ol.length ≤ 4096 := by omega
  go_wp2_with fail
  refine (Shift_up O oc k ol _ hO3 ⟨hol, mo.2⟩ mo.1 (by omega)).mono ?_
  rintro e w4 ⟨U, uc, ul, hU4, huc, hb4, ⟨hvu, mu⟩, hfit⟩
  have ka4 := ka3.below hb4
  have kr4 := kr3.below hb4
  have hns4 := hns3.below hb4
  have hds4 := hds3.below hb4
  have hO4 := hO3.below hb4
  have hw4 := hw3.trans (hb4.mono hw3.size)
  clear ka3 kr3 hns3 hds3 hO3 hw3 hb4
  have HVU : Hid (V32 ul = 2 ^ k) := by show _ = _; rw [hvu, HVO.out, Nat.one_mul]
  clear hvu
  have hul := units_len (t := 126) mu HVU.out (by omega)
  have hfit2 := hfit.resolve_right (fun h => by omega)
  obtain ⟨_, rfl⟩ := hfit2
  obtain ⟨a0, a1, a2, a3, a4, a5, a6⟩ := ka4.facts
  go_upto_region 6 with fail
  go_cut [10, 11] (fun s10 s11 wx => ∃ Z zc zl Y yc yl, s10 = .slice Z (zl : List Nat).length zc ∧ s11 = .slice Y (yl : List Nat).length yc ∧ zl.length ≤ zc ∧ Rd .u32 wx Z zl ∧ Mag zl ∧ Mag yl ∧ Hid (V32 zl = V32 ns * 2 ^ k / V32 ds) ∧ Hid (V32 yl = V32 ns * 2 ^ k % V32 ds) ∧ zl.length ≤ 132 ∧ yl.length ≤ 6 ∧ Below w4.heap.size w4 wx)
  case first =>
    go_region_held3 (fun w' => w'.cell? ⟨w.heap.size, 1, none⟩ = some (.slice N ns.length nc) ∧ w'.cell? ⟨w.heap.size, 2, none⟩ = some (.slice D ds.length dc)) (first | exact ⟨‹_›, ‹_›⟩ | go_keep)
      (first
      | (go_at_call 170
         refine (qtimes N U nc uc ns ul _ (by first | exact hns4 | exact hns4.drew | exact hns4.alloc _ | exact (hns4.alloc _).drew | exact hns4.drew.alloc _) (by first | exact hU4 | exact hU4.drew | exact hU4.alloc _ | exact (hU4.alloc _).drew | exact hU4.drew.alloc _) (by omega) mns mu).mono ?_
         rintro e wt_ ⟨P, pc, pl, rfl, hpc, hP, hbt, ⟨hvp, mp, hpl⟩⟩
         have HVP := Lib.hid hvp
         clear hvp
         have hbp0 : Below w4.heap.size w4 wt_ := by first | exact hbt | exact below_of_drew hbt (Nat.le_refl _) | exact ((Below.refl _ _).alloc (Nat.le_refl _) _).trans (hbt.mono (by simp)) | exact ((Below.refl _ _).alloc (Nat.le_refl _) _).trans ((below_of_drew hbt (Nat.le_refl _)).mono (by simp)) | exact below_of_drew (((Below.refl _ _).alloc (Nat.le_refl _) _).trans (hbt.mono (by simp))) (Nat.le_refl _)
         have hns_0 := hns4.below hbp0
         have hds_0 := hds4.below hbp0
         have hU_0 := hU4.below hbp0
         have ka_0 := ka4.below hbp0
         obtain ⟨ka0wt_, ka1wt_, ka2wt_, ka3wt_, ka4wt_, ka5wt_, ka6wt_⟩ := ka_0.facts
         have hwq0 := hw4.trans (hbp0.mono hw4.size))
      | (go_at_call 182
         refine (qdivide P D pc dc pl ds _ (by first | exact hP | exact hP.drew | exact hP.alloc _ | exact (hP.alloc _).drew | exact hP.drew.alloc _) (by first | exact hds_0 | exact hds_0.drew | exact hds_0.alloc _ | exact (hds_0.alloc _).drew | exact hds_0.drew.alloc _) (by omega) (by omega) mp mds hdp).mono ?_
         rintro e wd_ ⟨Z, zc, zl, Y, yc, yl, rfl, hZ, hY, mz, my_, hzc, hyc, hvz, hvy, hzl, hyl, hbd⟩
         have hbp1 : Below wt_.heap.size wt_ wd_ := by first | exact hbd | exact below_of_drew hbd (Nat.le_refl _) | exact ((Below.refl _ _).alloc (Nat.le_refl _) _).trans (hbd.mono (by simp)) | exact ((Below.refl _ _).alloc (Nat.le_refl _) _).trans ((below_of_drew hbd (Nat.le_refl _)).mono (by simp)) | exact below_of_drew (((Below.refl _ _).alloc (Nat.le_refl _) _).trans (hbd.mono (by simp))) (Nat.le_refl _)
         have hns_1 := hns_0.below hbp1
         have hds_1 := hds_0.below hbp1
         have hU_1 := hU_0.below hbp1
         have hP_1 := hP.below hbp1
         have ka_1 := ka_0.below hbp1
         obtain ⟨ka0wd_, ka1wd_, ka2wd_, ka3wd_, ka4wd_, ka5wd_, ka6wd_⟩ := ka_1.facts
         have hwq1 := hwq0.trans (hbp1.mono hwq0.size)))
    all_goals
      go_wp2_with fail
      go_meet
      exact ⟨Z, zc, zl, Y, yc, yl, rfl, rfl, hzc, hZ, mz, my_, by show _ = _; rw [hvz.out, HVP.out, HVU.out], by show _ = _; rw [hvy.out, HVP.out, HVU.out], by omega, by omega, hbp0.trans (hbp1.mono hbp0.size)⟩
  clear a0 a1 a2 a3 a4 a5 a6
  obtain ⟨w5, rfl⟩ : ∃ x, x = wc := ⟨_, rfl⟩
  obtain ⟨Z, zc, zl, Y, yc, yl, rfl, rfl, hzc, hZ5, mz, my_, hvz, hvy, hzl, hyl, hb5⟩ := hcut
  have ka5 := ka4.below hb5
  have kr5 := kr4.below hb5
  have hns5 := hns4.below hb5
  have hds5 := hds4.below hb5
  have hO5 := hO4.below hb5
  have hU5 := hU4.below hb5
  have hw5 := hw4.trans (hb5.mono hw4.size)
  clear ka4 kr4 hns4 hds4 hO4 hU4 hw4 hb5
  have hyp : 0 < yl.length := by rcases Nat.eq_zero_or_pos yl.length with h | h; (have h3 := HRS.out; rw [← hvy.out, List.eq_nil_of_length_eq_zero h] at h3; simp [V32, val] at h3); exact h
  obtain ⟨a0, a1, a2, a3, a4, a5, a6⟩ := ka5.facts
  have HS : Hid (V32 zl = rnd (V32 ns * 2 ^ k) (V32 ds) (false != false)) := by show _ = _; rw [hvz.out]; simp [rnd]
  have hup : 0 < ul.length := by rcases Nat.eq_zero_or_pos ul.length with h | h; (have h3 := HVU.out; rw [List.eq_nil_of_length_eq_zero h] at h3; have h4 : 0 < 2 ^ k := Nat.pow_pos (by omega); simp [V32, val] at h3; omega); exact h
  go_wp2_with fail
  refine (reduced_any false Z U zc uc zl ul _ hZ5 hU5 huc (by omega) (by omega) mz mu hup).mono ?_
  rintro e w6 ⟨r, rfl, hr6, hrl1, hrl2, hb6⟩
  have ka6 := ka5.below hb6
  have kr6 := kr5.below hb6
  have hns6 := hns5.below hb6
  have hds6 := hds5.below hb6
  have hO6 := hO5.below hb6
  have hU6 := hU5.below hb6
  have hZ6 := hZ5.below hb6
  have hw6 := hw5.trans (hb6.mono hw5.size)
  clear ka5 kr5 hns5 hds5 hO5 hU5 hZ5 hw5 hb6
  clear a0 a1 a2 a3 a4 a5 a6
  rw [HS.out, HVU.out] at hr6
  go_wp2_with fail
  refine (qfit r _ 200 _ hr6 (by omega) (by omega) (by omega)).mono ?_
  rintro e w7 ⟨t, rfl, ht7, htl1, htl2, hb7⟩
  have ka7 := ka6.below hb7
  have kr7 := kr6.below hb7
  have hns7 := hns6.below hb7
  have hds7 := hds6.below hb7
  have hO7 := hO6.below hb7
  have hU7 := hU6.below hb7
  have hZ7 := hZ6.below hb7
  have hr7 := hr6.below hb7
  have hw7 := hw6.trans (hb7.mono hw6.size)
  clear ka6 kr6 hns6 hds6 hO6 hU6 hZ6 hr6 hw6 hb7
  obtain ⟨c0, c1, c2, c3, c4, c5, c6⟩ := kr7.facts
  go_wp2_with fail
  refine bodyPost_ret (v := .tuple #[.agg #[.bool t.s, .slice t.N t.ns.length t.nc, .slice t.D t.ds.length t.dc], .int .i64 0]) (by simp [results, Tryz.results112, go_sem, c0, c1, c2]) rfl ?_
  exact RatOk.put t ht7 kr7 (by omega) hw7 htl1 htl2
set_option maxRecDepth 20000 in
set_option maxHeartbeats 1600000 in
theorem qrnd_ffz (N D : Option Addr) (nc dc : Nat) (ns ds : List Nat) (q : Rat) (k : Nat) (hrs : V32 ns * 2 ^ k % V32 ds = 0) (hk : k ≤ 4000) (w : World) (ha : RL.Is w ⟨false, N, nc, ns, D, dc, ds⟩ q) (l1 : ns.length ≤ 6) (l2 : ds.length ≤ 6) :
    Calls Tryz.prog 112 #[.agg #[.bool false, .slice N ns.length nc, .slice D ds.length dc], .int .i64 k, .bool false] w (RatOk (mkRat (sgn false (rnd (V32 ns * 2 ^ k) (V32 ds) (false != false))) (2 ^ k)) 200 w) := by
  have HRS := Lib.hid hrs
  clear hrs
  go_enter Tryz.func112, Tryz.ntmps112
  go_wp2_with fail
  have hbox := box1r w (.bool false) (.slice N ns.length nc) (.slice D ds.length dc) (.bool false) (.slice none 0 0) (.slice none 0 0)
  obtain ⟨w1, hwe⟩ : ∃ x, (w.alloc (.cells #[.bool false, .slice N ns.length nc, .slice D ds.length dc] 24)).alloc (.cells #[.bool false, .slice none 0 0, .slice none 0 0] 24) = x := ⟨_, rfl⟩
  rw [hwe] at hbox ⊢
  obtain ⟨ka1, kr1, hb1⟩ := hbox
  have HWE := Lib.hid hwe
  clear hwe HWE
  have ha1 := ha.below hb1
  have hw1 := hb1
  clear ha hb1
  obtain ⟨a0, a1, a2, a3, a4, a5, a6⟩ := ka1.facts
  go_wp2_with fail
  refine (qvalid_yes ⟨false, N, nc, ns, D, dc, ds⟩ q _ ha1 (by dsimp only; omega) (by dsimp only; omega)).mono ?_
  rintro e w2 ⟨rfl, hb2⟩
  have ha2 := ha1.below hb2
  have ka2 := ka1.below hb2
  have kr2 := kr1.below hb2
  have hw2 := hw1.trans (hb2.mono hw1.size)
  clear ha1 ka1 kr1 hw1 hb2
  clear a0 a1 a2 a3 a4 a5 a6
  have hns := ha2.rn
  have hds := ha2.rd
  have mns := ha2.mn
  have mds := ha2.md
  have hdp := ha2.dpos
  dsimp only at hns hds mns mds hdp
  have hns2 := hns
  have hds2 := hds
  clear hns hds
  go_wp2_with fail
  refine (from_any 1 _ (by omega)).mono ?_
  rintro e w3 ⟨O, oc, ol, rfl, hoc, hO3, hb3, hvo, mo, hol_⟩
  have ka3 := ka2.below hb3
  have kr3 := kr2.below hb3
  have hns3 := hns2.below hb3
  have hds3 := hds2.below hb3
  have hw3 := hw2.trans (hb3.mono hw2.size)
  clear ka2 kr2 hns2 hds2 hw2 hb3
  have HVO := Lib.hid hvo
  clear hvo
  have hol : ol.length ≤ 4096 := by omega
  go_wp2_with fail
  refine (Shift_up O oc k ol _ hO3 ⟨hol, mo.2⟩ mo.1 (by omega)).mono ?_
  rintro e w4 ⟨U, uc, ul, hU4, huc, hb4, ⟨hvu, mu⟩, hfit⟩
  have ka4 := ka3.below hb4
  have kr4 := kr3.below hb4
  have hns4 := hns3.below hb4
  have hds4 := hds3.below hb4
  have hO4 := hO3.below hb4
  have hw4 := hw3.trans (hb4.mono hw3.size)
  clear ka3 kr3 hns3 hds3 hO3 hw3 hb4
  have HVU : Hid (V32 ul = 2 ^ k) := by show _ = _; rw [hvu, HVO.out, Nat.one_mul]
  clear hvu
  have hul := units_len (t := 126) mu HVU.out (by omega)
  have hfit2 := hfit.resolve_right (fun h => by omega)
  obtain ⟨_, rfl⟩ := hfit2
  obtain ⟨a0, a1, a2, a3, a4, a5, a6⟩ := ka4.facts
  go_upto_region 6 with fail
  go_cut [10, 11] (fun s10 s11 wx => ∃ Z zc zl Y yc yl, s10 = .slice Z (zl : List Nat).length zc ∧ s11 = .slice Y (yl : List Nat).length yc ∧ zl.length ≤ zc ∧ Rd .u32 wx Z zl ∧ Mag zl ∧ Mag yl ∧ Hid (V32 zl = V32 ns * 2 ^ k / V32 ds) ∧ Hid (V32 yl = V32 ns * 2 ^ k % V32 ds) ∧ zl.length ≤ 132 ∧ yl.length ≤ 6 ∧ Below w4.heap.size w4 wx)
  case first =>
    go_region_held3 (fun w' => w'.cell? ⟨w.heap.size, 1, none⟩ = some (.slice N ns.length nc) ∧ w'.cell? ⟨w.heap.size, 2, none⟩ = some (.slice D ds.length dc)) (first | exact ⟨‹_›, ‹_›⟩ | go_keep)
      (first
      | (go_at_call 170
         refine (qtimes N U nc uc ns ul _ (by first | exact hns4 | exact hns4.drew | exact hns4.alloc _ | exact (hns4.alloc _).drew | exact hns4.drew.alloc _) (by first | exact hU4 | exact hU4.drew | exact hU4.alloc _ | exact (hU4.alloc _).drew | exact hU4.drew.alloc _) (by omega) mns mu).mono ?_
         rintro e wt_ ⟨P, pc, pl, rfl, hpc, hP, hbt, ⟨hvp, mp, hpl⟩⟩
         have HVP := Lib.hid hvp
         clear hvp
         have hbp0 : Below w4.heap.size w4 wt_ := by first | exact hbt | exact below_of_drew hbt (Nat.le_refl _) | exact ((Below.refl _ _).alloc (Nat.le_refl _) _).trans (hbt.mono (by simp)) | exact ((Below.refl _ _).alloc (Nat.le_refl _) _).trans ((below_of_drew hbt (Nat.le_refl _)).mono (by simp)) | exact below_of_drew (((Below.refl _ _).alloc (Nat.le_refl _) _).trans (hbt.mono (by simp))) (Nat.le_refl _)
         have hns_0 := hns4.below hbp0
         have hds_0 := hds4.below hbp0
         have hU_0 := hU4.below hbp0
         have ka_0 := ka4.below hbp0
         obtain ⟨ka0wt_, ka1wt_, ka2wt_, ka3wt_, ka4wt_, ka5wt_, ka6wt_⟩ := ka_0.facts
         have hwq0 := hw4.trans (hbp0.mono hw4.size))
      | (go_at_call 182
         refine (qdivide P D pc dc pl ds _ (by first | exact hP | exact hP.drew | exact hP.alloc _ | exact (hP.alloc _).drew | exact hP.drew.alloc _) (by first | exact hds_0 | exact hds_0.drew | exact hds_0.alloc _ | exact (hds_0.alloc _).drew | exact hds_0.drew.alloc _) (by omega) (by omega) mp mds hdp).mono ?_
         rintro e wd_ ⟨Z, zc, zl, Y, yc, yl, rfl, hZ, hY, mz, my_, hzc, hyc, hvz, hvy, hzl, hyl, hbd⟩
         have hbp1 : Below wt_.heap.size wt_ wd_ := by first | exact hbd | exact below_of_drew hbd (Nat.le_refl _) | exact ((Below.refl _ _).alloc (Nat.le_refl _) _).trans (hbd.mono (by simp)) | exact ((Below.refl _ _).alloc (Nat.le_refl _) _).trans ((below_of_drew hbd (Nat.le_refl _)).mono (by simp)) | exact below_of_drew (((Below.refl _ _).alloc (Nat.le_refl _) _).trans (hbd.mono (by simp))) (Nat.le_refl _)
         have hns_1 := hns_0.below hbp1
         have hds_1 := hds_0.below hbp1
         have hU_1 := hU_0.below hbp1
         have hP_1 := hP.below hbp1
         have ka_1 := ka_0.below hbp1
         obtain ⟨ka0wd_, ka1wd_, ka2wd_, ka3wd_, ka4wd_, ka5wd_, ka6wd_⟩ := ka_1.facts
         have hwq1 := hwq0.trans (hbp1.mono hwq0.size)))
    all_goals
      go_wp2_with fail
      go_meet
      exact ⟨Z, zc, zl, Y, yc, yl, rfl, rfl, hzc, hZ, mz, my_, by show _ = _; rw [hvz.out, HVP.out, HVU.out], by show _ = _; rw [hvy.out, HVP.out, HVU.out], by omega, by omega, hbp0.trans (hbp1.mono hbp0.size)⟩
  clear a0 a1 a2 a3 a4 a5 a6
  obtain ⟨w5, rfl⟩ : ∃ x, x = wc := ⟨_, rfl⟩
  obtain ⟨Z, zc, zl, Y, yc, yl, rfl, rfl, hzc, hZ5, mz, my_, hvz, hvy, hzl, hyl, hb5⟩ := hcut
  have ka5 := ka4.below hb5
  have kr5 := kr4.below hb5
  have hns5 := hns4.below hb5
  have hds5 := hds4.below hb5
  have hO5 := hO4.below hb5
  have hU5 := hU4.below hb5
  have hw5 := hw4.trans (hb5.mono hw4.size)
  clear ka4 kr4 hns4 hds4 hO4 hU4 hw4 hb5
  have hyp : ¬ 0 < yl.length := fun h => by have h3 := V32_pos my_ h; rw [hvy.out, HRS.out] at h3; omega
  obtain ⟨a0, a1, a2, a3, a4, a5, a6⟩ := ka5.facts
  have HS : Hid (V32 zl = rnd (V32 ns * 2 ^ k) (V32 ds) (false != false)) := by show _ = _; rw [hvz.out]; simp [rnd]
  have hup : 0 < ul.length := by rcases Nat.eq_zero_or_pos ul.length with h | h; (have h3 := HVU.out; rw [List.eq_nil_of_length_eq_zero h] at h3; have h4 : 0 < 2 ^ k := Nat.pow_pos (by omega); simp [V32, val] at h3; omega); exact h
  go_wp2_with fail
  refine (reduced_any false Z U zc uc zl ul _ hZ5 hU5 huc (by omega) (by omega) mz mu hup).mono ?_
  rintro e w6 ⟨r, rfl, hr6, hrl1, hrl2, hb6⟩
  have ka6 := ka5.below hb6
  have kr6 := kr5.below hb6
  have hns6 := hns5.below hb6
  have hds6 := hds5.below hb6
  have hO6 := hO5.below hb6
  have hU6 := hU5.below hb6
  have hZ6 := hZ5.below hb6
  have hw6 := hw5.trans (hb6.mono hw5.size)
  clear ka5 kr5 hns5 hds5 hO5 hU5 hZ5 hw5 hb6
  clear a0 a1 a2 a3 a4 a5 a6
  rw [HS.out, HVU.out] at hr6
  go_wp2_with fail
  refine (qfit r _ 200 _ hr6 (by omega) (by omega) (by omega)).mono ?_
  rintro e w7 ⟨t, rfl, ht7, htl1, htl2, hb7⟩
  have ka7 := ka6.below hb7
  have kr7 := kr6.below hb7
  have hns7 := hns6.below hb7
  have hds7 := hds6.below hb7
  have hO7 := hO6.below hb7
  have hU7 := hU6.below hb7
  have hZ7 := hZ6.below hb7
  have hr7 := hr6.below hb7
  have hw7 := hw6.trans (hb7.mono hw6.size)
  clear ka6 kr6 hns6 hds6 hO6 hU6 hZ6 hr6 hw6 hb7
  obtain ⟨c0, c1, c2, c3, c4, c5, c6⟩ := kr7.facts
  go_wp2_with fail
  refine bodyPost_ret (v := .tuple #[.agg #[.bool t.s, .slice t.N t.ns.length t.nc, .slice t.D t.ds.length t.dc], .int .i64 0]) (by simp [results, Tryz.results112, go_sem, c0, c1, c2]) rfl ?_
  exact RatOk.put t ht7 kr7 (by omega) hw7 htl1 htl2
set_option maxRecDepth 20000 in
set_option maxHeartbeats 1600000 in
theorem qrnd_ftr (N D : Option Addr) (nc dc : Nat) (ns ds : List Nat) (q : Rat) (k : Nat) (hrs : 0 < V32 ns * 2 ^ k % V32 ds) (hk : k ≤ 4000) (w : World) (ha : RL.Is w ⟨false, N, nc, ns, D, dc, ds⟩ q) (l1 : ns.length ≤ 6) (l2 : ds.length ≤ 6) :
    Calls Tryz.prog 112 #[.agg #[.bool false, .slice N ns.length nc, .slice D ds.length dc], .int .i64 k, .bool true] w (RatOk (mkRat (sgn false (rnd (V32 ns * 2 ^ k) (V32 ds) (true != false))) (2 ^ k)) 200 w) := by
  have HRS := Lib.hid hrs
  clear hrs
  go_enter Tryz.func112, Tryz.ntmps112
  go_wp2_with fail
  have hbox := box1r w (.bool false) (.slice N ns.length nc) (.slice D ds.length dc) (.bool false) (.slice none 0 0) (.slice none 0 0)
  obtain ⟨w1, hwe⟩ : ∃ x, (w.alloc (.cells #[.bool false, .slice N ns.length nc, .slice D ds.length dc] 24)).alloc (.cells #[.bool false, .slice none 0 0, .slice none 0 0] 24) = x := ⟨_, rfl⟩
  rw [hwe] at hbox ⊢
  obtain ⟨ka1, kr1, hb1⟩ := hbox
  have HWE := Lib.hid hwe
  clear hwe HWE
  have ha1 := ha.below hb1
  have hw1 := hb1
  clear ha hb1
  obtain ⟨a0, a1, a2, a3, a4, a5, a6⟩ := ka1.facts
  go_wp2_with fail
  refine (qvalid_yes ⟨false, N, nc, ns, D, dc, ds⟩ q _ ha1 (by dsimp only; omega) (by dsimp only; omega)).mono ?_
  rintro e w2 ⟨rfl, hb2⟩
  have ha2 := ha1.below hb2
  have ka2 := ka1.below hb2
  have kr2 := kr1.below hb2
  have hw2 := hw1.trans (hb2.mono hw1.size)
  clear ha1 ka1 kr1 hw1 hb2
  clear a0 a1 a2 a3 a4 a5 a6
  have hns := ha2.rn
  have hds := ha2.rd
  have mns := ha2.mn
  have mds := ha2.md
  have hdp := ha2.dpos
  dsimp only at hns hds mns mds hdp
  have hns2 := hns
  have hds2 := hds
  clear hns hds
  go_wp2_with fail
  refine (from_any 1 _ (by omega)).mono ?_
  rintro e w3 ⟨O, oc, ol, rfl, hoc, hO3, hb3, hvo, mo, hol_⟩
  have ka3 := ka2.below hb3
  have kr3 := kr2.below hb3
  have hns3 := hns2.below hb3
  have hds3 := hds2.below hb3
  have hw3 := hw2.trans (hb3.mono hw2.size)
  clear ka2 kr2 hns2 hds2 hw2 hb3
  have HVO := Lib.hid hvo
  clear hvo
  have hol : ol.length ≤ 4096 := by omega
  go_wp2_with fail
  refine (Shift_up O oc k ol _ hO3 ⟨hol, mo.2⟩ mo.1 (by omega)).mono ?_
  rintro e w4 ⟨U, uc, ul, hU4, huc, hb4, ⟨hvu, mu⟩, hfit⟩
  have ka4 := ka3.below hb4
  have kr4 := kr3.below hb4
  have hns4 := hns3.below hb4
  have hds4 := hds3.below hb4
  have hO4 := hO3.below hb4
  have hw4 := hw3.trans (hb4.mono hw3.size)
  clear ka3 kr3 hns3 hds3 hO3 hw3 hb4
  have HVU : Hid (V32 ul = 2 ^ k) := by show _ = _; rw [hvu, HVO.out, Nat.one_mul]
  clear hvu
  have hul := units_len (t := 126) mu HVU.out (by omega)
  have hfit2 := hfit.resolve_right (fun h => by omega)
  obtain ⟨_, rfl⟩ := hfit2
  obtain ⟨a0, a1, a2, a3, a4, a5, a6⟩ := ka4.facts
  go_upto_region 6 with fail
  go_cut [10, 11] (fun s10 s11 wx => ∃ Z zc zl Y yc yl, s10 = .slice Z (zl : List Nat).length zc ∧ s11 = .slice Y (yl : List Nat).length yc ∧ zl.length ≤ zc ∧ Rd .u32 wx Z zl ∧ Mag zl ∧ Mag yl ∧ Hid (V32 zl = V32 ns * 2 ^ k / V32 ds) ∧ Hid (V32 yl = V32 ns * 2 ^ k % V32 ds) ∧ zl.length ≤ 132 ∧ yl.length ≤ 6 ∧ Below w4.heap.size w4 wx)
  case first =>
    go_region_held3 (fun w' => w'.cell? ⟨w.heap.size, 1, none⟩ = some (.slice N ns.length nc) ∧ w'.cell? ⟨w.heap.size, 2, none⟩ = some (.slice D ds.length dc)) (first | exact ⟨‹_›, ‹_›⟩ | go_keep)
      (first
      | (go_at_call 170
         refine (qtimes N U nc uc ns ul _ (by first | exact hns4 | exact hns4.drew | exact hns4.alloc _ | exact (hns4.alloc _).drew | exact hns4.drew.alloc _) (by first | exact hU4 | exact hU4.drew | exact hU4.alloc _ | exact (hU4.alloc _).drew | exact hU4.drew.alloc _) (by omega) mns mu).mono ?_
         rintro e wt_ ⟨P, pc, pl, rfl, hpc, hP, hbt, ⟨hvp, mp, hpl⟩⟩
         have HVP := Lib.hid hvp
         clear hvp
         have hbp0 : Below w4.heap.size w4 wt_ := by first | exact hbt | exact below_of_drew hbt (Nat.le_refl _) | exact ((Below.refl _ _).alloc (Nat.le_refl _) _).trans (hbt.mono (by simp)) | exact ((Below.refl _ _).alloc (Nat.le_refl _) _).trans ((below_of_drew hbt (Nat.le_refl _)).mono (by simp)) | exact below_of_drew (((Below.refl _ _).alloc (Nat.le_refl _) _).trans (hbt.mono (by simp))) (Nat.le_refl _)
         have hns_0 := hns4.below hbp0
         have hds_0 := hds4.below hbp0
         have hU_0 := hU4.below hbp0
         have ka_0 := ka4.below hbp0
         obtain ⟨ka0wt_, ka1wt_, ka2wt_, ka3wt_, ka4wt_, ka5wt_, ka6wt_⟩ := ka_0.facts
         have hwq0 := hw4.trans (hbp0.mono hw4.size))
      | (go_at_call 182
         refine (qdivide P D pc dc pl ds _ (by first | exact hP | exact hP.drew | exact hP.alloc _ | exact (hP.alloc _).drew | exact hP.drew.alloc _) (by first | exact hds_0 | exact hds_0.drew | exact hds_0.alloc _ | exact (hds_0.alloc _).drew | exact hds_0.drew.alloc _) (by omega) (by omega) mp mds hdp).mono ?_
         rintro e wd_ ⟨Z, zc, zl, Y, yc, yl, rfl, hZ, hY, mz, my_, hzc, hyc, hvz, hvy, hzl, hyl, hbd⟩
         have hbp1 : Below wt_.heap.size wt_ wd_ := by first | exact hbd | exact below_of_drew hbd (Nat.le_refl _) | exact ((Below.refl _ _).alloc (Nat.le_refl _) _).trans (hbd.mono (by simp)) | exact ((Below.refl _ _).alloc (Nat.le_refl _) _).trans ((below_of_drew hbd (Nat.le_refl _)).mono (by simp)) | exact below_of_drew (((Below.refl _ _).alloc (Nat.le_refl _) _).trans (hbd.mono (by simp))) (Nat.le_refl _)
         have hns_1 := hns_0.below hbp1
         have hds_1 := hds_0.below hbp1
         have hU_1 := hU_0.below hbp1
         have hP_1 := hP.below hbp1
         have ka_1 := ka_0.below hbp1
         obtain ⟨ka0wd_, ka1wd_, ka2wd_, ka3wd_, ka4wd_, ka5wd_, ka6wd_⟩ := ka_1.facts
         have hwq1 := hwq0.trans (hbp1.mono hwq0.size)))
    all_goals
      go_wp2_with fail
      go_meet
      exact ⟨Z, zc, zl, Y, yc, yl, rfl, rfl, hzc, hZ, mz, my_, by show _ = _; rw [hvz.out, HVP.out, HVU.out], by show _ = _; rw [hvy.out, HVP.out, HVU.out], by omega, by omega, hbp0.trans (hbp1.mono hbp0.size)⟩
  clear a0 a1 a2 a3 a4 a5 a6
  obtain ⟨w5, rfl⟩ : ∃ x, x = wc := ⟨_, rfl⟩
  obtain ⟨Z, zc, zl, Y, yc, yl, rfl, rfl, hzc, hZ5, mz, my_, hvz, hvy, hzl, hyl, hb5⟩ := hcut
  have ka5 := ka4.below hb5
  have kr5 := kr4.below hb5
  have hns5 := hns4.below hb5
  have hds5 := hds4.below hb5
  have hO5 := hO4.below hb5
  have hU5 := hU4.below hb5
  have hw5 := hw4.trans (hb5.mono hw4.size)
  clear ka4 kr4 hns4 hds4 hO4 hU4 hw4 hb5
  have hyp : 0 < yl.length := by rcases Nat.eq_zero_or_pos yl.length with h | h; (have h3 := HRS.out; rw [← hvy.out, List.eq_nil_of_length_eq_zero h] at h3; simp [V32, val] at h3); exact h
  obtain ⟨a0, a1, a2, a3, a4, a5, a6⟩ := ka5.facts
  go_wp2_with fail
  refine (from_any 1 _ (by omega)).mono ?_
  rintro e w6 ⟨O2, oc2, ol2, rfl, hoc2, hO2_6, hb6, hvo2, mo2, hol2_⟩
  have ka6 := ka5.below hb6
  have kr6 := kr5.below hb6
  have hns6 := hns5.below hb6
  have hds6 := hds5.below hb6
  have hO6 := hO5.below hb6
  have hU6 := hU5.below hb6
  have hZ6 := hZ5.below hb6
  have hw6 := hw5.trans (hb6.mono hw5.size)
  clear ka5 kr5 hns5 hds5 hO5 hU5 hZ5 hw5 hb6
  clear a0 a1 a2 a3 a4 a5 a6
  have HVO2 := Lib.hid hvo2
  clear hvo2
  obtain ⟨a0, a1, a2, a3, a4, a5, a6⟩ := ka6.facts
  go_wp2_with fail
  refine (qplus Z O2 zc oc2 zl ol2 _ hZ6 hO2_6 (by omega) (by omega) mz.1 mo2.1).mono ?_
  rintro e w7 ⟨V, vc, vl, rfl, hvc, hV7, hb7, hvv, mv, hvl⟩
  have ka7 := ka6.below hb7
  have kr7 := kr6.below hb7
  have hns7 := hns6.below hb7
  have hds7 := hds6.below hb7
  have hO7 := hO6.below hb7
  have hU7 := hU6.below hb7
  have hZ7 := hZ6.below hb7
  have hO2_7 := hO2_6.below hb7
  have hw7 := hw6.trans (hb7.mono hw6.size)
  clear ka6 kr6 hns6 hds6 hO6 hU6 hZ6 hO2_6 hw6 hb7
  clear a0 a1 a2 a3 a4 a5 a6
  have HVV := Lib.hid hvv
  clear hvv
  obtain ⟨a0, a1, a2, a3, a4, a5, a6⟩ := ka7.facts
  have HS : Hid (V32 vl = rnd (V32 ns * 2 ^ k) (V32 ds) (true != false)) := by show _ = _; rw [HVV.out, HVO2.out, hvz.out]; simp [rnd, HRS.out]
  have hup : 0 < ul.length := by rcases Nat.eq_zero_or_pos ul.length with h | h; (have h3 := HVU.out; rw [List.eq_nil_of_length_eq_zero h] at h3; have h4 : 0 < 2 ^ k := Nat.pow_pos (by omega); simp [V32, val] at h3; omega); exact h
  go_wp2_with fail
  refine (reduced_any false V U vc uc vl ul _ hV7 hU7 huc (by omega) (by omega) mv mu hup).mono ?_
  rintro e w8 ⟨r, rfl, hr8, hrl1, hrl2, hb8⟩
  have ka8 := ka7.below hb8
  have kr8 := kr7.below hb8
  have hns8 := hns7.below hb8
  have hds8 := hds7.below hb8
  have hO8 := hO7.below hb8
  have hU8 := hU7.below hb8
  have hZ8 := hZ7.below hb8
  have hO2_8 := hO2_7.below hb8
  have hV8 := hV7.below hb8
  have hw8 := hw7.trans (hb8.mono hw7.size)
  clear ka7 kr7 hns7 hds7 hO7 hU7 hZ7 hO2_7 hV7 hw7 hb8
  clear a0 a1 a2 a3 a4 a5 a6
  rw [HS.out, HVU.out] at hr8
  go_wp2_with fail
  refine (qfit r _ 200 _ hr8 (by omega) (by omega) (by omega)).mono ?_
  rintro e w9 ⟨t, rfl, ht9, htl1, htl2, hb9⟩
  have ka9 := ka8.below hb9
  have kr9 := kr8.below hb9
  have hns9 := hns8.below hb9
  have hds9 := hds8.below hb9
  have hO9 := hO8.below hb9
  have hU9 := hU8.below hb9
  have hZ9 := hZ8.below hb9
  have hO2_9 := hO2_8.below hb9
  have hV9 := hV8.below hb9
  have hr9 := hr8.below hb9
  have hw9 := hw8.trans (hb9.mono hw8.size)
  clear ka8 kr8 hns8 hds8 hO8 hU8 hZ8 hO2_8 hV8 hr8 hw8 hb9
  obtain ⟨c0, c1, c2, c3, c4, c5, c6⟩ := kr9.facts
  go_wp2_with fail
  refine bodyPost_ret (v := .tuple #[.agg #[.bool t.s, .slice t.N t.ns.length t.nc, .slice t.D t.ds.length t.dc], .int .i64 0]) (by simp [results, Tryz.results112, go_sem, c0, c1, c2]) rfl ?_
  exact RatOk.put t ht9 kr9 (by omega) hw9 htl1 htl2
set_option maxRecDepth 20000 in
set_option maxHeartbeats 1600000 in
theorem qrnd_ftz (N D : Option Addr) (nc dc : Nat) (ns ds : List Nat) (q : Rat) (k : Nat) (hrs : V32 ns * 2 ^ k % V32 ds = 0) (hk : k ≤ 4000) (w : World) (ha : RL.Is w ⟨false, N, nc, ns, D, dc, ds⟩ q) (l1 : ns.length ≤ 6) (l2 : ds.length ≤ 6) :
    Calls Tryz.prog 112 #[.agg #[.bool false, .slice N ns.length nc, .slice D ds.length dc], .int .i64 k, .bool true] w (RatOk (mkRat (sgn false (rnd (V32 ns * 2 ^ k) (V32 ds) (true != false))) (2 ^ k)) 200 w) := by
  have HRS := Lib.hid hrs
  clear hrs
  go_enter Tryz.func112, Tryz.ntmps112
  go_wp2_with fail
  have hbox := box1r w (.bool false) (.slice N ns.length nc) (.slice D ds.length dc) (.bool false) (.slice none 0 0) (.slice none 0 0)
  obtain ⟨w1, hwe⟩ : ∃ x, (w.alloc (.cells #[.bool false, .slice N ns.length nc, .slice D ds.length dc] 24)).alloc (.cells #[.bool false, .slice none 0 0, .slice none 0 0] 24) = x := ⟨_, rfl⟩
  rw [hwe] at hbox ⊢
  obtain ⟨ka1, kr1, hb1⟩ := hbox
  have HWE := Lib.hid hwe
  clear hwe HWE
  have ha1 := ha.below hb1
  have hw1 := hb1
  clear ha hb1
  obtain ⟨a0, a1, a2, a3, a4, a5, a6⟩ := ka1.facts
  go_wp2_with fail
  refine (qvalid_yes ⟨false, N, nc, ns, D, dc, ds⟩ q _ ha1 (by dsimp only; omega) (by dsimp only; omega)).mono ?_
  rintro e w2 ⟨rfl, hb2⟩
  have ha2 := ha1.below hb2
  have ka2 := ka1.below hb2
  have kr2 := kr1.below hb2
  have hw2 := hw1.trans (hb2.mono hw1.size)
  clear ha1 ka1 kr1 hw1 hb2
  clear a0 a1 a2 a3 a4 a5 a6
  have hns := ha2.rn
  have hds := ha2.rd
  have mns := ha2.mn
  have mds := ha2.md
  have hdp := ha2.dpos
  dsimp only at hns hds mns mds hdp
  have hns2 := hns
  have hds2 := hds
  clear hns hds
  go_wp2_with fail
  refine (from_any 1 _ (by omega)).mono ?_
  rintro e w3 ⟨O, oc, ol, rfl, hoc, hO3, hb3, hvo, mo, hol_⟩
  have ka3 := ka2.below hb3
  have kr3 := kr2.below hb3
  have hns3 := hns2.below hb3
  have hds3 := hds2.below hb3
  have hw3 := hw2.trans (hb3.mono hw2.size)
  clear ka2 kr2 hns2 hds2 hw2 hb3
  have HVO := Lib.hid hvo
  clear hvo
  have hol : ol.length ≤ 4096 := by omega
  go_wp2_with fail
  refine (Shift_up O oc k ol _ hO3 ⟨hol, mo.2⟩ mo.1 (by omega)).mono ?_
  rintro e w4 ⟨U, uc, ul, hU4, huc, hb4, ⟨hvu, mu⟩, hfit⟩
  have ka4 := ka3.below hb4
  have kr4 := kr3.below hb4
  have hns4 := hns3.below hb4
  have hds4 := hds3.below hb4
  have hO4 := hO3.below hb4
  have hw4 := hw3.trans (hb4.mono hw3.size)
  clear ka3 kr3 hns3 hds3 hO3 hw3 hb4
  have HVU : Hid (V32 ul = 2 ^ k) := by show _ = _; rw [hvu, HVO.out, Nat.one_mul]
  clear hvu
  have hul := units_len (t := 126) mu HVU.out (by omega)
  have hfit2 := hfit.resolve_right (fun h => by omega)
  obtain ⟨_, rfl⟩ := hfit2
  obtain ⟨a0, a1, a2, a3, a4, a5, a6⟩ := ka4.facts
  go_upto_region 6 with fail
  go_cut [10, 11] (fun s10 s11 wx => ∃ Z zc zl Y yc yl, s10 = .slice Z (zl : List Nat).length zc ∧ s11 = .slice Y (yl : List Nat).length yc ∧ zl.length ≤ zc ∧ Rd .u32 wx Z zl ∧ Mag zl ∧ Mag yl ∧ Hid (V32 zl = V32 ns * 2 ^ k / V32 ds) ∧ Hid (V32 yl = V32 ns * 2 ^ k % V32 ds) ∧ zl.length ≤ 132 ∧ yl.length ≤ 6 ∧ Below w4.heap.size w4 wx)
  case first =>
    go_region_held3 (fun w' => w'.cell? ⟨w.heap.size, 1, none⟩ = some (.slice N ns.length nc) ∧ w'.cell? ⟨w.heap.size, 2, none⟩ = some (.slice D ds.length dc)) (first | exact ⟨‹_›, ‹_›⟩ | go_keep)
      (first
      | (go_at_call 170
         refine (qtimes N U nc uc ns ul _ (by first | exact hns4 | exact hns4.drew | exact hns4.alloc _ | exact (hns4.alloc _).drew | exact hns4.drew.alloc _) (by first | exact hU4 | exact hU4.drew | exact hU4.alloc _ | exact (hU4.alloc _).drew | exact hU4.drew.alloc _) (by omega) mns mu).mono ?_
         rintro e wt_ ⟨P, pc, pl, rfl, hpc, hP, hbt, ⟨hvp, mp, hpl⟩⟩
         have HVP := Lib.hid hvp
         clear hvp
         have hbp0 : Below w4.heap.size w4 wt_ := by first | exact hbt | exact below_of_drew hbt (Nat.le_refl _) | exact ((Below.refl _ _).alloc (Nat.le_refl _) _).trans (hbt.mono (by simp)) | exact ((Below.refl _ _).alloc (Nat.le_refl _) _).trans ((below_of_drew hbt (Nat.le_refl _)).mono (by simp)) | exact below_of_drew (((Below.refl _ _).alloc (Nat.le_refl _) _).trans (hbt.mono (by simp))) (Nat.le_refl _)
         have hns_0 := hns4.below hbp0
         have hds_0 := hds4.below hbp0
         have hU_0 := hU4.below hbp0
         have ka_0 := ka4.below hbp0
         obtain ⟨ka0wt_, ka1wt_, ka2wt_, ka3wt_, ka4wt_, ka5wt_, ka6wt_⟩ := ka_0.facts
         have hwq0 := hw4.trans (hbp0.mono hw4.size))
      | (go_at_call 182
         refine (qdivide P D pc dc pl ds _ (by first | exact hP | exact hP.drew | exact hP.alloc _ | exact (hP.alloc _).drew | exact hP.drew.alloc _) (by first | exact hds_0 | exact hds_0.drew | exact hds_0.alloc _ | exact (hds_0.alloc _).drew | exact hds_0.drew.alloc _) (by omega) (by omega) mp mds hdp).mono ?_
         rintro e wd_ ⟨Z, zc, zl, Y, yc, yl, rfl, hZ, hY, mz, my_, hzc, hyc, hvz, hvy, hzl, hyl, hbd⟩
         have hbp1 : Below wt_.heap.size wt_ wd_ := by first | exact hbd | exact below_of_drew hbd (Nat.le_refl _) | exact ((Below.refl _ _).alloc (Nat.le_refl _) _).trans (hbd.mono (by simp)) | exact ((Below.refl _ _).alloc (Nat.le_refl _) _).trans ((below_of_drew hbd (Nat.le_refl _)).mono (by simp)) | exact below_of_drew (((Below.refl _ _).alloc (Nat.le_refl _) _).trans (hbd.mono (by simp))) (Nat.le_refl _)
         have hns_1 := hns_0.below hbp1
         have hds_1 := hds_0.below hbp1
         have hU_1 := hU_0.below hbp1
         have hP_1 := hP.below hbp1
         have ka_1 := ka_0.below hbp1
         obtain ⟨ka0wd_, ka1wd_, ka2wd_, ka3wd_, ka4wd_, ka5wd_, ka6wd_⟩ := ka_1.facts
         have hwq1 := hwq0.trans (hbp1.mono hwq0.size)))
    all_goals
      go_wp2_with fail
      go_meet
      exact ⟨Z, zc, zl, Y, yc, yl, rfl, rfl, hzc, hZ, mz, my_, by show _ = _; rw [hvz.out, HVP.out, HVU.out], by show _ = _; rw [hvy.out, HVP.out, HVU.out], by omega, by omega, hbp0.trans (hbp1.mono hbp0.size)⟩
  clear a0 a1 a2 a3 a4 a5 a6
  obtain ⟨w5, rfl⟩ : ∃ x, x = wc := ⟨_, rfl⟩
  obtain ⟨Z, zc, zl, Y, yc, yl, rfl, rfl, hzc, hZ5, mz, my_, hvz, hvy, hzl, hyl, hb5⟩ := hcut
  have ka5 := ka4.below hb5
  have kr5 := kr4.below hb5
  have hns5 := hns4.below hb5
  have hds5 := hds4.below hb5
  have hO5 := hO4.below hb5
  have hU5 := hU4.below hb5
  have hw5 := hw4.trans (hb5.mono hw4.size)
  clear ka4 kr4 hns4 hds4 hO4 hU4 hw4 hb5
  have hyp : ¬ 0 < yl.length := fun h => by have h3 := V32_pos my_ h; rw [hvy.out, HRS.out] at h3; omega
  obtain ⟨a0, a1, a2, a3, a4, a5, a6⟩ := ka5.facts
  have HS : Hid (V32 zl = rnd (V32 ns * 2 ^ k) (V32 ds) (true != false)) := by show _ = _; rw [hvz.out]; simp [rnd, HRS.out]
  have hup : 0 < ul.length := by rcases Nat.eq_zero_or_pos ul.length with h | h; (have h3 := HVU.out; rw [List.eq_nil_of_length_eq_zero h] at h3; have h4 : 0 < 2 ^ k := Nat.pow_pos (by omega); simp [V32, val] at h3; omega); exact h
  go_wp2_with fail
  refine (reduced_any false Z U zc uc zl ul _ hZ5 hU5 huc (by omega) (by omega) mz mu hup).mono ?_
  rintro e w6 ⟨r, rfl, hr6, hrl1, hrl2, hb6⟩
  have ka6 := ka5.below hb6
  have kr6 := kr5.below hb6
  have hns6 := hns5.below hb6
  have hds6 := hds5.below hb6
  have hO6 := hO5.below hb6
  have hU6 := hU5.below hb6
  have hZ6 := hZ5.below hb6
  have hw6 := hw5.trans (hb6.mono hw5.size)
  clear ka5 kr5 hns5 hds5 hO5 hU5 hZ5 hw5 hb6
  clear a0 a1 a2 a3 a4 a5 a6
  rw [HS.out, HVU.out] at hr6
  go_wp2_with fail
  refine (qfit r _ 200 _ hr6 (by omega) (by omega) (by omega)).mono ?_
  rintro e w7 ⟨t, rfl, ht7, htl1, htl2, hb7⟩
  have ka7 := ka6.below hb7
  have kr7 := kr6.below hb7
  have hns7 := hns6.below hb7
  have hds7 := hds6.below hb7
  have hO7 := hO6.below hb7
  have hU7 := hU6.below hb7
  have hZ7 := hZ6.below hb7
  have hr7 := hr6.below hb7
  have hw7 := hw6.trans (hb7.mono hw6.size)
  clear ka6 kr6 hns6 hds6 hO6 hU6 hZ6 hr6 hw6 hb7
  obtain ⟨c0, c1, c2, c3, c4, c5, c6⟩ := kr7.facts
  go_wp2_with fail
  refine bodyPost_ret (v := .tuple #[.agg #[.bool t.s, .slice t.N t.ns.length t.nc, .slice t.D t.ds.length t.dc], .int .i64 0]) (by simp [results, Tryz.results112, go_sem, c0, c1, c2]) rfl ?_
  exact RatOk.put t ht7 kr7 (by omega) hw7 htl1 htl2
set_option maxRecDepth 20000 in
set_option maxHeartbeats 1600000 in
theorem qrnd_tfr (N D : Option Addr) (nc dc : Nat) (ns ds : List Nat) (q : Rat) (k : Nat) (hrs : 0 < V32 ns * 2 ^ k % V32 ds) (hk : k ≤ 4000) (w : World) (ha : RL.Is w ⟨true, N, nc, ns, D, dc, ds⟩ q) (l1 : ns.length ≤ 6) (l2 : ds.length ≤ 6) :
    Calls Tryz.prog 112 #[.agg #[.bool true, .slice N ns.length nc, .slice D ds.length dc], .int .i64 k, .bool false] w (RatOk (mkRat (sgn true (rnd (V32 ns * 2 ^ k) (V32 ds) (false != true))) (2 ^ k)) 200 w) := by
  have HRS := Lib.hid hrs
  clear hrs
  go_enter Tryz.func112, Tryz.ntmps112
  go_wp2_with fail
  have hbox := box1r w (.bool true) (.slice N ns.length nc) (.slice D ds.length dc) (.bool false) (.slice none 0 0) (.slice none 0 0)
  obtain ⟨w1, hwe⟩ : ∃ x, (w.alloc (.cells #[.bool true, .slice N ns.length nc, .slice D ds.length dc] 24)).alloc (.cells #[.bool false, .slice none 0 0, .slice none 0 0] 24) = x := ⟨_, rfl⟩
  rw [hwe] at hbox ⊢
  obtain ⟨ka1, kr1, hb1⟩ := hbox
  have HWE := Lib.hid hwe
  clear hwe HWE
  have ha1 := ha.below hb1
  have hw1 := hb1
  clear ha hb1
  obtain ⟨a0, a1, a2, a3, a4, a5, a6⟩ := ka1.facts
  go_wp2_with fail
  refine (qvalid_yes ⟨true, N, nc, ns, D, dc, ds⟩ q _ ha1 (by dsimp only; omega) (by dsimp only; omega)).mono ?_
  rintro e w2 ⟨rfl, hb2⟩
  have ha2 := ha1.below hb2
  have ka2 := ka1.below hb2
  have kr2 := kr1.below hb2
  have hw2 := hw1.trans (hb2.mono hw1.size)
  clear ha1 ka1 kr1 hw1 hb2
  clear a0 a1 a2 a3 a4 a5 a6
  have hns := ha2.rn
  have hds := ha2.rd
  have mns := ha2.mn
  have mds := ha2.md
  have hdp := ha2.dpos
  dsimp only at hns hds mns mds hdp
  have hns2 := hns
  have hds2 := hds
  clear hns hds
  go_wp2_with fail
  refine (from_any 1 _ (by omega)).mono ?_
  rintro e w3 ⟨O, oc, ol, rfl, hoc, hO3, hb3, hvo, mo, hol_⟩
  have ka3 := ka2.below hb3
  have kr3 := kr2.below hb3
  have hns3 := hns2.below hb3
  have hds3 := hds2.below hb3
  have hw3 := hw2.trans (hb3.mono hw2.size)
  clear ka2 kr2 hns2 hds2 hw2 hb3
  have HVO := Lib.hid hvo
  clear hvo
  have hol : ol.length ≤ 4096 := by omega
  go_wp2_with fail
  refine (Shift_up O oc k ol _ hO3 ⟨hol, mo.2⟩ mo.1 (by omega)).mono ?_
  rintro e w4 ⟨U, uc, ul, hU4, huc, hb4, ⟨hvu, mu⟩, hfit⟩
  have ka4 := ka3.below hb4
  have kr4 := kr3.below hb4
  have hns4 := hns3.below hb4
  have hds4 := hds3.below hb4
  have hO4 := hO3.below hb4
  have hw4 := hw3.trans (hb4.mono hw3.size)
  clear ka3 kr3 hns3 hds3 hO3 hw3 hb4
  have HVU : Hid (V32 ul = 2 ^ k) := by show _ = _; rw [hvu, HVO.out, Nat.one_mul]
  clear hvu
  have hul := units_len (t := 126) mu HVU.out (by omega)
  have hfit2 := hfit.resolve_right (fun h => by omega)
  obtain ⟨_, rfl⟩ := hfit2
  obtain ⟨a0, a1, a2, a3, a4, a5, a6⟩ := ka4.facts
  go_upto_region 6 with fail
  go_cut [10, 11] (fun s10 s11 wx => ∃ Z zc zl Y yc yl, s10 = .slice Z (zl : List Nat).length zc ∧ s11 = .slice Y (yl : List Nat).length yc ∧ zl.length ≤ zc ∧ Rd .u32 wx Z zl ∧ Mag zl ∧ Mag yl ∧ Hid (V32 zl = V32 ns * 2 ^ k / V32 ds) ∧ Hid (V32 yl = V32 ns * 2 ^ k % V32 ds) ∧ zl.length ≤ 132 ∧ yl.length ≤ 6 ∧ Below w4.heap.size w4 wx)
  case first =>
    go_region_held3 (fun w' => w'.cell? ⟨w.heap.size, 1, none⟩ = some (.slice N ns.length nc) ∧ w'.cell? ⟨w.heap.size, 2, none⟩ = some (.slice D ds.length dc)) (first | exact ⟨‹_›, ‹_›⟩ | go_keep)
      (first
      | (go_at_call 170
         refine (qtimes N U nc uc ns ul _ (by first | exact hns4 | exact hns4.drew | exact hns4.alloc _ | exact (hns4.alloc _).drew | exact hns4.drew.alloc _) (by first | exact hU4 | exact hU4.drew | exact hU4.alloc _ | exact (hU4.alloc _).drew | exact hU4.drew.alloc _) (by omega) mns mu).mono ?_
         rintro e wt_ ⟨P, pc, pl, rfl, hpc, hP, hbt, ⟨hvp, mp, hpl⟩⟩
         have HVP := Lib.hid hvp
         clear hvp
         have hbp0 : Below w4.heap.size w4 wt_ := by first | exact hbt | exact below_of_drew hbt (Nat.le_refl _) | exact ((Below.refl _ _).alloc (Nat.le_refl _) _).trans (hbt.mono (by simp)) | exact ((Below.refl _ _).alloc (Nat.le_refl _) _).trans ((below_of_drew hbt (Nat.le_refl _)).mono (by simp)) | exact below_of_drew (((Below.refl _ _).alloc (Nat.le_refl _) _).trans (hbt.mono (by simp))) (Nat.le_refl _)
         have hns_0 := hns4.below hbp0
         have hds_0 := hds4.below hbp0
         have hU_0 := hU4.below hbp0
         have ka_0 := ka4.below hbp0
         obtain ⟨ka0wt_, ka1wt_, ka2wt_, ka3wt_, ka4wt_, ka5wt_, ka6wt_⟩ := ka_0.facts
         have hwq0 := hw4.trans (hbp0.mono hw4.size))
      | (go_at_call 182
         refine (qdivide P D pc dc pl ds _ (by first | exact hP | exact hP.drew | exact hP.alloc _ | exact (hP.alloc _).drew | exact hP.drew.alloc _) (by first | exact hds_0 | exact hds_0.drew | exact hds_0.alloc _ | exact (hds_0.alloc _).drew | exact hds_0.drew.alloc _) (by omega) (by omega) mp mds hdp).mono ?_
         rintro e wd_ ⟨Z, zc, zl, Y, yc, yl, rfl, hZ, hY, mz, my_, hzc, hyc, hvz, hvy, hzl, hyl, hbd⟩
         have hbp1 : Below wt_.heap.size wt_ wd_ := by first | exact hbd | exact below_of_drew hbd (Nat.le_refl _) | exact ((Below.refl _ _).alloc (Nat.le_refl _) _).trans (hbd.mono (by simp)) | exact ((Below.refl _ _).alloc (Nat.le_refl _) _).trans ((below_of_drew hbd (Nat.le_refl _)).mono (by simp)) | exact below_of_drew (((Below.refl _ _).alloc (Nat.le_refl _) _).trans (hbd.mono (by simp))) (Nat.le_refl _)
         have hns_1 := hns_0.below hbp1
         have hds_1 := hds_0.below hbp1
         have hU_1 := hU_0.below hbp1
         have hP_1 := hP.below hbp1
         have ka_1 := ka_0.below hbp1
         obtain ⟨ka0wd_, ka1wd_, ka2wd_, ka3wd_, ka4wd_, ka5wd_, ka6wd_⟩ := ka_1.facts
         have hwq1 := hwq0.trans (hbp1.mono hwq0.size)))
    all_goals
      go_wp2_with fail
      go_meet
      exact ⟨Z, zc, zl, Y, yc, yl, rfl, rfl, hzc, hZ, mz, my_, by show _ = _; rw [hvz.out, HVP.out, HVU.out], by show _ = _; rw [hvy.out, HVP.out, HVU.out], by omega, by omega, hbp0.trans (hbp1.mono hbp0.size)⟩
  clear a0 a1 a2 a3 a4 a5 a6
  obtain ⟨w5, rfl⟩ : ∃ x, x = wc := ⟨_, rfl⟩
  obtain ⟨Z, zc, zl, Y, yc, yl, rfl, rfl, hzc, hZ5, mz, my_, hvz, hvy, hzl, hyl, hb5⟩ := hcut
  have ka5 := ka4.below hb5
  have kr5 := kr4.below hb5
  have hns5 := hns4.below hb5
  have hds5 := hds4.below hb5
  have hO5 := hO4.below hb5
  have hU5 := hU4.below hb5
  have hw5 := hw4.trans (hb5.mono hw4.size)
  clear ka4 kr4 hns4 hds4 hO4 hU4 hw4 hb5
  have hyp : 0 < yl.length := by rcases Nat.eq_zero_or_pos yl.length with h | h; (have h3 := HRS.out; rw [← hvy.out, List.eq_nil_of_length_eq_zero h] at h3; simp [V32, val] at h3); exact h
  obtain ⟨a0, a1, a2, a3, a4, a5, a6⟩ := ka5.facts
  go_wp2_with fail
  refine (from_any 1 _ (by omega)).mono ?_
  rintro e w6 ⟨O2, oc2, ol2, rfl, hoc2, hO2_6, hb6, hvo2, mo2, hol2_⟩
  have ka6 := ka5.below hb6
  have kr6 := kr5.below hb6
  have hns6 := hns5.below hb6
  have hds6 := hds5.below hb6
  have hO6 := hO5.below hb6
  have hU6 := hU5.below hb6
  have hZ6 := hZ5.below hb6
  have hw6 := hw5.trans (hb6.mono hw5.size)
  clear ka5 kr5 hns5 hds5 hO5 hU5 hZ5 hw5 hb6
  clear a0 a1 a2 a3 a4 a5 a6
  have HVO2 := Lib.hid hvo2
  clear hvo2
  obtain ⟨a0, a1, a2, a3, a4, a5, a6⟩ := ka6.facts
  go_wp2_with fail
  refine (qplus Z O2 zc oc2 zl ol2 _ hZ6 hO2_6 (by omega) (by omega) mz.1 mo2.1).mono ?_
  rintro e w7 ⟨V, vc, vl, rfl, hvc, hV7, hb7, hvv, mv, hvl⟩
  have ka7 := ka6.below hb7
  have kr7 := kr6.below hb7
  have hns7 := hns6.below hb7
  have hds7 := hds6.below hb7
  have hO7 := hO6.below hb7
  have hU7 := hU6.below hb7
  have hZ7 := hZ6.below hb7
  have hO2_7 := hO2_6.below hb7
  have hw7 := hw6.trans (hb7.mono hw6.size)
  clear ka6 kr6 hns6 hds6 hO6 hU6 hZ6 hO2_6 hw6 hb7
  clear a0 a1 a2 a3 a4 a5 a6
  have HVV := Lib.hid hvv
  clear hvv
  obtain ⟨a0, a1, a2, a3, a4, a5, a6⟩ := ka7.facts
  have HS : Hid (V32 vl = rnd (V32 ns * 2 ^ k) (V32 ds) (false != true)) := by show _ = _; rw [HVV.out, HVO2.out, hvz.out]; simp [rnd, HRS.out]
  have hup : 0 < ul.length := by rcases Nat.eq_zero_or_pos ul.length with h | h; (have h3 := HVU.out; rw [List.eq_nil_of_length_eq_zero h] at h3; have h4 : 0 < 2 ^ k := Nat.pow_pos (by omega); simp [V32, val] at h3; omega); exact h
  go_wp2_with fail
  refine (reduced_any true V U vc uc vl ul _ hV7 hU7 huc (by omega) (by omega) mv mu hup).mono ?_
  rintro e w8 ⟨r, rfl, hr8, hrl1, hrl2, hb8⟩
  have ka8 := ka7.below hb8
  have kr8 := kr7.below hb8
  have hns8 := hns7.below hb8
  have hds8 := hds7.below hb8
  have hO8 := hO7.below hb8
  have hU8 := hU7.below hb8
  have hZ8 := hZ7.below hb8
  have hO2_8 := hO2_7.below hb8
  have hV8 := hV7.below hb8
  have hw8 := hw7.trans (hb8.mono hw7.size)
  clear ka7 kr7 hns7 hds7 hO7 hU7 hZ7 hO2_7 hV7 hw7 hb8
  clear a0 a1 a2 a3 a4 a5 a6
  rw [HS.out, HVU.out] at hr8
  go_wp2_with fail
  refine (qfit r _ 200 _ hr8 (by omega) (by omega) (by omega)).mono ?_
  rintro e w9 ⟨t, rfl, ht9, htl1, htl2, hb9⟩
  have ka9 := ka8.below hb9
  have kr9 := kr8.below hb9
  have hns9 := hns8.below hb9
  have hds9 := hds8.below hb9
  have hO9 := hO8.below hb9
  have hU9 := hU8.below hb9
  have hZ9 := hZ8.below hb9
  have hO2_9 := hO2_8.below hb9
  have hV9 := hV8.below hb9
  have hr9 := hr8.below hb9
  have hw9 := hw8.trans (hb9.mono hw8.size)
  clear ka8 kr8 hns8 hds8 hO8 hU8 hZ8 hO2_8 hV8 hr8 hw8 hb9
  obtain ⟨c0, c1, c2, c3, c4, c5, c6⟩ := kr9.facts
  go_wp2_with fail
  refine bodyPost_ret (v := .tuple #[.agg #[.bool t.s, .slice t.N t.ns.length t.nc, .slice t.D t.ds.length t.dc], .int .i64 0]) (by simp [results, Tryz.results112, go_sem, c0, c1, c2]) rfl ?_
  exact RatOk.put t ht9 kr9 (by omega) hw9 htl1 htl2
set_option maxRecDepth 20000 in
set_option maxHeartbeats 1600000 in
theorem qrnd_tfz (N D : Option Addr) (nc dc : Nat) (ns ds : List Nat) (q : Rat) (k : Nat) (hrs : V32 ns * 2 ^ k % V32 ds = 0) (hk : k ≤ 4000) (w : World) (ha : RL.Is w ⟨true, N, nc, ns, D, dc, ds⟩ q) (l1 : ns.length ≤ 6) (l2 : ds.length ≤ 6) :
    Calls Tryz.prog 112 #[.agg #[.bool true, .slice N ns.length nc, .slice D ds.length dc], .int .i64 k, .bool false] w (RatOk (mkRat (sgn true (rnd (V32 ns * 2 ^ k) (V32 ds) (false != true))) (2 ^ k)) 200 w) := by
  have HRS := Lib.hid hrs
  clear hrs
  go_enter Tryz.func112, Tryz.ntmps112
  go_wp2_with fail
  have hbox := box1r w (.bool true) (.slice N ns.length nc) (.slice D ds.length dc) (.bool false) (.slice none 0 0) (.slice none 0 0)
  obtain ⟨w1, hwe⟩ : ∃ x, (w.alloc (.cells #[.bool true, .slice N ns.length nc, .slice D ds.length dc] 24)).alloc (.cells #[.bool false, .slice none 0 0, .slice none 0 0] 24) = x := ⟨_, rfl⟩
  rw [hwe] at hbox ⊢
  obtain ⟨ka1, kr1, hb1⟩ := hbox
  have HWE := Lib.hid hwe
  clear hwe HWE
  have ha1 := ha.below hb1
  have hw1 := hb1
  clear ha hb1
  obtain ⟨a0, a1, a2, a3, a4, a5, a6⟩ := ka1.facts
  go_wp2_with fail
  refine (qvalid_yes ⟨true, N, nc, ns, D, dc, ds⟩ q _ ha1 (by dsimp only; omega) (by dsimp only; omega)).mono ?_
  rintro e w2 ⟨rfl, hb2⟩
  have ha2 := ha1.below hb2
  have ka2 := ka1.below hb2
  have kr2 := kr1.below hb2
  have hw2 := hw1.trans (hb2.mono hw1.size)
  clear ha1 ka1 kr1 hw1 hb2
  clear a0 a1 a2 a3 a4 a5 a6
  have hns := ha2.rn
  have hds := ha2.rd
  have mns := ha2.mn
  have mds := ha2.md
  have hdp := ha2.dpos
  dsimp only at hns hds mns mds hdp
  have hns2 := hns
  have hds2 := hds
  clear hns hds
  go_wp2_with fail
  refine (from_any 1 _ (by omega)).mono ?_
  rintro e w3 ⟨O, oc, ol, rfl, hoc, hO3, hb3, hvo, mo, hol_⟩
  have ka3 := ka2.below hb3
  have kr3 := kr2.below hb3
  have hns3 := hns2.below hb3
  have hds3 := hds2.below hb3
  have hw3 := hw2.trans (hb3.mono hw2.size)
  clear ka2 kr2 hns2 hds2 hw2 hb3
  have HVO := Lib.hid hvo
  clear hvo
  have hol : ol.length ≤ 4096 := by omega
  go_wp2_with fail
  refine (Shift_up O oc k ol _ hO3 ⟨hol, mo.2⟩ mo.1 (by omega)).mono ?_
  rintro e w4 ⟨U, uc, ul, hU4, huc, hb4, ⟨hvu, mu⟩, hfit⟩
  have ka4 := ka3.below hb4
  have kr4 := kr3.below hb4
  have hns4 := hns3.below hb4
  have hds4 := hds3.below hb4
  have hO4 := hO3.below hb4
  have hw4 := hw3.trans (hb4.mono hw3.size)
  clear ka3 kr3 hns3 hds3 hO3 hw3 hb4
  have HVU : Hid (V32 ul = 2 ^ k) := by show _ = _; rw [hvu, HVO.out, Nat.one_mul]
  clear hvu
  have hul := units_len (t := 126) mu HVU.out (by omega)
  have hfit2 := hfit.resolve_right (fun h => by omega)
  obtain ⟨_, rfl⟩ := hfit2
  obtain ⟨a0, a1, a2, a3, a4, a5, a6⟩ := ka4.facts
  go_upto_region 6 with fail
  go_cut [10, 11] (fun s10 s11 wx => ∃ Z zc zl Y yc yl, s10 = .slice Z (zl : List Nat).length zc ∧ s11 = .slice Y (yl : List Nat).length yc ∧ zl.length ≤ zc ∧ Rd .u32 wx Z zl ∧ Mag zl ∧ Mag yl ∧ Hid (V32 zl = V32 ns * 2 ^ k / V32 ds) ∧ Hid (V32 yl = V32 ns * 2 ^ k % V32 ds) ∧ zl.length ≤ 132 ∧ yl.length ≤ 6 ∧ Below w4.heap.size w4 wx)
  case first =>
    go_region_held3 (fun w' => w'.cell? ⟨w.heap.size, 1, none⟩ = some (.slice N ns.length nc) ∧ w'.cell? ⟨w.heap.size, 2, none⟩ = some (.slice D ds.length dc)) (first | exact ⟨‹_›, ‹_›⟩ | go_keep)
      (first
      | (go_at_call 170
         refine (qtimes N U nc uc ns ul _ (by first | exact hns4 | exact hns4.drew | exact hns4.alloc _ | exact (hns4.alloc _).drew | exact hns4.drew.alloc _) (by first | exact hU4 | exact hU4.drew | exact hU4.alloc _ | exact (hU4.alloc _).drew | exact hU4.drew.alloc _) (by omega) mns mu).mono ?_
         rintro e wt_ ⟨P, pc, pl, rfl, hpc, hP, hbt, ⟨hvp, mp, hpl⟩⟩
         have HVP := Lib.hid hvp
         clear hvp
         have hbp0 : Below w4.heap.size w4 wt_ := by first | exact hbt | exact below_of_drew hbt (Nat.le_refl _) | exact ((Below.refl _ _).alloc (Nat.le_refl _) _).trans (hbt.mono (by simp)) | exact ((Below.refl _ _).alloc (Nat.le_refl _) _).trans ((below_of_drew hbt (Nat.le_refl _)).mono (by simp)) | exact below_of_drew (((Below.refl _ _).alloc (Nat.le_refl _) _).trans (hbt.mono (by simp))) (Nat.le_refl _)
         have hns_0 := hns4.below hbp0
         have hds_0 := hds4.below hbp0
         have hU_0 := hU4.below hbp0
         have ka_0 := ka4.below hbp0
         obtain ⟨ka0wt_, ka1wt_, ka2wt_, ka3wt_, ka4wt_, ka5wt_, ka6wt_⟩ := ka_0.facts
         have hwq0 := hw4.trans (hbp0.mono hw4.size))
      | (go_at_call 182
         refine (qdivide P D pc dc pl ds _ (by first | exact hP | exact hP.drew | exact hP.alloc _ | exact (hP.alloc _).drew | exact hP.drew.alloc _) (by first | exact hds_0 | exact hds_0.drew | exact hds_0.alloc _ | exact (hds_0.alloc _).drew | exact hds_0.drew.alloc _) (by omega) (by omega) mp mds hdp).mono ?_
         rintro e wd_ ⟨Z, zc, zl, Y, yc, yl, rfl, hZ, hY, mz, my_, hzc, hyc, hvz, hvy, hzl, hyl, hbd⟩
         have hbp1 : Below wt_.heap.size wt_ wd_ := by first | exact hbd | exact below_of_drew hbd (Nat.le_refl _) | exact ((Below.refl _ _).alloc (Nat.le_refl _) _).trans (hbd.mono (by simp)) | exact ((Below.refl _ _).alloc (Nat.le_refl _) _).trans ((below_of_drew hbd (Nat.le_refl _)).mono (by simp)) | exact below_of_drew (((Below.refl _ _).alloc (Nat.le_refl _) _).trans (hbd.mono (by simp))) (Nat.le_refl _)
         have hns_1 := hns_0.below hbp1
         have hds_1 := hds_0.below hbp1
         have hU_1 := hU_0.below hbp1
         have hP_1 := hP.below hbp1
         have ka_1 := ka_0.below hbp1
         obtain ⟨ka0wd_, ka1wd_, ka2wd_, ka3wd_, ka4wd_, ka5wd_, ka6wd_⟩ := ka_1.facts
         have hwq1 := hwq0.trans (hbp1.mono hwq0.size)))
    all_goals
      go_wp2_with fail
      go_meet
      exact ⟨Z, zc, zl, Y, yc, yl, rfl, rfl, hzc, hZ, mz, my_, by show _ = _; rw [hvz.out, HVP.out, HVU.out], by show _ = _; rw [hvy.out, HVP.out, HVU.out], by omega, by omega, hbp0.trans (hbp1.mono hbp0.size)⟩
  clear a0 a1 a2 a3 a4 a5 a6
  obtain ⟨w5, rfl⟩ : ∃ x, x = wc := ⟨_, rfl⟩
  obtain ⟨Z, zc, zl, Y, yc, yl, rfl, rfl, hzc, hZ5, mz, my_, hvz, hvy, hzl, hyl, hb5⟩ := hcut
  have ka5 := ka4.below hb5
  have kr5 := kr4.below hb5
  have hns5 := hns4.below hb5
  have hds5 := hds4.below hb5
  have hO5 := hO4.below hb5
  have hU5 := hU4.below hb5
  have hw5 := hw4.trans (hb5.mono hw4.size)
  clear ka4 kr4 hns4 hds4 hO4 hU4 hw4 hb5
  have hyp : ¬ 0 < yl.length := fun h => by have h3 := V32_pos my_ h; rw [hvy.out, HRS.out] at h3; omega
  obtain ⟨a0, a1, a2, a3, a4, a5, a6⟩ := ka5.facts
  have HS : Hid (V32 zl = rnd (V32 ns * 2 ^ k) (V32 ds) (false != true)) := by show _ = _; rw [hvz.out]; simp [rnd, HRS.out]
  have hup : 0 < ul.length := by rcases Nat.eq_zero_or_pos ul.length with h | h; (have h3 := HVU.out; rw [List.eq_nil_of_length_eq_zero h] at h3; have h4 : 0 < 2 ^ k := Nat.pow_pos (by omega); simp [V32, val] at h3; omega); exact h
  go_wp2_with fail
  refine (reduced_any true Z U zc uc zl ul _ hZ5 hU5 huc (by omega) (by omega) mz mu hup).mono ?_
  rintro e w6 ⟨r, rfl, hr6, hrl1, hrl2, hb6⟩
  have ka6 := ka5.below hb6
  have kr6 := kr5.below hb6
  have hns6 := hns5.below hb6
  have hds6 := hds5.below hb6
  have hO6 := hO5.below hb6
  have hU6 := hU5.below hb6
  have hZ6 := hZ5.below hb6
  have hw6 := hw5.trans (hb6.mono hw5.size)
  clear ka5 kr5 hns5 hds5 hO5 hU5 hZ5 hw5 hb6
  clear a0 a1 a2 a3 a4 a5 a6
  rw [HS.out, HVU.out] at hr6
  go_wp2_with fail
  refine (qfit r _ 200 _ hr6 (by omega) (by omega) (by omega)).mono ?_
  rintro e w7 ⟨t, rfl, ht7, htl1, htl2, hb7⟩
  have ka7 := ka6.below hb7
  have kr7 := kr6.below hb7
  have hns7 := hns6.below hb7
  have hds7 := hds6.below hb7
  have hO7 := hO6.below hb7
  have hU7 := hU6.below hb7
  have hZ7 := hZ6.below hb7
  have hr7 := hr6.below hb7
  have hw7 := hw6.trans (hb7.mono hw6.size)
  clear ka6 kr6 hns6 hds6 hO6 hU6 hZ6 hr6 hw6 hb7
  obtain ⟨c0, c1, c2, c3, c4, c5, c6⟩ := kr7.facts
  go_wp2_with fail
  refine bodyPost_ret (v := .tuple #[.agg #[.bool t.s, .slice t.N t.ns.length t.nc, .slice t.D t.ds.length t.dc], .int .i64 0]) (by simp [results, Tryz.results112, go_sem, c0, c1, c2]) rfl ?_
  exact RatOk.put t ht7 kr7 (by omega) hw7 htl1 htl2
set_option maxRecDepth 20000 in
set_option maxHeartbeats 1600000 in
theorem qrnd_ttr (N D : Option Addr) (nc dc : Nat) (ns ds : List Nat) (q : Rat) (k : Nat) (hrs : 0 < V32 ns * 2 ^ k % V32 ds) (hk : k ≤ 4000) (w : World) (ha : RL.Is w ⟨true, N, nc, ns, D, dc, ds⟩ q) (l1 : ns.length ≤ 6) (l2 : ds.length ≤ 6) :
    Calls Tryz.prog 112 #[.agg #[.bool true, .slice N ns.length nc, .slice D ds.length dc], .int .i64 k, .bool true] w (RatOk (mkRat (sgn true (rnd (V32 ns * 2 ^ k) (V32 ds) (true != true))) (2 ^ k)) 200 w) := by
  have HRS := Lib.hid hrs
  clear hrs
  go_enter Tryz.func112, Tryz.ntmps112
  go_wp2_with fail
  have hbox := box1r w (.bool true) (.slice N ns.length nc) (.slice D ds.length dc) (.bool false) (.slice none 0 0) (.slice none 0 0)
  obtain ⟨w1, hwe⟩ : ∃ x, (w.alloc (.cells #[.bool true, .slice N ns.length nc, .slice D ds.length dc] 24)).alloc (.cells #[.bool false, .slice none 0 0, .slice none 0 0] 24) = x := ⟨_, rfl⟩
  rw [hwe] at hbox ⊢
  obtain ⟨ka1, kr1, hb1⟩ := hbox
  have HWE := Lib.hid hwe
  clear hwe HWE
  have ha1 := ha.below hb1
  have hw1 := hb1
  clear ha hb1
  obtain ⟨a0, a1, a2, a3, a4, a5, a6⟩ := ka1.facts
  go_wp2_with fail
  refine (qvalid_yes ⟨true, N, nc, ns, D, dc, ds⟩ q _ ha1 (by dsimp only; omega) (by dsimp only; omega)).mono ?_
  rintro e w2 ⟨rfl, hb2⟩
  have ha2 := ha1.below hb2
  have ka2 := ka1.below hb2
  have kr2 := kr1.below hb2
  have hw2 := hw1.trans (hb2.mono hw1.size)
  clear ha1 ka1 kr1 hw1 hb2
  clear a0 a1 a2 a3 a4 a5 a6
  have hns := ha2.rn
  have hds := ha2.rd
  have mns := ha2.mn
  have mds := ha2.md
  have hdp := ha2.dpos
  dsimp only at hns hds mns mds hdp
  have hns2 := hns
  have hds2 := hds
  clear hns hds
  go_wp2_with fail
  refine (from_any 1 _ (by omega)).mono ?_
  rintro e w3 ⟨O, oc, ol, rfl, hoc, hO3, hb3, hvo, mo, hol_⟩
  have ka3 := ka2.below hb3
  have kr3 := kr2.below hb3
  have hns3 := hns2.below hb3
  have hds3 := hds2.below hb3
  have hw3 := hw2.trans (hb3.mono hw2.size)
  clear ka2 kr2 hns2 hds2 hw2 hb3
  have HVO := Lib.hid hvo
  clear hvo
  have hol : ol.length ≤ 4096 := by omega
  go_wp2_with fail
  refine (Shift_up O oc k ol _ hO3 ⟨hol, mo.2⟩ mo.1 (by omega)).mono ?_
  rintro e w4 ⟨U, uc, ul, hU4, huc, hb4, ⟨hvu, mu⟩, hfit⟩
  have ka4 := ka3.below hb4
  have kr4 := kr3.below hb4
  have hns4 := hns3.below hb4
  have hds4 := hds3.below hb4
  have hO4 := hO3.below hb4
  have hw4 := hw3.trans (hb4.mono hw3.size)
  clear ka3 kr3 hns3 hds3 hO3 hw3 hb4
  have HVU : Hid (V32 ul = 2 ^ k) := by show _ = _; rw [hvu, HVO.out, Nat.one_mul]
  clear hvu
  have hul := units_len (t := 126) mu HVU.out (by omega)
  have hfit2 := hfit.resolve_right (fun h => by omega)
  obtain ⟨_, rfl⟩ := hfit2
  obtain ⟨a0, a1, a2, a3, a4, a5, a6⟩ := ka4.facts
  go_upto_region 6 with fail
  go_cut [10, 11] (fun s10 s11 wx => ∃ Z zc zl Y yc yl, s10 = .slice Z (zl : List Nat).length zc ∧ s11 = .slice Y (yl : List Nat).length yc ∧ zl.length ≤ zc ∧ Rd .u32 wx Z zl ∧ Mag zl ∧ Mag yl ∧ Hid (V32 zl = V32 ns * 2 ^ k / V32 ds) ∧ Hid (V32 yl = V32 ns * 2 ^ k % V32 ds) ∧ zl.length ≤ 132 ∧ yl.length ≤ 6 ∧ Below w4.heap.size w4 wx)
  case first =>
    go_region_held3 (fun w' => w'.cell? ⟨w.heap.size, 1, none⟩ = some (.slice N ns.length nc) ∧ w'.cell? ⟨w.heap.size, 2, none⟩ = some (.slice D ds.length dc)) (first | exact ⟨‹_›, ‹_›⟩ | go_keep)
      (first
      | (go_at_call 170
         refine (qtimes N U nc uc ns ul _ (by first | exact hns4 | exact hns4.drew | exact hns4.alloc _ | exact (hns4.alloc _).drew | exact hns4.drew.alloc _) (by first | exact hU4 | exact hU4.drew | exact hU4.alloc _ | exact (hU4.alloc _).drew | exact hU4.drew.alloc _) (by omega) mns mu).mono ?_
         rintro e wt_ ⟨P, pc, pl, rfl, hpc, hP, hbt, ⟨hvp, mp, hpl⟩⟩
         have HVP := Lib.hid hvp
         clear hvp
         have hbp0 : Below w4.heap.size w4 wt_ := by first | exact hbt | exact below_of_drew hbt (Nat.le_refl _) | exact ((Below.refl _ _).alloc (Nat.le_refl _) _).trans (hbt.mono (by simp)) | exact ((Below.refl _ _).alloc (Nat.le_refl _) _).trans ((below_of_drew hbt (Nat.le_refl _)).mono (by simp)) | exact below_of_drew (((Below.refl _ _).alloc (Nat.le_refl _) _).trans (hbt.mono (by simp))) (Nat.le_refl _)
         have hns_0 := hns4.below hbp0
         have hds_0 := hds4.below hbp0
         have hU_0 := hU4.below hbp0
         have ka_0 := ka4.below hbp0
         obtain ⟨ka0wt_, ka1wt_, ka2wt_, ka3wt_, ka4wt_, ka5wt_, ka6wt_⟩ := ka_0.facts
         have hwq0 := hw4.trans (hbp0.mono hw4.size))
      | (go_at_call 182
         refine (qdivide P D pc dc pl ds _ (by first | exact hP | exact hP.drew | exact hP.alloc _ | exact (hP.alloc _).drew | exact hP.drew.alloc _) (by first | exact hds_0 | exact hds_0.drew | exact hds_0.alloc _ | exact (hds_0.alloc _).drew | exact hds_0.drew.alloc _) (by omega) (by omega) mp mds hdp).mono ?_
         rintro e wd_ ⟨Z, zc, zl, Y, yc, yl, rfl, hZ, hY, mz, my_, hzc, hyc, hvz, hvy, hzl, hyl, hbd⟩
         have hbp1 : Below wt_.heap.size wt_ wd_ := by first | exact hbd | exact below_of_drew hbd (Nat.le_refl _) | exact ((Below.refl _ _).alloc (Nat.le_refl _) _).trans (hbd.mono (by simp)) | exact ((Below.refl _ _).alloc (Nat.le_refl _) _).trans ((below_of_drew hbd (Nat.le_refl _)).mono (by simp)) | exact below_of_drew (((Below.refl _ _).alloc (Nat.le_refl _) _).trans (hbd.mono (by simp))) (Nat.le_refl _)
         have hns_1 := hns_0.below hbp1
         have hds_1 := hds_0.below hbp1
         have hU_1 := hU_0.below hbp1
         have hP_1 := hP.below hbp1
         have ka_1 := ka_0.below hbp1
         obtain ⟨ka0wd_, ka1wd_, ka2wd_, ka3wd_, ka4wd_, ka5wd_, ka6wd_⟩ := ka_1.facts
         have hwq1 := hwq0.trans (hbp1.mono hwq0.size)))
    all_goals
      go_wp2_with fail
      go_meet
      exact ⟨Z, zc, zl, Y, yc, yl, rfl, rfl, hzc, hZ, mz, my_, by show _ = _; rw [hvz.out, HVP.out, HVU.out], by show _ = _; rw [hvy.out, HVP.out, HVU.out], by omega, by omega, hbp0.trans (hbp1.mono hbp0.size)⟩
  clear a0 a1 a2 a3 a4 a5 a6
  obtain ⟨w5, rfl⟩ : ∃ x, x = wc := ⟨_, rfl⟩
  obtain ⟨Z, zc, zl, Y, yc, yl, rfl, rfl, hzc, hZ5, mz, my_, hvz, hvy, hzl, hyl, hb5⟩ := hcut
  have ka5 := ka4.below hb5
  have kr5 := kr4.below hb5
  have hns5 := hns4.below hb5
  have hds5 := hds4.below hb5
  have hO5 := hO4.below hb5
  have hU5 := hU4.below hb5
  have hw5 := hw4.trans (hb5.mono hw4.size)
  clear ka4 kr4 hns4 hds4 hO4 hU4 hw4 hb5
  have hyp : 0 < yl.length := by rcases Nat.eq_zero_or_pos yl.length with h | h; (have h3 := HRS.out; rw [← hvy.out, List.eq_nil_of_length_eq_zero h] at h3; simp [V32, val] at h3); exact h
  obtain ⟨a0, a1, a2, a3, a4, a5, a6⟩ := ka5.facts
  have HS : Hid (V32 zl = rnd (V32 ns * 2 ^ k) (V32 ds) (true != true)) := by show _ = _; rw [hvz.out]; simp [rnd]
  have hup : 0 < ul.length := by rcases Nat.eq_zero_or_pos ul.length with h | h; (have h3 := HVU.out; rw [List.eq_nil_of_length_eq_zero h] at h3; have h4 : 0 < 2 ^ k := Nat.pow_pos (by omega); simp [V32, val] at h3; omega); exact h
  go_wp2_with fail
  refine (reduced_any true Z U zc uc zl ul _ hZ5 hU5 huc (by omega) (by omega) mz mu hup).mono ?_
  rintro e w6 ⟨r, rfl, hr6, hrl1, hrl2, hb6⟩
  have ka6 := ka5.below hb6
  have kr6 := kr5.below hb6
  have hns6 := hns5.below hb6
  have hds6 := hds5.below hb6
  have hO6 := hO5.below hb6
  have hU6 := hU5.below hb6
  have hZ6 := hZ5.below hb6
  have hw6 := hw5.trans (hb6.mono hw5.size)
  clear ka5 kr5 hns5 hds5 hO5 hU5 hZ5 hw5 hb6
  clear a0 a1 a2 a3 a4 a5 a6
  rw [HS.out, HVU.out] at hr6
  go_wp2_with fail
  refine (qfit r _ 200 _ hr6 (by omega) (by omega) (by omega)).mono ?_
  rintro e w7 ⟨t, rfl, ht7, htl1, htl2, hb7⟩
  have ka7 := ka6.below hb7
  have kr7 := kr6.below hb7
  have hns7 := hns6.below hb7
  have hds7 := hds6.below hb7
  have hO7 := hO6.below hb7
  have hU7 := hU6.below hb7
  have hZ7 := hZ6.below hb7
  have hr7 := hr6.below hb7
  have hw7 := hw6.trans (hb7.mono hw6.size)
  clear ka6 kr6 hns6 hds6 hO6 hU6 hZ6 hr6 hw6 hb7
  obtain ⟨c0, c1, c2, c3, c4, c5, c6⟩ := kr7.facts
  go_wp2_with fail
  refine bodyPost_ret (v := .tuple #[.agg #[.bool t.s, .slice t.N t.ns.length t.nc, .slice t.D t.ds.length t.dc], .int .i64 0]) (by simp [results, Tryz.results112, go_sem, c0, c1, c2]) rfl ?_
  exact RatOk.put t ht7 kr7 (by omega) hw7 htl1 htl2
set_option maxRecDepth 20000 in
set_option maxHeartbeats 1600000 in
theorem qrnd_ttz (N D : Option Addr) (nc dc : Nat) (ns ds : List Nat) (q : Rat) (k : Nat) (hrs : V32 ns * 2 ^ k % V32 ds = 0) (hk : k ≤ 4000) (w : World) (ha : RL.Is w ⟨true, N, nc, ns, D, dc, ds⟩ q) (l1 : ns.length ≤ 6) (l2 : ds.length ≤ 6) :
    Calls Tryz.prog 112 #[.agg #[.bool true, .slice N ns.length nc, .slice D ds.length dc], .int .i64 k, .bool true] w (RatOk (mkRat (sgn true (rnd (V32 ns * 2 ^ k) (V32 ds) (true != true))) (2 ^ k)) 200 w) := by
  have HRS := Lib.hid hrs
  clear hrs
  go_enter Tryz.func112, Tryz.ntmps112
  go_wp2_with fail
  have hbox := box1r w (.bool true) (.slice N ns.length nc) (.slice D ds.length dc) (.bool false) (.slice none 0 0) (.slice none 0 0)
  obtain ⟨w1, hwe⟩ : ∃ x, (w.alloc (.cells #[.bool true, .slice N ns.length nc, .slice D ds.length dc] 24)).alloc (.cells #[.bool false, .slice none 0 0, .slice none 0 0] 24) = x := ⟨_, rfl⟩
  rw [hwe] at hbox ⊢
  obtain ⟨ka1, kr1, hb1⟩ := hbox
  have HWE := Lib.hid hwe
  clear hwe HWE
  have ha1 := ha.below hb1
  have hw1 := hb1
  clear ha hb1
  obtain ⟨a0, a1, a2, a3, a4, a5, a6⟩ := ka1.facts
  go_wp2_with fail
  refine (qvalid_yes ⟨true, N, nc, ns, D, dc, ds⟩ q _ ha1 (by dsimp only; omega) (by dsimp only; omega)).mono ?_
  rintro e w2 ⟨rfl, hb2⟩
  have ha2 := ha1.below hb2
  have ka2 := ka1.below hb2
  have kr2 := kr1.below hb2
  have hw2 := hw1.trans (hb2.mono hw1.size)
  clear ha1 ka1 kr1 hw1 hb2
  clear a0 a1 a2 a3 a4 a5 a6
  have hns := ha2.rn
  have hds := ha2.rd
  have mns := ha2.mn
  have mds := ha2.md
  have hdp := ha2.dpos
  dsimp only at hns hds mns mds hdp
  have hns2 := hns
  have hds2 := hds
  clear hns hds
  go_wp2_with fail
  refine (from_any 1 _ (by omega)).mono ?_
  rintro e w3 ⟨O, oc, ol, rfl, hoc, hO3, hb3, hvo, mo, hol_⟩
  have ka3 := ka2.below hb3
  have kr3 := kr2.below hb3
  have hns3 := hns2.below hb3
  have hds3 := hds2.below hb3
  have hw3 := hw2.trans (hb3.mono hw2.size)
  clear ka2 kr2 hns2 hds2 hw2 hb3
  have HVO := Lib.hid hvo
  clear hvo
  have hol : ol.length ≤ 4096 := by omega
  go_wp2_with fail
  refine (Shift_up O oc k ol _ hO3 ⟨hol, mo.2⟩ mo.1 (by omega)).mono ?_
  rintro e w4 ⟨U, uc, ul, hU4, huc, hb4, ⟨hvu, mu⟩, hfit⟩
  have ka4 := ka3.below hb4
  have kr4 := kr3.below hb4
  have hns4 := hns3.below hb4
  have hds4 := hds3.below hb4
  have hO4 := hO3.below hb4
  have hw4 := hw3.trans (hb4.mono hw3.size)
  clear ka3 kr3 hns3 hds3 hO3 hw3 hb4
  have HVU : Hid (V32 ul = 2 ^ k) := by show _ = _; rw [hvu, HVO.out, Nat.one_mul]
  clear hvu
  have hul := units_len (t := 126) mu HVU.out (by omega)
  have hfit2 := hfit.resolve_right (fun h => by omega)
  obtain ⟨_, rfl⟩ := hfit2
  obtain ⟨a0, a1, a2, a3, a4, a5, a6⟩ := ka4.facts
  go_upto_region 6 with fail
  go_cut [10, 11] (fun s10 s11 wx => ∃ Z zc zl Y yc yl, s10 = .slice Z (zl : List Nat).length zc ∧ s11 = .slice Y (yl : List Nat).length yc ∧ zl.length ≤ zc ∧ Rd .u32 wx Z zl ∧ Mag zl ∧ Mag yl ∧ Hid (V32 zl = V32 ns * 2 ^ k / V32 ds) ∧ Hid (V32 yl = V32 ns * 2 ^ k % V32 ds) ∧ zl.length ≤ 132 ∧ yl.length ≤ 6 ∧ Below w4.heap.size w4 wx)
  case first =>
    go_region_held3 (fun w' => w'.cell? ⟨w.heap.size, 1, none⟩ = some (.slice N ns.length nc) ∧ w'.cell? ⟨w.heap.size, 2, none⟩ = some (.slice D ds.length dc)) (first | exact ⟨‹_›, ‹_›⟩ | go_keep)
      (first
      | (go_at_call 170
         refine (qtimes N U nc uc ns ul _ (by first | exact hns4 | exact hns4.drew | exact hns4.alloc _ | exact (hns4.alloc _).drew | exact hns4.drew.alloc _) (by first | exact hU4 | exact hU4.drew | exact hU4.alloc _ | exact (hU4.alloc _).drew | exact hU4.drew.alloc _) (by omega) mns mu).mono ?_
         rintro e wt_ ⟨P, pc, pl, rfl, hpc, hP, hbt, ⟨hvp, mp, hpl⟩⟩
         have HVP := Lib.hid hvp
         clear hvp
         have hbp0 : Below w4.heap.size w4 wt_ := by first | exact hbt | exact below_of_drew hbt (Nat.le_refl _) | exact ((Below.refl _ _).alloc (Nat.le_refl _) _).trans (hbt.mono (by simp)) | exact ((Below.refl _ _).alloc (Nat.le_refl _) _).trans ((below_of_drew hbt (Nat.le_refl _)).mono (by simp)) | exact below_of_drew (((Below.refl _ _).alloc (Nat.le_refl _) _).trans (hbt.mono (by simp))) (Nat.le_refl _)
         have hns_0 := hns4.below hbp0
         have hds_0 := hds4.below hbp0
         have hU_0 := hU4.below hbp0
         have ka_0 := ka4.below hbp0
         obtain ⟨ka0wt_, ka1wt_, ka2wt_, ka3wt_, ka4wt_, ka5wt_, ka6wt_⟩ := ka_0.facts
         have hwq0 := hw4.trans (hbp0.mono hw4.size))
      | (go_at_call 182
         refine (qdivide P D pc dc pl ds _ (by first | exact hP | exact hP.drew | exact hP.alloc _ | exact (hP.alloc _).drew | exact hP.drew.alloc _) (by first | exact hds_0 | exact hds_0.drew | exact hds_0.alloc _ | exact (hds_0.alloc _).drew | exact hds_0.drew.alloc _) (by omega) (by omega) mp mds hdp).mono ?_
         rintro e wd_ ⟨Z, zc, zl, Y, yc, yl, rfl, hZ, hY, mz, my_, hzc, hyc, hvz, hvy, hzl, hyl, hbd⟩
         have hbp1 : Below wt_.heap.size wt_ wd_ := by first | exact hbd | exact below_of_drew hbd (Nat.le_refl _) | exact ((Below.refl _ _).alloc (Nat.le_refl _) _).trans (hbd.mono (by simp)) | exact ((Below.refl _ _).alloc (Nat.le_refl _) _).trans ((below_of_drew hbd (Nat.le_refl _)).mono (by simp)) | exact below_of_drew (((Below.refl _ _).alloc (Nat.le_refl _) _).trans (hbd.mono (by simp))) (Nat.le_refl _)
         have hns_1 := hns_0.below hbp1
         have hds_1 := hds_0.below hbp1
         have hU_1 := hU_0.below hbp1
         have hP_1 := hP.below hbp1
         have ka_1 := ka_0.below hbp1
         obtain ⟨ka0wd_, ka1wd_, ka2wd_, ka3wd_, ka4wd_, ka5wd_, ka6wd_⟩ := ka_1.facts
         have hwq1 := hwq0.trans (hbp1.mono hwq0.size)))
    all_goals
      go_wp2_with fail
      go_meet
      exact ⟨Z, zc, zl, Y, yc, yl, rfl, rfl, hzc, hZ, mz, my_, by show _ = _; rw [hvz.out, HVP.out, HVU.out], by show _ = _; rw [hvy.out, HVP.out, HVU.out], by omega, by omega, hbp0.trans (hbp1.mono hbp0.size)⟩
  clear a0 a1 a2 a3 a4 a5 a6
  obtain ⟨w5, rfl⟩ : ∃ x, x = wc := ⟨_, rfl⟩
  obtain ⟨Z, zc, zl, Y, yc, yl, rfl, rfl, hzc, hZ5, mz, my_, hvz, hvy, hzl, hyl, hb5⟩ := hcut
  have ka5 := ka4.below hb5
  have kr5 := kr4.below hb5
  have hns5 := hns4.below hb5
  have hds5 := hds4.below hb5
  have hO5 := hO4.below hb5
  have hU5 := hU4.below hb5
  have hw5 := hw4.trans (hb5.mono hw4.size)
  clear ka4 kr4 hns4 hds4 hO4 hU4 hw4 hb5
  have hyp : ¬ 0 < yl.length := fun h => by have h3 := V32_pos my_ h; rw [hvy.out, HRS.out] at h3; omega
  obtain ⟨a0, a1, a2, a3, a4, a5, a6⟩ := ka5.facts
  have HS : Hid (V32 zl = rnd (V32 ns * 2 ^ k) (V32 ds) (true != true)) := by show _ = _; rw [hvz.out]; simp [rnd]
  have hup : 0 < ul.length := by rcases Nat.eq_zero_or_pos ul.length with h | h; (have h3 := HVU.out; rw [List.eq_nil_of_length_eq_zero h] at h3; have h4 : 0 < 2 ^ k := Nat.pow_pos (by omega); simp [V32, val] at h3; omega); exact h
  go_wp2_with fail
  refine (reduced_any true Z U zc uc zl ul _ hZ5 hU5 huc (by omega) (by omega) mz mu hup).mono ?_
  rintro e w6 ⟨r, rfl, hr6, hrl1, hrl2, hb6⟩
  have ka6 := ka5.below hb6
  have kr6 := kr5.below hb6
  have hns6 := hns5.below hb6
  have hds6 := hds5.below hb6
  have hO6 := hO5.below hb6
  have hU6 := hU5.below hb6
  have hZ6 := hZ5.below hb6
  have hw6 := hw5.trans (hb6.mono hw5.size)
  clear ka5 kr5 hns5 hds5 hO5 hU5 hZ5 hw5 hb6
  clear a0 a1 a2 a3 a4 a5 a6
  rw [HS.out, HVU.out] at hr6
  go_wp2_with fail
  refine (qfit r _ 200 _ hr6 (by omega) (by omega) (by omega)).mono ?_
  rintro e w7 ⟨t, rfl, ht7, htl1, htl2, hb7⟩
  have ka7 := ka6.below hb7
  have kr7 := kr6.below hb7
  have hns7 := hns6.below hb7
  have hds7 := hds6.below hb7
  have hO7 := hO6.below hb7
  have hU7 := hU6.below hb7
  have hZ7 := hZ6.below hb7
  have hr7 := hr6.below hb7
  have hw7 := hw6.trans (hb7.mono hw6.size)
  clear ka6 kr6 hns6 hds6 hO6 hU6 hZ6 hr6 hw6 hb7
  obtain ⟨c0, c1, c2, c3, c4, c5, c6⟩ := kr7.facts
  go_wp2_with fail
  refine bodyPost_ret (v := .tuple #[.agg #[.bool t.s, .slice t.N t.ns.length t.nc, .slice t.D t.ds.length t.dc], .int .i64 0]) (by simp [results, Tryz.results112, go_sem, c0, c1, c2]) rfl ?_
  exact RatOk.put t ht7 kr7 (by omega) hw7 htl1 htl2
theorem qrounded_ok (a : RL) (q : Rat) (k : Nat) (up : Bool) (hk : k ≤ 4000) (w : World) (ha : a.Is w q) (l1 : a.ns.length ≤ 6) (l2 : a.ds.length ≤ 6) :
    Calls Tryz.prog 112 #[.agg #[.bool a.s, .slice a.N a.ns.length a.nc, .slice a.D a.ds.length a.dc], .int .i64 k, .bool up] w (RatOk (mkRat (sgn a.s (rnd (V32 a.ns * 2 ^ k) (V32 a.ds) (up != a.s))) (2 ^ k)) 200 w) := by
  obtain ⟨s, N, nc, ns, D, dc, ds⟩ := a
  rcases Nat.eq_zero_or_pos (V32 ns * 2 ^ k % V32 ds) with h | h
  · cases s <;> cases up
    · exact qrnd_ffz N D nc dc ns ds q k h hk w ha l1 l2
    · exact qrnd_ftz N D nc dc ns ds q k h hk w ha l1 l2
    · exact qrnd_tfz N D nc dc ns ds q k h hk w ha l1 l2
    · exact qrnd_ttz N D nc dc ns ds q k h hk w ha l1 l2
  · cases s <;> cases up
    · exact qrnd_ffr N D nc dc ns ds q k h hk w ha l1 l2
    · exact qrnd_ftr N D nc dc ns ds q k h hk w ha l1 l2
    · exact qrnd_tfr N D nc dc ns ds q k h hk w ha l1 l2
    · exact qrnd_ttr N D nc dc ns ds q k h hk w ha l1 l2
set_option maxRecDepth 20000 in
set_option maxHeartbeats 1600000 in
theorem qrounded_range (a : RL) (q : Rat) (n : Int) (up : Bool) (hr : n < 0 ∨ (0 ≤ n ∧ 4000 < n)) (w : World) (ha : a.Is w q) (l1 : a.ns.length ≤ 6) (l2 : a.ds.length ≤ 6) :
    Calls Tryz.prog 112 #[.agg #[.bool a.s, .slice a.N a.ns.length a.nc, .slice a.D a.ds.length a.dc], .int .i64 n, .bool up] w (RatErr 1 w) := by
  go_enter Tryz.func112, Tryz.ntmps112
  go_wp2_with fail
  have hbox := box1r w (.bool a.s) (.slice a.N a.ns.length a.nc) (.slice a.D a.ds.length a.dc) (.bool false) (.slice none 0 0) (.slice none 0 0)
  obtain ⟨w1, hwe⟩ : ∃ x, (w.alloc (.cells #[.bool a.s, .slice a.N a.ns.length a.nc, .slice a.D a.ds.length a.dc] 24)).alloc (.cells #[.bool false, .slice none 0 0, .slice none 0 0] 24) = x := ⟨_, rfl⟩
  rw [hwe] at hbox ⊢
  obtain ⟨ka1, kr1, hb1⟩ := hbox
  have HWE := Lib.hid hwe
  clear hwe HWE
  have ha1 := ha.below hb1
  have hw1 := hb1
  clear ha hb1
  obtain ⟨a0, a1, a2, a3, a4, a5, a6⟩ := ka1.facts
  go_wp2_with fail
  refine (qvalid_yes a q _ ha1 (by omega) (by omega)).mono ?_
  rintro e w2 ⟨rfl, hb2⟩
  have ha2 := ha1.below hb2
  have ka2 := ka1.below hb2
  have kr2 := kr1.below hb2
  have hw2 := hw1.trans (hb2.mono hw1.size)
  clear ha1 ka1 kr1 hw1 hb2
  clear a0 a1 a2 a3 a4 a5 a6
  obtain ⟨c0, c1, c2, c3, c4, c5, c6⟩ := kr2.facts
  rcases hr with hr | hr
  all_goals
    go_wp2_with fail
    exact bodyPost_ret (v := .tuple #[.agg #[.bool false, .slice none 0 0, .slice none 0 0], .int .i64 1]) (by simp [results, Tryz.results112, go_sem, c0, c1, c2]) rfl ⟨rfl, below_put3 hw2 (by omega) _ _ _⟩
set_option maxRecDepth 20000 in
set_option maxHeartbeats 1600000 in
theorem qfloor_ok (a : RL) (q : Rat) (w : World) (ha : a.Is w q) (l1 : a.ns.length ≤ 6) (l2 : a.ds.length ≤ 6) :
    Calls Tryz.prog 39 #[.agg #[.bool a.s, .slice a.N a.ns.length a.nc, .slice a.D a.ds.length a.dc]] w (RatOk (mkRat (sgn a.s (rnd (V32 a.ns * 2 ^ 0) (V32 a.ds) (false != a.s))) (2 ^ 0)) 200 w) := by
  go_enter Tryz.func39, Tryz.ntmps39
  go_wp2_with fail
  have hbox := box1r w (.bool a.s) (.slice a.N a.ns.length a.nc) (.slice a.D a.ds.length a.dc) (.bool false) (.slice none 0 0) (.slice none 0 0)
  obtain ⟨w1, hwe⟩ : ∃ x, (w.alloc (.cells #[.bool a.s, .slice a.N a.ns.length a.nc, .slice a.D a.ds.length a.dc] 24)).alloc (.cells #[.bool false, .slice none 0 0, .slice none 0 0] 24) = x := ⟨_, rfl⟩
  rw [hwe] at hbox ⊢
  obtain ⟨ka1, kr1, hb1⟩ := hbox
  have HWE := Lib.hid hwe
  clear hwe HWE
  have ha1 := ha.below hb1
  have hw1 := hb1
  clear ha hb1
  obtain ⟨a0, a1, a2, a3, a4, a5, a6⟩ := ka1.facts
  go_wp2_with fail
  refine (qrounded_ok a q 0 false (by omega) _ ha1 l1 l2).mono ?_
  rintro e w2 ⟨r, rfl, hr2, hrl1, hrl2, hb2⟩
  have ha2 := ha1.below hb2
  have ka2 := ka1.below hb2
  have kr2 := kr1.below hb2
  have hw2 := hw1.trans (hb2.mono hw1.size)
  clear ha1 ka1 kr1 hw1 hb2
  clear a0 a1 a2 a3 a4 a5 a6
  obtain ⟨c0, c1, c2, c3, c4, c5, c6⟩ := kr2.facts
  go_wp2_with fail
  refine bodyPost_ret (v := .tuple #[.agg #[.bool r.s, .slice r.N r.ns.length r.nc, .slice r.D r.ds.length r.dc], .int .i64 0]) (by simp [results, Tryz.results39, go_sem, c0, c1, c2]) rfl ?_
  exact RatOk.put r hr2 kr2 (by omega) hw2 hrl1 hrl2
set_option maxRecDepth 20000 in
set_option maxHeartbeats 1600000 in
theorem qdown_ok (a : RL) (q : Rat) (k : Nat) (hk : k ≤ 4000) (w : World) (ha : a.Is w q) (l1 : a.ns.length ≤ 6) (l2 : a.ds.length ≤ 6) :
    Calls Tryz.prog 40 #[.agg #[.bool a.s, .slice a.N a.ns.length a.nc, .slice a.D a.ds.length a.dc], .int .i64 k] w (RatOk (mkRat (sgn a.s (rnd (V32 a.ns * 2 ^ k) (V32 a.ds) (false != a.s))) (2 ^ k)) 200 w) := by
  go_enter Tryz.func40, Tryz.ntmps40
  go_wp2_with fail
  have hbox := box1r w (.bool a.s) (.slice a.N a.ns.length a.nc) (.slice a.D a.ds.length a.dc) (.bool false) (.slice none 0 0) (.slice none 0 0)
  obtain ⟨w1, hwe⟩ : ∃ x, (w.alloc (.cells #[.bool a.s, .slice a.N a.ns.length a.nc, .slice a.D a.ds.length a.dc] 24)).alloc (.cells #[.bool false, .slice none 0 0, .slice none 0 0] 24) = x := ⟨_, rfl⟩
  rw [hwe] at hbox ⊢
  obtain ⟨ka1, kr1, hb1⟩ := hbox
  have HWE := Lib.hid hwe
  clear hwe HWE
  have ha1 := ha.below hb1
  have hw1 := hb1
  clear ha hb1
  obtain ⟨a0, a1, a2, a3, a4, a5, a6⟩ := ka1.facts
  go_wp2_with fail
  refine (qrounded_ok a q k false hk _ ha1 l1 l2).mono ?_
  rintro e w2 ⟨r, rfl, hr2, hrl1, hrl2, hb2⟩
  have ha2 := ha1.below hb2
  have ka2 := ka1.below hb2
  have kr2 := kr1.below hb2
  have hw2 := hw1.trans (hb2.mono hw1.size)
  clear ha1 ka1 kr1 hw1 hb2
  clear a0 a1 a2 a3 a4 a5 a6
  obtain ⟨c0, c1, c2, c3, c4, c5, c6⟩ := kr2.facts
  go_wp2_with fail
  refine bodyPost_ret (v := .tuple #[.agg #[.bool r.s, .slice r.N r.ns.length r.nc, .slice r.D r.ds.length r.dc], .int .i64 0]) (by simp [results, Tryz.results40, go_sem, c0, c1, c2]) rfl ?_
  exact RatOk.put r hr2 kr2 (by omega) hw2 hrl1 hrl2
set_option maxRecDepth 20000 in
set_option maxHeartbeats 1600000 in
theorem qdown_range (a : RL) (q : Rat) (n : Int) (hr : n < 0 ∨ (0 ≤ n ∧ 4000 < n)) (w : World) (ha : a.Is w q) (l1 : a.ns.length ≤ 6) (l2 : a.ds.length ≤ 6) :
    Calls Tryz.prog 40 #[.agg #[.bool a.s, .slice a.N a.ns.length a.nc, .slice a.D a.ds.length a.dc], .int .i64 n] w (RatErr 1 w) := by
  go_enter Tryz.func40, Tryz.ntmps40
  go_wp2_with fail
  have hbox := box1r w (.bool a.s) (.slice a.N a.ns.length a.nc) (.slice a.D a.ds.length a.dc) (.bool false) (.slice none 0 0) (.slice none 0 0)
  obtain ⟨w1, hwe⟩ : ∃ x, (w.alloc (.cells #[.bool a.s, .slice a.N a.ns.length a.nc, .slice a.D a.ds.length a.dc] 24)).alloc (.cells #[.bool false, .slice none 0 0, .slice none 0 0] 24) = x := ⟨_, rfl⟩
  rw [hwe] at hbox ⊢
  obtain ⟨ka1, kr1, hb1⟩ := hbox
  have HWE := Lib.hid hwe
  clear hwe HWE
  have ha1 := ha.below hb1
  have hw1 := hb1
  clear ha hb1
  obtain ⟨a0, a1, a2, a3, a4, a5, a6⟩ := ka1.facts
  go_wp2_with fail
  refine (qrounded_range a q n false hr _ ha1 l1 l2).mono ?_
  rintro e w2 ⟨rfl, hb2⟩
  have ha2 := ha1.below hb2
  have ka2 := ka1.below hb2
  have kr2 := kr1.below hb2
  have hw2 := hw1.trans (hb2.mono hw1.size)
  clear ha1 ka1 kr1 hw1 hb2
  clear a0 a1 a2 a3 a4 a5 a6
  obtain ⟨c0, c1, c2, c3, c4, c5, c6⟩ := kr2.facts
  go_wp2_with fail
  refine bodyPost_ret (v := .tuple #[.agg #[.bool false, .slice none 0 0, .slice none 0 0], .int .i64 1]) (by simp [results, Tryz.results40, go_sem, c0, c1, c2]) rfl ?_
  exact ⟨rfl, below_put3 hw2 (by omega) _ _ _⟩
set_option maxRecDepth 20000 in
set_option maxHeartbeats 1600000 in
theorem qup_ok (a : RL) (q : Rat) (k : Nat) (hk : k ≤ 4000) (w : World) (ha : a.Is w q) (l1 : a.ns.length ≤ 6) (l2 : a.ds.length ≤ 6) :
    Calls Tryz.prog 41 #[.agg #[.bool a.s, .slice a.N a.ns.length a.nc, .slice a.D a.ds.length a.dc], .int .i64 k] w (RatOk (mkRat (sgn a.s (rnd (V32 a.ns * 2 ^ k) (V32 a.ds) (true != a.s))) (2 ^ k)) 200 w) := by
  go_enter Tryz.func41, Tryz.ntmps41
  go_wp2_with fail
  have hbox := box1r w (.bool a.s) (.slice a.N a.ns.length a.nc) (.slice a.D a.ds.length a.dc) (.bool false) (.slice none 0 0) (.slice none 0 0)
  obtain ⟨w1, hwe⟩ : ∃ x, (w.alloc (.cells #[.bool a.s, .slice a.N a.ns.length a.nc, .slice a.D a.ds.length a.dc] 24)).alloc (.cells #[.bool false, .slice none 0 0, .slice none 0 0] 24) = x := ⟨_, rfl⟩
  rw [hwe] at hbox ⊢
  obtain ⟨ka1, kr1, hb1⟩ := hbox
  have HWE := Lib.hid hwe
  clear hwe HWE
  have ha1 := ha.below hb1
  have hw1 := hb1
  clear ha hb1
  obtain ⟨a0, a1, a2, a3, a4, a5, a6⟩ := ka1.facts
  go_wp2_with fail
  refine (qrounded_ok a q k true hk _ ha1 l1 l2).mono ?_
  rintro e w2 ⟨r, rfl, hr2, hrl1, hrl2, hb2⟩
  have ha2 := ha1.below hb2
  have ka2 := ka1.below hb2
  have kr2 := kr1.below hb2
  have hw2 := hw1.trans (hb2.mono hw1.size)
  clear ha1 ka1 kr1 hw1 hb2
  clear a0 a1 a2 a3 a4 a5 a6
  obtain ⟨c0, c1, c2, c3, c4, c5, c6⟩ := kr2.facts
  go_wp2_with fail
  refine bodyPost_ret (v := .tuple #[.agg #[.bool r.s, .slice r.N r.ns.length r.nc, .slice r.D r.ds.length r.dc], .int .i64 0]) (by simp [results, Tryz.results41, go_sem, c0, c1, c2]) rfl ?_
  exact RatOk.put r hr2 kr2 (by omega) hw2 hrl1 hrl2
set_option maxRecDepth 20000 in
set_option maxHeartbeats 1600000 in
theorem qup_range (a : RL) (q : Rat) (n : Int) (hr : n < 0 ∨ (0 ≤ n ∧ 4000 < n)) (w : World) (ha : a.Is w q) (l1 : a.ns.length ≤ 6) (l2 : a.ds.length ≤ 6) :
    Calls Tryz.prog 41 #[.agg #[.bool a.s, .slice a.N a.ns.length a.nc, .slice a.D a.ds.length a.dc], .int .i64 n] w (RatErr 1 w) := by
  go_enter Tryz.func41, Tryz.ntmps41
  go_wp2_with fail
  have hbox := box1r w (.bool a.s) (.slice a.N a.ns.length a.nc) (.slice a.D a.ds.length a.dc) (.bool false) (.slice none 0 0) (.slice none 0 0)
  obtain ⟨w1, hwe⟩ : ∃ x, (w.alloc (.cells #[.bool a.s, .slice a.N a.ns.length a.nc, .slice a.D a.ds.length a.dc] 24)).alloc (.cells #[.bool false, .slice none 0 0, .slice none 0 0] 24) = x := ⟨_, rfl⟩
  rw [hwe] at hbox ⊢
  obtain ⟨ka1, kr1, hb1⟩ := hbox
  have HWE := Lib.hid hwe
  clear hwe HWE
  have ha1 := ha.below hb1
  have hw1 := hb1
  clear ha hb1
  obtain ⟨a0, a1, a2, a3, a4, a5, a6⟩ := ka1.facts
  go_wp2_with fail
  refine (qrounded_range a q n true hr _ ha1 l1 l2).mono ?_
  rintro e w2 ⟨rfl, hb2⟩
  have ha2 := ha1.below hb2
  have ka2 := ka1.below hb2
  have kr2 := kr1.below hb2
  have hw2 := hw1.trans (hb2.mono hw1.size)
  clear ha1 ka1 kr1 hw1 hb2
  clear a0 a1 a2 a3 a4 a5 a6
  obtain ⟨c0, c1, c2, c3, c4, c5, c6⟩ := kr2.facts
  go_wp2_with fail
  refine bodyPost_ret (v := .tuple #[.agg #[.bool false, .slice none 0 0, .slice none 0 0], .int .i64 1]) (by simp [results, Tryz.results41, go_sem, c0, c1, c2]) rfl ?_
  exact ⟨rfl, below_put3 hw2 (by omega) _ _ _⟩
end Go.Proofs.YtdonbgjmcbhecaaGreatDoor

