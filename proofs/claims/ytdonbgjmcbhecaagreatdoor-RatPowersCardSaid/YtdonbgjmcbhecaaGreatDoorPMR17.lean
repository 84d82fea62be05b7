/- rat.Pow. -/
import Derived.Test.YtdonbgjmcbhecaaGreatDoorPMR16
namespace Go.Proofs.YtdonbgjmcbhecaaGreatDoor
open Go.RowKit V

theorem pow_is {w : World} {s p : Bool} {X Y : Option Addr} {xc yc k : Nat} {xs ys us vs : List Nat} {r : Rat} (hq : QOf s (V32 xs) (V32 ys) r) (hp : p = (s && decide (k % 2 = 1)))
    (hX : Rd .u32 w X us) (hY : Rd .u32 w Y vs) (mx : Mag us) (my : Mag vs) (cx : us.length ≤ xc) (cy : vs.length ≤ yc) (ex : V32 us = V32 xs ^ k) (ey : V32 vs = V32 ys ^ k) :
    RL.Is w ⟨p && decide (0 < us.length), X, xc, us, Y, yc, vs⟩ (r ^ k) := by
  refine ⟨hX, hY, mx, my, cx, cy, ?_⟩
  have h := pow_q hq k
  dsimp only
  rw [dec_len mx, ex, ey, hp]
  exact h
set_option maxRecDepth 20000 in
set_option maxHeartbeats 1600000 in
theorem qpow_pos_f (N D : Option Addr) (nc dc : Nat) (ns ds : List Nat) (q : Rat) (k : Nat) (hk : k ≤ 1000) (w : World) (ha : RL.Is w ⟨false, N, nc, ns, D, dc, ds⟩ q) (l1 : ns.length ≤ 2) (l2 : ds.length ≤ 2) :
    Calls Tryz.prog 36 #[.agg #[.bool false, .slice N ns.length nc, .slice D ds.length dc], .int .i64 k] w (RatOk (q ^ k) 4096 w) := by
  go_enter Tryz.func36, Tryz.ntmps36
  go_wp2_with fail
  have hbox := box1r w (.bool false) (.slice N ns.length nc) (.slice D ds.length dc) (.bool false) (.slice none 0 0) (.slice none 0 0)
  obtain ⟨w1, hwe⟩ : ∃ x, (w.alloc (.cells #[.bool false, .slice N ns.length nc, .slice D ds.length dc] 24)).alloc (.cells #[.bool false, .slice none 0 0, .slice none 0 0] 24) = x := ⟨_, rfl⟩
  rw [hwe] at hbox ⊢
  obtain ⟨ka1, kr1, hb1⟩ := hbox
  have HWE := Lib.hid hwe
  clear hwe HWE
  have ha1 := ha.below hb1
  have hw1 := hb1
  clear ha hb1
  obtain ⟨a0, a1, a2, a3, a4, a5, a6⟩ := ka1.facts
  go_wp2_with fail
  refine (qvalid_yes ⟨false, N, nc, ns, D, dc, ds⟩ q _ ha1 (by dsimp only; omega) (by dsimp only; omega)).mono ?_
  rintro e w2 ⟨rfl, hb2⟩
  have ha2 := ha1.below hb2
  have ka2 := ka1.below hb2
  have kr2 := kr1.below hb2
  have hw2 := hw1.trans (hb2.mono hw1.size)
  clear ha1 ka1 kr1 hw1 hb2
  clear a0 a1 a2 a3 a4 a5 a6
  have hns := ha2.rn
  have hds := ha2.rd
  have mns := ha2.mn
  have mds := ha2.md
  have HQ := Lib.hid ha2.q
  dsimp only at hns hds mns mds HQ
  have hns2 := hns
  have hds2 := hds
  clear hns hds
  have HP : Hid (false = (false && decide (k % 2 = 1))) := rfl
  obtain ⟨a0, a1, a2, a3, a4, a5, a6⟩ := ka2.facts
  go_wp2_with fail
  refine (natpow2 N nc k ns _ hns2 mns (by omega) (by omega)).mono ?_
  rintro e w3 ⟨P, pc, ps, hP3, hpc, hb3, ⟨hvp, hmp, hlp⟩, rfl⟩
  have ka3 := ka2.below hb3
  have kr3 := kr2.below hb3
  have hns3 := hns2.below hb3
  have hds3 := hds2.below hb3
  have hw3 := hw2.trans (hb3.mono hw2.size)
  clear ka2 kr2 hns2 hds2 hw2 hb3
  clear a0 a1 a2 a3 a4 a5 a6
  have HVP := Lib.hid hvp
  clear hvp
  obtain ⟨a0, a1, a2, a3, a4, a5, a6⟩ := ka3.facts
  go_wp2_with fail
  refine (natpow2 D dc k ds _ hds3 mds (by omega) (by omega)).mono ?_
  rintro e w4 ⟨E, ec, es, hE4, hec, hb4, ⟨hve, hme, hle⟩, rfl⟩
  have ka4 := ka3.below hb4
  have kr4 := kr3.below hb4
  have hns4 := hns3.below hb4
  have hds4 := hds3.below hb4
  have hP4 := hP3.below hb4
  have hw4 := hw3.trans (hb4.mono hw3.size)
  clear ka3 kr3 hns3 hds3 hP3 hw3 hb4
  clear a0 a1 a2 a3 a4 a5 a6
  have HVE := Lib.hid hve
  clear hve
  obtain ⟨a0, a1, a2, a3, a4, a5, a6⟩ := ka4.facts
  go_wp2_with fail
  refine (signed_any false P E ps.length pc es.length ec _).mono ?_
  rintro e w5 ⟨rfl, hb5⟩
  have ka5 := ka4.below hb5
  have kr5 := kr4.below hb5
  have hns5 := hns4.below hb5
  have hds5 := hds4.below hb5
  have hP5 := hP4.below hb5
  have hE5 := hE4.below hb5
  have hw5 := hw4.trans (hb5.mono hw4.size)
  clear ka4 kr4 hns4 hds4 hP4 hE4 hw4 hb5
  clear a0 a1 a2 a3 a4 a5 a6
  obtain ⟨c0, c1, c2, c3, c4, c5, c6⟩ := kr5.facts
  go_wp2_with fail
  refine bodyPost_ret (v := .tuple #[.agg #[.bool (false && decide (0 < ps.length)), .slice P ps.length pc, .slice E es.length ec], .int .i64 0]) (by simp [results, Tryz.results36, go_sem, c0, c1, c2]) rfl ?_
  exact RatOk.put ⟨false && decide (0 < ps.length), P, pc, ps, E, ec, es⟩ (pow_is HQ.out HP.out hP5 hE5 hmp hme hpc hec HVP.out HVE.out) kr5 (by omega) hw5 hlp hle
set_option maxRecDepth 20000 in
set_option maxHeartbeats 1600000 in
theorem qpow_neg_f (N D : Option Addr) (nc dc : Nat) (ns ds : List Nat) (q : Rat) (k : Nat) (n : Int) (hkn : -n = (k : Int)) (hnk : n < 0) (hn1 : -1000 ≤ n) (hk : k ≤ 1000) (hn0 : 0 < ns.length) (w : World) (ha : RL.Is w ⟨false, N, nc, ns, D, dc, ds⟩ q) (l1 : ns.length ≤ 2) (l2 : ds.length ≤ 2) :
    Calls Tryz.prog 36 #[.agg #[.bool false, .slice N ns.length nc, .slice D ds.length dc], .int .i64 n] w (RatOk (q⁻¹ ^ k) 4096 w) := by
  have hd0 : 0 < ds.length := ha.dpos
  have HD0 := Lib.hid hd0
  have HDL : Hid ((false && decide (0 < ds.length)) = false) := by show _ = _; simp [hd0]
  have HSG : Hid (sgnI false ns.length = 1) := by show _ = _; unfold sgnI; rw [if_neg (by omega)]; rfl
  clear hd0
  go_enter Tryz.func36, Tryz.ntmps36
  go_wp2_with fail
  have hbox := box1r w (.bool false) (.slice N ns.length nc) (.slice D ds.length dc) (.bool false) (.slice none 0 0) (.slice none 0 0)
  obtain ⟨w1, hwe⟩ : ∃ x, (w.alloc (.cells #[.bool false, .slice N ns.length nc, .slice D ds.length dc] 24)).alloc (.cells #[.bool false, .slice none 0 0, .slice none 0 0] 24) = x := ⟨_, rfl⟩
  rw [hwe] at hbox ⊢
  obtain ⟨ka1, kr1, hb1⟩ := hbox
  have HWE := Lib.hid hwe
  clear hwe HWE
  have ha1 := ha.below hb1
  have hw1 := hb1
  clear ha hb1
  obtain ⟨a0, a1, a2, a3, a4, a5, a6⟩ := ka1.facts
  go_wp2_with fail
  refine (qvalid_yes ⟨false, N, nc, ns, D, dc, ds⟩ q _ ha1 (by dsimp only; omega) (by dsimp only; omega)).mono ?_
  rintro e w2 ⟨rfl, hb2⟩
  have ha2 := ha1.below hb2
  have ka2 := ka1.below hb2
  have kr2 := kr1.below hb2
  have hw2 := hw1.trans (hb2.mono hw1.size)
  clear ha1 ka1 kr1 hw1 hb2
  clear a0 a1 a2 a3 a4 a5 a6
  obtain ⟨a0, a1, a2, a3, a4, a5, a6⟩ := ka2.facts
  go_wp2_with fail
  refine (qsign false N D ns.length nc ds.length dc _).mono ?_
  rintro e w3 ⟨he, hb3⟩
  have ha3 := ha2.below hb3
  have ka3 := ka2.below hb3
  have kr3 := kr2.below hb3
  have hw3 := hw2.trans (hb3.mono hw2.size)
  clear ha2 ka2 kr2 hw2 hb3
  clear a0 a1 a2 a3 a4 a5 a6
  rw [HSG.out] at he
  subst he
  obtain ⟨a0, a1, a2, a3, a4, a5, a6⟩ := ka3.facts
  go_wp2_with fail
  refine (qinverse false N D ns.length nc ds.length dc _).mono ?_
  rintro e w4 ⟨he, hb4⟩
  have ha4 := ha3.below hb4
  have ka4 := ka3.below hb4
  have kr4 := kr3.below hb4
  have hw4 := hw3.trans (hb4.mono hw3.size)
  clear ha3 ka3 kr3 hw3 hb4
  clear a0 a1 a2 a3 a4 a5 a6
  rw [HDL.out] at he
  subst he
  obtain ⟨a0, a1, a2, a3, a4, a5, a6⟩ := ka4.facts
  go_upto_region 9 with fail
  obtain ⟨w5, hwe⟩ : ∃ x, ((w4.setCell ⟨w.heap.size, 0, none⟩ (.bool false)).setCell ⟨w.heap.size, 1, none⟩ (.slice D ds.length dc)).setCell ⟨w.heap.size, 2, none⟩ (.slice N ns.length nc) = x := ⟨_, rfl⟩
  rw [hwe]
  have ha5 : RL.Is w5 ⟨false, N, nc, ns, D, dc, ds⟩ q := by rw [← hwe]; exact ha4.put3 ka4 _ _ _
  have ka5 : BlkT 24 w5 w.heap.size (.bool false) (.slice D ds.length dc) (.slice N ns.length nc) := by rw [← hwe]; exact ka4.put3_ _ _ _
  have kr5 : BlkT 24 w5 (w.heap.size + 1) (.bool false) (.slice none 0 0) (.slice none 0 0) := by rw [← hwe]; exact ((kr4.far (by simp) _).far (by simp) _).far (by simp) _
  have hw5 : Below w.heap.size w w5 := by rw [← hwe]; exact below_put3 hw4 (Nat.le_refl _) _ _ _
  clear a0 a1 a2 a3 a4 a5 a6 hwe ha4 ka4 kr4 hw4
  have hns := ha5.rn
  have hds := ha5.rd
  have mns := ha5.mn
  have mds := ha5.md
  have hq := ha5.q
  dsimp only at hns hds mns mds hq
  have hdv : 0 < V32 ds := V32_pos mds HD0.out
  have hnv : 0 < V32 ns := V32_pos mns hn0
  have HQ : Hid (QOf false (V32 ds) (V32 ns) q⁻¹) := Lib.hid (by have h := inv_q hq hnv; rw [decide_eq_true hdv] at h; simp only [Bool.and_true] at h; exact h)
  clear hq hdv hnv
  have hns5 := hns
  have hds5 := hds
  clear hns hds
  have HP : Hid (false = (false && decide (k % 2 = 1))) := rfl
  obtain ⟨a0, a1, a2, a3, a4, a5, a6⟩ := ka5.facts
  go_wp2_with fail
  refine (natpow2 D dc k ds _ hds5 mds (by omega) (by omega)).mono ?_
  rintro e w6 ⟨P, pc, ps, hP6, hpc, hb6, ⟨hvp, hmp, hlp⟩, rfl⟩
  have ka6 := ka5.below hb6
  have kr6 := kr5.below hb6
  have hns6 := hns5.below hb6
  have hds6 := hds5.below hb6
  have hw6 := hw5.trans (hb6.mono hw5.size)
  clear ka5 kr5 hns5 hds5 hw5 hb6
  clear a0 a1 a2 a3 a4 a5 a6
  have HVP := Lib.hid hvp
  clear hvp
  obtain ⟨a0, a1, a2, a3, a4, a5, a6⟩ := ka6.facts
  go_wp2_with fail
  refine (natpow2 N nc k ns _ hns6 mns (by omega) (by omega)).mono ?_
  rintro e w7 ⟨E, ec, es, hE7, hec, hb7, ⟨hve, hme, hle⟩, rfl⟩
  have ka7 := ka6.below hb7
  have kr7 := kr6.below hb7
  have hns7 := hns6.below hb7
  have hds7 := hds6.below hb7
  have hP7 := hP6.below hb7
  have hw7 := hw6.trans (hb7.mono hw6.size)
  clear ka6 kr6 hns6 hds6 hP6 hw6 hb7
  clear a0 a1 a2 a3 a4 a5 a6
  have HVE := Lib.hid hve
  clear hve
  obtain ⟨a0, a1, a2, a3, a4, a5, a6⟩ := ka7.facts
  go_wp2_with fail
  refine (signed_any false P E ps.length pc es.length ec _).mono ?_
  rintro e w8 ⟨rfl, hb8⟩
  have ka8 := ka7.below hb8
  have kr8 := kr7.below hb8
  have hns8 := hns7.below hb8
  have hds8 := hds7.below hb8
  have hP8 := hP7.below hb8
  have hE8 := hE7.below hb8
  have hw8 := hw7.trans (hb8.mono hw7.size)
  clear ka7 kr7 hns7 hds7 hP7 hE7 hw7 hb8
  clear a0 a1 a2 a3 a4 a5 a6
  obtain ⟨c0, c1, c2, c3, c4, c5, c6⟩ := kr8.facts
  go_wp2_with fail
  refine bodyPost_ret (v := .tuple #[.agg #[.bool (false && decide (0 < ps.length)), .slice P ps.length pc, .slice E es.length ec], .int .i64 0]) (by simp [results, Tryz.results36, go_sem, c0, c1, c2]) rfl ?_
  exact RatOk.put ⟨false && decide (0 < ps.length), P, pc, ps, E, ec, es⟩ (pow_is HQ.out HP.out hP8 hE8 hmp hme hpc hec HVP.out HVE.out) kr8 (by omega) hw8 hlp hle
set_option maxRecDepth 20000 in
set_option maxHeartbeats 1600000 in
theorem qpow_zero (N D : Option Addr) (nc dc : Nat) (ds : List Nat) (q : Rat) (n : Int) (hnk : n < 0) (hn1 : -1000 ≤ n) (w : World) (ha : RL.Is w ⟨false, N, nc, [], D, dc, ds⟩ q) (l2 : ds.length ≤ 2) :
    Calls Tryz.prog 36 #[.agg #[.bool false, .slice N 0 nc, .slice D ds.length dc], .int .i64 n] w (RatErr 20 w) := by
  go_enter Tryz.func36, Tryz.ntmps36
  go_wp2_with fail
  have hbox := box1r w (.bool false) (.slice N 0 nc) (.slice D ds.length dc) (.bool false) (.slice none 0 0) (.slice none 0 0)
  obtain ⟨w1, hwe⟩ : ∃ x, (w.alloc (.cells #[.bool false, .slice N 0 nc, .slice D ds.length dc] 24)).alloc (.cells #[.bool false, .slice none 0 0, .slice none 0 0] 24) = x := ⟨_, rfl⟩
  rw [hwe] at hbox ⊢
  obtain ⟨ka1, kr1, hb1⟩ := hbox
  have HWE := Lib.hid hwe
  clear hwe HWE
  have ha1 := ha.below hb1
  have hw1 := hb1
  clear ha hb1
  obtain ⟨a0, a1, a2, a3, a4, a5, a6⟩ := ka1.facts
  go_wp2_with fail
  refine (qvalid_yes ⟨false, N, nc, [], D, dc, ds⟩ q _ ha1 (by simp) (by dsimp only; omega)).mono ?_
  rintro e w2 ⟨rfl, hb2⟩
  have ha2 := ha1.below hb2
  have ka2 := ka1.below hb2
  have kr2 := kr1.below hb2
  have hw2 := hw1.trans (hb2.mono hw1.size)
  clear ha1 ka1 kr1 hw1 hb2
  clear a0 a1 a2 a3 a4 a5 a6
  obtain ⟨a0, a1, a2, a3, a4, a5, a6⟩ := ka2.facts
  go_wp2_with fail
  refine (qsign false N D 0 nc ds.length dc _).mono ?_
  rintro e w3 ⟨rfl, hb3⟩
  have ha3 := ha2.below hb3
  have ka3 := ka2.below hb3
  have kr3 := kr2.below hb3
  have hw3 := hw2.trans (hb3.mono hw2.size)
  clear ha2 ka2 kr2 hw2 hb3
  clear a0 a1 a2 a3 a4 a5 a6
  obtain ⟨c0, c1, c2, c3, c4, c5, c6⟩ := kr3.facts
  go_wp2_with fail
  exact bodyPost_ret (v := .tuple #[.agg #[.bool false, .slice none 0 0, .slice none 0 0], .int .i64 20]) (by simp [results, Tryz.results36, go_sem, c0, c1, c2]) rfl ⟨rfl, below_put3 hw3 (by omega) _ _ _⟩
set_option maxRecDepth 20000 in
set_option maxHeartbeats 1600000 in
theorem qpow_pos_t (N D : Option Addr) (nc dc : Nat) (ns ds : List Nat) (q : Rat) (k : Nat) (hk : k ≤ 1000) (p : Bool) (hp : p = (true && decide (k % 2 = 1))) (hpar : ((k : Int) % 2 == 1) = p) (w : World) (ha : RL.Is w ⟨true, N, nc, ns, D, dc, ds⟩ q) (l1 : ns.length ≤ 2) (l2 : ds.length ≤ 2) :
    Calls Tryz.prog 36 #[.agg #[.bool true, .slice N ns.length nc, .slice D ds.length dc], .int .i64 k] w (RatOk (q ^ k) 4096 w) := by
  have HP : Hid (p = (true && decide (k % 2 = 1))) := hp
  clear hp
  go_enter Tryz.func36, Tryz.ntmps36
  go_wp2_with fail
  have hbox := box1r w (.bool true) (.slice N ns.length nc) (.slice D ds.length dc) (.bool false) (.slice none 0 0) (.slice none 0 0)
  obtain ⟨w1, hwe⟩ : ∃ x, (w.alloc (.cells #[.bool true, .slice N ns.length nc, .slice D ds.length dc] 24)).alloc (.cells #[.bool false, .slice none 0 0, .slice none 0 0] 24) = x := ⟨_, rfl⟩
  rw [hwe] at hbox ⊢
  obtain ⟨ka1, kr1, hb1⟩ := hbox
  have HWE := Lib.hid hwe
  clear hwe HWE
  have ha1 := ha.below hb1
  have hw1 := hb1
  clear ha hb1
  obtain ⟨a0, a1, a2, a3, a4, a5, a6⟩ := ka1.facts
  go_wp2_with fail
  refine (qvalid_yes ⟨true, N, nc, ns, D, dc, ds⟩ q _ ha1 (by dsimp only; omega) (by dsimp only; omega)).mono ?_
  rintro e w2 ⟨rfl, hb2⟩
  have ha2 := ha1.below hb2
  have ka2 := ka1.below hb2
  have kr2 := kr1.below hb2
  have hw2 := hw1.trans (hb2.mono hw1.size)
  clear ha1 ka1 kr1 hw1 hb2
  clear a0 a1 a2 a3 a4 a5 a6
  have hns := ha2.rn
  have hds := ha2.rd
  have mns := ha2.mn
  have mds := ha2.md
  have HQ := Lib.hid ha2.q
  dsimp only at hns hds mns mds HQ
  have hns2 := hns
  have hds2 := hds
  clear hns hds
  obtain ⟨a0, a1, a2, a3, a4, a5, a6⟩ := ka2.facts
  go_wp2_with fail
  refine (natpow2 N nc k ns _ hns2 mns (by omega) (by omega)).mono ?_
  rintro e w3 ⟨P, pc, ps, hP3, hpc, hb3, ⟨hvp, hmp, hlp⟩, rfl⟩
  have ka3 := ka2.below hb3
  have kr3 := kr2.below hb3
  have hns3 := hns2.below hb3
  have hds3 := hds2.below hb3
  have hw3 := hw2.trans (hb3.mono hw2.size)
  clear ka2 kr2 hns2 hds2 hw2 hb3
  clear a0 a1 a2 a3 a4 a5 a6
  have HVP := Lib.hid hvp
  clear hvp
  obtain ⟨a0, a1, a2, a3, a4, a5, a6⟩ := ka3.facts
  go_wp2_with fail
  refine (natpow2 D dc k ds _ hds3 mds (by omega) (by omega)).mono ?_
  rintro e w4 ⟨E, ec, es, hE4, hec, hb4, ⟨hve, hme, hle⟩, rfl⟩
  have ka4 := ka3.below hb4
  have kr4 := kr3.below hb4
  have hns4 := hns3.below hb4
  have hds4 := hds3.below hb4
  have hP4 := hP3.below hb4
  have hw4 := hw3.trans (hb4.mono hw3.size)
  clear ka3 kr3 hns3 hds3 hP3 hw3 hb4
  clear a0 a1 a2 a3 a4 a5 a6
  have HVE := Lib.hid hve
  clear hve
  obtain ⟨a0, a1, a2, a3, a4, a5, a6⟩ := ka4.facts
  go_wp2_with fail
  refine (signed_any p P E ps.length pc es.length ec _).mono ?_
  rintro e w5 ⟨rfl, hb5⟩
  have ka5 := ka4.below hb5
  have kr5 := kr4.below hb5
  have hns5 := hns4.below hb5
  have hds5 := hds4.below hb5
  have hP5 := hP4.below hb5
  have hE5 := hE4.below hb5
  have hw5 := hw4.trans (hb5.mono hw4.size)
  clear ka4 kr4 hns4 hds4 hP4 hE4 hw4 hb5
  clear a0 a1 a2 a3 a4 a5 a6
  obtain ⟨c0, c1, c2, c3, c4, c5, c6⟩ := kr5.facts
  go_wp2_with fail
  refine bodyPost_ret (v := .tuple #[.agg #[.bool (p && decide (0 < ps.length)), .slice P ps.length pc, .slice E es.length ec], .int .i64 0]) (by simp [results, Tryz.results36, go_sem, c0, c1, c2]) rfl ?_
  exact RatOk.put ⟨p && decide (0 < ps.length), P, pc, ps, E, ec, es⟩ (pow_is HQ.out HP.out hP5 hE5 hmp hme hpc hec HVP.out HVE.out) kr5 (by omega) hw5 hlp hle
set_option maxRecDepth 20000 in
set_option maxHeartbeats 1600000 in
theorem qpow_neg_t (N D : Option Addr) (nc dc : Nat) (ns ds : List Nat) (q : Rat) (k : Nat) (n : Int) (hkn : -n = (k : Int)) (hnk : n < 0) (hn1 : -1000 ≤ n) (hk : k ≤ 1000) (hn0 : 0 < ns.length) (p : Bool) (hp : p = (true && decide (k % 2 = 1))) (hpar : ((k : Int) % 2 == 1) = p) (w : World) (ha : RL.Is w ⟨true, N, nc, ns, D, dc, ds⟩ q) (l1 : ns.length ≤ 2) (l2 : ds.length ≤ 2) :
    Calls Tryz.prog 36 #[.agg #[.bool true, .slice N ns.length nc, .slice D ds.length dc], .int .i64 n] w (RatOk (q⁻¹ ^ k) 4096 w) := by
  have HP : Hid (p = (true && decide (k % 2 = 1))) := hp
  clear hp
  have hd0 : 0 < ds.length := ha.dpos
  have HD0 := Lib.hid hd0
  have HDL : Hid ((true && decide (0 < ds.length)) = true) := by show _ = _; simp [hd0]
  have HSG : Hid (sgnI true ns.length = -1) := by show _ = _; unfold sgnI; rw [if_neg (by omega)]; rfl
  clear hd0
  go_enter Tryz.func36, Tryz.ntmps36
  go_wp2_with fail
  have hbox := box1r w (.bool true) (.slice N ns.length nc) (.slice D ds.length dc) (.bool false) (.slice none 0 0) (.slice none 0 0)
  obtain ⟨w1, hwe⟩ : ∃ x, (w.alloc (.cells #[.bool true, .slice N ns.length nc, .slice D ds.length dc] 24)).alloc (.cells #[.bool false, .slice none 0 0, .slice none 0 0] 24) = x := ⟨_, rfl⟩
  rw [hwe] at hbox ⊢
  obtain ⟨ka1, kr1, hb1⟩ := hbox
  have HWE := Lib.hid hwe
  clear hwe HWE
  have ha1 := ha.below hb1
  have hw1 := hb1
  clear ha hb1
  obtain ⟨a0, a1, a2, a3, a4, a5, a6⟩ := ka1.facts
  go_wp2_with fail
  refine (qvalid_yes ⟨true, N, nc, ns, D, dc, ds⟩ q _ ha1 (by dsimp only; omega) (by dsimp only; omega)).mono ?_
  rintro e w2 ⟨rfl, hb2⟩
  have ha2 := ha1.below hb2
  have ka2 := ka1.below hb2
  have kr2 := kr1.below hb2
  have hw2 := hw1.trans (hb2.mono hw1.size)
  clear ha1 ka1 kr1 hw1 hb2
  clear a0 a1 a2 a3 a4 a5 a6
  obtain ⟨a0, a1, a2, a3, a4, a5, a6⟩ := ka2.facts
  go_wp2_with fail
  refine (qsign true N D ns.length nc ds.length dc _).mono ?_
  rintro e w3 ⟨he, hb3⟩
  have ha3 := ha2.below hb3
  have ka3 := ka2.below hb3
  have kr3 := kr2.below hb3
  have hw3 := hw2.trans (hb3.mono hw2.size)
  clear ha2 ka2 kr2 hw2 hb3
  clear a0 a1 a2 a3 a4 a5 a6
  rw [HSG.out] at he
  subst he
  obtain ⟨a0, a1, a2, a3, a4, a5, a6⟩ := ka3.facts
  go_wp2_with fail
  refine (qinverse true N D ns.length nc ds.length dc _).mono ?_
  rintro e w4 ⟨he, hb4⟩
  have ha4 := ha3.below hb4
  have ka4 := ka3.below hb4
  have kr4 := kr3.below hb4
  have hw4 := hw3.trans (hb4.mono hw3.size)
  clear ha3 ka3 kr3 hw3 hb4
  clear a0 a1 a2 a3 a4 a5 a6
  rw [HDL.out] at he
  subst he
  obtain ⟨a0, a1, a2, a3, a4, a5, a6⟩ := ka4.facts
  go_upto_region 9 with fail
  obtain ⟨w5, hwe⟩ : ∃ x, ((w4.setCell ⟨w.heap.size, 0, none⟩ (.bool true)).setCell ⟨w.heap.size, 1, none⟩ (.slice D ds.length dc)).setCell ⟨w.heap.size, 2, none⟩ (.slice N ns.length nc) = x := ⟨_, rfl⟩
  rw [hwe]
  have ha5 : RL.Is w5 ⟨true, N, nc, ns, D, dc, ds⟩ q := by rw [← hwe]; exact ha4.put3 ka4 _ _ _
  have ka5 : BlkT 24 w5 w.heap.size (.bool true) (.slice D ds.length dc) (.slice N ns.length nc) := by rw [← hwe]; exact ka4.put3_ _ _ _
  have kr5 : BlkT 24 w5 (w.heap.size + 1) (.bool false) (.slice none 0 0) (.slice none 0 0) := by rw [← hwe]; exact ((kr4.far (by simp) _).far (by simp) _).far (by simp) _
  have hw5 : Below w.heap.size w w5 := by rw [← hwe]; exact below_put3 hw4 (Nat.le_refl _) _ _ _
  clear a0 a1 a2 a3 a4 a5 a6 hwe ha4 ka4 kr4 hw4
  have hns := ha5.rn
  have hds := ha5.rd
  have mns := ha5.mn
  have mds := ha5.md
  have hq := ha5.q
  dsimp only at hns hds mns mds hq
  have hdv : 0 < V32 ds := V32_pos mds HD0.out
  have hnv : 0 < V32 ns := V32_pos mns hn0
  have HQ : Hid (QOf true (V32 ds) (V32 ns) q⁻¹) := Lib.hid (by have h := inv_q hq hnv; rw [decide_eq_true hdv] at h; simp only [Bool.and_true] at h; exact h)
  clear hq hdv hnv
  have hns5 := hns
  have hds5 := hds
  clear hns hds
  obtain ⟨a0, a1, a2, a3, a4, a5, a6⟩ := ka5.facts
  go_wp2_with fail
  refine (natpow2 D dc k ds _ hds5 mds (by omega) (by omega)).mono ?_
  rintro e w6 ⟨P, pc, ps, hP6, hpc, hb6, ⟨hvp, hmp, hlp⟩, rfl⟩
  have ka6 := ka5.below hb6
  have kr6 := kr5.below hb6
  have hns6 := hns5.below hb6
  have hds6 := hds5.below hb6
  have hw6 := hw5.trans (hb6.mono hw5.size)
  clear ka5 kr5 hns5 hds5 hw5 hb6
  clear a0 a1 a2 a3 a4 a5 a6
  have HVP := Lib.hid hvp
  clear hvp
  obtain ⟨a0, a1, a2, a3, a4, a5, a6⟩ := ka6.facts
  go_wp2_with fail
  refine (natpow2 N nc k ns _ hns6 mns (by omega) (by omega)).mono ?_
  rintro e w7 ⟨E, ec, es, hE7, hec, hb7, ⟨hve, hme, hle⟩, rfl⟩
  have ka7 := ka6.below hb7
  have kr7 := kr6.below hb7
  have hns7 := hns6.below hb7
  have hds7 := hds6.below hb7
  have hP7 := hP6.below hb7
  have hw7 := hw6.trans (hb7.mono hw6.size)
  clear ka6 kr6 hns6 hds6 hP6 hw6 hb7
  clear a0 a1 a2 a3 a4 a5 a6
  have HVE := Lib.hid hve
  clear hve
  obtain ⟨a0, a1, a2, a3, a4, a5, a6⟩ := ka7.facts
  go_wp2_with fail
  refine (signed_any p P E ps.length pc es.length ec _).mono ?_
  rintro e w8 ⟨rfl, hb8⟩
  have ka8 := ka7.below hb8
  have kr8 := kr7.below hb8
  have hns8 := hns7.below hb8
  have hds8 := hds7.below hb8
  have hP8 := hP7.below hb8
  have hE8 := hE7.below hb8
  have hw8 := hw7.trans (hb8.mono hw7.size)
  clear ka7 kr7 hns7 hds7 hP7 hE7 hw7 hb8
  clear a0 a1 a2 a3 a4 a5 a6
  obtain ⟨c0, c1, c2, c3, c4, c5, c6⟩ := kr8.facts
  go_wp2_with fail
  refine bodyPost_ret (v := .tuple #[.agg #[.bool (p && decide (0 < ps.length)), .slice P ps.length pc, .slice E es.length ec], .int .i64 0]) (by simp [results, Tryz.results36, go_sem, c0, c1, c2]) rfl ?_
  exact RatOk.put ⟨p && decide (0 < ps.length), P, pc, ps, E, ec, es⟩ (pow_is HQ.out HP.out hP8 hE8 hmp hme hpc hec HVP.out HVE.out) kr8 (by omega) hw8 hlp hle
set_option maxRecDepth 20000 in
set_option maxHeartbeats 1600000 in
theorem qpow_range (a : RL) (q : Rat) (n : Int) (hr : n < -1000 ∨ (-1000 ≤ n ∧ 1000 < n)) (w : World) (ha : a.Is w q) (l1 : a.ns.length ≤ 2) (l2 : a.ds.length ≤ 2) :
    Calls Tryz.prog 36 #[.agg #[.bool a.s, .slice a.N a.ns.length a.nc, .slice a.D a.ds.length a.dc], .int .i64 n] w (RatErr 1 w) := by
  go_enter Tryz.func36, Tryz.ntmps36
  go_wp2_with fail
  have hbox := box1r w (.bool a.s) (.slice a.N a.ns.length a.nc) (.slice a.D a.ds.length a.dc) (.bool false) (.slice none 0 0) (.slice none 0 0)
  obtain ⟨w1, hwe⟩ : ∃ x, (w.alloc (.cells #[.bool a.s, .slice a.N a.ns.length a.nc, .slice a.D a.ds.length a.dc] 24)).alloc (.cells #[.bool false, .slice none 0 0, .slice none 0 0] 24) = x := ⟨_, rfl⟩
  rw [hwe] at hbox ⊢
  obtain ⟨ka1, kr1, hb1⟩ := hbox
  have HWE := Lib.hid hwe
  clear hwe HWE
  have ha1 := ha.below hb1
  have hw1 := hb1
  clear ha hb1
  obtain ⟨a0, a1, a2, a3, a4, a5, a6⟩ := ka1.facts
  go_wp2_with fail
  refine (qvalid_yes a q _ ha1 (by omega) (by omega)).mono ?_
  rintro e w2 ⟨rfl, hb2⟩
  have ha2 := ha1.below hb2
  have ka2 := ka1.below hb2
  have kr2 := kr1.below hb2
  have hw2 := hw1.trans (hb2.mono hw1.size)
  clear ha1 ka1 kr1 hw1 hb2
  clear a0 a1 a2 a3 a4 a5 a6
  obtain ⟨c0, c1, c2, c3, c4, c5, c6⟩ := kr2.facts
  rcases hr with hr | hr
  all_goals
    go_wp2_with fail
    exact bodyPost_ret (v := .tuple #[.agg #[.bool false, .slice none 0 0, .slice none 0 0], .int .i64 1]) (by simp [results, Tryz.results36, go_sem, c0, c1, c2]) rfl ⟨rfl, below_put3 hw2 (by omega) _ _ _⟩
end Go.Proofs.YtdonbgjmcbhecaaGreatDoor


/- isochroneref02.Zero and Make. -/
namespace Go.Proofs.YtdonbgjmcbhecaaGreatDoor
open Go.RowKit V

theorem qof_zero (s : Bool) (d : Nat) : QOf false 0 1 (mkRat (sgn s 0) d) := by
  have e : mkRat (sgn s 0) d = mkRat (sgn false 0) 1 := by cases s <;> simp [sgn]
  rw [e]
  exact QOf.mk_ (by omega) (by decide) (fun _ => rfl)
theorem nat1_rd (w : World) (k : Nat) (h : w.heap.size = k) : Rd .i64 (w.alloc (.cells #[.int .i64 1] 3)) (some ⟨k, 0, none⟩) [1] := h ▸ rd_nat1 w 1

set_option maxHeartbeats 400000 in
theorem qzero (q : Rat) (hq : QOf false 0 1 q) (w : World) : Calls Tryz.prog 50 #[] w (RefP q 0 1 w) := by
  go_enter Tryz.func50, Tryz.ntmps50
  go_wp2
  exact bodyPost_ret (v := .agg #[.bool false, .slice (some ⟨w.heap.size + 1, 0, none⟩) 0 0, .slice (some ⟨w.heap.size + 1 + 1, 0, none⟩) 1 1]) (by simp [results, Tryz.results50, go_sem]) rfl
    ⟨⟨false, some ⟨w.heap.size + 1, 0, none⟩, 0, [], some ⟨w.heap.size + 1 + 1, 0, none⟩, 1, [1]⟩, rfl, ⟨Rd.nil_, nat1_rd _ _ (by simp), nm_nil, nm_one, by simpa [VD, val] using hq⟩, Nat.le_refl _, Nat.le_refl _, (((Below.refl _ _).alloc (Nat.le_refl _) _).alloc (by simp) _).alloc (by simp; omega) _⟩

theorem len1_val {xs : List Nat} (h : xs.length = 1) {x : Nat} (e : xs.getD 0 0 = x) : VD xs = x := by
  rw [one_of_len h, e]; unfold VD; simp [val]
/-- The test whether a number is 1, part by part. -/
def OneQ (xs : List Nat) (A : Option Addr) (w : World) (p : Bool) : Prop :=
  (p = false ∧ ((xs.length : Int) == 1) = false) ∨ (∃ ad x, A = some ad ∧ xs.length = 1 ∧ VD xs = x ∧ ((x : Int) == 1) = p ∧ w.cell? ad = some (.int .i64 (x : Nat)))
theorem oneQ {xs : List Nat} {A : Option Addr} {w : World} (h : Rd .i64 w A xs) : ∃ p, OneQ xs A w p ∧ (p = true → VD xs = 1) := by
  by_cases h1 : xs.length = 1
  · obtain ⟨ad, x, hA, _, ex, hc⟩ := h.ask (i := 0) (by omega)
    rw [add_zero_] at hc
    have hv := len1_val h1 ex.out
    refine ⟨_, .inr ⟨ad, x, hA, h1, hv, rfl, hc⟩, fun h => ?_⟩
    rw [hv]
    have := eq_of_beq h
    omega
  · exact ⟨false, .inl ⟨rfl, beq_eq_false_iff_ne.2 (by omega)⟩, fun h => by cases h⟩

set_option maxRecDepth 100000 in
set_option maxHeartbeats 3200000 in
theorem rmake (s : Bool) (N D : Option Addr) (nc dc : Nat) (ns ds : List Nat) (w : World) (hn : Rd .i64 w N ns) (hd : Rd .i64 w D ds) (mn : Nm ns) (md : Nm ds) (l1 : ns.length ≤ 10000) (l2 : ds.length ≤ 10000) (hpos : 0 < ds.length) :
    Calls Tryz.prog 43 #[.bool s, .slice N ns.length nc, .slice D ds.length dc] w (RefP (mkRat (sgn s (VD ns)) (VD ds)) ns.length (max 1 ds.length) w) := by
  have hdp := VD_pos md hpos
  by_cases h0 : ns.length = 0
  · obtain rfl : ns = [] := List.eq_nil_of_length_eq_zero h0
    have kr := BlkT.new 30 w (.bool false) (.slice none 0 0) (.slice none 0 0)
    have hq : QOf false 0 1 (mkRat (sgn s (VD [])) (VD ds)) := by have := qof_zero s (VD ds); simpa [VD, val] using this
    go_enter Tryz.func43, Tryz.ntmps43
    go_wp2_with fail
    refine (qzero _ hq _).mono ?_
    rintro e w1 ⟨r, rfl, hr, hl1, hl2, hb1⟩
    have kr1 := kr.below hb1
    have hw1 : Below w.heap.size w w1 := ((Below.refl _ _).alloc (Nat.le_refl _) _).trans (hb1.mono (by simp))
    obtain ⟨c0, c1, c2, c3, c4, c5, c6⟩ := kr1.facts
    go_wp2_with fail
    refine bodyPost_ret (v := .agg #[.bool r.s, .slice r.N r.ns.length r.nc, .slice r.D r.ds.length r.dc]) (by simp [results, Tryz.results43, go_sem, c0, c1, c2]) rfl ?_
    exact RefP.put r hr kr1 (Nat.le_refl _) hw1 (by simpa using hl1) (by omega)
  · have hne : ((ns.length : Int) == 0) = false := beq_eq_false_iff_ne.2 (by omega)
    have hnp := VD_pos mn (by omega)
    have hn1 : Rd .i64 (w.alloc (.cells #[.bool false, .slice none 0 0, .slice none 0 0] 30)) N ns := hn.alloc _
    have hd1 : Rd .i64 (w.alloc (.cells #[.bool false, .slice none 0 0, .slice none 0 0] 30)) D ds := hd.alloc _
    have hw1 : Below w.heap.size w (w.alloc (.cells #[.bool false, .slice none 0 0, .slice none 0 0] 30)) := (Below.refl _ _).alloc (Nat.le_refl _) _
    have kr1 := BlkT.new 30 w (.bool false) (.slice none 0 0) (.slice none 0 0)
    obtain ⟨p, hp, hp1⟩ := oneQ hd1
    have HP1 := Lib.hid hp1
    clear hp1
    have hsame : ∀ w', Below w.heap.size w w' → VD ds = 1 ∨ Nat.gcd (VD ns) (VD ds) = 1 → RL.Ref w' ⟨s, N, nc, ns, D, dc, ds⟩ (mkRat (sgn s (VD ns)) (VD ds)) := fun w' hb h => by
      refine ⟨hn.below hb, hd.below hb, mn, md, QOf.mk_ hdp ?_ (fun h => by dsimp only at h; omega)⟩
      rcases h with h | h
      · dsimp only; rw [h]; exact Nat.gcd_one_right _
      · exact h
    have HSAME := Lib.hid hsame
    clear hsame
    cases p
    · rcases hp with ⟨_, hp⟩ | ⟨ad, x, rfl, hp1, hp2, hp, hp3⟩
      all_goals
        first
          | have hpl : ((ds.length : Int) == 1) = true := by simp [hp1]
          | skip
        first
          | (have HPQ := Lib.hid hp1
             clear hp1 hp2)
          | skip
        go_enter Tryz.func43, Tryz.ntmps43
        go_wp2_with fail
        refine (rgcd_any N _ nc dc ns ds _ hn1 hd1 (by omega) (by omega) mn md).mono ?_
        rintro e w2 ⟨G, gc, gl, rfl, hG, hng, hlg, hvg, hb2⟩
        have kr2 := kr1.below hb2
        have hn2 := hn1.below hb2
        have hd2 := hd1.below hb2
        have hw2 := hw1.trans (hb2.mono hw1.size)
        have hgp : 0 < VD gl := by rw [hvg.out]; exact Nat.gcd_pos_of_pos_left _ hnp
        have hgl : 0 < gl.length := by
          rcases Nat.eq_zero_or_pos gl.length with h | h
          · rw [List.eq_nil_of_length_eq_zero h] at hgp; simp [VD, val] at hgp
          · exact h
        have HGP := Lib.hid hgp
        obtain ⟨p2, hq, hq1⟩ := oneQ hG
        have HQ1 := Lib.hid hq1
        clear hq1 hb2 kr1 hn1 hd1 hw1 hgp hnp hdp hp
        cases p2
        · rcases hq with ⟨_, hq⟩ | ⟨gd, y, rfl, hq1, hq2, hq, hq3⟩
          all_goals
            first
              | have hql : ((gl.length : Int) == 1) = true := by simp [hq1]
              | skip
            first
              | (have HQQ := Lib.hid hq1
                 clear hq1 hq2)
              | skip
            go_wp2_with (go_quiet (fail))
            refine (rdiv_any N _ nc gc ns gl _ hn2 hG (by omega) mn hng hgl).mono ?_
            rintro e w3 ⟨X, xc, xs, X2, xc2, xs2, rfl, hX, hX2, mx, mx2, hdm, hlt, hb3⟩
            have kr3 := kr2.below hb3
            have hd3 := hd2.below hb3
            have hG3 := hG.below hb3
            have hw3 := hw2.trans (hb3.mono hw2.size)
            have hxv : Hid (VD xs = VD ns / VD gl) := (div_uniq hdm.out hlt.out).1
            have hxl : xs.length ≤ ns.length := mn.len_le mx (by rw [hxv.out]; exact Nat.div_le_self _ _)
            clear hb3 hX2 mx2 hdm hlt kr2 hw2 hd2 hq
            go_wp2_with fail
            refine (rdiv_any _ _ dc gc ds gl _ hd3 hG3 (by omega) md hng hgl).mono ?_
            rintro e w4 ⟨Y, yc, ys, Y2, yc2, ys2, rfl, hY, hY2, my, my2, hdm, hlt, hb4⟩
            have kr4 := kr3.below hb4
            have hX4 := hX.below hb4
            have hw4 := hw3.trans (hb4.mono hw3.size)
            have hyv : Hid (VD ys = VD ds / VD gl) := (div_uniq hdm.out hlt.out).1
            have hyl : ys.length ≤ ds.length := md.len_le my (by rw [hyv.out]; exact Nat.div_le_self _ _)
            clear hb4 hY2 my2 hdm hlt kr3 hw3 hd3 hX hG3
            obtain ⟨c0, c1, c2, c3, c4, c5, c6⟩ := kr4.facts
            go_wp2_with fail
            refine bodyPost_ret (v := .agg #[.bool s, .slice X xs.length xc, .slice Y ys.length yc]) (by simp [results, Tryz.results43, go_sem, c0, c1, c2]) rfl ?_
            refine RefP.put ⟨s, X, xc, xs, Y, yc, ys⟩ ⟨hX4, hY, mx, my, ?_⟩ kr4 (Nat.le_refl _) hw4 hxl (Nat.le_trans hyl (Nat.le_max_right _ _))
            have hqr := QOf.red (neg := s) (n := VD ns) (d := VD ds) (VD_pos md hpos)
            have hqp : 0 < VD ns / Nat.gcd (VD ns) (VD ds) := Nat.div_pos (Nat.gcd_le_left _ (VD_pos mn (by omega))) (Nat.gcd_pos_of_pos_right _ (VD_pos md hpos))
            rw [decide_eq_true hqp, Bool.and_true, ← hvg.out, ← hxv.out, ← hyv.out] at hqr
            exact hqr
        · rcases hq with ⟨hqf, _⟩ | ⟨gd, y, rfl, hq1, hq2, hq, hq3⟩
          · cases hqf
          · have hql : ((gl.length : Int) == 1) = true := by simp [hq1]
            have HQQ := Lib.hid hq1
            clear hq1 hq2
            obtain ⟨c0, c1, c2, c3, c4, c5, c6⟩ := kr2.facts
            go_wp2_with (go_quiet (fail))
            have hres := RefP.put ⟨s, N, nc, ns, _, dc, ds⟩ (HSAME.out _ hw2 (.inr (by rw [← hvg.out]; exact HQ1.out trivial))) kr2 (Nat.le_refl _) hw2 (Nat.le_refl _) (Nat.le_max_right 1 _)
            first
              | exact bodyPost_ret (v := .agg #[.bool s, .slice N ns.length nc, .slice D ds.length dc]) (by simp [results, Tryz.results43, go_sem, c0, c1, c2]) rfl hres
              | exact bodyPost_ret (v := .agg #[.bool s, .slice N ns.length nc, .slice (some ad) ds.length dc]) (by simp [results, Tryz.results43, go_sem, c0, c1, c2]) rfl hres
    · rcases hp with ⟨hpf, _⟩ | ⟨ad, x, rfl, hp1, hp2, hp, hp3⟩
      · cases hpf
      · have hpl : ((ds.length : Int) == 1) = true := by simp [hp1]
        have HP := Lib.hid hp1
        clear hp1 hp2
        go_enter Tryz.func43, Tryz.ntmps43
        go_wp2_with (go_quiet (fail))
        refine bodyPost_ret (v := .agg #[.bool s, .slice N ns.length nc, .slice (some ad) ds.length dc]) (by simp [results, Tryz.results43, go_sem]) rfl ?_
        refine ⟨⟨s, N, nc, ns, some ad, dc, ds⟩, rfl, HSAME.out _ ((Below.refl _ _).alloc (Nat.le_refl _) _) (.inl (HP1.out trivial)), Nat.le_refl _, Nat.le_max_right _ _, (Below.refl _ _).alloc (Nat.le_refl _) _⟩
end Go.Proofs.YtdonbgjmcbhecaaGreatDoor

