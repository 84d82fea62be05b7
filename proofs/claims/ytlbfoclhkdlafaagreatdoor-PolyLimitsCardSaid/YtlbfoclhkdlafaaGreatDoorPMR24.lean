/- wide.Num.Add of two numbers that are not zero, given what its calls of gcd, quotient and times do. -/
import Derived.Test.YtlbfoclhkdlafaaGreatDoorPMR23
import Derived.Deep.DrawnRows
attribute [local go_sem ↓] Go.wp_at_zero Go.wp_at_succ
namespace Go.Proofs.YtlbfoclhkdlafaaGreatDoor
open Go.RowKit V

set_option maxRecDepth 100000 in
set_option maxHeartbeats 6400000 in
theorem wAdd_of (a b : RL) (p q : Rat) (w : World) (ha : a.Num w p) (hb_ : b.Num w q) (hp0 : p ≠ 0) (hq0 : q ≠ 0) (bl : a.ns.length + a.ds.length + b.ns.length + b.ds.length ≤ 90000)
    (g1 : GcdOk a.ds b.ds)
    (q1 : ∀ gs, Mag64 gs → 0 < gs.length → Hid (V64 gs = Nat.gcd (V64 a.ds) (V64 b.ds)) → QuoOk a.ds gs ∧ QuoOk b.ds gs)
    (t1 : ∀ gs ps rs, Mag64 ps → Mag64 rs → Hid (V64 gs = Nat.gcd (V64 a.ds) (V64 b.ds)) → Hid (V64 ps = V64 a.ds / V64 gs) → Hid (V64 rs = V64 b.ds / V64 gs) → ps.length ≤ a.ds.length → rs.length ≤ b.ds.length → TimOk a.ns rs ∧ TimOk b.ns ps)
    (g2 : ∀ gs zs, Mag64 gs → Mag64 zs → 0 < gs.length → 0 < zs.length → Hid (V64 gs = Nat.gcd (V64 a.ds) (V64 b.ds)) → zs.length ≤ max (a.ns.length + b.ds.length) (b.ns.length + a.ds.length) + 1 → GcdOk zs gs)
    (q2 : ∀ gs zs vs, Mag64 gs → Mag64 zs → Mag64 vs → 0 < zs.length → 0 < vs.length → Hid (V64 gs = Nat.gcd (V64 a.ds) (V64 b.ds)) → Hid (V64 vs = Nat.gcd (V64 zs) (V64 gs)) → zs.length ≤ max (a.ns.length + b.ds.length) (b.ns.length + a.ds.length) + 1 → QuoOk zs vs ∧ QuoOk b.ds vs)
    (t2 : ∀ gs ps vs es, Mag64 ps → Mag64 vs → Mag64 es → Hid (V64 gs = Nat.gcd (V64 a.ds) (V64 b.ds)) → Hid (V64 ps = V64 a.ds / V64 gs) → Hid (V64 es = V64 b.ds / V64 vs) → es.length ≤ b.ds.length → ps.length ≤ a.ds.length → TimOk ps es) :
    Calls Tryz.prog 103 #[.agg #[.bool a.s, .slice a.N a.ns.length a.nc, .slice a.D a.ds.length a.dc], .agg #[.bool b.s, .slice b.N b.ns.length b.nc, .slice b.D b.ds.length b.dc]] w (NumL (p + q) (max (a.ns.length + b.ds.length) (b.ns.length + a.ds.length) + 1 + a.ds.length + b.ds.length) w) := by
  have HG1 := Lib.hid g1
  have HQ1 := Lib.hid q1
  have HT1 := Lib.hid t1
  have HG2 := Lib.hid g2
  have HQ2 := Lib.hid q2
  have HT2 := Lib.hid t2
  clear g1 q1 t1 g2 q2 t2
  go_enter Tryz.func103, Tryz.ntmps103
  go_wp2_with fail
  have hbox := box3n w (.bool a.s) (.slice a.N a.ns.length a.nc) (.slice a.D a.ds.length a.dc) (.bool b.s) (.slice b.N b.ns.length b.nc) (.slice b.D b.ds.length b.dc) (.bool false) (.slice none 0 0) (.slice none 0 0)
  obtain ⟨w1, hwe⟩ : ∃ x, ((w.alloc (.cells #[.bool a.s, .slice a.N a.ns.length a.nc, .slice a.D a.ds.length a.dc] 91)).alloc (.cells #[.bool b.s, .slice b.N b.ns.length b.nc, .slice b.D b.ds.length b.dc] 91)).alloc (.cells #[.bool false, .slice none 0 0, .slice none 0 0] 91) = x := ⟨_, rfl⟩
  rw [hwe] at hbox ⊢
  obtain ⟨ka1, kb1, kr1, hb1⟩ := hbox
  have HWE := Lib.hid hwe
  clear hwe HWE
  have ha1 := ha.below hb1
  have hb_1 := hb_.below hb1
  have hw1 := hb1
  clear ha hb_ hb1
  have hna1 := ha1.rn
  have hda1 := ha1.rd
  have hnb1 := hb_1.rn
  have hdb1 := hb_1.rd
  have mna := ha1.mn
  have mda := ha1.md
  have mnb := hb_1.mn
  have mdb := hb_1.md
  have cna := ha1.cn
  have cda := ha1.cd
  have cnb := hb_1.cn
  have cdb := hb_1.cd
  have QA := Lib.hid (ha1.nz hp0)
  have QB := Lib.hid (hb_1.nz hq0)
  have hz1 : decide (a.ns.length = 0) = false := decide_eq_false (by have := QA.out.1; omega)
  have hz2 : decide (b.ns.length = 0) = false := decide_eq_false (by have := QB.out.1; omega)
  have pna := QA.out.1
  have pnb := QB.out.1
  have pda : 0 < a.ds.length := (V64_pos_iff mda).2 QA.out.2.pos
  have pdb : 0 < b.ds.length := (V64_pos_iff mdb).2 QB.out.2.pos
  clear ha1 hb_1
  obtain ⟨a0, a1, a2, a3, a4, a5, a6⟩ := ka1.facts
  obtain ⟨b0, b1, b2, b3, b4, b5, b6⟩ := kb1.facts
  go_wp2_with fail
  refine (wisZero a.s a.N a.D a.ns.length a.nc a.ds.length a.dc _).mono ?_
  rintro e w2 ⟨he, hb2⟩
  have ka2 := ka1.below hb2
  have kb2 := kb1.below hb2
  have kr2 := kr1.below hb2
  have hna2 := hna1.below hb2
  have hda2 := hda1.below hb2
  have hnb2 := hnb1.below hb2
  have hdb2 := hdb1.below hb2
  have hw2 := hw1.trans (hb2.mono hw1.size)
  clear ka1 kb1 kr1 hna1 hda1 hnb1 hdb1 hw1 hb2
  rw [hz1] at he
  subst he
  clear a0 a1 a2 a3 a4 a5 a6
  clear b0 b1 b2 b3 b4 b5 b6
  obtain ⟨a0, a1, a2, a3, a4, a5, a6⟩ := ka2.facts
  obtain ⟨b0, b1, b2, b3, b4, b5, b6⟩ := kb2.facts
  go_wp2_with fail
  refine (wisZero b.s b.N b.D b.ns.length b.nc b.ds.length b.dc _).mono ?_
  rintro e w3 ⟨he, hb3⟩
  have ka3 := ka2.below hb3
  have kb3 := kb2.below hb3
  have kr3 := kr2.below hb3
  have hna3 := hna2.below hb3
  have hda3 := hda2.below hb3
  have hnb3 := hnb2.below hb3
  have hdb3 := hdb2.below hb3
  have hw3 := hw2.trans (hb3.mono hw2.size)
  clear ka2 kb2 kr2 hna2 hda2 hnb2 hdb2 hw2 hb3
  rw [hz2] at he
  subst he
  clear a0 a1 a2 a3 a4 a5 a6
  clear b0 b1 b2 b3 b4 b5 b6
  obtain ⟨a0, a1, a2, a3, a4, a5, a6⟩ := ka3.facts
  obtain ⟨b0, b1, b2, b3, b4, b5, b6⟩ := kb3.facts
  go_wp2_with fail
  refine (HG1.out a.D b.D a.dc b.dc _ hda3 hdb3 cda cdb).mono ?_
  rintro e w4 ⟨G, gc, gs, rfl, hgc, hg4, hb4, hvg, mg⟩
  have ka4 := ka3.below hb4
  have kb4 := kb3.below hb4
  have kr4 := kr3.below hb4
  have hna4 := hna3.below hb4
  have hda4 := hda3.below hb4
  have hnb4 := hnb3.below hb4
  have hdb4 := hdb3.below hb4
  have hw4 := hw3.trans (hb4.mono hw3.size)
  clear ka3 kb3 kr3 hna3 hda3 hnb3 hdb3 hw3 hb4
  have HVG := Lib.hid hvg
  have hgp : 0 < gs.length := (V64_pos_iff mg).2 (by rw [hvg]; exact Nat.gcd_pos_of_pos_left _ (V64_pos mda pda))
  have hgl : gs.length ≤ a.ds.length := len_of_lt (B := 18446744073709551616) (by omega) mg.2 (Nat.lt_of_le_of_lt (by rw [show val 18446744073709551616 gs = V64 gs from rfl, hvg]; exact Nat.gcd_le_left _ (V64_pos mda pda)) (val_lt _ _ mda.1))
  clear hvg
  clear a0 a1 a2 a3 a4 a5 a6
  clear b0 b1 b2 b3 b4 b5 b6
  have HQ1 := HQ1.out gs mg hgp HVG
  obtain ⟨a0, a1, a2, a3, a4, a5, a6⟩ := ka4.facts
  obtain ⟨b0, b1, b2, b3, b4, b5, b6⟩ := kb4.facts
  go_upto_region 6 with fail
  go_cut [6, 7] (fun s6 s7 wx => ∃ P pc ps R rc rs, s6 = .slice P (ps : List Nat).length pc ∧ s7 = .slice R (rs : List Nat).length rc ∧ ps.length ≤ pc ∧ rs.length ≤ rc ∧ Rw wx P ps ∧ Rw wx R rs ∧ Mag64 ps ∧ Mag64 rs ∧ Hid (V64 ps = V64 a.ds / V64 gs) ∧ Hid (V64 rs = V64 b.ds / V64 gs) ∧ ps.length ≤ a.ds.length ∧ rs.length ≤ b.ds.length ∧ Below w4.heap.size w4 wx)
  case first =>
    go_region_held3 (fun w' => w'.cell? ⟨w.heap.size, 2, none⟩ = some (.slice a.D a.ds.length a.dc) ∧ w'.cell? ⟨w.heap.size + 1, 2, none⟩ = some (.slice b.D b.ds.length b.dc)) (first | (with_reducible exact ⟨‹_›, ‹_›⟩) | go_keep)
      (first
      | (go_at_call_of 126 (Value.slice a.D a.ds.length a.dc)
         refine (HQ1.1 a.D G a.dc gc _ (by first | exact hda4 | exact hda4.drew | exact hda4.alloc _ | exact (hda4.alloc _).drew | exact hda4.drew.alloc _) (by first | exact hg4 | exact hg4.drew | exact hg4.alloc _ | exact (hg4.alloc _).drew | exact hg4.drew.alloc _) cda hgc).mono ?_
         rintro e wx_ ⟨P, pc, ps, rfl, hpc, hP, hbx, hvp, mp, hpl⟩
         have HVP := Lib.hid hvp
         clear hvp
         have hbp0 : Below w4.heap.size w4 wx_ := by first | exact hbx | exact below_of_drew hbx (Nat.le_refl _) | exact ((Below.refl _ _).alloc (Nat.le_refl _) _).trans (hbx.mono (by simp)) | exact ((Below.refl _ _).alloc (Nat.le_refl _) _).trans ((below_of_drew hbx (Nat.le_refl _)).mono (by simp)) | exact below_of_drew (((Below.refl _ _).alloc (Nat.le_refl _) _).trans (hbx.mono (by simp))) (Nat.le_refl _)
         have hna_0 := hna4.below hbp0
         have hda_0 := hda4.below hbp0
         have hnb_0 := hnb4.below hbp0
         have hdb_0 := hdb4.below hbp0
         have hg_0 := hg4.below hbp0
         have ka_0 := ka4.below hbp0
         obtain ⟨ka0wx_, ka1wx_, ka2wx_, ka3wx_, ka4wx_, ka5wx_, ka6wx_⟩ := ka_0.facts
         have kb_0 := kb4.below hbp0
         obtain ⟨kb0wx_, kb1wx_, kb2wx_, kb3wx_, kb4wx_, kb5wx_, kb6wx_⟩ := kb_0.facts
         have hwq0 := hw4.trans (hbp0.mono hw4.size))
      | (go_at_call_of 126 (Value.slice b.D b.ds.length b.dc)
         refine (HQ1.2 b.D G b.dc gc _ (by first | exact hdb_0 | exact hdb_0.drew | exact hdb_0.alloc _ | exact (hdb_0.alloc _).drew | exact hdb_0.drew.alloc _) (by first | exact hg_0 | exact hg_0.drew | exact hg_0.alloc _ | exact (hg_0.alloc _).drew | exact hg_0.drew.alloc _) cdb hgc).mono ?_
         rintro e wy_ ⟨R, rc, rs, rfl, hrc, hR, hby, hvr, mr, hrl⟩
         have HVR := Lib.hid hvr
         clear hvr
         have hbp1 : Below wx_.heap.size wx_ wy_ := by first | exact hby | exact below_of_drew hby (Nat.le_refl _) | exact ((Below.refl _ _).alloc (Nat.le_refl _) _).trans (hby.mono (by simp)) | exact ((Below.refl _ _).alloc (Nat.le_refl _) _).trans ((below_of_drew hby (Nat.le_refl _)).mono (by simp)) | exact below_of_drew (((Below.refl _ _).alloc (Nat.le_refl _) _).trans (hby.mono (by simp))) (Nat.le_refl _)
         have hna_1 := hna_0.below hbp1
         have hda_1 := hda_0.below hbp1
         have hnb_1 := hnb_0.below hbp1
         have hdb_1 := hdb_0.below hbp1
         have hg_1 := hg_0.below hbp1
         have hP_1 := hP.below hbp1
         have ka_1 := ka_0.below hbp1
         obtain ⟨ka0wy_, ka1wy_, ka2wy_, ka3wy_, ka4wy_, ka5wy_, ka6wy_⟩ := ka_1.facts
         have kb_1 := kb_0.below hbp1
         obtain ⟨kb0wy_, kb1wy_, kb2wy_, kb3wy_, kb4wy_, kb5wy_, kb6wy_⟩ := kb_1.facts
         have hwq1 := hwq0.trans (hbp1.mono hwq0.size)))
    all_goals
      go_wp2_with fail
      go_meet
      exact ⟨P, pc, ps, R, rc, rs, rfl, rfl, hpc, hrc, hP_1, hR, mp, mr, HVP, HVR, hpl, hrl, (hbp0).trans (hbp1.mono (hbp0).size)⟩
  clear a0 a1 a2 a3 a4 a5 a6
  clear b0 b1 b2 b3 b4 b5 b6
  obtain ⟨w5, rfl⟩ : ∃ x, x = wc := ⟨_, rfl⟩
  obtain ⟨P, pc, ps, R, rc, rs, rfl, rfl, hpc, hrc, hP5, hR5, mp, mr, HVP, HVR, hpl, hrl, hb5⟩ := hcut
  have ka5 := ka4.below hb5
  have kb5 := kb4.below hb5
  have kr5 := kr4.below hb5
  have hna5 := hna4.below hb5
  have hda5 := hda4.below hb5
  have hnb5 := hnb4.below hb5
  have hdb5 := hdb4.below hb5
  have hg5 := hg4.below hb5
  have hw5 := hw4.trans (hb5.mono hw4.size)
  clear ka4 kb4 kr4 hna4 hda4 hnb4 hdb4 hg4 hw4 hb5
  have HT1 := HT1.out gs ps rs mp mr HVG HVP HVR hpl hrl
  obtain ⟨a0, a1, a2, a3, a4, a5, a6⟩ := ka5.facts
  obtain ⟨b0, b1, b2, b3, b4, b5, b6⟩ := kb5.facts
  go_upto_region 7 with fail
  go_cut [8, 9] (fun s8 s9 wx => ∃ m Z zc zs, s8 = .bool m ∧ s9 = .slice Z (zs : List Nat).length zc ∧ zs.length ≤ zc ∧ Rw wx Z zs ∧ Mag64 zs ∧ Hid (sgn m (V64 zs) = sgn a.s (V64 a.ns * V64 rs) + sgn b.s (V64 b.ns * V64 ps)) ∧ zs.length ≤ max (a.ns.length + b.ds.length) (b.ns.length + a.ds.length) + 1 ∧ Below w5.heap.size w5 wx)
  case first =>
    go_region_held3 (fun w' => w'.cell? ⟨w.heap.size, 0, none⟩ = some (.bool a.s) ∧ w'.cell? ⟨w.heap.size, 1, none⟩ = some (.slice a.N a.ns.length a.nc) ∧ w'.cell? ⟨w.heap.size + 1, 0, none⟩ = some (.bool b.s) ∧ w'.cell? ⟨w.heap.size + 1, 1, none⟩ = some (.slice b.N b.ns.length b.nc)) (first | (with_reducible exact ⟨‹_›, ‹_›, ‹_›, ‹_›⟩) | go_keep)
      (first
      | (go_at_call_of 125 (Value.slice a.N a.ns.length a.nc)
         refine (HT1.1 a.N R a.nc rc _ (by first | exact hna5 | exact hna5.drew | exact hna5.alloc _ | exact (hna5.alloc _).drew | exact hna5.drew.alloc _) (by first | exact hR5 | exact hR5.drew | exact hR5.alloc _ | exact (hR5.alloc _).drew | exact hR5.drew.alloc _) cna hrc).mono ?_
         rintro e wx_ ⟨X, xc, xs, rfl, hxc, hX, hbx, hvx, mx, hxl⟩
         have HVX := Lib.hid hvx
         clear hvx
         have hbp0 : Below w5.heap.size w5 wx_ := by first | exact hbx | exact below_of_drew hbx (Nat.le_refl _) | exact ((Below.refl _ _).alloc (Nat.le_refl _) _).trans (hbx.mono (by simp)) | exact ((Below.refl _ _).alloc (Nat.le_refl _) _).trans ((below_of_drew hbx (Nat.le_refl _)).mono (by simp)) | exact below_of_drew (((Below.refl _ _).alloc (Nat.le_refl _) _).trans (hbx.mono (by simp))) (Nat.le_refl _)
         have hna_0 := hna5.below hbp0
         have hda_0 := hda5.below hbp0
         have hnb_0 := hnb5.below hbp0
         have hdb_0 := hdb5.below hbp0
         have hg_0 := hg5.below hbp0
         have hP_0 := hP5.below hbp0
         have hR_0 := hR5.below hbp0
         have ka_0 := ka5.below hbp0
         obtain ⟨ka0wx_, ka1wx_, ka2wx_, ka3wx_, ka4wx_, ka5wx_, ka6wx_⟩ := ka_0.facts
         have kb_0 := kb5.below hbp0
         obtain ⟨kb0wx_, kb1wx_, kb2wx_, kb3wx_, kb4wx_, kb5wx_, kb6wx_⟩ := kb_0.facts
         have hwq0 := hw5.trans (hbp0.mono hw5.size))
      | (go_at_call_of 125 (Value.slice b.N b.ns.length b.nc)
         refine (HT1.2 b.N P b.nc pc _ (by first | exact hnb_0 | exact hnb_0.drew | exact hnb_0.alloc _ | exact (hnb_0.alloc _).drew | exact hnb_0.drew.alloc _) (by first | exact hP_0 | exact hP_0.drew | exact hP_0.alloc _ | exact (hP_0.alloc _).drew | exact hP_0.drew.alloc _) cnb hpc).mono ?_
         rintro e wy_ ⟨Y, yc, ys, rfl, hyc, hY, hby, hvy, my_, hyl⟩
         have HVY := Lib.hid hvy
         clear hvy
         have hbp1 : Below wx_.heap.size wx_ wy_ := by first | exact hby | exact below_of_drew hby (Nat.le_refl _) | exact ((Below.refl _ _).alloc (Nat.le_refl _) _).trans (hby.mono (by simp)) | exact ((Below.refl _ _).alloc (Nat.le_refl _) _).trans ((below_of_drew hby (Nat.le_refl _)).mono (by simp)) | exact below_of_drew (((Below.refl _ _).alloc (Nat.le_refl _) _).trans (hby.mono (by simp))) (Nat.le_refl _)
         have hna_1 := hna_0.below hbp1
         have hda_1 := hda_0.below hbp1
         have hnb_1 := hnb_0.below hbp1
         have hdb_1 := hdb_0.below hbp1
         have hg_1 := hg_0.below hbp1
         have hP_1 := hP_0.below hbp1
         have hR_1 := hR_0.below hbp1
         have hX_1 := hX.below hbp1
         have ka_1 := ka_0.below hbp1
         obtain ⟨ka0wy_, ka1wy_, ka2wy_, ka3wy_, ka4wy_, ka5wy_, ka6wy_⟩ := ka_1.facts
         have kb_1 := kb_0.below hbp1
         obtain ⟨kb0wy_, kb1wy_, kb2wy_, kb3wy_, kb4wy_, kb5wy_, kb6wy_⟩ := kb_1.facts
         have hwq1 := hwq0.trans (hbp1.mono hwq0.size))
      | (go_at_call 148
         refine (wss_any a.s b.s X Y xc yc xs ys _ (by first | exact hX_1 | exact hX_1.drew | exact hX_1.alloc _ | exact (hX_1.alloc _).drew | exact hX_1.drew.alloc _) (by first | exact hY | exact hY.drew | exact hY.alloc _ | exact (hY.alloc _).drew | exact hY.drew.alloc _) (by omega) (by omega) mx my_).mono ?_
         rintro e wz_ ⟨m, Z, zc, zs, rfl, hzc, hZ, mz, hvz, hzl, hbz⟩
         have hbp2 : Below wy_.heap.size wy_ wz_ := by first | exact hbz | exact below_of_drew hbz (Nat.le_refl _) | exact ((Below.refl _ _).alloc (Nat.le_refl _) _).trans (hbz.mono (by simp)) | exact ((Below.refl _ _).alloc (Nat.le_refl _) _).trans ((below_of_drew hbz (Nat.le_refl _)).mono (by simp)) | exact below_of_drew (((Below.refl _ _).alloc (Nat.le_refl _) _).trans (hbz.mono (by simp))) (Nat.le_refl _)
         have hna_2 := hna_1.below hbp2
         have hda_2 := hda_1.below hbp2
         have hnb_2 := hnb_1.below hbp2
         have hdb_2 := hdb_1.below hbp2
         have hg_2 := hg_1.below hbp2
         have hP_2 := hP_1.below hbp2
         have hR_2 := hR_1.below hbp2
         have hX_2 := hX_1.below hbp2
         have hY_2 := hY.below hbp2
         have ka_2 := ka_1.below hbp2
         obtain ⟨ka0wz_, ka1wz_, ka2wz_, ka3wz_, ka4wz_, ka5wz_, ka6wz_⟩ := ka_2.facts
         have kb_2 := kb_1.below hbp2
         obtain ⟨kb0wz_, kb1wz_, kb2wz_, kb3wz_, kb4wz_, kb5wz_, kb6wz_⟩ := kb_2.facts
         have hwq2 := hwq1.trans (hbp2.mono hwq1.size)))
    all_goals
      go_wp2_with fail
      go_meet
      exact ⟨m, Z, zc, zs, rfl, rfl, hzc, hZ, mz, by show _ = _; rw [hvz.out, HVX.out, HVY.out], by omega, ((hbp0).trans (hbp1.mono (hbp0).size)).trans (hbp2.mono ((hbp0).trans (hbp1.mono (hbp0).size)).size)⟩
  clear a0 a1 a2 a3 a4 a5 a6
  clear b0 b1 b2 b3 b4 b5 b6
  obtain ⟨w6, rfl⟩ : ∃ x, x = wc := ⟨_, rfl⟩
  obtain ⟨m, Z, zc, zs, rfl, rfl, hzc, hZ6, mz, HVZ, hzl, hb6⟩ := hcut
  have ka6 := ka5.below hb6
  have kb6 := kb5.below hb6
  have kr6 := kr5.below hb6
  have hna6 := hna5.below hb6
  have hda6 := hda5.below hb6
  have hnb6 := hnb5.below hb6
  have hdb6 := hdb5.below hb6
  have hg6 := hg5.below hb6
  have hP6 := hP5.below hb6
  have hR6 := hR5.below hb6
  have hw6 := hw5.trans (hb6.mono hw5.size)
  clear ka5 kb5 kr5 hna5 hda5 hnb5 hdb5 hg5 hP5 hR5 hw5 hb6
  rcases Nat.eq_zero_or_pos zs.length with hz0 | hz0
  · obtain rfl : zs = [] := List.eq_nil_of_length_eq_zero hz0
    obtain ⟨c0, c1, c2, c3, c4, c5, c6⟩ := kr6.facts
    go_wp2_with fail
    refine bodyPost_ret (v := .agg #[.bool false, .slice none 0 0, .slice none 0 0]) (by simp [results, Tryz.results103, go_sem, c0, c1, c2]) rfl ?_
    have hsq := sum_q (m := 0) (sm := m) QA.out.2 QB.out.2 HVG.out HVP.out HVR.out (by rw [← HVZ.out]; simp [V64, val]) rfl
    have hs0 : p + q = 0 := by
      have h1 := hsq.2.1
      rw [Nat.zero_div] at h1
      exact Rat.num_eq_zero.1 (by omega)
    rw [hs0]
    exact ⟨⟨false, none, 0, [], none, 0, []⟩, rfl, (num_zero _).put3 kr6 _ _ _, Nat.zero_le _, Nat.zero_le _, below_put3 hw6 (by omega) _ _ _⟩
  · have HN := Lib.hid (beq_eq_false_iff_ne.2 (show (zs.length : Int) ≠ 0 by omega))
    have hzp : 0 < zs.length := by omega
    have hn0 := HN.out
    have HG2 := HG2.out gs zs mg mz hgp hzp HVG hzl
    go_wp2_with fail
    refine (HG2 Z G zc gc _ hZ6 hg6 hzc hgc).mono ?_
    rintro e w7 ⟨V_, vc, vs, rfl, hvc, hV7, hb7, hvv, mv⟩
    have ka7 := ka6.below hb7
    have kb7 := kb6.below hb7
    have kr7 := kr6.below hb7
    have hna7 := hna6.below hb7
    have hda7 := hda6.below hb7
    have hnb7 := hnb6.below hb7
    have hdb7 := hdb6.below hb7
    have hg7 := hg6.below hb7
    have hP7 := hP6.below hb7
    have hR7 := hR6.below hb7
    have hZ7 := hZ6.below hb7
    have hw7 := hw6.trans (hb7.mono hw6.size)
    clear ka6 kb6 kr6 hna6 hda6 hnb6 hdb6 hg6 hP6 hR6 hZ6 hw6 hb7
    have HVV : Hid (V64 vs = Nat.gcd (V64 zs) (V64 gs)) := hvv
    have hvp : 0 < vs.length := (V64_pos_iff mv).2 (by rw [hvv]; exact Nat.gcd_pos_of_pos_left _ (V64_pos mz hzp))
    have HQ2 := HQ2.out gs zs vs mg mz mv hzp hvp HVG HVV hzl
    clear hvv
    have HT2 := fun es me HE hel => HT2.out gs ps vs es mp mv me HVG HVP HE hel hpl
    go_upto_region 11 with fail
    obtain ⟨a0, a1, a2, a3, a4, a5, a6⟩ := ka7.facts
    obtain ⟨b0, b1, b2, b3, b4, b5, b6⟩ := kb7.facts
    go_region_held3 (fun w' => w'.cell? ⟨w.heap.size + 1, 2, none⟩ = some (.slice b.D b.ds.length b.dc)) (first | assumption | go_keep)
      (first
      | (go_at_call_of 126 (Value.slice Z zs.length zc)
         refine (HQ2.1 Z V_ zc vc _ (by first | exact hZ7 | exact hZ7.drew | exact hZ7.alloc _ | exact (hZ7.alloc _).drew | exact hZ7.drew.alloc _) (by first | exact hV7 | exact hV7.drew | exact hV7.alloc _ | exact (hV7.alloc _).drew | exact hV7.drew.alloc _) hzc hvc).mono ?_
         rintro e wx_ ⟨Q, qc, qs, rfl, hqc, hQ, hbx, hvq, mq, hql⟩
         have HVQ := Lib.hid hvq
         clear hvq
         have hbp0 : Below w7.heap.size w7 wx_ := by first | exact hbx | exact below_of_drew hbx (Nat.le_refl _) | exact ((Below.refl _ _).alloc (Nat.le_refl _) _).trans (hbx.mono (by simp)) | exact ((Below.refl _ _).alloc (Nat.le_refl _) _).trans ((below_of_drew hbx (Nat.le_refl _)).mono (by simp)) | exact below_of_drew (((Below.refl _ _).alloc (Nat.le_refl _) _).trans (hbx.mono (by simp))) (Nat.le_refl _)
         have hna_0 := hna7.below hbp0
         have hda_0 := hda7.below hbp0
         have hnb_0 := hnb7.below hbp0
         have hdb_0 := hdb7.below hbp0
         have hg_0 := hg7.below hbp0
         have hP_0 := hP7.below hbp0
         have hR_0 := hR7.below hbp0
         have hZ_0 := hZ7.below hbp0
         have hV_0 := hV7.below hbp0
         have ka_0 := ka7.below hbp0
         obtain ⟨ka0wx_, ka1wx_, ka2wx_, ka3wx_, ka4wx_, ka5wx_, ka6wx_⟩ := ka_0.facts
         have kb_0 := kb7.below hbp0
         obtain ⟨kb0wx_, kb1wx_, kb2wx_, kb3wx_, kb4wx_, kb5wx_, kb6wx_⟩ := kb_0.facts
         have kr_0 := kr7.below hbp0
         obtain ⟨kr0wx_, kr1wx_, kr2wx_, kr3wx_, kr4wx_, kr5wx_, kr6wx_⟩ := kr_0.facts
         have hwq0 := hw7.trans (hbp0.mono hw7.size))
      | (go_at_call_of 126 (Value.slice b.D b.ds.length b.dc)
         refine (HQ2.2 b.D V_ b.dc vc _ (by first | exact hdb_0 | exact hdb_0.drew | exact hdb_0.alloc _ | exact (hdb_0.alloc _).drew | exact hdb_0.drew.alloc _) (by first | exact hV_0 | exact hV_0.drew | exact hV_0.alloc _ | exact (hV_0.alloc _).drew | exact hV_0.drew.alloc _) cdb hvc).mono ?_
         rintro e wy_ ⟨E, ec, es, rfl, hec, hE, hby, hve, me, hel⟩
         have HVE := Lib.hid hve
         clear hve
         have hbp1 : Below wx_.heap.size wx_ wy_ := by first | exact hby | exact below_of_drew hby (Nat.le_refl _) | exact ((Below.refl _ _).alloc (Nat.le_refl _) _).trans (hby.mono (by simp)) | exact ((Below.refl _ _).alloc (Nat.le_refl _) _).trans ((below_of_drew hby (Nat.le_refl _)).mono (by simp)) | exact below_of_drew (((Below.refl _ _).alloc (Nat.le_refl _) _).trans (hby.mono (by simp))) (Nat.le_refl _)
         have hna_1 := hna_0.below hbp1
         have hda_1 := hda_0.below hbp1
         have hnb_1 := hnb_0.below hbp1
         have hdb_1 := hdb_0.below hbp1
         have hg_1 := hg_0.below hbp1
         have hP_1 := hP_0.below hbp1
         have hR_1 := hR_0.below hbp1
         have hZ_1 := hZ_0.below hbp1
         have hV_1 := hV_0.below hbp1
         have hQ_1 := hQ.below hbp1
         have ka_1 := ka_0.below hbp1
         obtain ⟨ka0wy_, ka1wy_, ka2wy_, ka3wy_, ka4wy_, ka5wy_, ka6wy_⟩ := ka_1.facts
         have kb_1 := kb_0.below hbp1
         obtain ⟨kb0wy_, kb1wy_, kb2wy_, kb3wy_, kb4wy_, kb5wy_, kb6wy_⟩ := kb_1.facts
         have kr_1 := kr_0.below hbp1
         obtain ⟨kr0wy_, kr1wy_, kr2wy_, kr3wy_, kr4wy_, kr5wy_, kr6wy_⟩ := kr_1.facts
         have hwq1 := hwq0.trans (hbp1.mono hwq0.size))
      | (go_at_call 125
         refine (HT2 es me HVE hel P E pc ec _ (by first | exact hP_1 | exact hP_1.drew | exact hP_1.alloc _ | exact (hP_1.alloc _).drew | exact hP_1.drew.alloc _) (by first | exact hE | exact hE.drew | exact hE.alloc _ | exact (hE.alloc _).drew | exact hE.drew.alloc _) hpc hec).mono ?_
         rintro e wz_ ⟨T, tc, ts, rfl, htc, hT, hbz, hvt, mt, htl⟩
         have HVT := Lib.hid hvt
         clear hvt
         have hbp2 : Below wy_.heap.size wy_ wz_ := by first | exact hbz | exact below_of_drew hbz (Nat.le_refl _) | exact ((Below.refl _ _).alloc (Nat.le_refl _) _).trans (hbz.mono (by simp)) | exact ((Below.refl _ _).alloc (Nat.le_refl _) _).trans ((below_of_drew hbz (Nat.le_refl _)).mono (by simp)) | exact below_of_drew (((Below.refl _ _).alloc (Nat.le_refl _) _).trans (hbz.mono (by simp))) (Nat.le_refl _)
         have hna_2 := hna_1.below hbp2
         have hda_2 := hda_1.below hbp2
         have hnb_2 := hnb_1.below hbp2
         have hdb_2 := hdb_1.below hbp2
         have hg_2 := hg_1.below hbp2
         have hP_2 := hP_1.below hbp2
         have hR_2 := hR_1.below hbp2
         have hZ_2 := hZ_1.below hbp2
         have hV_2 := hV_1.below hbp2
         have hQ_2 := hQ_1.below hbp2
         have hE_2 := hE.below hbp2
         have ka_2 := ka_1.below hbp2
         obtain ⟨ka0wz_, ka1wz_, ka2wz_, ka3wz_, ka4wz_, ka5wz_, ka6wz_⟩ := ka_2.facts
         have kb_2 := kb_1.below hbp2
         obtain ⟨kb0wz_, kb1wz_, kb2wz_, kb3wz_, kb4wz_, kb5wz_, kb6wz_⟩ := kb_2.facts
         have kr_2 := kr_1.below hbp2
         obtain ⟨kr0wz_, kr1wz_, kr2wz_, kr3wz_, kr4wz_, kr5wz_, kr6wz_⟩ := kr_2.facts
         have hwq2 := hwq1.trans (hbp2.mono hwq1.size)))
    all_goals
      go_wp2_with fail
      refine bodyPost_ret (v := .agg #[.bool m, .slice Q qs.length qc, .slice T ts.length tc]) (by simp [results, Tryz.results103, go_sem, kr0wz_, kr1wz_, kr2wz_]) rfl ?_
      refine NumL.put ⟨m, Q, qc, qs, T, tc, ts⟩ ⟨hQ_1.below hbp2, hT, mq, mt, hqc, htc, ?_⟩ kr_2 (by omega) hwq2 (by dsimp only; omega) (by dsimp only; omega)
      have hsq := sum_q (m := V64 zs) (sm := m) QA.out.2 QB.out.2 HVG.out HVP.out HVR.out HVZ.out (h := V64 vs) (by rw [HVV.out, Nat.gcd_comm (V64 gs), ← Nat.gcd_rec, Nat.gcd_comm])
      rw [← HVQ.out, ← HVE.out, ← HVT.out] at hsq
      have hqp : 0 < V64 qs := by
        rw [HVQ.out, HVV.out]
        exact Nat.div_pos (Nat.gcd_le_left _ (V64_pos mz hzp)) (Nat.gcd_pos_of_pos_left _ (V64_pos mz hzp))
      rw [decide_eq_true hqp, Bool.and_true] at hsq
      exact .inr ⟨(V64_pos_iff mq).2 hqp, hsq⟩
end Go.Proofs.YtlbfoclhkdlafaaGreatDoor

