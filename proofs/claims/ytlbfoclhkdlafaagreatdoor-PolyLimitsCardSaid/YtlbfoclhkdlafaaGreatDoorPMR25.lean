/- wide.Num.Mul of two numbers that are not zero, given what its calls of gcd, quotient and times do. -/
import Derived.Test.YtlbfoclhkdlafaaGreatDoorPMR24
import Derived.Deep.DrawnRows
attribute [local go_sem ↓] Go.wp_at_zero Go.wp_at_succ
namespace Go.Proofs.YtlbfoclhkdlafaaGreatDoor
open Go.RowKit V

set_option maxRecDepth 100000 in
set_option maxHeartbeats 6400000 in
theorem wMul_of (a b : RL) (p q : Rat) (w : World) (ha : a.Num w p) (hb_ : b.Num w q) (hp0 : p ≠ 0) (hq0 : q ≠ 0)
    (g : GcdOk a.ns b.ds ∧ GcdOk b.ns a.ds)
    (qu : ∀ gl hl, Mag64 gl → Mag64 hl → 0 < gl.length → 0 < hl.length → Hid (V64 gl = Nat.gcd (V64 a.ns) (V64 b.ds)) → Hid (V64 hl = Nat.gcd (V64 b.ns) (V64 a.ds)) → QuoOk a.ns gl ∧ QuoOk b.ns hl ∧ QuoOk a.ds hl ∧ QuoOk b.ds gl)
    (tn : ∀ gl hl xl yl, Mag64 xl → Mag64 yl → Hid (V64 gl = Nat.gcd (V64 a.ns) (V64 b.ds)) → Hid (V64 hl = Nat.gcd (V64 b.ns) (V64 a.ds)) → Hid (V64 xl = V64 a.ns / V64 gl) → Hid (V64 yl = V64 b.ns / V64 hl) → xl.length ≤ a.ns.length → yl.length ≤ b.ns.length → TimOk xl yl)
    (td : ∀ gl hl xl yl, Mag64 xl → Mag64 yl → Hid (V64 gl = Nat.gcd (V64 a.ns) (V64 b.ds)) → Hid (V64 hl = Nat.gcd (V64 b.ns) (V64 a.ds)) → Hid (V64 xl = V64 a.ds / V64 hl) → Hid (V64 yl = V64 b.ds / V64 gl) → xl.length ≤ a.ds.length → yl.length ≤ b.ds.length → TimOk xl yl) :
    Calls Tryz.prog 77 #[.agg #[.bool a.s, .slice a.N a.ns.length a.nc, .slice a.D a.ds.length a.dc], .agg #[.bool b.s, .slice b.N b.ns.length b.nc, .slice b.D b.ds.length b.dc]] w (NumL (p * q) (a.ns.length + b.ns.length + a.ds.length + b.ds.length) w) := by
  have HG := Lib.hid g
  have HQ := Lib.hid qu
  have HTN := Lib.hid tn
  have HTD := Lib.hid td
  clear g qu tn td
  go_enter Tryz.func77, Tryz.ntmps77
  go_wp2_with fail
  have hbox := box3n w (.bool a.s) (.slice a.N a.ns.length a.nc) (.slice a.D a.ds.length a.dc) (.bool b.s) (.slice b.N b.ns.length b.nc) (.slice b.D b.ds.length b.dc) (.bool false) (.slice none 0 0) (.slice none 0 0)
  obtain ⟨w1, hwe⟩ : ∃ x, ((w.alloc (.cells #[.bool a.s, .slice a.N a.ns.length a.nc, .slice a.D a.ds.length a.dc] 91)).alloc (.cells #[.bool b.s, .slice b.N b.ns.length b.nc, .slice b.D b.ds.length b.dc] 91)).alloc (.cells #[.bool false, .slice none 0 0, .slice none 0 0] 91) = x := ⟨_, rfl⟩
  rw [hwe] at hbox ⊢
  obtain ⟨ka1, kb1, kr1, hb1⟩ := hbox
  have HWE := Lib.hid hwe
  clear hwe HWE
  have ha1 := ha.below hb1
  have hb_1 := hb_.below hb1
  have hw1 := hb1
  clear ha hb_ hb1
  have hna1 := ha1.rn
  have hda1 := ha1.rd
  have hnb1 := hb_1.rn
  have hdb1 := hb_1.rd
  have mna := ha1.mn
  have mda := ha1.md
  have mnb := hb_1.mn
  have mdb := hb_1.md
  have cna := ha1.cn
  have cda := ha1.cd
  have cnb := hb_1.cn
  have cdb := hb_1.cd
  have QA := Lib.hid (ha1.nz hp0)
  have QB := Lib.hid (hb_1.nz hq0)
  have hz1 : decide (a.ns.length = 0) = false := decide_eq_false (by have := QA.out.1; omega)
  have hz2 : decide (b.ns.length = 0) = false := decide_eq_false (by have := QB.out.1; omega)
  have pna := QA.out.1
  have pnb := QB.out.1
  have pda : 0 < a.ds.length := (V64_pos_iff mda).2 QA.out.2.pos
  have pdb : 0 < b.ds.length := (V64_pos_iff mdb).2 QB.out.2.pos
  clear ha1 hb_1
  obtain ⟨a0, a1, a2, a3, a4, a5, a6⟩ := ka1.facts
  obtain ⟨b0, b1, b2, b3, b4, b5, b6⟩ := kb1.facts
  go_wp2_with fail
  refine (wisZero a.s a.N a.D a.ns.length a.nc a.ds.length a.dc _).mono ?_
  rintro e w2 ⟨he, hb2⟩
  have ka2 := ka1.below hb2
  have kb2 := kb1.below hb2
  have kr2 := kr1.below hb2
  have hna2 := hna1.below hb2
  have hda2 := hda1.below hb2
  have hnb2 := hnb1.below hb2
  have hdb2 := hdb1.below hb2
  have hw2 := hw1.trans (hb2.mono hw1.size)
  clear ka1 kb1 kr1 hna1 hda1 hnb1 hdb1 hw1 hb2
  rw [hz1] at he
  subst he
  clear a0 a1 a2 a3 a4 a5 a6
  clear b0 b1 b2 b3 b4 b5 b6
  obtain ⟨a0, a1, a2, a3, a4, a5, a6⟩ := ka2.facts
  obtain ⟨b0, b1, b2, b3, b4, b5, b6⟩ := kb2.facts
  go_wp2_with fail
  refine (wisZero b.s b.N b.D b.ns.length b.nc b.ds.length b.dc _).mono ?_
  rintro e w3 ⟨he, hb3⟩
  have ka3 := ka2.below hb3
  have kb3 := kb2.below hb3
  have kr3 := kr2.below hb3
  have hna3 := hna2.below hb3
  have hda3 := hda2.below hb3
  have hnb3 := hnb2.below hb3
  have hdb3 := hdb2.below hb3
  have hw3 := hw2.trans (hb3.mono hw2.size)
  clear ka2 kb2 kr2 hna2 hda2 hnb2 hdb2 hw2 hb3
  rw [hz2] at he
  subst he
  clear a0 a1 a2 a3 a4 a5 a6
  clear b0 b1 b2 b3 b4 b5 b6
  obtain ⟨a0, a1, a2, a3, a4, a5, a6⟩ := ka3.facts
  obtain ⟨b0, b1, b2, b3, b4, b5, b6⟩ := kb3.facts
  go_upto_region 3 with fail
  go_cut [5, 6] (fun s5 s6 wx => ∃ G gc gl H hc hl, s5 = .slice G (gl : List Nat).length gc ∧ s6 = .slice H (hl : List Nat).length hc ∧ gl.length ≤ gc ∧ hl.length ≤ hc ∧ Rw wx G gl ∧ Rw wx H hl ∧ Mag64 gl ∧ Mag64 hl ∧ Hid (V64 gl = Nat.gcd (V64 a.ns) (V64 b.ds)) ∧ Hid (V64 hl = Nat.gcd (V64 b.ns) (V64 a.ds)) ∧ Below w3.heap.size w3 wx)
  case first =>
    go_region_held3 (fun w' => w'.cell? ⟨w.heap.size, 1, none⟩ = some (.slice a.N a.ns.length a.nc) ∧ w'.cell? ⟨w.heap.size, 2, none⟩ = some (.slice a.D a.ds.length a.dc) ∧ w'.cell? ⟨w.heap.size + 1, 1, none⟩ = some (.slice b.N b.ns.length b.nc) ∧ w'.cell? ⟨w.heap.size + 1, 2, none⟩ = some (.slice b.D b.ds.length b.dc)) (first | (with_reducible exact ⟨‹_›, ‹_›, ‹_›, ‹_›⟩) | go_keep)
      (first
      | (go_at_call_of 124 (Value.slice a.N a.ns.length a.nc)
         refine (HG.out.1 a.N b.D a.nc b.dc _ (by first | exact hna3 | exact hna3.drew | exact hna3.alloc _ | exact (hna3.alloc _).drew | exact hna3.drew.alloc _) (by first | exact hdb3 | exact hdb3.drew | exact hdb3.alloc _ | exact (hdb3.alloc _).drew | exact hdb3.drew.alloc _) cna cdb).mono ?_
         rintro e wx_ ⟨G, gc, gl, rfl, hgc, hG, hbx, hvg, mg⟩
         have HVG := Lib.hid hvg
         clear hvg
         have hbp0 : Below w3.heap.size w3 wx_ := by first | exact hbx | exact below_of_drew hbx (Nat.le_refl _) | exact ((Below.refl _ _).alloc (Nat.le_refl _) _).trans (hbx.mono (by simp)) | exact ((Below.refl _ _).alloc (Nat.le_refl _) _).trans ((below_of_drew hbx (Nat.le_refl _)).mono (by simp)) | exact below_of_drew (((Below.refl _ _).alloc (Nat.le_refl _) _).trans (hbx.mono (by simp))) (Nat.le_refl _)
         have hna_0 := hna3.below hbp0
         have hda_0 := hda3.below hbp0
         have hnb_0 := hnb3.below hbp0
         have hdb_0 := hdb3.below hbp0
         have ka_0 := ka3.below hbp0
         obtain ⟨ka0wx_, ka1wx_, ka2wx_, ka3wx_, ka4wx_, ka5wx_, ka6wx_⟩ := ka_0.facts
         have kb_0 := kb3.below hbp0
         obtain ⟨kb0wx_, kb1wx_, kb2wx_, kb3wx_, kb4wx_, kb5wx_, kb6wx_⟩ := kb_0.facts
         have hwq0 := hw3.trans (hbp0.mono hw3.size))
      | (go_at_call_of 124 (Value.slice b.N b.ns.length b.nc)
         refine (HG.out.2 b.N a.D b.nc a.dc _ (by first | exact hnb_0 | exact hnb_0.drew | exact hnb_0.alloc _ | exact (hnb_0.alloc _).drew | exact hnb_0.drew.alloc _) (by first | exact hda_0 | exact hda_0.drew | exact hda_0.alloc _ | exact (hda_0.alloc _).drew | exact hda_0.drew.alloc _) cnb cda).mono ?_
         rintro e wy_ ⟨H, hc, hl, rfl, hhc, hH, hby, hvh, mh⟩
         have HVH := Lib.hid hvh
         clear hvh
         have hbp1 : Below wx_.heap.size wx_ wy_ := by first | exact hby | exact below_of_drew hby (Nat.le_refl _) | exact ((Below.refl _ _).alloc (Nat.le_refl _) _).trans (hby.mono (by simp)) | exact ((Below.refl _ _).alloc (Nat.le_refl _) _).trans ((below_of_drew hby (Nat.le_refl _)).mono (by simp)) | exact below_of_drew (((Below.refl _ _).alloc (Nat.le_refl _) _).trans (hby.mono (by simp))) (Nat.le_refl _)
         have hna_1 := hna_0.below hbp1
         have hda_1 := hda_0.below hbp1
         have hnb_1 := hnb_0.below hbp1
         have hdb_1 := hdb_0.below hbp1
         have hG_1 := hG.below hbp1
         have ka_1 := ka_0.below hbp1
         obtain ⟨ka0wy_, ka1wy_, ka2wy_, ka3wy_, ka4wy_, ka5wy_, ka6wy_⟩ := ka_1.facts
         have kb_1 := kb_0.below hbp1
         obtain ⟨kb0wy_, kb1wy_, kb2wy_, kb3wy_, kb4wy_, kb5wy_, kb6wy_⟩ := kb_1.facts
         have hwq1 := hwq0.trans (hbp1.mono hwq0.size)))
    all_goals
      go_wp2_with fail
      go_meet
      exact ⟨G, gc, gl, H, hc, hl, rfl, rfl, hgc, hhc, hG_1, hH, mg, mh, HVG, HVH, (hbp0).trans (hbp1.mono (hbp0).size)⟩
  clear a0 a1 a2 a3 a4 a5 a6
  clear b0 b1 b2 b3 b4 b5 b6
  obtain ⟨w4, rfl⟩ : ∃ x, x = wc := ⟨_, rfl⟩
  obtain ⟨G, gc, gl, H, hc, hl, rfl, rfl, hgc, hhc, hG4, hH4, mg, mh, HVG, HVH, hb4⟩ := hcut
  have ka4 := ka3.below hb4
  have kb4 := kb3.below hb4
  have kr4 := kr3.below hb4
  have hna4 := hna3.below hb4
  have hda4 := hda3.below hb4
  have hnb4 := hnb3.below hb4
  have hdb4 := hdb3.below hb4
  have hw4 := hw3.trans (hb4.mono hw3.size)
  clear ka3 kb3 kr3 hna3 hda3 hnb3 hdb3 hw3 hb4
  have gp : 0 < gl.length := (V64_pos_iff mg).2 (by rw [HVG.out]; exact Nat.gcd_pos_of_pos_right _ (V64_pos mdb pdb))
  have hp : 0 < hl.length := (V64_pos_iff mh).2 (by rw [HVH.out]; exact Nat.gcd_pos_of_pos_right _ (V64_pos mda pda))
  have HQ := HQ.out gl hl mg mh gp hp HVG HVH
  obtain ⟨a0, a1, a2, a3, a4, a5, a6⟩ := ka4.facts
  obtain ⟨b0, b1, b2, b3, b4, b5, b6⟩ := kb4.facts
  go_upto_region 4 with fail
  go_cut [7] (fun s7 wx => ∃ P pc pl, s7 = .slice P (pl : List Nat).length pc ∧ pl.length ≤ pc ∧ Rw wx P pl ∧ Mag64 pl ∧ Hid (V64 pl = V64 a.ns / V64 gl * (V64 b.ns / V64 hl)) ∧ pl.length ≤ a.ns.length + b.ns.length ∧ Below w4.heap.size w4 wx)
  case first =>
    go_region_held3 (fun w' => w'.cell? ⟨w.heap.size, 1, none⟩ = some (.slice a.N a.ns.length a.nc) ∧ w'.cell? ⟨w.heap.size + 1, 1, none⟩ = some (.slice b.N b.ns.length b.nc)) (first | (with_reducible exact ⟨‹_›, ‹_›⟩) | go_keep)
      (first
      | (go_at_call_of 126 (Value.slice a.N a.ns.length a.nc)
         refine (HQ.1 a.N G a.nc gc _ (by first | exact hna4 | exact hna4.drew | exact hna4.alloc _ | exact (hna4.alloc _).drew | exact hna4.drew.alloc _) (by first | exact hG4 | exact hG4.drew | exact hG4.alloc _ | exact (hG4.alloc _).drew | exact hG4.drew.alloc _) cna hgc).mono ?_
         rintro e wx_ ⟨X, xc, xl, rfl, hxc, hX, hbx, hvx, mx, hxl⟩
         have HVX := Lib.hid hvx
         clear hvx
         have hbp0 : Below w4.heap.size w4 wx_ := by first | exact hbx | exact below_of_drew hbx (Nat.le_refl _) | exact ((Below.refl _ _).alloc (Nat.le_refl _) _).trans (hbx.mono (by simp)) | exact ((Below.refl _ _).alloc (Nat.le_refl _) _).trans ((below_of_drew hbx (Nat.le_refl _)).mono (by simp)) | exact below_of_drew (((Below.refl _ _).alloc (Nat.le_refl _) _).trans (hbx.mono (by simp))) (Nat.le_refl _)
         have hna_0 := hna4.below hbp0
         have hda_0 := hda4.below hbp0
         have hnb_0 := hnb4.below hbp0
         have hdb_0 := hdb4.below hbp0
         have hG_0 := hG4.below hbp0
         have hH_0 := hH4.below hbp0
         have ka_0 := ka4.below hbp0
         obtain ⟨ka0wx_, ka1wx_, ka2wx_, ka3wx_, ka4wx_, ka5wx_, ka6wx_⟩ := ka_0.facts
         have kb_0 := kb4.below hbp0
         obtain ⟨kb0wx_, kb1wx_, kb2wx_, kb3wx_, kb4wx_, kb5wx_, kb6wx_⟩ := kb_0.facts
         have hwq0 := hw4.trans (hbp0.mono hw4.size))
      | (go_at_call_of 126 (Value.slice b.N b.ns.length b.nc)
         refine (HQ.2.1 b.N H b.nc hc _ (by first | exact hnb_0 | exact hnb_0.drew | exact hnb_0.alloc _ | exact (hnb_0.alloc _).drew | exact hnb_0.drew.alloc _) (by first | exact hH_0 | exact hH_0.drew | exact hH_0.alloc _ | exact (hH_0.alloc _).drew | exact hH_0.drew.alloc _) cnb hhc).mono ?_
         rintro e wy_ ⟨Y, yc, yl, rfl, hyc, hY, hby, hvy, my_, hyl⟩
         have HVY := Lib.hid hvy
         clear hvy
         have hbp1 : Below wx_.heap.size wx_ wy_ := by first | exact hby | exact below_of_drew hby (Nat.le_refl _) | exact ((Below.refl _ _).alloc (Nat.le_refl _) _).trans (hby.mono (by simp)) | exact ((Below.refl _ _).alloc (Nat.le_refl _) _).trans ((below_of_drew hby (Nat.le_refl _)).mono (by simp)) | exact below_of_drew (((Below.refl _ _).alloc (Nat.le_refl _) _).trans (hby.mono (by simp))) (Nat.le_refl _)
         have hna_1 := hna_0.below hbp1
         have hda_1 := hda_0.below hbp1
         have hnb_1 := hnb_0.below hbp1
         have hdb_1 := hdb_0.below hbp1
         have hG_1 := hG_0.below hbp1
         have hH_1 := hH_0.below hbp1
         have hX_1 := hX.below hbp1
         have ka_1 := ka_0.below hbp1
         obtain ⟨ka0wy_, ka1wy_, ka2wy_, ka3wy_, ka4wy_, ka5wy_, ka6wy_⟩ := ka_1.facts
         have kb_1 := kb_0.below hbp1
         obtain ⟨kb0wy_, kb1wy_, kb2wy_, kb3wy_, kb4wy_, kb5wy_, kb6wy_⟩ := kb_1.facts
         have hwq1 := hwq0.trans (hbp1.mono hwq0.size))
      | (go_at_call 125
         refine (HTN.out gl hl xl yl mx my_ HVG HVH HVX HVY hxl hyl X Y xc yc _ (by first | exact hX_1 | exact hX_1.drew | exact hX_1.alloc _ | exact (hX_1.alloc _).drew | exact hX_1.drew.alloc _) (by first | exact hY | exact hY.drew | exact hY.alloc _ | exact (hY.alloc _).drew | exact hY.drew.alloc _) hxc hyc).mono ?_
         rintro e wz_ ⟨Z, zc, zl, rfl, hzc, hZ, hbz, hvz, mz, hzl⟩
         have HVZ := Lib.hid hvz
         clear hvz
         have hbp2 : Below wy_.heap.size wy_ wz_ := by first | exact hbz | exact below_of_drew hbz (Nat.le_refl _) | exact ((Below.refl _ _).alloc (Nat.le_refl _) _).trans (hbz.mono (by simp)) | exact ((Below.refl _ _).alloc (Nat.le_refl _) _).trans ((below_of_drew hbz (Nat.le_refl _)).mono (by simp)) | exact below_of_drew (((Below.refl _ _).alloc (Nat.le_refl _) _).trans (hbz.mono (by simp))) (Nat.le_refl _)
         have hna_2 := hna_1.below hbp2
         have hda_2 := hda_1.below hbp2
         have hnb_2 := hnb_1.below hbp2
         have hdb_2 := hdb_1.below hbp2
         have hG_2 := hG_1.below hbp2
         have hH_2 := hH_1.below hbp2
         have hX_2 := hX_1.below hbp2
         have hY_2 := hY.below hbp2
         have ka_2 := ka_1.below hbp2
         obtain ⟨ka0wz_, ka1wz_, ka2wz_, ka3wz_, ka4wz_, ka5wz_, ka6wz_⟩ := ka_2.facts
         have kb_2 := kb_1.below hbp2
         obtain ⟨kb0wz_, kb1wz_, kb2wz_, kb3wz_, kb4wz_, kb5wz_, kb6wz_⟩ := kb_2.facts
         have hwq2 := hwq1.trans (hbp2.mono hwq1.size)))
    all_goals
      go_wp2_with fail
      go_meet
      exact ⟨Z, zc, zl, rfl, hzc, hZ, mz, by show _ = _; rw [HVZ.out, HVX.out, HVY.out], by omega, ((hbp0).trans (hbp1.mono (hbp0).size)).trans (hbp2.mono ((hbp0).trans (hbp1.mono (hbp0).size)).size)⟩
  clear a0 a1 a2 a3 a4 a5 a6
  clear b0 b1 b2 b3 b4 b5 b6
  obtain ⟨w5, rfl⟩ : ∃ x, x = wc := ⟨_, rfl⟩
  obtain ⟨P, pc, pl, rfl, hpc, hP5, mp, HVP, hlP, hb5⟩ := hcut
  have ka5 := ka4.below hb5
  have kb5 := kb4.below hb5
  have kr5 := kr4.below hb5
  have hna5 := hna4.below hb5
  have hda5 := hda4.below hb5
  have hnb5 := hnb4.below hb5
  have hdb5 := hdb4.below hb5
  have hG5 := hG4.below hb5
  have hH5 := hH4.below hb5
  have hw5 := hw4.trans (hb5.mono hw4.size)
  clear ka4 kb4 kr4 hna4 hda4 hnb4 hdb4 hG4 hH4 hw4 hb5
  obtain ⟨a0, a1, a2, a3, a4, a5, a6⟩ := ka5.facts
  obtain ⟨b0, b1, b2, b3, b4, b5, b6⟩ := kb5.facts
  go_upto_region 5 with fail
  go_cut [8] (fun s8 wx => ∃ P pc pl, s8 = .slice P (pl : List Nat).length pc ∧ pl.length ≤ pc ∧ Rw wx P pl ∧ Mag64 pl ∧ Hid (V64 pl = V64 a.ds / V64 hl * (V64 b.ds / V64 gl)) ∧ pl.length ≤ a.ds.length + b.ds.length ∧ Below w5.heap.size w5 wx)
  case first =>
    go_region_held3 (fun w' => w'.cell? ⟨w.heap.size, 2, none⟩ = some (.slice a.D a.ds.length a.dc) ∧ w'.cell? ⟨w.heap.size + 1, 2, none⟩ = some (.slice b.D b.ds.length b.dc)) (first | (with_reducible exact ⟨‹_›, ‹_›⟩) | go_keep)
      (first
      | (go_at_call_of 126 (Value.slice a.D a.ds.length a.dc)
         refine (HQ.2.2.1 a.D H a.dc hc _ (by first | exact hda5 | exact hda5.drew | exact hda5.alloc _ | exact (hda5.alloc _).drew | exact hda5.drew.alloc _) (by first | exact hH5 | exact hH5.drew | exact hH5.alloc _ | exact (hH5.alloc _).drew | exact hH5.drew.alloc _) cda hhc).mono ?_
         rintro e wx_ ⟨X, xc, xl, rfl, hxc, hX, hbx, hvx, mx, hxl⟩
         have HVX := Lib.hid hvx
         clear hvx
         have hbp0 : Below w5.heap.size w5 wx_ := by first | exact hbx | exact below_of_drew hbx (Nat.le_refl _) | exact ((Below.refl _ _).alloc (Nat.le_refl _) _).trans (hbx.mono (by simp)) | exact ((Below.refl _ _).alloc (Nat.le_refl _) _).trans ((below_of_drew hbx (Nat.le_refl _)).mono (by simp)) | exact below_of_drew (((Below.refl _ _).alloc (Nat.le_refl _) _).trans (hbx.mono (by simp))) (Nat.le_refl _)
         have hna_0 := hna5.below hbp0
         have hda_0 := hda5.below hbp0
         have hnb_0 := hnb5.below hbp0
         have hdb_0 := hdb5.below hbp0
         have hG_0 := hG5.below hbp0
         have hH_0 := hH5.below hbp0
         have hP_0 := hP5.below hbp0
         have ka_0 := ka5.below hbp0
         obtain ⟨ka0wx_, ka1wx_, ka2wx_, ka3wx_, ka4wx_, ka5wx_, ka6wx_⟩ := ka_0.facts
         have kb_0 := kb5.below hbp0
         obtain ⟨kb0wx_, kb1wx_, kb2wx_, kb3wx_, kb4wx_, kb5wx_, kb6wx_⟩ := kb_0.facts
         have hwq0 := hw5.trans (hbp0.mono hw5.size))
      | (go_at_call_of 126 (Value.slice b.D b.ds.length b.dc)
         refine (HQ.2.2.2 b.D G b.dc gc _ (by first | exact hdb_0 | exact hdb_0.drew | exact hdb_0.alloc _ | exact (hdb_0.alloc _).drew | exact hdb_0.drew.alloc _) (by first | exact hG_0 | exact hG_0.drew | exact hG_0.alloc _ | exact (hG_0.alloc _).drew | exact hG_0.drew.alloc _) cdb hgc).mono ?_
         rintro e wy_ ⟨Y, yc, yl, rfl, hyc, hY, hby, hvy, my_, hyl⟩
         have HVY := Lib.hid hvy
         clear hvy
         have hbp1 : Below wx_.heap.size wx_ wy_ := by first | exact hby | exact below_of_drew hby (Nat.le_refl _) | exact ((Below.refl _ _).alloc (Nat.le_refl _) _).trans (hby.mono (by simp)) | exact ((Below.refl _ _).alloc (Nat.le_refl _) _).trans ((below_of_drew hby (Nat.le_refl _)).mono (by simp)) | exact below_of_drew (((Below.refl _ _).alloc (Nat.le_refl _) _).trans (hby.mono (by simp))) (Nat.le_refl _)
         have hna_1 := hna_0.below hbp1
         have hda_1 := hda_0.below hbp1
         have hnb_1 := hnb_0.below hbp1
         have hdb_1 := hdb_0.below hbp1
         have hG_1 := hG_0.below hbp1
         have hH_1 := hH_0.below hbp1
         have hP_1 := hP_0.below hbp1
         have hX_1 := hX.below hbp1
         have ka_1 := ka_0.below hbp1
         obtain ⟨ka0wy_, ka1wy_, ka2wy_, ka3wy_, ka4wy_, ka5wy_, ka6wy_⟩ := ka_1.facts
         have kb_1 := kb_0.below hbp1
         obtain ⟨kb0wy_, kb1wy_, kb2wy_, kb3wy_, kb4wy_, kb5wy_, kb6wy_⟩ := kb_1.facts
         have hwq1 := hwq0.trans (hbp1.mono hwq0.size))
      | (go_at_call 125
         refine (HTD.out gl hl xl yl mx my_ HVG HVH HVX HVY hxl hyl X Y xc yc _ (by first | exact hX_1 | exact hX_1.drew | exact hX_1.alloc _ | exact (hX_1.alloc _).drew | exact hX_1.drew.alloc _) (by first | exact hY | exact hY.drew | exact hY.alloc _ | exact (hY.alloc _).drew | exact hY.drew.alloc _) hxc hyc).mono ?_
         rintro e wz_ ⟨Z, zc, zl, rfl, hzc, hZ, hbz, hvz, mz, hzl⟩
         have HVZ := Lib.hid hvz
         clear hvz
         have hbp2 : Below wy_.heap.size wy_ wz_ := by first | exact hbz | exact below_of_drew hbz (Nat.le_refl _) | exact ((Below.refl _ _).alloc (Nat.le_refl _) _).trans (hbz.mono (by simp)) | exact ((Below.refl _ _).alloc (Nat.le_refl _) _).trans ((below_of_drew hbz (Nat.le_refl _)).mono (by simp)) | exact below_of_drew (((Below.refl _ _).alloc (Nat.le_refl _) _).trans (hbz.mono (by simp))) (Nat.le_refl _)
         have hna_2 := hna_1.below hbp2
         have hda_2 := hda_1.below hbp2
         have hnb_2 := hnb_1.below hbp2
         have hdb_2 := hdb_1.below hbp2
         have hG_2 := hG_1.below hbp2
         have hH_2 := hH_1.below hbp2
         have hP_2 := hP_1.below hbp2
         have hX_2 := hX_1.below hbp2
         have hY_2 := hY.below hbp2
         have ka_2 := ka_1.below hbp2
         obtain ⟨ka0wz_, ka1wz_, ka2wz_, ka3wz_, ka4wz_, ka5wz_, ka6wz_⟩ := ka_2.facts
         have kb_2 := kb_1.below hbp2
         obtain ⟨kb0wz_, kb1wz_, kb2wz_, kb3wz_, kb4wz_, kb5wz_, kb6wz_⟩ := kb_2.facts
         have hwq2 := hwq1.trans (hbp2.mono hwq1.size)))
    all_goals
      go_wp2_with fail
      go_meet
      exact ⟨Z, zc, zl, rfl, hzc, hZ, mz, by show _ = _; rw [HVZ.out, HVX.out, HVY.out], by omega, ((hbp0).trans (hbp1.mono (hbp0).size)).trans (hbp2.mono ((hbp0).trans (hbp1.mono (hbp0).size)).size)⟩
  clear a0 a1 a2 a3 a4 a5 a6
  clear b0 b1 b2 b3 b4 b5 b6
  obtain ⟨w6, rfl⟩ : ∃ x, x = wc := ⟨_, rfl⟩
  obtain ⟨E, ec, el, rfl, hec, hE6, me, HVE, hlE, hb6⟩ := hcut
  have ka6 := ka5.below hb6
  have kb6 := kb5.below hb6
  have kr6 := kr5.below hb6
  have hna6 := hna5.below hb6
  have hda6 := hda5.below hb6
  have hnb6 := hnb5.below hb6
  have hdb6 := hdb5.below hb6
  have hG6 := hG5.below hb6
  have hH6 := hH5.below hb6
  have hP6 := hP5.below hb6
  have hw6 := hw5.trans (hb6.mono hw5.size)
  clear ka5 kb5 kr5 hna5 hda5 hnb5 hdb5 hG5 hH5 hP5 hw5 hb6
  obtain ⟨a0, a1, a2, a3, a4, a5, a6⟩ := ka6.facts
  obtain ⟨b0, b1, b2, b3, b4, b5, b6⟩ := kb6.facts
  obtain ⟨c0, c1, c2, c3, c4, c5, c6⟩ := kr6.facts
  have e1 : ¬ w.heap.size = w.heap.size + 1 + 1 := by omega
  have e2 : ¬ w.heap.size + 1 = w.heap.size + 1 + 1 := by omega
  obtain ⟨m, hm⟩ : ∃ m, (a.s != b.s) = m := ⟨_, rfl⟩
  have HM := Lib.hid hm
  have HM3 : Hid ((!(a.s == b.s)) = m) := by show _ = _; rw [← hm]; rfl
  have l1 : pl.length ≤ a.ns.length + b.ns.length + a.ds.length + b.ds.length := by omega
  have l2 : el.length ≤ a.ns.length + b.ns.length + a.ds.length + b.ds.length := by omega
  clear hm
  go_wp2_with fail
  rw [HM3.out]
  refine bodyPost_ret (v := .agg #[.bool m, .slice P pl.length pc, .slice E el.length ec]) (by simp [results, Tryz.results77, go_sem, c0, c1, c2]) rfl ?_
  refine NumL.put ⟨m, P, pc, pl, E, ec, el⟩ ⟨hP6, hE6, mp, me, hpc, hec, ?_⟩ kr6 (by omega) hw6 l1 l2
  have hsq := prod_q QA.out.2 QB.out.2 HVG.out HVH.out
  rw [← HVP.out, ← HVE.out] at hsq
  have hqp : 0 < V64 pl := by
    rw [HVP.out, HVG.out, HVH.out]
    exact Nat.mul_pos (Nat.div_pos (Nat.gcd_le_left _ (V64_pos mna pna)) (Nat.gcd_pos_of_pos_left _ (V64_pos mna pna))) (Nat.div_pos (Nat.gcd_le_left _ (V64_pos mnb pnb)) (Nat.gcd_pos_of_pos_left _ (V64_pos mnb pnb)))
  rw [decide_eq_true hqp, Bool.and_true, HM.out] at hsq
  exact .inr ⟨(V64_pos_iff mp).2 hqp, hsq⟩
set_option maxRecDepth 100000 in
set_option maxHeartbeats 1600000 in
theorem wMul_za (a b : RL) (p q : Rat) (w : World) (ha : a.Num w p) (hb_ : b.Num w q) (hz0 : a.ns.length = 0) :
    Calls Tryz.prog 77 #[.agg #[.bool a.s, .slice a.N a.ns.length a.nc, .slice a.D a.ds.length a.dc], .agg #[.bool b.s, .slice b.N b.ns.length b.nc, .slice b.D b.ds.length b.dc]] w (NumL 0 0 w) := by
  have hz : decide (a.ns.length = 0) = true := decide_eq_true hz0
  clear hz0
  go_enter Tryz.func77, Tryz.ntmps77
  go_wp2_with fail
  have hbox := box3n w (.bool a.s) (.slice a.N a.ns.length a.nc) (.slice a.D a.ds.length a.dc) (.bool b.s) (.slice b.N b.ns.length b.nc) (.slice b.D b.ds.length b.dc) (.bool false) (.slice none 0 0) (.slice none 0 0)
  obtain ⟨w1, hwe⟩ : ∃ x, ((w.alloc (.cells #[.bool a.s, .slice a.N a.ns.length a.nc, .slice a.D a.ds.length a.dc] 91)).alloc (.cells #[.bool b.s, .slice b.N b.ns.length b.nc, .slice b.D b.ds.length b.dc] 91)).alloc (.cells #[.bool false, .slice none 0 0, .slice none 0 0] 91) = x := ⟨_, rfl⟩
  rw [hwe] at hbox ⊢
  obtain ⟨ka1, kb1, kr1, hb1⟩ := hbox
  have HWE := Lib.hid hwe
  clear hwe HWE
  have ha1 := ha.below hb1
  have hb_1 := hb_.below hb1
  have hw1 := hb1
  clear ha hb_ hb1
  obtain ⟨a0, a1, a2, a3, a4, a5, a6⟩ := ka1.facts
  obtain ⟨b0, b1, b2, b3, b4, b5, b6⟩ := kb1.facts
  go_wp2_with fail
  refine (wisZero a.s a.N a.D a.ns.length a.nc a.ds.length a.dc _).mono ?_
  rintro e w2 ⟨he, hb2⟩
  have ha2 := ha1.below hb2
  have hb_2 := hb_1.below hb2
  have ka2 := ka1.below hb2
  have kb2 := kb1.below hb2
  have kr2 := kr1.below hb2
  have hw2 := hw1.trans (hb2.mono hw1.size)
  clear ha1 hb_1 ka1 kb1 kr1 hw1 hb2
  rw [hz] at he
  subst he
  clear a0 a1 a2 a3 a4 a5 a6
  clear b0 b1 b2 b3 b4 b5 b6
  obtain ⟨c0, c1, c2, c3, c4, c5, c6⟩ := kr2.facts
  go_wp2_with fail
  refine bodyPost_ret (v := .agg #[.bool false, .slice none 0 0, .slice none 0 0]) (by simp [results, Tryz.results77, go_sem, c0, c1, c2]) rfl ?_
  exact ⟨⟨false, none, 0, [], none, 0, []⟩, rfl, (num_zero _).put3 kr2 _ _ _, Nat.zero_le _, Nat.zero_le _, below_put3 hw2 (by omega) _ _ _⟩
set_option maxRecDepth 100000 in
set_option maxHeartbeats 1600000 in
theorem wMul_zb (a b : RL) (p q : Rat) (w : World) (ha : a.Num w p) (hb_ : b.Num w q) (hz0 : b.ns.length = 0) (hne0 : 0 < a.ns.length) :
    Calls Tryz.prog 77 #[.agg #[.bool a.s, .slice a.N a.ns.length a.nc, .slice a.D a.ds.length a.dc], .agg #[.bool b.s, .slice b.N b.ns.length b.nc, .slice b.D b.ds.length b.dc]] w (NumL 0 0 w) := by
  have hz : decide (b.ns.length = 0) = true := decide_eq_true hz0
  have hne : decide (a.ns.length = 0) = false := decide_eq_false (by omega)
  clear hne0
  clear hz0
  go_enter Tryz.func77, Tryz.ntmps77
  go_wp2_with fail
  have hbox := box3n w (.bool a.s) (.slice a.N a.ns.length a.nc) (.slice a.D a.ds.length a.dc) (.bool b.s) (.slice b.N b.ns.length b.nc) (.slice b.D b.ds.length b.dc) (.bool false) (.slice none 0 0) (.slice none 0 0)
  obtain ⟨w1, hwe⟩ : ∃ x, ((w.alloc (.cells #[.bool a.s, .slice a.N a.ns.length a.nc, .slice a.D a.ds.length a.dc] 91)).alloc (.cells #[.bool b.s, .slice b.N b.ns.length b.nc, .slice b.D b.ds.length b.dc] 91)).alloc (.cells #[.bool false, .slice none 0 0, .slice none 0 0] 91) = x := ⟨_, rfl⟩
  rw [hwe] at hbox ⊢
  obtain ⟨ka1, kb1, kr1, hb1⟩ := hbox
  have HWE := Lib.hid hwe
  clear hwe HWE
  have ha1 := ha.below hb1
  have hb_1 := hb_.below hb1
  have hw1 := hb1
  clear ha hb_ hb1
  obtain ⟨a0, a1, a2, a3, a4, a5, a6⟩ := ka1.facts
  obtain ⟨b0, b1, b2, b3, b4, b5, b6⟩ := kb1.facts
  go_wp2_with fail
  refine (wisZero a.s a.N a.D a.ns.length a.nc a.ds.length a.dc _).mono ?_
  rintro e w2 ⟨he, hb2⟩
  have ha2 := ha1.below hb2
  have hb_2 := hb_1.below hb2
  have ka2 := ka1.below hb2
  have kb2 := kb1.below hb2
  have kr2 := kr1.below hb2
  have hw2 := hw1.trans (hb2.mono hw1.size)
  clear ha1 hb_1 ka1 kb1 kr1 hw1 hb2
  rw [hne] at he
  subst he
  clear a0 a1 a2 a3 a4 a5 a6
  clear b0 b1 b2 b3 b4 b5 b6
  obtain ⟨a0, a1, a2, a3, a4, a5, a6⟩ := ka2.facts
  obtain ⟨b0, b1, b2, b3, b4, b5, b6⟩ := kb2.facts
  go_wp2_with fail
  refine (wisZero b.s b.N b.D b.ns.length b.nc b.ds.length b.dc _).mono ?_
  rintro e w3 ⟨he, hb3⟩
  have ha3 := ha2.below hb3
  have hb_3 := hb_2.below hb3
  have ka3 := ka2.below hb3
  have kb3 := kb2.below hb3
  have kr3 := kr2.below hb3
  have hw3 := hw2.trans (hb3.mono hw2.size)
  clear ha2 hb_2 ka2 kb2 kr2 hw2 hb3
  rw [hz] at he
  subst he
  clear a0 a1 a2 a3 a4 a5 a6
  clear b0 b1 b2 b3 b4 b5 b6
  obtain ⟨c0, c1, c2, c3, c4, c5, c6⟩ := kr3.facts
  go_wp2_with fail
  refine bodyPost_ret (v := .agg #[.bool false, .slice none 0 0, .slice none 0 0]) (by simp [results, Tryz.results77, go_sem, c0, c1, c2]) rfl ?_
  exact ⟨⟨false, none, 0, [], none, 0, []⟩, rfl, (num_zero _).put3 kr3 _ _ _, Nat.zero_le _, Nat.zero_le _, below_put3 hw3 (by omega) _ _ _⟩
end Go.Proofs.YtlbfoclhkdlafaaGreatDoor


/- wide.gcd and wide.quotient where a number is 1; Num.Add and Num.Mul of integers. -/
namespace Go.Proofs.YtlbfoclhkdlafaaGreatDoor
open Go.RowKit V

theorem one1_one : One1 [1] = true := rfl
set_option maxRecDepth 100000 in
set_option maxHeartbeats 800000 in
theorem gcd_right (xs : List Nat) (bx : xs.length ≤ 200000) (m : Mag64 xs) : GcdOk xs [1] := by
  intro A B ca cb w hx hy cx cy
  cases h1 : One1 xs
  · have ho := Lib.hid h1
    clear h1
    go_enter Tryz.func124, Tryz.ntmps124
    go_wp2_with fail
    refine (wisOne A ca xs _ hx.rd bx).mono ?_
    rintro e w' ⟨he, rfl⟩
    rw [ho.out] at he
    subst he
    go_wp2_with fail
    refine (wisOne B cb [1] _ hy.rd (by simp)).mono ?_
    rintro e w' ⟨he, rfl⟩
    rw [one1_one] at he
    subst he
    go_wp2
    go_ret
    exact ⟨B, cb, [1], rfl, cy, hy, Below.refl _ _, by rw [V64_one]; simp, mag64_one 1 (by omega) (by omega)⟩
  · have ho := Lib.hid h1
    have hx1 : xs = [1] := by
      have h2 := of_decide_eq_true h1
      match xs, h2 with
      | [a], ⟨_, g⟩ => simp at g; rw [g]
    have HX := Lib.hid hx1
    clear h1 hx1
    go_enter Tryz.func124, Tryz.ntmps124
    go_wp2_with fail
    refine (wisOne A ca xs _ hx.rd bx).mono ?_
    rintro e w' ⟨he, rfl⟩
    rw [ho.out] at he
    subst he
    go_wp2
    go_ret
    exact ⟨A, ca, xs, rfl, cx, hx, Below.refl _ _, by rw [HX.out, V64_one]; simp, m⟩
set_option maxRecDepth 100000 in
set_option maxHeartbeats 800000 in
theorem quo_one (xs : List Nat) (m : Mag64 xs) : QuoOk xs [1] := by
  intro A B ca cb w hx hy cx cy
  go_enter Tryz.func126, Tryz.ntmps126
  go_wp2_with fail
  refine (wisOne B cb [1] _ hy.rd (by simp)).mono ?_
  rintro e w' ⟨he, rfl⟩
  rw [one1_one] at he
  subst he
  go_wp2
  go_ret
  exact ⟨A, ca, xs, rfl, cx, hx, Below.refl _ _, by rw [V64_one, Nat.div_one], m, Nat.le_refl _⟩
theorem tim_short (xs ys : List Nat) (mx : Mag64 xs) (my : Mag64 ys) (px : 0 < xs.length) (py : 0 < ys.length) (bx : xs.length ≤ 50000) (by_ : ys.length ≤ 50000) (hs : xs.length < 80 ∨ ys.length < 80) : TimOk xs ys :=
  fun A B ca cb w hx hy cx cy => wtimes_any A B ca cb xs ys w hx hy cx cy mx my px py bx by_ hs
set_option maxRecDepth 100000 in
set_option maxHeartbeats 800000 in
theorem tim_one (ys : List Nat) (my : Mag64 ys) : TimOk [1] ys := by
  intro A B ca cb w hx hy cx cy
  go_enter Tryz.func125, Tryz.ntmps125
  go_wp2_with fail
  refine (wisOne A ca [1] _ hx.rd (by simp)).mono ?_
  rintro e w' ⟨he, rfl⟩
  rw [one1_one] at he
  subst he
  go_wp2
  go_ret
  exact ⟨B, cb, ys, rfl, cy, hy, Below.refl _ _, by rw [V64_one, Nat.one_mul], my, by omega⟩
theorem eq_one {xs : List Nat} (m : Mag64 xs) (h : V64 xs = 1) : xs = [1] := m.eq (mag64_one 1 (by omega) (by omega)) (by rw [h, V64_one])
/-- The denominator of an integer that is not zero. -/
theorem RL.Num.den1 {w : World} {a : RL} {n : Int} (h : a.Num w (n : Rat)) (hn : (n : Rat) ≠ 0) : a.ds = [1] := by
  have h2 := (h.nz hn).2.2.2
  exact eq_one h.md (by rw [h2]; simp)
theorem wAdd_int (a b : RL) (m n : Int) (w : World) (ha : a.Num w (m : Rat)) (hb : b.Num w (n : Rat)) (l1 : a.ns.length ≤ 20000) (l2 : b.ns.length ≤ 20000) :
    Calls Tryz.prog 103 #[.agg #[.bool a.s, .slice a.N a.ns.length a.nc, .slice a.D a.ds.length a.dc], .agg #[.bool b.s, .slice b.N b.ns.length b.nc, .slice b.D b.ds.length b.dc]] w (NumP ((m + n : Int) : Rat) w) := by
  by_cases h1 : (m : Rat) = 0
  · have hz : a.ns.length = 0 := ha.zero_iff.2 h1
    refine (wAdd_za a b _ _ w ha hb hz).mono fun e w' => ?_
    rintro ⟨he, hr, hw⟩
    refine ⟨b, he, ?_, hw⟩
    have : m = 0 := by exact_mod_cast h1
    subst this
    rw [Int.zero_add]; exact hr
  · by_cases h2 : (n : Rat) = 0
    · have hz : b.ns.length = 0 := hb.zero_iff.2 h2
      refine (wAdd_zb a b _ _ w ha hb hz (ha.nz h1).1).mono fun e w' => ?_
      rintro ⟨he, hr, hw⟩
      refine ⟨a, he, ?_, hw⟩
      have : n = 0 := by exact_mod_cast h2
      subst this
      rw [Int.add_zero]; exact hr
    · have e1 := ha.den1 h1
      have e2 := hb.den1 h2
      have pa := (ha.nz h1).1
      have pb := (hb.nz h2).1
      have one_of : ∀ gs, Mag64 gs → Hid (V64 gs = Nat.gcd (V64 a.ds) (V64 b.ds)) → gs = [1] := fun gs mg hg => eq_one mg (by rw [hg.out, e1, e2, V64_one]; rfl)
      refine (wAdd_of a b _ _ w ha hb h1 h2 (by rw [e1, e2]; simp; omega) ?_ ?_ ?_ ?_ ?_ ?_).mono fun e w' => ?_
      · rw [e1, e2]; exact gcd_right [1] (by simp) (mag64_one 1 (by omega) (by omega))
      · intro gs mg _ hg
        rw [one_of gs mg hg]
        exact ⟨quo_one _ ha.md, quo_one _ hb.md⟩
      · intro gs ps rs mp mr hg hp hr lp lr
        have gg : V64 gs = 1 := by rw [hg.out, e1, e2, V64_one]; rfl
        have p1 : ps = [1] := eq_one mp (by rw [hp.out, e1, gg, V64_one])
        have r1 : rs = [1] := eq_one mr (by rw [hr.out, e2, gg, V64_one])
        rw [p1, r1]
        exact ⟨tim_short _ _ ha.mn (mag64_one 1 (by omega) (by omega)) pa (by simp) (by omega) (by simp) (.inr (by simp)), tim_short _ _ hb.mn (mag64_one 1 (by omega) (by omega)) pb (by simp) (by omega) (by simp) (.inr (by simp))⟩
      · intro gs zs mg mz _ _ hg hl
        rw [one_of gs mg hg]
        exact gcd_right zs (by rw [e1, e2] at hl; simp at hl; omega) mz
      · intro gs zs vs mg mz mv _ _ hg hv _
        have v1 : vs = [1] := eq_one mv (by rw [hv.out, one_of gs mg hg, V64_one]; simp)
        rw [v1]
        exact ⟨quo_one _ mz, quo_one _ hb.md⟩
      · intro gs ps vs es mp mv me hg hp he le lp
        have gg : V64 gs = 1 := by rw [hg.out, e1, e2, V64_one]; rfl
        have p1 : ps = [1] := eq_one mp (by rw [hp.out, e1, gg, V64_one])
        rw [p1]
        exact tim_one es me
      · rintro ⟨r, he, hr, _, _, hw⟩
        exact ⟨r, he, by rw [Rat.intCast_add]; exact hr, hw⟩
theorem wMul_int (a b : RL) (m n : Int) (w : World) (ha : a.Num w (m : Rat)) (hb : b.Num w (n : Rat)) (l1 : a.ns.length ≤ 20000) (l2 : b.ns.length ≤ 20000) (l3 : a.ns.length < 80 ∨ b.ns.length < 80) :
    Calls Tryz.prog 77 #[.agg #[.bool a.s, .slice a.N a.ns.length a.nc, .slice a.D a.ds.length a.dc], .agg #[.bool b.s, .slice b.N b.ns.length b.nc, .slice b.D b.ds.length b.dc]] w (NumP ((m * n : Int) : Rat) w) := by
  by_cases h1 : (m : Rat) = 0
  · have hz : a.ns.length = 0 := ha.zero_iff.2 h1
    refine (wMul_za a b _ _ w ha hb hz).mono fun e w' => ?_
    rintro ⟨r, he, hr, _, _, hw⟩
    refine ⟨r, he, ?_, hw⟩
    have : m = 0 := by exact_mod_cast h1
    subst this
    rw [Int.zero_mul]; exact hr
  · by_cases h2 : (n : Rat) = 0
    · have hz : b.ns.length = 0 := hb.zero_iff.2 h2
      refine (wMul_zb a b _ _ w ha hb hz (ha.nz h1).1).mono fun e w' => ?_
      rintro ⟨r, he, hr, _, _, hw⟩
      refine ⟨r, he, ?_, hw⟩
      have : n = 0 := by exact_mod_cast h2
      subst this
      rw [Int.mul_zero]; exact hr
    · have e1 := ha.den1 h1
      have e2 := hb.den1 h2
      have pa := (ha.nz h1).1
      have pb := (hb.nz h2).1
      have one_l : ∀ gl, Mag64 gl → Hid (V64 gl = Nat.gcd (V64 a.ns) (V64 b.ds)) → gl = [1] := fun gl mg hg => eq_one mg (by rw [hg.out, e2, V64_one]; simp)
      have one_r : ∀ gl, Mag64 gl → Hid (V64 gl = Nat.gcd (V64 b.ns) (V64 a.ds)) → gl = [1] := fun gl mg hg => eq_one mg (by rw [hg.out, e1, V64_one]; simp)
      have m1 := mag64_one 1 (by omega) (by omega)
      refine (wMul_of a b _ _ w ha hb h1 h2 ?_ ?_ ?_ ?_).mono fun e w' => ?_
      · rw [e1, e2]; exact ⟨gcd_right _ (by omega) ha.mn, gcd_right _ (by omega) hb.mn⟩
      · intro gl hl mg mh _ _ hg hh
        rw [one_l gl mg hg, one_r hl mh hh]
        exact ⟨quo_one _ ha.mn, quo_one _ hb.mn, quo_one _ ha.md, quo_one _ hb.md⟩
      · intro gl hl xl yl mx my hg hh hx hy lx ly
        have g1 : V64 gl = 1 := by rw [hg.out, e2, V64_one]; simp
        have g2 : V64 hl = 1 := by rw [hh.out, e1, V64_one]; simp
        have hx' : xl = a.ns := mx.eq ha.mn (by rw [hx.out, g1, Nat.div_one])
        have hy' : yl = b.ns := my.eq hb.mn (by rw [hy.out, g2, Nat.div_one])
        rw [hx', hy']
        exact tim_short _ _ ha.mn hb.mn pa pb (by omega) (by omega) l3
      · intro gl hl xl yl mx my hg hh hx hy lx ly
        have g2 : V64 hl = 1 := by rw [hh.out, e1, V64_one]; simp
        have hx' : xl = [1] := eq_one mx (by rw [hx.out, g2, Nat.div_one, e1, V64_one])
        rw [hx']
        exact tim_one yl my
      · rintro ⟨r, he, hr, _, _, hw⟩
        exact ⟨r, he, by rw [Rat.intCast_mul]; exact hr, hw⟩
end Go.Proofs.YtlbfoclhkdlafaaGreatDoor

