/- rat.fit, rat.signedSum of equal signs, rat.sum given signedSum. -/
import Derived.Test.YtopppmlkddajjaaGreatDoorQSR15
import Derived.Deep.DeepCutAuto
import Derived.Deep.RegionHeld3
namespace Go.Proofs.YtopppmlkddajjaaGreatDoor
open Go.RowKit V

set_option maxHeartbeats 400000 in
theorem qfit (a : RL) (q : Rat) (L : Nat) (w : World) (ha : a.Is w q) (h1 : a.ns.length ≤ L) (h2 : a.ds.length ≤ L) (hL : L ≤ 4096) :
    Calls Tryz.prog 41 #[.agg #[.bool a.s, .slice a.N a.ns.length a.nc, .slice a.D a.ds.length a.dc]] w (RatOk q L w) := by
  obtain ⟨ka, kr, hb⟩ := box1r w (.bool a.s) (.slice a.N a.ns.length a.nc) (.slice a.D a.ds.length a.dc) (.bool false) (.slice none 0 0) (.slice none 0 0)
  have l1 : a.ns.length ≤ 4096 := by omega
  have l2 : a.ds.length ≤ 4096 := by omega
  have HK := Lib.hid (And.intro ka (And.intro kr hb))
  clear ka kr hb
  go_enter Tryz.func41, Tryz.ntmps41
  go_wp2
  refine bodyPost_ret (v := .tuple #[.agg #[.bool a.s, .slice a.N a.ns.length a.nc, .slice a.D a.ds.length a.dc], .int .i64 0]) (by simp [results, Tryz.results41, go_sem]) rfl ?_
  exact ⟨a, rfl, ha.below (((Below.refl _ _).alloc (Nat.le_refl _) _).alloc (by simp) _), h1, h2, ((Below.refl _ _).alloc (Nat.le_refl _) _).alloc (by simp) _⟩

/-- The sum of two numbers with signs. -/
def SSumP (s1 s2 : Bool) (xs ys : List Nat) (w : World) (e : Ending) (w' : World) : Prop :=
  ∃ m Z zc zs, e = .returned (.tuple #[.bool m, .slice Z (zs : List Nat).length zc]) ∧ zs.length ≤ zc ∧ Rd .u32 w' Z zs ∧ Mag zs ∧ Hid (sgn m (V32 zs) = sgn s1 (V32 xs) + sgn s2 (V32 ys)) ∧ zs.length ≤ max xs.length ys.length + 1 ∧ Below w.heap.size w w'
/-- What signedSum is asked for. -/
def SSumC (s1 s2 : Bool) : Prop := ∀ (A B : Option Addr) (ca cb : Nat) (xs ys : List Nat) (w : World), Rd .u32 w A xs → Rd .u32 w B ys → xs.length ≤ 4096 → ys.length ≤ 4096 → Mag xs → Mag ys →
    Calls Tryz.prog 76 #[.bool s1, .slice A xs.length ca, .bool s2, .slice B ys.length cb] w (SSumP s1 s2 xs ys w)
theorem ssum_same (s : Bool) : SSumC s s := by
  intro A B ca cb xs ys w hx hy bx by_ mx my
  cases s
  all_goals
    go_enter Tryz.func76, Tryz.ntmps76
    go_wp2_with fail
    refine (qplus A B ca cb xs ys _ hx hy (by omega) (by omega) mx.1 my.1).mono ?_
    rintro e w1 ⟨Z, zc, zs, rfl, hzc, hz, hb, hv, mz, hl⟩
    have HV := Lib.hid hv
    clear hv
    go_wp2_with fail
    go_ret2
    exact ⟨_, Z, zc, zs, rfl, hzc, hz, mz, by show _ = _; rw [HV.out]; simp [sgn]; try omega, hl, hb⟩

set_option maxRecDepth 100000 in
set_option maxHeartbeats 1600000 in
theorem sum_of (a b : RL) (p q : Rat) (w : World) (ha : a.Is w p) (hb_ : b.Is w q) (bl : a.ns.length + a.ds.length + b.ns.length + b.ds.length ≤ 2000) (hss : SSumC a.s b.s) :
    Calls Tryz.prog 42 #[.agg #[.bool a.s, .slice a.N a.ns.length a.nc, .slice a.D a.ds.length a.dc], .agg #[.bool b.s, .slice b.N b.ns.length b.nc, .slice b.D b.ds.length b.dc]] w (RatP (p + q) (a.ns.length + a.ds.length + b.ns.length + b.ds.length + 1) w) := by
  have HSS := Lib.hid hss
  clear hss
  go_enter Tryz.func42, Tryz.ntmps42
  go_wp2_with fail
  have hbox := box2r w (.bool a.s) (.slice a.N a.ns.length a.nc) (.slice a.D a.ds.length a.dc) (.bool b.s) (.slice b.N b.ns.length b.nc) (.slice b.D b.ds.length b.dc) (.bool false) (.slice none 0 0) (.slice none 0 0)
  obtain ⟨w1, hwe⟩ : ∃ x, ((w.alloc (.cells #[.bool a.s, .slice a.N a.ns.length a.nc, .slice a.D a.ds.length a.dc] 24)).alloc (.cells #[.bool b.s, .slice b.N b.ns.length b.nc, .slice b.D b.ds.length b.dc] 24)).alloc (.cells #[.bool false, .slice none 0 0, .slice none 0 0] 24) = x := ⟨_, rfl⟩
  rw [hwe] at hbox ⊢
  obtain ⟨ka1, kb1, kr1, hb1⟩ := hbox
  have HWE := Lib.hid hwe
  clear hwe HWE
  have ha1 := ha.below hb1
  have hb_1 := hb_.below hb1
  have hw1 := hb1
  clear ha hb_ hb1
  obtain ⟨a0, a1, a2, a3, a4, a5, a6⟩ := ka1.facts
  obtain ⟨b0, b1, b2, b3, b4, b5, b6⟩ := kb1.facts
  go_wp2_with fail
  refine (qgcd a.D b.D a.dc b.dc a.ds b.ds _ ha1.rd hb_1.rd ha1.cd hb_1.cd (by omega) (by omega) ha1.md hb_1.md).mono ?_
  rintro e w2 ⟨G, gc, gs, rfl, hgc, hg2, hb2, hvg, mg⟩
  have ha2 := ha1.below hb2
  have hb_2 := hb_1.below hb2
  have ka2 := ka1.below hb2
  have kb2 := kb1.below hb2
  have kr2 := kr1.below hb2
  have hw2 := hw1.trans (hb2.mono hw1.size)
  clear ha1 hb_1 ka1 kb1 kr1 hw1 hb2
  have HVG := Lib.hid hvg
  have hgl : gs.length ≤ a.ds.length := ha2.md.len_le mg (by rw [hvg]; exact Nat.gcd_le_left _ ha2.q.pos)
  have hgp : 0 < gs.length := (V32_pos_iff mg).2 (by rw [hvg]; exact Nat.gcd_pos_of_pos_left _ ha2.q.pos)
  clear hvg a0 a1 a2 a3 a4 a5 a6 b0 b1 b2 b3 b4 b5 b6
  go_upto_region 2 with fail
  go_cut [6, 7] (fun s6 s7 wx => TwoP (fun xs => V32 xs = V32 a.ds / V32 gs ∧ Mag xs ∧ xs.length ≤ a.ds.length) (fun xs => V32 xs = V32 b.ds / V32 gs ∧ Mag xs ∧ xs.length ≤ b.ds.length) w2 s6 s7 wx)
  case first =>
    obtain ⟨a0, a1, a2, a3, a4, a5, a6⟩ := ka2.facts
    obtain ⟨b0, b1, b2, b3, b4, b5, b6⟩ := kb2.facts
    go_region_held3 (fun w' => w'.cell? ⟨w.heap.size, 2, none⟩ = some (.slice a.D a.ds.length a.dc) ∧ w'.cell? ⟨w.heap.size + 1, 2, none⟩ = some (.slice b.D b.ds.length b.dc)) (first | exact ⟨‹_›, ‹_›⟩)
      (first
      | (go_at_call_of 75 (Value.slice a.D a.ds.length a.dc)
         refine (qquot a.D G a.dc gc a.ds gs _ (by first | exact ha2.rd | exact ha2.rd.drew | exact (ha2.rd.below hbrq) | exact (ha2.rd.below hbrq).drew) (by first | exact hg2 | exact hg2.drew | exact (hg2.below hbrq) | exact (hg2.below hbrq).drew) (by omega) (by omega) ha2.md mg hgp).mono ?_
         rintro e wp ⟨P, pc, ps, rfl, hpc, hP, hbp, hvp, mp, hpl⟩
         have HVP := Lib.hid hvp
         clear hvp
         have hbpq : Below w2.heap.size w2 wp := by first | exact below_of_drew hbp (Nat.le_refl _) | exact hbp | exact hbrq.trans (hbp.mono hbrq.size) | exact hbrq.trans (below_of_drew hbp hbrq.size)
         obtain ⟨c0wp, c1wp, c2wp, c3wp, c4wp, c5wp, c6wp⟩ := (ka2.below hbpq).facts
         obtain ⟨d0wp, d1wp, d2wp, d3wp, d4wp, d5wp, d6wp⟩ := (kb2.below hbpq).facts)
      | (go_at_call_of 75 (Value.slice b.D b.ds.length b.dc)
         refine (qquot b.D G b.dc gc b.ds gs _ (by first | exact hb_2.rd | exact hb_2.rd.drew | exact (hb_2.rd.below hbpq) | exact (hb_2.rd.below hbpq).drew) (by first | exact hg2 | exact hg2.drew | exact (hg2.below hbpq) | exact (hg2.below hbpq).drew) (by omega) (by omega) hb_2.md mg hgp).mono ?_
         rintro e wr_ ⟨R, rc, rs, rfl, hrc, hR, hbr, hvr, mr, hrl⟩
         have HVR := Lib.hid hvr
         clear hvr
         have hbrq : Below w2.heap.size w2 wr_ := by first | exact below_of_drew hbr (Nat.le_refl _) | exact hbr | exact hbpq.trans (hbr.mono hbpq.size) | exact hbpq.trans (below_of_drew hbr hbpq.size)
         obtain ⟨c0wr_, c1wr_, c2wr_, c3wr_, c4wr_, c5wr_, c6wr_⟩ := (ka2.below hbrq).facts
         obtain ⟨d0wr_, d1wr_, d2wr_, d3wr_, d4wr_, d5wr_, d6wr_⟩ := (kb2.below hbrq).facts))
    all_goals
      go_wp2_with fail
      go_meet
      first
        | exact ⟨P, pc, ps, R, rc, rs, rfl, rfl, hpc, hrc, hP.below hbr, hR, ⟨HVP.out, mp, hpl⟩, ⟨HVR.out, mr, hrl⟩, hbrq⟩
        | exact ⟨P, pc, ps, R, rc, rs, rfl, rfl, hpc, hrc, hP, hR.below hbp, ⟨HVP.out, mp, hpl⟩, ⟨HVR.out, mr, hrl⟩, hbpq⟩
  obtain ⟨w3, rfl⟩ : ∃ x, x = wc := ⟨_, rfl⟩
  obtain ⟨P, pc, ps, R, rc, rs, rfl, rfl, hpc, hrc, hP3, hR3, ⟨hvp, mp, hpl⟩, ⟨hvr, mr, hrl⟩, hb3⟩ := hcut
  have ha3 := ha2.below hb3
  have hb_3 := hb_2.below hb3
  have ka3 := ka2.below hb3
  have kb3 := kb2.below hb3
  have kr3 := kr2.below hb3
  have hg3 := hg2.below hb3
  have hw3 := hw2.trans (hb3.mono hw2.size)
  clear ha2 hb_2 ka2 kb2 kr2 hg2 hw2 hb3
  have HVP := Lib.hid hvp
  have HVR := Lib.hid hvr
  clear hvp hvr
  go_upto_region 3 with fail
  go_cut [8, 9] (fun s8 s9 wx => ∃ m Z zc zs, s8 = .bool m ∧ s9 = .slice Z (zs : List Nat).length zc ∧ zs.length ≤ zc ∧ Rd .u32 wx Z zs ∧ Mag zs ∧ sgn m (V32 zs) = sgn a.s (V32 a.ns * V32 rs) + sgn b.s (V32 b.ns * V32 ps) ∧ zs.length ≤ a.ns.length + a.ds.length + b.ns.length + b.ds.length + 1 ∧ Below w3.heap.size w3 wx)
  case first =>
    obtain ⟨a0, a1, a2, a3, a4, a5, a6⟩ := ka3.facts
    obtain ⟨b0, b1, b2, b3, b4, b5, b6⟩ := kb3.facts
    go_region_held3 (fun w' => w'.cell? ⟨w.heap.size, 0, none⟩ = some (.bool a.s) ∧ w'.cell? ⟨w.heap.size, 1, none⟩ = some (.slice a.N a.ns.length a.nc) ∧ w'.cell? ⟨w.heap.size + 1, 0, none⟩ = some (.bool b.s) ∧ w'.cell? ⟨w.heap.size + 1, 1, none⟩ = some (.slice b.N b.ns.length b.nc)) (first | exact ⟨‹_›, ‹_›, ‹_›, ‹_›⟩)
      (first
      | (go_at_call_of 77 (Value.slice a.N a.ns.length a.nc)
         refine (qtimes a.N R a.nc rc a.ns rs _ (by first | exact ha3.rn | exact ha3.rn.drew | exact (ha3.rn.below hbyq) | exact (ha3.rn.below hbyq).drew) (by first | exact hR3 | exact hR3.drew | exact (hR3.below hbyq) | exact (hR3.below hbyq).drew) (by omega) ha3.mn mr).mono ?_
         rintro e wx_ ⟨X, xc, xs, rfl, hxc, hX, hbx, hvx, mx, hxl⟩
         have HVX := Lib.hid hvx
         clear hvx
         have hbxq : Below w3.heap.size w3 wx_ := by first | exact below_of_drew hbx (Nat.le_refl _) | exact hbx | exact hbyq.trans (hbx.mono hbyq.size) | exact hbyq.trans (below_of_drew hbx hbyq.size)
         obtain ⟨c0wx_, c1wx_, c2wx_, c3wx_, c4wx_, c5wx_, c6wx_⟩ := (ka3.below hbxq).facts
         obtain ⟨d0wx_, d1wx_, d2wx_, d3wx_, d4wx_, d5wx_, d6wx_⟩ := (kb3.below hbxq).facts)
      | (go_at_call_of 77 (Value.slice b.N b.ns.length b.nc)
         refine (qtimes b.N P b.nc pc b.ns ps _ (by first | exact hb_3.rn | exact hb_3.rn.drew | exact (hb_3.rn.below hbxq) | exact (hb_3.rn.below hbxq).drew) (by first | exact hP3 | exact hP3.drew | exact (hP3.below hbxq) | exact (hP3.below hbxq).drew) (by omega) hb_3.mn mp).mono ?_
         rintro e wy_ ⟨Y, yc, ys, rfl, hyc, hY, hby, hvy, my, hyl⟩
         have HVY := Lib.hid hvy
         clear hvy
         have hbyq : Below w3.heap.size w3 wy_ := by first | exact below_of_drew hby (Nat.le_refl _) | exact hby | exact hbxq.trans (hby.mono hbxq.size) | exact hbxq.trans (below_of_drew hby hbxq.size)
         obtain ⟨c0wy_, c1wy_, c2wy_, c3wy_, c4wy_, c5wy_, c6wy_⟩ := (ka3.below hbyq).facts
         obtain ⟨d0wy_, d1wy_, d2wy_, d3wy_, d4wy_, d5wy_, d6wy_⟩ := (kb3.below hbyq).facts)
      | (go_at_call 76
         refine (HSS.out X Y xc yc xs ys _ (by first | exact hX | exact hX.drew | exact (hX.below hby) | exact (hX.below hby).drew) (by first | exact hY | exact hY.drew | exact (hY.below hbx) | exact (hY.below hbx).drew) (by omega) (by omega) mx my).mono ?_
         rintro e wz_ ⟨m, Z, zc, zs, rfl, hzc, hZ, mz, hvz, hzl, hbz⟩
         skip
         have hbzq : Below w3.heap.size w3 wz_ := by first | exact below_of_drew hbz (Nat.le_refl _) | exact hbz | exact hbxq.trans (hbz.mono hbxq.size) | exact hbxq.trans (below_of_drew hbz hbxq.size) | exact hbyq.trans (hbz.mono hbyq.size) | exact hbyq.trans (below_of_drew hbz hbyq.size)
         obtain ⟨c0wz_, c1wz_, c2wz_, c3wz_, c4wz_, c5wz_, c6wz_⟩ := (ka3.below hbzq).facts
         obtain ⟨d0wz_, d1wz_, d2wz_, d3wz_, d4wz_, d5wz_, d6wz_⟩ := (kb3.below hbzq).facts))
    all_goals
      go_wp2_with fail
      go_meet
      exact ⟨m, Z, zc, zs, rfl, rfl, hzc, hZ, mz, by rw [hvz.out, HVX.out, HVY.out], by omega, hbzq⟩
  obtain ⟨w4, rfl⟩ : ∃ x, x = wc := ⟨_, rfl⟩
  obtain ⟨m, Z, zc, zs, rfl, rfl, hzc, hZ4, mz, hvz, hzl, hb4⟩ := hcut
  have ha4 := ha3.below hb4
  have hb_4 := hb_3.below hb4
  have ka4 := ka3.below hb4
  have kb4 := kb3.below hb4
  have kr4 := kr3.below hb4
  have hg4 := hg3.below hb4
  have hP4 := hP3.below hb4
  have hR4 := hR3.below hb4
  have hw4 := hw3.trans (hb4.mono hw3.size)
  clear ha3 hb_3 ka3 kb3 kr3 hg3 hP3 hR3 hw3 hb4
  have HVZ := Lib.hid hvz
  clear hvz
  go_wp2_with fail
  refine (qrem Z G zc gc zs gs _ hZ4 hg4 (by omega) (by omega) mz mg hgp).mono ?_
  rintro e w5 ⟨U, uc, us, rfl, huc, hU5, hb5, hvu, mu, hul⟩
  have ha5 := ha4.below hb5
  have hb_5 := hb_4.below hb5
  have ka5 := ka4.below hb5
  have kb5 := kb4.below hb5
  have kr5 := kr4.below hb5
  have hg5 := hg4.below hb5
  have hP5 := hP4.below hb5
  have hR5 := hR4.below hb5
  have hZ5 := hZ4.below hb5
  have hw5 := hw4.trans (hb5.mono hw4.size)
  clear ha4 hb_4 ka4 kb4 kr4 hg4 hP4 hR4 hZ4 hw4 hb5
  have HVU := Lib.hid hvu
  clear hvu
  go_wp2_with fail
  refine (qgcd G U gc uc gs us _ hg5 hU5 hgc huc (by omega) (by omega) mg mu).mono ?_
  rintro e w6 ⟨V_, vc, vs, rfl, hvc, hV6, hb6, hvv, mv⟩
  have ha6 := ha5.below hb6
  have hb_6 := hb_5.below hb6
  have ka6 := ka5.below hb6
  have kb6 := kb5.below hb6
  have kr6 := kr5.below hb6
  have hg6 := hg5.below hb6
  have hP6 := hP5.below hb6
  have hR6 := hR5.below hb6
  have hZ6 := hZ5.below hb6
  have hU6 := hU5.below hb6
  have hw6 := hw5.trans (hb6.mono hw5.size)
  clear ha5 hb_5 ka5 kb5 kr5 hg5 hP5 hR5 hZ5 hU5 hw5 hb6
  have HVV : Hid (V32 vs = Nat.gcd (V32 gs) (V32 zs % V32 gs)) := by show _ = _; rw [hvv, HVU.out]
  have hvl : vs.length ≤ gs.length := mg.len_le mv (by rw [hvv]; exact Nat.gcd_le_left _ (V32_pos mg hgp))
  have hvp : 0 < vs.length := (V32_pos_iff mv).2 (by rw [hvv]; exact Nat.gcd_pos_of_pos_left _ (V32_pos mg hgp))
  clear hvv
  go_upto_region 5 with fail
  obtain ⟨a0, a1, a2, a3, a4, a5, a6⟩ := ka6.facts
  obtain ⟨b0, b1, b2, b3, b4, b5, b6⟩ := kb6.facts
  go_region_held3 (fun w' => w'.cell? ⟨w.heap.size + 1, 2, none⟩ = some (.slice b.D b.ds.length b.dc)) (first | assumption | go_keep)
    (first
    | (go_at_call_of 75 (Value.slice Z zs.length zc)
       refine (qquot Z V_ zc vc zs vs _ (by first | exact hZ6 | exact hZ6.drew | exact (hZ6.below hbtq) | exact (hZ6.below hbtq).drew | exact (hZ6.below hbeq) | exact (hZ6.below hbeq).drew) (by first | exact hV6 | exact hV6.drew | exact (hV6.below hbtq) | exact (hV6.below hbtq).drew | exact (hV6.below hbeq) | exact (hV6.below hbeq).drew) (by omega) (by omega) mz mv hvp).mono ?_
       rintro e wq_ ⟨Q, qc, qs, rfl, hqc, hQ, hbq, hvq, mq, hql⟩
       have HVQ := Lib.hid hvq
       clear hvq
       have hbqq : Below w6.heap.size w6 wq_ := by first | exact below_of_drew hbq (Nat.le_refl _) | exact hbq | exact hbeq.trans (hbq.mono hbeq.size) | exact hbeq.trans (below_of_drew hbq hbeq.size) | exact hbtq.trans (hbq.mono hbtq.size) | exact hbtq.trans (below_of_drew hbq hbtq.size)
       obtain ⟨c0wq_, c1wq_, c2wq_, c3wq_, c4wq_, c5wq_, c6wq_⟩ := (ka6.below hbqq).facts
       obtain ⟨d0wq_, d1wq_, d2wq_, d3wq_, d4wq_, d5wq_, d6wq_⟩ := (kb6.below hbqq).facts)
    | (go_at_call_of 75 (Value.slice b.D b.ds.length b.dc)
       refine (qquot b.D V_ b.dc vc b.ds vs _ (by first | exact hb_6.rd | exact hb_6.rd.drew | exact (hb_6.rd.below hbqq) | exact (hb_6.rd.below hbqq).drew) (by first | exact hV6 | exact hV6.drew | exact (hV6.below hbqq) | exact (hV6.below hbqq).drew) (by omega) (by omega) hb_6.md mv hvp).mono ?_
       rintro e we_ ⟨E, ec, es, rfl, hec, hE, hbe, hve, me, hel⟩
       have HVE := Lib.hid hve
       clear hve
       have hbeq : Below w6.heap.size w6 we_ := by first | exact below_of_drew hbe (Nat.le_refl _) | exact hbe | exact hbqq.trans (hbe.mono hbqq.size) | exact hbqq.trans (below_of_drew hbe hbqq.size)
       obtain ⟨c0we_, c1we_, c2we_, c3we_, c4we_, c5we_, c6we_⟩ := (ka6.below hbeq).facts
       obtain ⟨d0we_, d1we_, d2we_, d3we_, d4we_, d5we_, d6we_⟩ := (kb6.below hbeq).facts)
    | (go_at_call 77
       refine (qtimes P E pc ec ps es _ (by first | exact hP6 | exact hP6.drew | exact (hP6.below hbeq) | exact (hP6.below hbeq).drew | exact (hP6.below hbqq) | exact (hP6.below hbqq).drew) (by first | exact hE | exact hE.drew | exact (hE.below hbq) | exact (hE.below hbq).drew) (by omega) mp me).mono ?_
       rintro e wt_ ⟨T, tc, ts, rfl, htc, hT, hbt, hvt, mt, htl⟩
       have HVT := Lib.hid hvt
       clear hvt
       have hbtq : Below w6.heap.size w6 wt_ := by first | exact below_of_drew hbt (Nat.le_refl _) | exact hbt | exact hbeq.trans (hbt.mono hbeq.size) | exact hbeq.trans (below_of_drew hbt hbeq.size) | exact hbqq.trans (hbt.mono hbqq.size) | exact hbqq.trans (below_of_drew hbt hbqq.size)
       obtain ⟨c0wt_, c1wt_, c2wt_, c3wt_, c4wt_, c5wt_, c6wt_⟩ := (ka6.below hbtq).facts
       obtain ⟨d0wt_, d1wt_, d2wt_, d3wt_, d4wt_, d5wt_, d6wt_⟩ := (kb6.below hbtq).facts)
    | (go_at_call 79
       refine (signed_any m Q T qs.length qc ts.length tc _).mono ?_
       rintro e ws_ ⟨rfl, hbs⟩
       skip
       have hbsq : Below w6.heap.size w6 ws_ := by first | exact below_of_drew hbs (Nat.le_refl _) | exact hbs | exact hbqq.trans (hbs.mono hbqq.size) | exact hbqq.trans (below_of_drew hbs hbqq.size) | exact hbtq.trans (hbs.mono hbtq.size) | exact hbtq.trans (below_of_drew hbs hbtq.size)
       obtain ⟨c0ws_, c1ws_, c2ws_, c3ws_, c4ws_, c5ws_, c6ws_⟩ := (kr6.below hbsq).facts
       obtain ⟨d0ws_, d1ws_, d2ws_, d3ws_, d4ws_, d5ws_, d6ws_⟩ := (kb6.below hbsq).facts))
  all_goals
    obtain ⟨pz, hpz⟩ : ∃ x, Hid ((m && decide (0 < qs.length)) = x) := ⟨_, Lib.hid rfl⟩
    rw [hpz.out]
    go_wp2_with fail
    refine bodyPost_ret (v := .agg #[.bool pz, .slice Q qs.length qc, .slice T ts.length tc]) (by simp [results, Tryz.results42, go_sem, c0ws_, c1ws_, c2ws_]) rfl ?_
    refine RatP.put ⟨pz, Q, qc, qs, T, tc, ts⟩ ⟨((hQ.below hbe).below hbt).below hbs, hT.below hbs, mq, mt, hqc, htc, ?_⟩ (kr6.below hbsq) (by omega) (hw6.trans (hbsq.mono hw6.size)) (by dsimp only; omega) (by dsimp only; omega)
    have hsq := sum_q ha6.q hb_6.q HVG.out HVP.out HVR.out HVZ.out HVV.out
    rw [← HVQ.out, ← HVE.out, ← HVT.out, ← dec_len mq, hpz.out] at hsq
    exact hsq

/-- rat.Add, given Valid and signedSum. -/
theorem Add_of (a b : RL) (p q : Rat) (w : World) (ha : a.Is w p) (hb_ : b.Is w q) (bl : a.ns.length + a.ds.length + b.ns.length + b.ds.length ≤ 2000) (hss : SSumC a.s b.s)
    (hv1 : ∀ W, a.Is W p → Calls Tryz.prog 40 #[.agg #[.bool a.s, .slice a.N a.ns.length a.nc, .slice a.D a.ds.length a.dc]] W (Gives (.bool true) W)) (hv2 : ∀ W, b.Is W q → Calls Tryz.prog 40 #[.agg #[.bool b.s, .slice b.N b.ns.length b.nc, .slice b.D b.ds.length b.dc]] W (Gives (.bool true) W)) :
    Calls Tryz.prog 9 #[.agg #[.bool a.s, .slice a.N a.ns.length a.nc, .slice a.D a.ds.length a.dc], .agg #[.bool b.s, .slice b.N b.ns.length b.nc, .slice b.D b.ds.length b.dc]] w (RatOk (p + q) (a.ns.length + a.ds.length + b.ns.length + b.ds.length + 1) w) := by
  have HSS := Lib.hid hss
  have HV1 := Lib.hid hv1
  have HV2 := Lib.hid hv2
  clear hss hv1 hv2
  go_enter Tryz.func9, Tryz.ntmps9
  go_wp2_with fail
  have hbox := box2r w (.bool a.s) (.slice a.N a.ns.length a.nc) (.slice a.D a.ds.length a.dc) (.bool b.s) (.slice b.N b.ns.length b.nc) (.slice b.D b.ds.length b.dc) (.bool false) (.slice none 0 0) (.slice none 0 0)
  obtain ⟨w1, hwe⟩ : ∃ x, ((w.alloc (.cells #[.bool a.s, .slice a.N a.ns.length a.nc, .slice a.D a.ds.length a.dc] 24)).alloc (.cells #[.bool b.s, .slice b.N b.ns.length b.nc, .slice b.D b.ds.length b.dc] 24)).alloc (.cells #[.bool false, .slice none 0 0, .slice none 0 0] 24) = x := ⟨_, rfl⟩
  rw [hwe] at hbox ⊢
  obtain ⟨ka1, kb1, kr1, hb1⟩ := hbox
  have HWE := Lib.hid hwe
  clear hwe HWE
  have ha1 := ha.below hb1
  have hb_1 := hb_.below hb1
  have hw1 := hb1
  clear ha hb_ hb1
  obtain ⟨a0, a1, a2, a3, a4, a5, a6⟩ := ka1.facts
  obtain ⟨b0, b1, b2, b3, b4, b5, b6⟩ := kb1.facts
  go_wp2_with fail
  refine (HV1.out _ ha1).mono ?_
  rintro e w2 ⟨rfl, hb2⟩
  have ha2 := ha1.below hb2
  have hb_2 := hb_1.below hb2
  have ka2 := ka1.below hb2
  have kb2 := kb1.below hb2
  have kr2 := kr1.below hb2
  have hw2 := hw1.trans (hb2.mono hw1.size)
  clear ha1 hb_1 ka1 kb1 kr1 hw1 hb2
  clear a0 a1 a2 a3 a4 a5 a6 b0 b1 b2 b3 b4 b5 b6
  obtain ⟨a0, a1, a2, a3, a4, a5, a6⟩ := ka2.facts
  obtain ⟨b0, b1, b2, b3, b4, b5, b6⟩ := kb2.facts
  go_wp2_with fail
  refine (HV2.out _ hb_2).mono ?_
  rintro e w3 ⟨rfl, hb3⟩
  have ha3 := ha2.below hb3
  have hb_3 := hb_2.below hb3
  have ka3 := ka2.below hb3
  have kb3 := kb2.below hb3
  have kr3 := kr2.below hb3
  have hw3 := hw2.trans (hb3.mono hw2.size)
  clear ha2 hb_2 ka2 kb2 kr2 hw2 hb3
  clear a0 a1 a2 a3 a4 a5 a6 b0 b1 b2 b3 b4 b5 b6
  obtain ⟨a0, a1, a2, a3, a4, a5, a6⟩ := ka3.facts
  obtain ⟨b0, b1, b2, b3, b4, b5, b6⟩ := kb3.facts
  go_wp2_with fail
  refine (sum_of a b p q _ ha3 hb_3 bl HSS.out).mono ?_
  rintro e w4 ⟨r, rfl, hr4, hl1, hl2, hb4⟩
  have ha4 := ha3.below hb4
  have hb_4 := hb_3.below hb4
  have ka4 := ka3.below hb4
  have kb4 := kb3.below hb4
  have kr4 := kr3.below hb4
  have hw4 := hw3.trans (hb4.mono hw3.size)
  clear ha3 hb_3 ka3 kb3 kr3 hw3 hb4
  clear a0 a1 a2 a3 a4 a5 a6 b0 b1 b2 b3 b4 b5 b6
  go_wp2_with fail
  refine (qfit r (p + q) (a.ns.length + a.ds.length + b.ns.length + b.ds.length + 1) _ hr4 hl1 hl2 (by omega)).mono ?_
  rintro e w5 ⟨t, rfl, ht5, hm1, hm2, hb5⟩
  have ha5 := ha4.below hb5
  have hb_5 := hb_4.below hb5
  have ka5 := ka4.below hb5
  have kb5 := kb4.below hb5
  have kr5 := kr4.below hb5
  have hr5 := hr4.below hb5
  have hw5 := hw4.trans (hb5.mono hw4.size)
  clear ha4 hb_4 ka4 kb4 kr4 hr4 hw4 hb5
  obtain ⟨c0, c1, c2, c3, c4, c5, c6⟩ := kr5.facts
  go_wp2_with fail
  refine bodyPost_ret (v := .tuple #[.agg #[.bool t.s, .slice t.N t.ns.length t.nc, .slice t.D t.ds.length t.dc], .int .i64 0]) (by simp [results, Tryz.results9, go_sem, c0, c1, c2]) rfl ?_
  exact RatOk.put t ht5 kr5 (by omega) hw5 hm1 hm2
end Go.Proofs.YtopppmlkddajjaaGreatDoor


/- rat.Valid. -/
namespace Go.Proofs.YtopppmlkddajjaaGreatDoor
open Go.RowKit V

/-- Which numbers are valid. -/
def RVal (s : Bool) (ns ds : List Nat) : Prop := Ok ns ∧ Ok ds ∧ 0 < ds.length ∧ (s = true → 0 < ns.length) ∧ Nat.gcd (V32 ns) (V32 ds) = 1
theorem RL.Is.okv {w : World} {a : RL} {q : Rat} (h : a.Is w q) (l1 : a.ns.length ≤ 4096) (l2 : a.ds.length ≤ 4096) : RVal a.s a.ns a.ds := by
  refine ⟨⟨l1, h.mn.2⟩, ⟨l2, h.md.2⟩, h.dpos, fun hs => ?_, h.q.cop⟩
  rcases Nat.eq_zero_or_pos a.ns.length with h0 | h0
  · have := h.q.zero (by rw [List.eq_nil_of_length_eq_zero h0]; simp [V32, val])
    rw [hs] at this; cases this
  · exact h0
theorem RVal.is {w : World} {s : Bool} {N D : Option Addr} {nc dc : Nat} {ns ds : List Nat} (h : RVal s ns ds) (rn : Rd .u32 w N ns) (rd : Rd .u32 w D ds) (cn : ns.length ≤ nc) (cd : ds.length ≤ dc) (dn : Dig 4294967296 ns) (dd : Dig 4294967296 ds) :
    RL.Is w ⟨s, N, nc, ns, D, dc, ds⟩ (mkRat (sgn s (V32 ns)) (V32 ds)) := by
  obtain ⟨h1, h2, h3, h4, h5⟩ := h
  have mn : Mag ns := ⟨dn, h1.2⟩
  have md : Mag ds := ⟨dd, h2.2⟩
  refine ⟨rn, rd, mn, md, cn, cd, QOf.mk_ (V32_pos md h3) h5 fun h0 => ?_⟩
  cases s with
  | false => rfl
  | true => have := V32_pos mn (h4 rfl); dsimp only at h0; omega

set_option maxHeartbeats 400000 in
theorem qvalid_no1 (s : Bool) (N D : Option Addr) (nc dc : Nat) (ns ds : List Nat) (w : World) (rn : Rd .u32 w N ns) (h : ¬ Ok ns) :
    Calls Tryz.prog 40 #[.agg #[.bool s, .slice N ns.length nc, .slice D ds.length dc]] w (Gives (.bool false) w) := by
  have hb : Below w.heap.size w (w.alloc (.cells #[.bool s, .slice N ns.length nc, .slice D ds.length dc] 24)) := (Below.refl _ _).alloc (Nat.le_refl _) _
  go_enter Tryz.func40, Tryz.ntmps40
  go_wp2_with fail
  refine (valid_no N nc ns _ (rn.below hb) h).mono ?_
  rintro e w1 ⟨rfl, rfl⟩
  go_wp2
  go_ret
  exact ⟨rfl, hb⟩
set_option maxHeartbeats 400000 in
theorem qvalid_no2 (s : Bool) (N D : Option Addr) (nc dc : Nat) (ns ds : List Nat) (w : World) (rn : Rd .u32 w N ns) (rd : Rd .u32 w D ds) (h1 : Ok ns) (h : ¬ Ok ds) :
    Calls Tryz.prog 40 #[.agg #[.bool s, .slice N ns.length nc, .slice D ds.length dc]] w (Gives (.bool false) w) := by
  have hb : Below w.heap.size w (w.alloc (.cells #[.bool s, .slice N ns.length nc, .slice D ds.length dc] 24)) := (Below.refl _ _).alloc (Nat.le_refl _) _
  go_enter Tryz.func40, Tryz.ntmps40
  go_wp2_with fail
  refine (valid_yes N nc ns _ (rn.below hb) h1).mono ?_
  rintro e w1 ⟨rfl, rfl⟩
  go_wp2_with fail
  refine (valid_no D dc ds _ (rd.below hb) h).mono ?_
  rintro e w1 ⟨rfl, rfl⟩
  go_wp2
  go_ret
  exact ⟨rfl, hb⟩
set_option maxHeartbeats 800000 in
theorem qvalid_no3 (s : Bool) (N D : Option Addr) (nc dc : Nat) (ns ds : List Nat) (w : World) (rn : Rd .u32 w N ns) (rd : Rd .u32 w D ds) (h1 : Ok ns) (h2 : Ok ds) (h : ds.length = 0 ∨ (0 < ds.length ∧ s = true ∧ ns.length = 0)) :
    Calls Tryz.prog 40 #[.agg #[.bool s, .slice N ns.length nc, .slice D ds.length dc]] w (Gives (.bool false) w) := by
  have hb : Below w.heap.size w (w.alloc (.cells #[.bool s, .slice N ns.length nc, .slice D ds.length dc] 24)) := (Below.refl _ _).alloc (Nat.le_refl _) _
  have V1 := Lib.hid (valid_yes N nc ns _ (rn.below hb) h1)
  have V2 := Lib.hid (valid_yes D dc ds _ (rd.below hb) h2)
  rcases h with h | ⟨h, rfl, h3⟩
  · obtain rfl : ds = [] := List.eq_nil_of_length_eq_zero h
    go_enter Tryz.func40, Tryz.ntmps40
    go_wp2_with fail
    refine V1.out.mono ?_
    rintro e w1 ⟨rfl, rfl⟩
    go_wp2_with fail
    refine V2.out.mono ?_
    rintro e w1 ⟨rfl, rfl⟩
    go_wp2
    go_ret
    exact ⟨rfl, hb⟩
  · obtain rfl : ns = [] := List.eq_nil_of_length_eq_zero h3
    have hne : ((ds.length : Int) == 0) = false := beq_eq_false_iff_ne.2 (by omega)
    go_enter Tryz.func40, Tryz.ntmps40
    go_wp2_with fail
    refine V1.out.mono ?_
    rintro e w1 ⟨rfl, rfl⟩
    go_wp2_with fail
    refine V2.out.mono ?_
    rintro e w1 ⟨rfl, rfl⟩
    go_wp2
    go_ret
    exact ⟨rfl, hb⟩

set_option maxRecDepth 100000 in
set_option maxHeartbeats 1600000 in
theorem qvalid_gcd (s : Bool) (N D : Option Addr) (nc dc : Nat) (ns ds : List Nat) (w : World) (rn : Rd .u32 w N ns) (rd : Rd .u32 w D ds) (cn : ns.length ≤ nc) (cd : ds.length ≤ dc) (dn : Dig 4294967296 ns) (dd : Dig 4294967296 ds) (h1 : Ok ns) (h2 : Ok ds) (hpos : 0 < ds.length) (hs : s = true → 0 < ns.length) (r : Bool) (hv : r = true ↔ Nat.gcd (V32 ns) (V32 ds) = 1) :
    Calls Tryz.prog 40 #[.agg #[.bool s, .slice N ns.length nc, .slice D ds.length dc]] w (Gives (.bool r) w) := by
  have mn : Mag ns := ⟨dn, h1.2⟩
  have md : Mag ds := ⟨dd, h2.2⟩
  have l1 := h1.1
  have l2 := h2.1
  have HR := Lib.hid hv
  clear hv
  have hk := Blk3.new w (.bool s) (.slice N ns.length nc) (.slice D ds.length dc)
  have hb : Below w.heap.size w (w.alloc (.cells #[.bool s, .slice N ns.length nc, .slice D ds.length dc] 24)) := (Below.refl _ _).alloc (Nat.le_refl _) _
  have V1 := Lib.hid (valid_yes N nc ns _ (rn.below hb) h1)
  have V2 := Lib.hid (valid_yes D dc ds _ (rd.below hb) h2)
  have hne : ((ds.length : Int) == 0) = false := beq_eq_false_iff_ne.2 (by omega)
  have hsn : s = false ∨ (s = true ∧ ((ns.length : Int) == 0) = false) := by
    cases s with
    | false => exact .inl rfl
    | true => exact .inr ⟨rfl, beq_eq_false_iff_ne.2 (by have := hs rfl; omega)⟩
  have HS := Lib.hid hs
  clear hs
  rcases hsn with rfl | ⟨rfl, hsn⟩
  all_goals
    go_enter Tryz.func40, Tryz.ntmps40
    go_wp2_with fail
    refine V1.out.mono ?_
    rintro e w1 ⟨rfl, rfl⟩
    go_wp2_with fail
    refine V2.out.mono ?_
    rintro e w1 ⟨rfl, rfl⟩
    go_wp2_with fail
    refine (isone_any D dc ds _ (rd.below hb) (by omega) md).mono ?_
    rintro e w2 ⟨he, n2, hwe⟩
    obtain ⟨o, ho⟩ : ∃ o, Hid (decide (V32 ds = 1) = o) := ⟨_, Lib.hid rfl⟩
    rw [ho.out] at he
    subst he
    have hb2 : Below w.heap.size w w2 := by rw [hwe]; exact below_drew_ hb n2
    have hk2 := hk.below (w' := w2) (by rw [hwe]; exact below_drew_ (Below.refl _ _) n2)
    clear hwe
    obtain ⟨a0, a1, a2, a3, a4, a5, a6⟩ := hk2.facts
    cases o
    · go_wp2_with fail
      refine (qgcd N D nc dc ns ds _ (rn.below hb2) (rd.below hb2) cn cd l1 l2 mn md).mono ?_
      rintro e w3 ⟨G, gc, gs, rfl, hgc, hg, hb3, hvg, mg⟩
      have hgl : gs.length ≤ ds.length := md.len_le mg (by rw [hvg]; exact Nat.gcd_le_right _ (V32_pos md hpos))
      have hrg : Hid (decide (V32 gs = 1) = r) := by show _ = _; rw [Bool.eq_iff_iff, decide_eq_true_iff, hvg, HR.out]
      clear hvg
      go_wp2_with fail
      refine (isone_any G gc gs _ hg (by omega) mg).mono ?_
      rintro e w4 ⟨he, n4, hwe⟩
      rw [hrg.out] at he
      subst he
      have hb4 : Below w.heap.size w w4 := by rw [hwe]; exact below_drew_ (hb2.trans (hb3.mono hb2.size)) n4
      clear hwe
      go_wp2
      go_ret
      exact ⟨rfl, hb4⟩
    · have hrt : Hid (true = r) := by
        show _ = _
        exact (HR.out.2 (by rw [of_decide_eq_true ho.out, Nat.gcd_one_right])).symm
      go_wp2
      go_ret
      exact ⟨ret_bool hrt.out, hb2⟩

theorem qvalid (s : Bool) (N D : Option Addr) (nc dc : Nat) (ns ds : List Nat) (w : World) (rn : Rd .u32 w N ns) (rd : Rd .u32 w D ds) (cn : ns.length ≤ nc) (cd : ds.length ≤ dc) (dn : Dig 4294967296 ns) (dd : Dig 4294967296 ds) (v : Bool) (hv : v = true ↔ RVal s ns ds) :
    Calls Tryz.prog 40 #[.agg #[.bool s, .slice N ns.length nc, .slice D ds.length dc]] w (Gives (.bool v) w) := by
  have hf : ¬ RVal s ns ds → v = false := fun h => by cases v with
    | false => rfl
    | true => exact absurd (hv.1 rfl) h
  by_cases h1 : Ok ns
  · by_cases h2 : Ok ds
    · by_cases h3 : ds.length = 0 ∨ (0 < ds.length ∧ s = true ∧ ns.length = 0)
      · rw [hf fun h => by rcases h3 with h3 | ⟨_, h3, h4⟩
                           · have := h.2.2.1; omega
                           · have := h.2.2.2.1 h3; omega]
        exact qvalid_no3 s N D nc dc ns ds w rn rd h1 h2 h3
      · have hpos : 0 < ds.length := by omega
        have hs : s = true → 0 < ns.length := fun h => by
          rcases Nat.eq_zero_or_pos ns.length with h0 | h0
          · exact absurd (.inr ⟨hpos, h, h0⟩) h3
          · exact h0
        exact qvalid_gcd s N D nc dc ns ds w rn rd cn cd dn dd h1 h2 hpos hs v (hv.trans ⟨fun h => h.2.2.2.2, fun h => ⟨h1, h2, hpos, hs, h⟩⟩)
    · rw [hf fun h => h2 h.2.1]; exact qvalid_no2 s N D nc dc ns ds w rn rd h1 h2
  · rw [hf fun h => h1 h.1]; exact qvalid_no1 s N D nc dc ns ds w rn h1
theorem qvalid_yes (a : RL) (q : Rat) (w : World) (h : a.Is w q) (l1 : a.ns.length ≤ 4096) (l2 : a.ds.length ≤ 4096) :
    Calls Tryz.prog 40 #[.agg #[.bool a.s, .slice a.N a.ns.length a.nc, .slice a.D a.ds.length a.dc]] w (Gives (.bool true) w) :=
  qvalid a.s a.N a.D a.nc a.dc a.ns a.ds w h.rn h.rd h.cn h.cd h.mn.1 h.md.1 true ⟨fun _ => h.okv l1 l2, fun _ => rfl⟩
theorem Add_same (a b : RL) (p q : Rat) (w : World) (ha : a.Is w p) (hb_ : b.Is w q) (bl : a.ns.length + a.ds.length + b.ns.length + b.ds.length ≤ 2000) (hs : a.s = b.s) :
    Calls Tryz.prog 9 #[.agg #[.bool a.s, .slice a.N a.ns.length a.nc, .slice a.D a.ds.length a.dc], .agg #[.bool b.s, .slice b.N b.ns.length b.nc, .slice b.D b.ds.length b.dc]] w (RatOk (p + q) (a.ns.length + a.ds.length + b.ns.length + b.ds.length + 1) w) :=
  Add_of a b p q w ha hb_ bl (by rw [hs]; exact ssum_same _) (fun W h => qvalid_yes a p W h (by omega) (by omega)) (fun W h => qvalid_yes b q W h (by omega) (by omega))
end Go.Proofs.YtopppmlkddajjaaGreatDoor


/- The document's rational numbers: isochroneref02's Of, To, Same, Is, None, Short. -/
namespace Go.Proofs.YtopppmlkddajjaaGreatDoor
open Go.RowKit V

/-- A rational number of the document's: digits to the base 10000. -/
structure RL.Ref (w : World) (a : RL) (q : Rat) : Prop where
  rn : Rd .i64 w a.N a.ns
  rd : Rd .i64 w a.D a.ds
  mn : Nm a.ns
  md : Nm a.ds
  q : QOf a.s (VD a.ns) (VD a.ds) q
theorem RL.Ref.below {w w' : World} {a : RL} {q : Rat} (h : a.Ref w q) (hb : Below w.heap.size w w') : a.Ref w' q :=
  ⟨h.rn.below hb, h.rd.below hb, h.mn, h.md, h.q⟩
theorem RL.Ref.put3 {t : TypeId} {w : World} {a : RL} {q : Rat} {g n c d e : Nat} {p : Bool} {N D : Option Addr} (h : a.Ref w q) (hb : BlkT t w g (.bool p) (.slice N n c) (.slice D d e)) (x y z : Value) : a.Ref (Go.Proofs.YtopppmlkddajjaaGreatDoor.put3 w g x y z) q :=
  ⟨h.rn.put3 hb x y z, h.rd.put3 hb x y z, h.mn, h.md, h.q⟩
theorem RL.Ref.dpos {w : World} {a : RL} {q : Rat} (h : a.Ref w q) : 0 < a.ds.length := by
  rcases Nat.eq_zero_or_pos a.ds.length with h0 | h0
  · have := h.q.pos
    rw [List.eq_nil_of_length_eq_zero h0] at this
    simp [VD, val] at this
  · exact h0
def RefP (q : Rat) (L M : Nat) (w : World) (e : Ending) (w' : World) : Prop :=
  ∃ r : RL, e = .returned (.agg #[.bool r.s, .slice r.N r.ns.length r.nc, .slice r.D r.ds.length r.dc]) ∧ r.Ref w' q ∧ r.ns.length ≤ L ∧ r.ds.length ≤ M ∧ Below w.heap.size w w'
theorem RefP.put {t : TypeId} {w w' : World} {q : Rat} {L M g n c d e : Nat} {p : Bool} {N D : Option Addr} (r : RL) (hi : r.Ref w' q) (hb : BlkT t w' g (.bool p) (.slice N n c) (.slice D d e)) (hg : w.heap.size ≤ g) (hw : Below w.heap.size w w') (l1 : r.ns.length ≤ L) (l2 : r.ds.length ≤ M) :
    RefP q L M w (.returned (.agg #[.bool r.s, .slice r.N r.ns.length r.nc, .slice r.D r.ds.length r.dc])) (Go.Proofs.YtopppmlkddajjaaGreatDoor.put3 w' g (.bool r.s) (.slice r.N r.ns.length r.nc) (.slice r.D r.ds.length r.dc)) :=
  ⟨r, rfl, hi.put3 hb _ _ _, l1, l2, below_put3 hw hg _ _ _⟩
/-- Two and three boxes. -/
theorem boxes2 (t1 t2 : TypeId) (w : World) (a b c r s t : Value) : BlkT t1 ((w.alloc (.cells #[a, b, c] t1)).alloc (.cells #[r, s, t] t2)) w.heap.size a b c ∧
    BlkT t2 ((w.alloc (.cells #[a, b, c] t1)).alloc (.cells #[r, s, t] t2)) (w.heap.size + 1) r s t ∧ Below w.heap.size w ((w.alloc (.cells #[a, b, c] t1)).alloc (.cells #[r, s, t] t2)) := by
  refine ⟨(BlkT.new t1 w a b c).alloc _, ?_, ((Below.refl _ _).alloc (Nat.le_refl _) _).alloc (by simp) _⟩
  have := BlkT.new t2 (w.alloc (.cells #[a, b, c] t1)) r s t
  rwa [show (w.alloc (.cells #[a, b, c] t1)).heap.size = w.heap.size + 1 by simp] at this

set_option maxRecDepth 100000 in
set_option maxHeartbeats 1600000 in
theorem qof (a : RL) (q : Rat) (w : World) (ha : a.Is w q) (l1 : a.ns.length ≤ 5000) (l2 : a.ds.length ≤ 5000) :
    Calls Tryz.prog 8 #[.agg #[.bool a.s, .slice a.N a.ns.length a.nc, .slice a.D a.ds.length a.dc]] w (RefP q (4 * a.ns.length) (4 * a.ds.length) w) := by
  go_enter Tryz.func8, Tryz.ntmps8
  go_wp2_with fail
  have hbox := boxes2 24 30 w (.bool a.s) (.slice a.N a.ns.length a.nc) (.slice a.D a.ds.length a.dc) (.bool false) (.slice none 0 0) (.slice none 0 0)
  obtain ⟨w1, hwe⟩ : ∃ x, (w.alloc (.cells #[.bool a.s, .slice a.N a.ns.length a.nc, .slice a.D a.ds.length a.dc] 24)).alloc (.cells #[.bool false, .slice none 0 0, .slice none 0 0] 30) = x := ⟨_, rfl⟩
  rw [hwe] at hbox ⊢
  obtain ⟨ka1, kr1, hb1⟩ := hbox
  have HWE := Lib.hid hwe
  clear hwe HWE
  have ha1 := ha.below hb1
  have hw1 := hb1
  clear ha hb1
  obtain ⟨a0, a1, a2, a3, a4, a5, a6⟩ := ka1.facts
  go_upto_region 1 with fail
  go_region_held3 (fun w' => w'.cell? ⟨w.heap.size, 0, none⟩ = some (.bool a.s) ∧ w'.cell? ⟨w.heap.size, 1, none⟩ = some (.slice a.N a.ns.length a.nc) ∧ w'.cell? ⟨w.heap.size, 2, none⟩ = some (.slice a.D a.ds.length a.dc)) (first | exact ⟨‹_›, ‹_›, ‹_›⟩ | go_keep)
    (first
    | (go_at_call_of 39 (Value.slice a.N a.ns.length a.nc)
       refine (of_any a.N a.nc a.ns _ (by first | exact ha1.rn | exact ha1.rn.drew | exact (ha1.rn.below hbyq) | exact (ha1.rn.below hbyq).drew) l1 ha1.mn.1).mono ?_
       rintro e wx_ ⟨X, xc, xs, rfl, hxc, hX, hbx, hvx, mx, hxl⟩
       have HVX := Lib.hid hvx
       clear hvx
       have hbxq : Below w1.heap.size w1 wx_ := by first | exact below_of_drew hbx (Nat.le_refl _) | exact hbx | exact hbyq.trans (hbx.mono hbyq.size) | exact hbyq.trans (below_of_drew hbx hbyq.size)
       obtain ⟨c0wx_, c1wx_, c2wx_, c3wx_, c4wx_, c5wx_, c6wx_⟩ := (ka1.below hbxq).facts
       obtain ⟨d0wx_, d1wx_, d2wx_, d3wx_, d4wx_, d5wx_, d6wx_⟩ := (kr1.below hbxq).facts)
    | (go_at_call_of 39 (Value.slice a.D a.ds.length a.dc)
       refine (of_any a.D a.dc a.ds _ (by first | exact ha1.rd | exact ha1.rd.drew | exact (ha1.rd.below hbxq) | exact (ha1.rd.below hbxq).drew) l2 ha1.md.1).mono ?_
       rintro e wy_ ⟨Y, yc, ys, rfl, hyc, hY, hby, hvy, my, hyl⟩
       have HVY := Lib.hid hvy
       clear hvy
       have hbyq : Below w1.heap.size w1 wy_ := by first | exact below_of_drew hby (Nat.le_refl _) | exact hby | exact hbxq.trans (hby.mono hbxq.size) | exact hbxq.trans (below_of_drew hby hbxq.size)
       obtain ⟨c0wy_, c1wy_, c2wy_, c3wy_, c4wy_, c5wy_, c6wy_⟩ := (ka1.below hbyq).facts
       obtain ⟨d0wy_, d1wy_, d2wy_, d3wy_, d4wy_, d5wy_, d6wy_⟩ := (kr1.below hbyq).facts))
  all_goals
    go_wp2_with fail
    first
      | (refine bodyPost_ret (v := .agg #[.bool a.s, .slice X xs.length xc, .slice Y ys.length yc]) (by simp [results, Tryz.results8, go_sem, d0wy_, d1wy_, d2wy_]) rfl ?_
         exact RefP.put ⟨a.s, X, xc, xs, Y, yc, ys⟩ ⟨hX.below hby, hY, mx, my, by dsimp only; rw [HVX.out, HVY.out]; exact ha1.q⟩ (kr1.below hbyq) (by omega) (hw1.trans (hbyq.mono hw1.size)) hxl hyl)
      | (refine bodyPost_ret (v := .agg #[.bool a.s, .slice X xs.length xc, .slice Y ys.length yc]) (by simp [results, Tryz.results8, go_sem, d0wx_, d1wx_, d2wx_]) rfl ?_
         exact RefP.put ⟨a.s, X, xc, xs, Y, yc, ys⟩ ⟨hX, hY.below hbx, mx, my, by dsimp only; rw [HVX.out, HVY.out]; exact ha1.q⟩ (kr1.below hbxq) (by omega) (hw1.trans (hbxq.mono hw1.size)) hxl hyl)

theorem short_words {xs ys : List Nat} (mx : Mag xs) (h : V32 xs = VD ys) (my : Nm ys) {k : Nat} (hl : ys.length ≤ k) : xs.length ≤ k := by
  refine len_of_lt (B := 4294967296) (by omega) mx.2 ?_
  show V32 xs < _
  rw [h]
  have h1 := val_lt 10000 ys my.1
  have h2 : 10000 ^ ys.length ≤ 10000 ^ k := Nat.pow_le_pow_right (by omega) hl
  have h3 : (10000 : Nat) ^ k ≤ 4294967296 ^ k := Nat.pow_le_pow_left (by omega) k
  unfold VD
  omega

set_option maxRecDepth 100000 in
set_option maxHeartbeats 1600000 in
theorem qto (a : RL) (q : Rat) (w : World) (ha : a.Ref w q) (l1 : a.ns.length ≤ 100000) (l2 : a.ds.length ≤ 100000) :
    Calls Tryz.prog 29 #[.agg #[.bool a.s, .slice a.N a.ns.length a.nc, .slice a.D a.ds.length a.dc]] w (RatP q 100000 w) := by
  go_enter Tryz.func29, Tryz.ntmps29
  go_wp2_with fail
  have hbox := boxes2 30 24 w (.bool a.s) (.slice a.N a.ns.length a.nc) (.slice a.D a.ds.length a.dc) (.bool false) (.slice none 0 0) (.slice none 0 0)
  obtain ⟨w1, hwe⟩ : ∃ x, (w.alloc (.cells #[.bool a.s, .slice a.N a.ns.length a.nc, .slice a.D a.ds.length a.dc] 30)).alloc (.cells #[.bool false, .slice none 0 0, .slice none 0 0] 24) = x := ⟨_, rfl⟩
  rw [hwe] at hbox ⊢
  obtain ⟨ka1, kr1, hb1⟩ := hbox
  have HWE := Lib.hid hwe
  clear hwe HWE
  have ha1 := ha.below hb1
  have hw1 := hb1
  clear ha hb1
  obtain ⟨a0, a1, a2, a3, a4, a5, a6⟩ := ka1.facts
  go_upto_region 1 with fail
  go_region_held3 (fun w' => w'.cell? ⟨w.heap.size, 0, none⟩ = some (.bool a.s) ∧ w'.cell? ⟨w.heap.size, 1, none⟩ = some (.slice a.N a.ns.length a.nc) ∧ w'.cell? ⟨w.heap.size, 2, none⟩ = some (.slice a.D a.ds.length a.dc)) (first | exact ⟨‹_›, ‹_›, ‹_›⟩ | go_keep)
    (first
    | (go_at_call_of 58 (Value.slice a.N a.ns.length a.nc)
       refine (words_any a.N a.nc a.ns _ (by first | exact ha1.rn | exact ha1.rn.drew | exact (ha1.rn.below hbyq) | exact (ha1.rn.below hbyq).drew) l1 ha1.mn).mono ?_
       rintro e wx_ ⟨X, xc, xs, rfl, hxc, hX, hbx, hvx, mx⟩
       have HVX := Lib.hid hvx
       clear hvx
       have hbxq : Below w1.heap.size w1 wx_ := by first | exact below_of_drew hbx (Nat.le_refl _) | exact hbx | exact hbyq.trans (hbx.mono hbyq.size) | exact hbyq.trans (below_of_drew hbx hbyq.size)
       obtain ⟨c0wx_, c1wx_, c2wx_, c3wx_, c4wx_, c5wx_, c6wx_⟩ := (ka1.below hbxq).facts
       obtain ⟨d0wx_, d1wx_, d2wx_, d3wx_, d4wx_, d5wx_, d6wx_⟩ := (kr1.below hbxq).facts)
    | (go_at_call_of 58 (Value.slice a.D a.ds.length a.dc)
       refine (words_any a.D a.dc a.ds _ (by first | exact ha1.rd | exact ha1.rd.drew | exact (ha1.rd.below hbxq) | exact (ha1.rd.below hbxq).drew) l2 ha1.md).mono ?_
       rintro e wy_ ⟨Y, yc, ys, rfl, hyc, hY, hby, hvy, my⟩
       have HVY := Lib.hid hvy
       clear hvy
       have hbyq : Below w1.heap.size w1 wy_ := by first | exact below_of_drew hby (Nat.le_refl _) | exact hby | exact hbxq.trans (hby.mono hbxq.size) | exact hbxq.trans (below_of_drew hby hbxq.size)
       obtain ⟨c0wy_, c1wy_, c2wy_, c3wy_, c4wy_, c5wy_, c6wy_⟩ := (ka1.below hbyq).facts
       obtain ⟨d0wy_, d1wy_, d2wy_, d3wy_, d4wy_, d5wy_, d6wy_⟩ := (kr1.below hbyq).facts))
  all_goals
    go_wp2_with fail
    first
      | (refine bodyPost_ret (v := .agg #[.bool a.s, .slice X xs.length xc, .slice Y ys.length yc]) (by simp [results, Tryz.results29, go_sem, d0wy_, d1wy_, d2wy_]) rfl ?_
         exact RatP.put ⟨a.s, X, xc, xs, Y, yc, ys⟩ ⟨hX.below hby, hY, mx, my, hxc, hyc, by dsimp only; rw [HVX.out, HVY.out]; exact ha1.q⟩ (kr1.below hbyq) (by omega) (hw1.trans (hbyq.mono hw1.size)) (short_words mx HVX.out ha1.mn l1) (short_words my HVY.out ha1.md l2))
      | (refine bodyPost_ret (v := .agg #[.bool a.s, .slice X xs.length xc, .slice Y ys.length yc]) (by simp [results, Tryz.results29, go_sem, d0wx_, d1wx_, d2wx_]) rfl ?_
         exact RatP.put ⟨a.s, X, xc, xs, Y, yc, ys⟩ ⟨hX, hY.below hbx, mx, my, hxc, hyc, by dsimp only; rw [HVX.out, HVY.out]; exact ha1.q⟩ (kr1.below hbxq) (by omega) (hw1.trans (hbxq.mono hw1.size)) (short_words mx HVX.out ha1.mn l1) (short_words my HVY.out ha1.md l2))
end Go.Proofs.YtopppmlkddajjaaGreatDoor


/- isochroneref02's Same, Is, None, Short. -/
namespace Go.Proofs.YtopppmlkddajjaaGreatDoor
open Go.RowKit V

theorem qnone_yes (w : World) : Calls Tryz.prog 25 #[.agg #[.bool false, .slice none 0 0, .slice none 0 0]] w (Yes w) := by
  go_enter Tryz.func25, Tryz.ntmps25
  go_wp2
  go_ret
  exact ⟨rfl, (Below.refl _ _).alloc (Nat.le_refl _) _⟩

theorem qshort_yes (s : Bool) (N D : Option Addr) (n nc d dc k : Nat) (w : World) (h1 : n ≤ k) (h2 : d ≤ k) :
    Calls Tryz.prog 30 #[.agg #[.bool s, .slice N n nc, .slice D d dc], .int .i64 k] w (Yes w) := by
  have h2' : decide ((d : Int) ≤ k) = true := decide_eq_true (by omega)
  go_enter Tryz.func30, Tryz.ntmps30
  go_wp2
  go_ret
  exact ⟨rfl, (Below.refl _ _).alloc (Nat.le_refl _) _⟩
end Go.Proofs.YtopppmlkddajjaaGreatDoor

