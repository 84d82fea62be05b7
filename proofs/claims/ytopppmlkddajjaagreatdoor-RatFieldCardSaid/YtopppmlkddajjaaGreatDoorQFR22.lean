/- rat.signedSum of numbers of any signs, Add, Sub, Mid. -/
import Derived.Test.YtopppmlkddajjaaGreatDoorQFR21
namespace Go.Proofs.YtopppmlkddajjaaGreatDoor
open Go.RowKit V

theorem len_sub {xs zs : List Nat} {y : Nat} (mz : Mag zs) (mx : Mag xs) (h : V32 zs = V32 xs - y) : zs.length ≤ xs.length :=
  len_of_lt (B := 4294967296) (by omega) mz.2 (Nat.lt_of_le_of_lt (by rw [show val 4294967296 zs = V32 zs from rfl, h]; exact Nat.sub_le _ _) (val_lt _ _ mx.1))
set_option maxRecDepth 20000 in
set_option maxHeartbeats 1600000 in
theorem ssum_fg (A B : Option Addr) (ca cb : Nat) (xs ys : List Nat) (w : World) (hx : Rd .u32 w A xs) (hy : Rd .u32 w B ys) (bx : xs.length ≤ 4096) (by_ : ys.length ≤ 4096) (mx : Mag xs) (my : Mag ys) (hc : V32 ys ≤ V32 xs) :
    Calls Tryz.prog 76 #[.bool false, .slice A xs.length ca, .bool true, .slice B ys.length cb] w (SSumP false true xs ys w) := by
  obtain ⟨g, hg, hgs⟩ : ∃ g, Hid (cmpOf (V32 xs) (V32 ys) = g) ∧ 0 ≤ g := ⟨_, Lib.hid rfl, by unfold cmpOf; split; omega; split <;> omega⟩
  have HC := Lib.hid hc
  clear hc
  go_enter Tryz.func76, Tryz.ntmps76
  go_wp2_with fail
  refine (qcompare A B ca cb xs ys _ hx hy (by omega) mx my).mono ?_
  rintro e w1 ⟨he, hb1⟩
  have hx1 := hx.below hb1
  have hy1 := hy.below hb1
  have hw1 := hb1
  clear hx hy hb1
  rw [hg.out] at he
  subst he
  go_wp2_with fail
  refine (qminus A B ca cb xs ys _ hx1 hy1 (by omega) (by omega) mx.1 my.1 HC.out).mono ?_
  rintro e w2 ⟨Z, zc, zs, rfl, hzc, hz2, hb2, hv, mz⟩
  have hx2 := hx1.below hb2
  have hy2 := hy1.below hb2
  have hw2 := hw1.trans (hb2.mono hw1.size)
  clear hx1 hy1 hw1 hb2
  have HV := Lib.hid hv
  clear hv
  have hl := len_sub mz mx HV.out
  go_wp2_with fail
  go_ret2
  exact ⟨_, Z, zc, zs, rfl, hzc, hz2, mz, by show _ = _; rw [HV.out]; have := HC.out; simp [sgn]; omega, by omega, hw2⟩
set_option maxRecDepth 20000 in
set_option maxHeartbeats 1600000 in
theorem ssum_fl (A B : Option Addr) (ca cb : Nat) (xs ys : List Nat) (w : World) (hx : Rd .u32 w A xs) (hy : Rd .u32 w B ys) (bx : xs.length ≤ 4096) (by_ : ys.length ≤ 4096) (mx : Mag xs) (my : Mag ys) (hc : V32 xs < V32 ys) :
    Calls Tryz.prog 76 #[.bool false, .slice A xs.length ca, .bool true, .slice B ys.length cb] w (SSumP false true xs ys w) := by
  obtain ⟨g, hg, hgs⟩ : ∃ g, Hid (cmpOf (V32 xs) (V32 ys) = g) ∧ g < 0 := ⟨_, Lib.hid rfl, by unfold cmpOf; rw [if_pos (by omega)]; omega⟩
  have HC := Lib.hid hc
  clear hc
  go_enter Tryz.func76, Tryz.ntmps76
  go_wp2_with fail
  refine (qcompare A B ca cb xs ys _ hx hy (by omega) mx my).mono ?_
  rintro e w1 ⟨he, hb1⟩
  have hx1 := hx.below hb1
  have hy1 := hy.below hb1
  have hw1 := hb1
  clear hx hy hb1
  rw [hg.out] at he
  subst he
  go_wp2_with fail
  refine (qminus B A cb ca ys xs _ hy1 hx1 (by omega) (by omega) my.1 mx.1 (by have := HC.out; omega)).mono ?_
  rintro e w2 ⟨Z, zc, zs, rfl, hzc, hz2, hb2, hv, mz⟩
  have hx2 := hx1.below hb2
  have hy2 := hy1.below hb2
  have hw2 := hw1.trans (hb2.mono hw1.size)
  clear hx1 hy1 hw1 hb2
  have HV := Lib.hid hv
  clear hv
  have hl := len_sub mz my HV.out
  go_wp2_with fail
  go_ret2
  exact ⟨_, Z, zc, zs, rfl, hzc, hz2, mz, by show _ = _; rw [HV.out]; have := HC.out; simp [sgn]; omega, by omega, hw2⟩
set_option maxRecDepth 20000 in
set_option maxHeartbeats 1600000 in
theorem ssum_tg (A B : Option Addr) (ca cb : Nat) (xs ys : List Nat) (w : World) (hx : Rd .u32 w A xs) (hy : Rd .u32 w B ys) (bx : xs.length ≤ 4096) (by_ : ys.length ≤ 4096) (mx : Mag xs) (my : Mag ys) (hc : V32 ys ≤ V32 xs) :
    Calls Tryz.prog 76 #[.bool true, .slice A xs.length ca, .bool false, .slice B ys.length cb] w (SSumP true false xs ys w) := by
  obtain ⟨g, hg, hgs⟩ : ∃ g, Hid (cmpOf (V32 xs) (V32 ys) = g) ∧ 0 ≤ g := ⟨_, Lib.hid rfl, by unfold cmpOf; split; omega; split <;> omega⟩
  have HC := Lib.hid hc
  clear hc
  go_enter Tryz.func76, Tryz.ntmps76
  go_wp2_with fail
  refine (qcompare A B ca cb xs ys _ hx hy (by omega) mx my).mono ?_
  rintro e w1 ⟨he, hb1⟩
  have hx1 := hx.below hb1
  have hy1 := hy.below hb1
  have hw1 := hb1
  clear hx hy hb1
  rw [hg.out] at he
  subst he
  go_wp2_with fail
  refine (qminus A B ca cb xs ys _ hx1 hy1 (by omega) (by omega) mx.1 my.1 HC.out).mono ?_
  rintro e w2 ⟨Z, zc, zs, rfl, hzc, hz2, hb2, hv, mz⟩
  have hx2 := hx1.below hb2
  have hy2 := hy1.below hb2
  have hw2 := hw1.trans (hb2.mono hw1.size)
  clear hx1 hy1 hw1 hb2
  have HV := Lib.hid hv
  clear hv
  have hl := len_sub mz mx HV.out
  go_wp2_with fail
  go_ret2
  exact ⟨_, Z, zc, zs, rfl, hzc, hz2, mz, by show _ = _; rw [HV.out]; have := HC.out; simp [sgn]; omega, by omega, hw2⟩
set_option maxRecDepth 20000 in
set_option maxHeartbeats 1600000 in
theorem ssum_tl (A B : Option Addr) (ca cb : Nat) (xs ys : List Nat) (w : World) (hx : Rd .u32 w A xs) (hy : Rd .u32 w B ys) (bx : xs.length ≤ 4096) (by_ : ys.length ≤ 4096) (mx : Mag xs) (my : Mag ys) (hc : V32 xs < V32 ys) :
    Calls Tryz.prog 76 #[.bool true, .slice A xs.length ca, .bool false, .slice B ys.length cb] w (SSumP true false xs ys w) := by
  obtain ⟨g, hg, hgs⟩ : ∃ g, Hid (cmpOf (V32 xs) (V32 ys) = g) ∧ g < 0 := ⟨_, Lib.hid rfl, by unfold cmpOf; rw [if_pos (by omega)]; omega⟩
  have HC := Lib.hid hc
  clear hc
  go_enter Tryz.func76, Tryz.ntmps76
  go_wp2_with fail
  refine (qcompare A B ca cb xs ys _ hx hy (by omega) mx my).mono ?_
  rintro e w1 ⟨he, hb1⟩
  have hx1 := hx.below hb1
  have hy1 := hy.below hb1
  have hw1 := hb1
  clear hx hy hb1
  rw [hg.out] at he
  subst he
  go_wp2_with fail
  refine (qminus B A cb ca ys xs _ hy1 hx1 (by omega) (by omega) my.1 mx.1 (by have := HC.out; omega)).mono ?_
  rintro e w2 ⟨Z, zc, zs, rfl, hzc, hz2, hb2, hv, mz⟩
  have hx2 := hx1.below hb2
  have hy2 := hy1.below hb2
  have hw2 := hw1.trans (hb2.mono hw1.size)
  clear hx1 hy1 hw1 hb2
  have HV := Lib.hid hv
  clear hv
  have hl := len_sub mz my HV.out
  go_wp2_with fail
  go_ret2
  exact ⟨_, Z, zc, zs, rfl, hzc, hz2, mz, by show _ = _; rw [HV.out]; have := HC.out; simp [sgn]; omega, by omega, hw2⟩
theorem ssum_any (s1 s2 : Bool) : SSumC s1 s2 := by
  cases s1 <;> cases s2
  · exact ssum_same false
  · intro A B ca cb xs ys w hx hy bx by_ mx my
    rcases Nat.lt_or_ge (V32 xs) (V32 ys) with h | h
    · exact ssum_fl A B ca cb xs ys w hx hy bx by_ mx my h
    · exact ssum_fg A B ca cb xs ys w hx hy bx by_ mx my h
  · intro A B ca cb xs ys w hx hy bx by_ mx my
    rcases Nat.lt_or_ge (V32 xs) (V32 ys) with h | h
    · exact ssum_tl A B ca cb xs ys w hx hy bx by_ mx my h
    · exact ssum_tg A B ca cb xs ys w hx hy bx by_ mx my h
  · exact ssum_same true
theorem sum_any (a b : RL) (p q : Rat) (w : World) (ha : a.Is w p) (hb_ : b.Is w q) (bl : a.ns.length + a.ds.length + b.ns.length + b.ds.length ≤ 2000) :
    Calls Tryz.prog 42 #[.agg #[.bool a.s, .slice a.N a.ns.length a.nc, .slice a.D a.ds.length a.dc], .agg #[.bool b.s, .slice b.N b.ns.length b.nc, .slice b.D b.ds.length b.dc]] w (RatP (p + q) (a.ns.length + a.ds.length + b.ns.length + b.ds.length + 1) w) := sum_of a b p q w ha hb_ bl (ssum_any _ _)
theorem Add_any (a b : RL) (p q : Rat) (w : World) (ha : a.Is w p) (hb_ : b.Is w q) (bl : a.ns.length + a.ds.length + b.ns.length + b.ds.length ≤ 2000) :
    Calls Tryz.prog 9 #[.agg #[.bool a.s, .slice a.N a.ns.length a.nc, .slice a.D a.ds.length a.dc], .agg #[.bool b.s, .slice b.N b.ns.length b.nc, .slice b.D b.ds.length b.dc]] w (RatOk (p + q) (a.ns.length + a.ds.length + b.ns.length + b.ds.length + 1) w) := 
  Add_of a b p q w ha hb_ bl (ssum_any _ _) (fun W h => qvalid_yes a p W h (by omega) (by omega)) (fun W h => qvalid_yes b q W h (by omega) (by omega))
set_option maxRecDepth 100000 in
set_option maxHeartbeats 3200000 in
theorem Mid_any (a b : RL) (p q : Rat) (w : World) (ha : a.Is w p) (hb_ : b.Is w q) (bl : a.ns.length + a.ds.length + b.ns.length + b.ds.length ≤ 1000) :
    Calls Tryz.prog 14 #[.agg #[.bool a.s, .slice a.N a.ns.length a.nc, .slice a.D a.ds.length a.dc], .agg #[.bool b.s, .slice b.N b.ns.length b.nc, .slice b.D b.ds.length b.dc]] w (RatOk ((p + q) / 2) 4096 w) := by
  go_enter Tryz.func14, Tryz.ntmps14
  go_wp2_with fail
  have hbox := box2r w (.bool a.s) (.slice a.N a.ns.length a.nc) (.slice a.D a.ds.length a.dc) (.bool b.s) (.slice b.N b.ns.length b.nc) (.slice b.D b.ds.length b.dc) (.bool false) (.slice none 0 0) (.slice none 0 0)
  obtain ⟨w1, hwe⟩ : ∃ x, ((w.alloc (.cells #[.bool a.s, .slice a.N a.ns.length a.nc, .slice a.D a.ds.length a.dc] 24)).alloc (.cells #[.bool b.s, .slice b.N b.ns.length b.nc, .slice b.D b.ds.length b.dc] 24)).alloc (.cells #[.bool false, .slice none 0 0, .slice none 0 0] 24) = x := ⟨_, rfl⟩
  rw [hwe] at hbox ⊢
  obtain ⟨ka1, kb1, kr1, hb1⟩ := hbox
  have HWE := Lib.hid hwe
  clear hwe HWE
  have ha1 := ha.below hb1
  have hb_1 := hb_.below hb1
  have hw1 := hb1
  clear ha hb_ hb1
  obtain ⟨a0, a1, a2, a3, a4, a5, a6⟩ := ka1.facts
  go_wp2_with fail
  refine (qvalid_yes a p _ ha1 (by omega) (by omega)).mono ?_
  rintro e w2 ⟨rfl, hb2⟩
  have ha2 := ha1.below hb2
  have hb_2 := hb_1.below hb2
  have ka2 := ka1.below hb2
  have kb2 := kb1.below hb2
  have kr2 := kr1.below hb2
  have hw2 := hw1.trans (hb2.mono hw1.size)
  clear ha1 hb_1 ka1 kb1 kr1 hw1 hb2
  clear a0 a1 a2 a3 a4 a5 a6
  obtain ⟨b0, b1, b2, b3, b4, b5, b6⟩ := kb2.facts
  go_wp2_with fail
  refine (qvalid_yes b q _ hb_2 (by omega) (by omega)).mono ?_
  rintro e w3 ⟨rfl, hb3⟩
  have ha3 := ha2.below hb3
  have hb_3 := hb_2.below hb3
  have ka3 := ka2.below hb3
  have kb3 := kb2.below hb3
  have kr3 := kr2.below hb3
  have hw3 := hw2.trans (hb3.mono hw2.size)
  clear ha2 hb_2 ka2 kb2 kr2 hw2 hb3
  clear b0 b1 b2 b3 b4 b5 b6
  obtain ⟨a0, a1, a2, a3, a4, a5, a6⟩ := ka3.facts
  obtain ⟨b0, b1, b2, b3, b4, b5, b6⟩ := kb3.facts
  go_wp2_with fail
  refine (sum_any a b p q _ ha3 hb_3 (by omega)).mono ?_
  rintro e w4 ⟨r, rfl, hr4, hrl1, hrl2, hb4⟩
  have ha4 := ha3.below hb4
  have hb_4 := hb_3.below hb4
  have ka4 := ka3.below hb4
  have kb4 := kb3.below hb4
  have kr4 := kr3.below hb4
  have hw4 := hw3.trans (hb4.mono hw3.size)
  clear ha3 hb_3 ka3 kb3 kr3 hw3 hb4
  clear a0 a1 a2 a3 a4 a5 a6
  clear b0 b1 b2 b3 b4 b5 b6
  go_wp2_with fail
  refine (half_of r (p + q) _ hr4 (by omega)).mono ?_
  rintro e w5 ⟨m, rfl, hm5, hml1, hml2, hb5⟩
  have ha5 := ha4.below hb5
  have hb_5 := hb_4.below hb5
  have ka5 := ka4.below hb5
  have kb5 := kb4.below hb5
  have kr5 := kr4.below hb5
  have hr5 := hr4.below hb5
  have hw5 := hw4.trans (hb5.mono hw4.size)
  clear ha4 hb_4 ka4 kb4 kr4 hr4 hw4 hb5
  go_wp2_with fail
  refine (qfit m _ 4096 _ hm5 (by omega) (by omega) (by omega)).mono ?_
  rintro e w6 ⟨t, rfl, ht6, htl1, htl2, hb6⟩
  have ha6 := ha5.below hb6
  have hb_6 := hb_5.below hb6
  have ka6 := ka5.below hb6
  have kb6 := kb5.below hb6
  have kr6 := kr5.below hb6
  have hr6 := hr5.below hb6
  have hm6 := hm5.below hb6
  have hw6 := hw5.trans (hb6.mono hw5.size)
  clear ha5 hb_5 ka5 kb5 kr5 hr5 hm5 hw5 hb6
  obtain ⟨c0, c1, c2, c3, c4, c5, c6⟩ := kr6.facts
  go_wp2_with fail
  refine bodyPost_ret (v := .tuple #[.agg #[.bool t.s, .slice t.N t.ns.length t.nc, .slice t.D t.ds.length t.dc], .int .i64 0]) (by simp [results, Tryz.results14, go_sem, c0, c1, c2]) rfl ?_
  exact RatOk.put t ht6 kr6 (by omega) hw6 htl1 htl2
set_option maxRecDepth 100000 in
set_option maxHeartbeats 3200000 in
theorem Sub_any (a b : RL) (p q : Rat) (w : World) (ha : a.Is w p) (hb_ : b.Is w q) (bl : a.ns.length + a.ds.length + b.ns.length + b.ds.length ≤ 2000) :
    Calls Tryz.prog 10 #[.agg #[.bool a.s, .slice a.N a.ns.length a.nc, .slice a.D a.ds.length a.dc], .agg #[.bool b.s, .slice b.N b.ns.length b.nc, .slice b.D b.ds.length b.dc]] w (RatOk (p - q) (a.ns.length + a.ds.length + b.ns.length + b.ds.length + 1) w) := by
  go_enter Tryz.func10, Tryz.ntmps10
  go_wp2_with fail
  have hbox := box2r w (.bool a.s) (.slice a.N a.ns.length a.nc) (.slice a.D a.ds.length a.dc) (.bool b.s) (.slice b.N b.ns.length b.nc) (.slice b.D b.ds.length b.dc) (.bool false) (.slice none 0 0) (.slice none 0 0)
  obtain ⟨w1, hwe⟩ : ∃ x, ((w.alloc (.cells #[.bool a.s, .slice a.N a.ns.length a.nc, .slice a.D a.ds.length a.dc] 24)).alloc (.cells #[.bool b.s, .slice b.N b.ns.length b.nc, .slice b.D b.ds.length b.dc] 24)).alloc (.cells #[.bool false, .slice none 0 0, .slice none 0 0] 24) = x := ⟨_, rfl⟩
  rw [hwe] at hbox ⊢
  obtain ⟨ka1, kb1, kr1, hb1⟩ := hbox
  have HWE := Lib.hid hwe
  clear hwe HWE
  have ha1 := ha.below hb1
  have hb_1 := hb_.below hb1
  have hw1 := hb1
  clear ha hb_ hb1
  obtain ⟨a0, a1, a2, a3, a4, a5, a6⟩ := ka1.facts
  go_wp2_with fail
  refine (qvalid_yes a p _ ha1 (by omega) (by omega)).mono ?_
  rintro e w2 ⟨rfl, hb2⟩
  have ha2 := ha1.below hb2
  have hb_2 := hb_1.below hb2
  have ka2 := ka1.below hb2
  have kb2 := kb1.below hb2
  have kr2 := kr1.below hb2
  have hw2 := hw1.trans (hb2.mono hw1.size)
  clear ha1 hb_1 ka1 kb1 kr1 hw1 hb2
  clear a0 a1 a2 a3 a4 a5 a6
  obtain ⟨b0, b1, b2, b3, b4, b5, b6⟩ := kb2.facts
  go_wp2_with fail
  refine (qvalid_yes b q _ hb_2 (by omega) (by omega)).mono ?_
  rintro e w3 ⟨rfl, hb3⟩
  have ha3 := ha2.below hb3
  have hb_3 := hb_2.below hb3
  have ka3 := ka2.below hb3
  have kb3 := kb2.below hb3
  have kr3 := kr2.below hb3
  have hw3 := hw2.trans (hb3.mono hw2.size)
  clear ha2 hb_2 ka2 kb2 kr2 hw2 hb3
  clear b0 b1 b2 b3 b4 b5 b6
  have e1 : ¬ (w.heap.size = w.heap.size + 1 + 1) := by omega
  have e2 : ¬ (w.heap.size + 1 + 1 = w.heap.size) := by omega
  obtain ⟨a0, a1, a2, a3, a4, a5, a6⟩ := ka3.facts
  obtain ⟨b0, b1, b2, b3, b4, b5, b6⟩ := kb3.facts
  have hneg : RL.Is w3 ⟨!b.s && decide (0 < b.ns.length), b.N, b.nc, b.ns, b.D, b.dc, b.ds⟩ (-q) := by
    have h1 := neg_q hb_3.q
    rw [← dec_len hb_3.mn] at h1
    exact ⟨hb_3.rn, hb_3.rd, hb_3.mn, hb_3.md, hb_3.cn, hb_3.cd, h1⟩
  have hi3 := hneg
  clear hneg
  go_upto_region 3 with fail
  go_region_held3 (fun w' => w'.cell? ⟨w.heap.size, 0, none⟩ = some (.bool a.s) ∧ w'.cell? ⟨w.heap.size, 1, none⟩ = some (.slice a.N a.ns.length a.nc) ∧ w'.cell? ⟨w.heap.size, 2, none⟩ = some (.slice a.D a.ds.length a.dc) ∧ w'.cell? ⟨w.heap.size + 1, 0, none⟩ = some (.bool b.s) ∧ w'.cell? ⟨w.heap.size + 1, 1, none⟩ = some (.slice b.N b.ns.length b.nc) ∧ w'.cell? ⟨w.heap.size + 1, 2, none⟩ = some (.slice b.D b.ds.length b.dc)) (first | exact ⟨‹_›, ‹_›, ‹_›, ‹_›, ‹_›, ‹_›⟩ | go_keep)
    (first
    | (go_at_call 43
       refine (qopposite b.s b.N b.D b.ns.length b.nc b.ds.length b.dc _).mono ?_
       rintro e wx_ ⟨rfl, hbx⟩
       have hbp0 : Below w3.heap.size w3 wx_ := by first | exact hbx | exact below_of_drew hbx (Nat.le_refl _) | exact ((Below.refl _ _).alloc (Nat.le_refl _) _).trans (hbx.mono (by simp)) | exact ((Below.refl _ _).alloc (Nat.le_refl _) _).trans ((below_of_drew hbx (Nat.le_refl _)).mono (by simp)) | exact below_of_drew (((Below.refl _ _).alloc (Nat.le_refl _) _).trans (hbx.mono (by simp))) (Nat.le_refl _)
       have ha_0 := ha3.below hbp0
       have hi_0 := hi3.below hbp0
       have ka_0 := ka3.below hbp0
       obtain ⟨ka0wx_, ka1wx_, ka2wx_, ka3wx_, ka4wx_, ka5wx_, ka6wx_⟩ := ka_0.facts
       have kb_0 := kb3.below hbp0
       obtain ⟨kb0wx_, kb1wx_, kb2wx_, kb3wx_, kb4wx_, kb5wx_, kb6wx_⟩ := kb_0.facts
       have kr_0 := kr3.below hbp0
       obtain ⟨kr0wx_, kr1wx_, kr2wx_, kr3wx_, kr4wx_, kr5wx_, kr6wx_⟩ := kr_0.facts
       have hwq0 := hw3.trans (hbp0.mono hw3.size))
    | (go_at_call 42
       refine (sum_any a ⟨!b.s && decide (0 < b.ns.length), b.N, b.nc, b.ns, b.D, b.dc, b.ds⟩ p (-q) _ (by first | exact ha_0 | exact ha_0.drew | exact ha_0.alloc _ | exact (ha_0.alloc _).drew | exact ha_0.drew.alloc _) (by first | exact hi_0 | exact hi_0.drew | exact hi_0.alloc _ | exact (hi_0.alloc _).drew | exact hi_0.drew.alloc _) (by dsimp only; omega)).mono ?_
       rintro e wy_ ⟨r, rfl, hr, hrl1, hrl2, hby⟩
       dsimp only at hrl1 hrl2
       have hbp1 : Below wx_.heap.size wx_ wy_ := by first | exact hby | exact below_of_drew hby (Nat.le_refl _) | exact ((Below.refl _ _).alloc (Nat.le_refl _) _).trans (hby.mono (by simp)) | exact ((Below.refl _ _).alloc (Nat.le_refl _) _).trans ((below_of_drew hby (Nat.le_refl _)).mono (by simp)) | exact below_of_drew (((Below.refl _ _).alloc (Nat.le_refl _) _).trans (hby.mono (by simp))) (Nat.le_refl _)
       have ha_1 := ha_0.below hbp1
       have hi_1 := hi_0.below hbp1
       have ka_1 := ka_0.below hbp1
       obtain ⟨ka0wy_, ka1wy_, ka2wy_, ka3wy_, ka4wy_, ka5wy_, ka6wy_⟩ := ka_1.facts
       have kb_1 := kb_0.below hbp1
       obtain ⟨kb0wy_, kb1wy_, kb2wy_, kb3wy_, kb4wy_, kb5wy_, kb6wy_⟩ := kb_1.facts
       have kr_1 := kr_0.below hbp1
       obtain ⟨kr0wy_, kr1wy_, kr2wy_, kr3wy_, kr4wy_, kr5wy_, kr6wy_⟩ := kr_1.facts
       have hwq1 := hwq0.trans (hbp1.mono hwq0.size))
    | (go_at_call 41
       refine (qfit r _ (a.ns.length + a.ds.length + b.ns.length + b.ds.length + 1) _ (by first | exact hr | exact hr.drew | exact hr.alloc _ | exact (hr.alloc _).drew | exact hr.drew.alloc _) (by omega) (by omega) (by omega)).mono ?_
       rintro e wz_ ⟨t, rfl, ht, htl1, htl2, hbz⟩
       have hbp2 : Below wy_.heap.size wy_ wz_ := by first | exact hbz | exact below_of_drew hbz (Nat.le_refl _) | exact ((Below.refl _ _).alloc (Nat.le_refl _) _).trans (hbz.mono (by simp)) | exact ((Below.refl _ _).alloc (Nat.le_refl _) _).trans ((below_of_drew hbz (Nat.le_refl _)).mono (by simp)) | exact below_of_drew (((Below.refl _ _).alloc (Nat.le_refl _) _).trans (hbz.mono (by simp))) (Nat.le_refl _)
       have ha_2 := ha_1.below hbp2
       have hi_2 := hi_1.below hbp2
       have hr_2 := hr.below hbp2
       have ka_2 := ka_1.below hbp2
       obtain ⟨ka0wz_, ka1wz_, ka2wz_, ka3wz_, ka4wz_, ka5wz_, ka6wz_⟩ := ka_2.facts
       have kb_2 := kb_1.below hbp2
       obtain ⟨kb0wz_, kb1wz_, kb2wz_, kb3wz_, kb4wz_, kb5wz_, kb6wz_⟩ := kb_2.facts
       have kr_2 := kr_1.below hbp2
       obtain ⟨kr0wz_, kr1wz_, kr2wz_, kr3wz_, kr4wz_, kr5wz_, kr6wz_⟩ := kr_2.facts
       have hwq2 := hwq1.trans (hbp2.mono hwq1.size)))
  all_goals
    go_wp2_with fail
    refine bodyPost_ret (v := .tuple #[.agg #[.bool t.s, .slice t.N t.ns.length t.nc, .slice t.D t.ds.length t.dc], .int .i64 0]) (by simp [results, Tryz.results10, go_sem, kr0wz_, kr1wz_, kr2wz_]) rfl ?_
    rw [Rat.sub_eq_add_neg]
    exact RatOk.put t ht kr_2 (by omega) hwq2 htl1 htl2
end Go.Proofs.YtopppmlkddajjaaGreatDoor

