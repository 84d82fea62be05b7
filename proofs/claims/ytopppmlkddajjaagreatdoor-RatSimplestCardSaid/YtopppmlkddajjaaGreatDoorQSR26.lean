/- rat.between. -/
import Derived.Test.YtopppmlkddajjaaGreatDoorQSR25
namespace Go.Proofs.YtopppmlkddajjaaGreatDoor
open Go.RowKit V
theorem mag_nil_ : Mag [] := ⟨fun _ h => by simp at h, nrm_nil⟩
theorem ext_any (A B C D X : Nat) (f : FL) (g : Nat) (w : World) (hf : f.In w g) (hF : Frac A B C D X (V32 f.an.xs) (V32 f.ad.xs) (V32 f.bn.xs) (V32 f.bd.xs) (V32 f.vn.xs) (V32 f.vd.xs) (V32 f.un.xs) (V32 f.ud.xs)) (hX : X < 4294967296 ^ 12) :
    Calls Tryz.prog 86 #[.pointer (some ⟨g, 0, none⟩)] w (ExtP A B C D X f g w) := by
  by_cases hr : V32 f.an.xs % V32 f.ad.xs = 0
  · exact ext_low A B C D X f g w hf hF hX hr
  · rcases Nat.lt_or_ge (V32 f.bn.xs - V32 f.an.xs / V32 f.ad.xs * V32 f.bd.xs) (V32 f.bd.xs) with hc | hc
    · exact ext_next A B C D X f g w hf hF hX hr hc
    · exact ext_up A B C D X f g w hf hF hX hr hc
/-- The simplest number between two. -/
def BetP (A B C D X : Nat) (w : World) (e : Ending) (w' : World) : Prop :=
  ∃ r : RL, e = .returned (.agg #[.bool r.s, .slice r.N r.ns.length r.nc, .slice r.D r.ds.length r.dc]) ∧ r.s = false ∧ r.Is w' (mkRat ((V32 r.ns : Nat) : Int) (V32 r.ds)) ∧ Simp A B C D (V32 r.ns) (V32 r.ds) ∧ V32 r.ns ≤ X ∧ V32 r.ds ≤ X ∧ Below w.heap.size w w'
set_option maxRecDepth 100000 in
set_option maxHeartbeats 6400000 in
theorem between_of (a b : RL) (p q : Rat) (X : Nat) (w : World) (ha : a.Is w p) (hb_ : b.Is w q) (hX : X < 4294967296 ^ 12) (x1 : V32 a.ns ≤ X) (x2 : V32 a.ds ≤ X) (x3 : V32 b.ns ≤ X) (x4 : V32 b.ds ≤ X) (hpos : 1 ≤ V32 a.ns) (hlt : V32 a.ns * V32 b.ds < V32 b.ns * V32 a.ds) :
    Calls Tryz.prog 56 #[.agg #[.bool a.s, .slice a.N a.ns.length a.nc, .slice a.D a.ds.length a.dc], .agg #[.bool b.s, .slice b.N b.ns.length b.nc, .slice b.D b.ds.length b.dc]] w (BetP (V32 a.ns) (V32 a.ds) (V32 b.ns) (V32 b.ds) X w) := by
  have HFR := Lib.hid (Frac.first (X := X) hpos ha.q.pos hb_.q.pos hlt x1 x2 x3 x4)
  have HFR0 := HFR
  have HX := Lib.hid hX
  clear hX x1 x2 x3 x4 hpos hlt
  go_enter Tryz.func56, Tryz.ntmps56
  go_wp2_with fail
  have hbox := box2r w (.bool a.s) (.slice a.N a.ns.length a.nc) (.slice a.D a.ds.length a.dc) (.bool b.s) (.slice b.N b.ns.length b.nc) (.slice b.D b.ds.length b.dc) (.bool false) (.slice none 0 0) (.slice none 0 0)
  obtain ⟨w1, hwe⟩ : ∃ x, ((w.alloc (.cells #[.bool a.s, .slice a.N a.ns.length a.nc, .slice a.D a.ds.length a.dc] 24)).alloc (.cells #[.bool b.s, .slice b.N b.ns.length b.nc, .slice b.D b.ds.length b.dc] 24)).alloc (.cells #[.bool false, .slice none 0 0, .slice none 0 0] 24) = x := ⟨_, rfl⟩
  rw [hwe] at hbox ⊢
  obtain ⟨ka1, kb1, kr1, hb1⟩ := hbox
  have HWE := Lib.hid hwe
  clear hwe HWE
  have ha1 := ha.below hb1
  have hb_1 := hb_.below hb1
  have hw1 := hb1
  clear ha hb_ hb1
  obtain ⟨a0, a1, a2, a3, a4, a5, a6⟩ := ka1.facts
  obtain ⟨b0, b1, b2, b3, b4, b5, b6⟩ := kb1.facts
  go_upto_region 1 with fail
  go_cut [5] (fun s5 wx => ∃ (g : Nat) (f : FL), s5 = .pointer (some ⟨g, 0, none⟩) ∧ FL.In wx g f ∧ Frac (V32 a.ns) (V32 a.ds) (V32 b.ns) (V32 b.ds) X (V32 f.an.xs) (V32 f.ad.xs) (V32 f.bn.xs) (V32 f.bd.xs) (V32 f.vn.xs) (V32 f.vd.xs) (V32 f.un.xs) (V32 f.ud.xs) ∧ w1.heap.size ≤ g ∧ Blk3 wx (w.heap.size + 2) (.bool false) (.slice none 0 0) (.slice none 0 0) ∧ Below w1.heap.size w1 wx)
  case first =>
    refine wp_region_held_drew (S := fun w' => w'.cell? ⟨w.heap.size, 1, none⟩ = some (.slice a.N a.ns.length a.nc) ∧ w'.cell? ⟨w.heap.size, 2, none⟩ = some (.slice a.D a.ds.length a.dc) ∧ w'.cell? ⟨w.heap.size + 1, 1, none⟩ = some (.slice b.N b.ns.length b.nc) ∧ w'.cell? ⟨w.heap.size + 1, 2, none⟩ = some (.slice b.D b.ds.length b.dc)) (by kernel_rfl) ?_ (fun hHeld => ?_)
    · first | exact ⟨ka1.facts.c1, ka1.facts.c2, kb1.facts.c1, kb1.facts.c2⟩ | exact ⟨‹_›, ‹_›, ‹_›, ‹_›⟩ | go_keep
    refine wpAnyH_take (i := 0) (v := ?v0) rfl (by kernel_rfl) (by kernel_rfl) (by kernel_rfl) (fun _ _ _ h => h) (Or.inl ⟨by rfl, ?hy0⟩) (by assumption) ?rest0
    case hy0 =>
      intro w hSw
      (try dsimp only at hSw)
      go_simp
      all_goals with_reducible rfl
    simp only [Act.put, List.getElem_toArray, List.getElem_cons_zero, List.setIfInBounds_toArray, List.set_cons_zero, List.set_cons_succ]
    refine wpAnyH_take (i := 1) (v := ?v1) rfl (by kernel_rfl) (by kernel_rfl) (by kernel_rfl) (fun _ _ _ h => h) (Or.inl ⟨by rfl, ?hy1⟩) (by assumption) ?rest1
    case hy1 =>
      intro w hSw
      (try dsimp only at hSw)
      go_simp
      all_goals with_reducible rfl
    simp only [Act.put, List.getElem_toArray, List.getElem_cons_zero, List.getElem_cons_succ, List.setIfInBounds_toArray, List.set_cons_zero, List.set_cons_succ]
    refine wpAnyH_take (i := 2) (v := ?v2) rfl (by kernel_rfl) (by kernel_rfl) (by kernel_rfl) (fun _ _ _ h => h) (Or.inl ⟨by rfl, ?hy2⟩) (by assumption) ?rest2
    case hy2 =>
      intro w hSw
      (try dsimp only at hSw)
      go_simp
      all_goals with_reducible rfl
    simp only [Act.put, List.getElem_toArray, List.getElem_cons_zero, List.getElem_cons_succ, List.setIfInBounds_toArray, List.set_cons_zero, List.set_cons_succ]
    refine wpAnyH_take (i := 3) (v := ?v3) rfl (by kernel_rfl) (by kernel_rfl) (by kernel_rfl) (fun _ _ _ h => h) (Or.inl ⟨by rfl, ?hy3⟩) (by assumption) ?rest3
    case hy3 =>
      intro w hSw
      (try dsimp only at hSw)
      go_simp
      all_goals with_reducible rfl
    simp only [Act.put, List.getElem_toArray, List.getElem_cons_zero, List.getElem_cons_succ, List.setIfInBounds_toArray, List.set_cons_zero, List.set_cons_succ]
    refine wpAnyH_take (i := 4) (v := ?v4) rfl (by kernel_rfl) (by kernel_rfl) (by kernel_rfl) (fun _ _ _ h => h) (Or.inl ⟨by rfl, ?hy4⟩) (by assumption) ?rest4
    case hy4 =>
      intro w hSw
      (try dsimp only at hSw)
      go_simp
      all_goals with_reducible rfl
    simp only [Act.put, List.getElem_toArray, List.getElem_cons_zero, List.getElem_cons_succ, List.setIfInBounds_toArray, List.set_cons_zero, List.set_cons_succ]
    refine wpAnyH_take (i := 5) (v := ?v5) rfl (by kernel_rfl) (by kernel_rfl) (by kernel_rfl) (fun _ _ _ h => h) (Or.inl ⟨by rfl, ?hy5⟩) (by assumption) ?rest5
    case hy5 =>
      intro w hSw
      (try dsimp only at hSw)
      go_simp
      all_goals with_reducible rfl
    simp only [Act.put, List.getElem_toArray, List.getElem_cons_zero, List.getElem_cons_succ, List.setIfInBounds_toArray, List.set_cons_zero, List.set_cons_succ]
    refine wpAnyH_take (i := 6) (v := ?v6) rfl (by kernel_rfl) (by kernel_rfl) (by kernel_rfl) (fun _ _ _ h => h) (Or.inl ⟨by rfl, ?hy6⟩) (by assumption) ?rest6
    case hy6 =>
      intro w hSw
      (try dsimp only at hSw)
      go_simp
      all_goals with_reducible rfl
    simp only [Act.put, List.getElem_toArray, List.getElem_cons_zero, List.getElem_cons_succ, List.setIfInBounds_toArray, List.set_cons_zero, List.set_cons_succ]
    refine wpAnyH_take (i := 7) (v := ?v7) rfl (by kernel_rfl) (by kernel_rfl) (by kernel_rfl) (fun _ _ _ h => h) (Or.inl ⟨by rfl, ?hy7⟩) (by assumption) ?rest7
    case hy7 =>
      intro w hSw
      (try dsimp only at hSw)
      go_simp
      all_goals with_reducible rfl
    simp only [Act.put, List.getElem_toArray, List.getElem_cons_zero, List.getElem_cons_succ, List.setIfInBounds_toArray, List.set_cons_zero, List.set_cons_succ]
    refine wpAnyH_take (i := 8) (v := ?v8) rfl (by kernel_rfl) (by kernel_rfl) (by kernel_rfl) (fun _ _ _ h => h) (Or.inl ⟨by rfl, ?hy8⟩) (by assumption) ?rest8
    case hy8 =>
      intro w hSw
      (try dsimp only at hSw)
      go_simp
      all_goals with_reducible rfl
    simp only [Act.put, List.getElem_toArray, List.getElem_cons_zero, List.getElem_cons_succ, List.setIfInBounds_toArray, List.set_cons_zero, List.set_cons_succ]
    refine wpAnyH_take (i := 9) (v := ?v9) rfl (by kernel_rfl) (by kernel_rfl) (by kernel_rfl) (fun _ _ _ h => h) (Or.inl ⟨by rfl, ?hy9⟩) (by assumption) ?rest9
    case hy9 =>
      intro w hSw
      (try dsimp only at hSw)
      go_simp
      all_goals with_reducible rfl
    simp only [Act.put, List.getElem_toArray, List.getElem_cons_zero, List.getElem_cons_succ, List.setIfInBounds_toArray, List.set_cons_zero, List.set_cons_succ]
    have hbd : Below w1.heap.size w1 w1.drew := below_drew_ (Below.refl _ _) 1
    obtain ⟨wd, hwd⟩ : ∃ x, w1.drew = x := ⟨_, rfl⟩
    rw [hwd] at hbd ⊢
    clear hwd
    have ka_d := ka1.below hbd
    have kb_d := kb1.below hbd
    have kr_d := kr1.below hbd
    have ha_d := ha1.below hbd
    have hb__d := hb_1.below hbd
    refine wpAnyH_ready (rs := [10, 15]) (by kernel_rfl) (by simp) ?_
    refine AllReadyH.cons (o := _) rfl (fun K hK => ?_) (AllReadyH.cons (o := _) rfl (fun K hK => ?_) AllReadyH.nil)
    · go_simp
      go_at_call 81
      refine (from_any 1 _ (by omega)).mono ?_
      rintro e x1 ⟨O1, o1c, o1, rfl, ho1c, hO1x1, hbx1, hv1, mo1, lo1⟩
      have HO1 := Lib.hid hv1
      clear hv1
      go_wp2_with fail
      have kax1 := ka_d.below hbx1
      have kbx1 := kb_d.below hbx1
      have krx1 := kr_d.below hbx1
      have hax1 := ha_d.below hbx1
      have hb_x1 := hb__d.below hbx1
      have hwx1 := hbd.trans (hbx1.mono hbd.size)
      refine hK.out _ _ ?_ (fun hHeld => ?_)
      · exact ⟨kax1.facts.c1, kax1.facts.c2, kbx1.facts.c1, kbx1.facts.c2⟩
      clear hK K
      try simp only [Act.put, List.getElem_toArray, List.getElem_cons_zero, List.getElem_cons_succ, List.setIfInBounds_toArray, List.set_cons_zero, List.set_cons_succ]
      refine wpAnyH_take (i := 11) (v := ?v11x1) rfl (by kernel_rfl) (by kernel_rfl) (by kernel_rfl) (fun _ _ _ h => h) (Or.inl ⟨by rfl, ?hy11x1⟩) (by assumption) ?rest11x1
      case hy11x1 =>
        intro w hSw
        (try dsimp only at hSw)
        go_simp
        all_goals with_reducible rfl
      simp only [Act.put, List.getElem_toArray, List.getElem_cons_zero, List.getElem_cons_succ, List.setIfInBounds_toArray, List.set_cons_zero, List.set_cons_succ]
      clear hHeld
      refine wpAnyH_ready (rs := [12, 15]) (by kernel_rfl) (by simp) ?_
      refine AllReadyH.cons (o := _) rfl (fun K hK => ?_) (AllReadyH.cons (o := _) rfl (fun K hK => ?_) AllReadyH.nil)
      · go_simp
        go_at_call 81
        refine (from_any 1 _ (by omega)).mono ?_
        rintro e x2 ⟨O2, o2c, o2, rfl, ho2c, hO2x2, hbx2, hv2, mo2, lo2⟩
        have HO2 := Lib.hid hv2
        clear hv2
        go_wp2_with fail
        have kax2 := kax1.below hbx2
        have kbx2 := kbx1.below hbx2
        have krx2 := krx1.below hbx2
        have hax2 := hax1.below hbx2
        have hb_x2 := hb_x1.below hbx2
        have hO1x2 := hO1x1.below hbx2
        have hwx2 := hwx1.trans (hbx2.mono hwx1.size)
        refine hK.out _ _ ?_ (fun hHeld => ?_)
        · exact ⟨kax2.facts.c1, kax2.facts.c2, kbx2.facts.c1, kbx2.facts.c2⟩
        clear hK K
        try simp only [Act.put, List.getElem_toArray, List.getElem_cons_zero, List.getElem_cons_succ, List.setIfInBounds_toArray, List.set_cons_zero, List.set_cons_succ]
        refine wpAnyH_take (i := 13) (v := ?v13x2) rfl (by kernel_rfl) (by kernel_rfl) (by kernel_rfl) (fun _ _ _ h => h) (Or.inl ⟨by rfl, ?hy13x2⟩) (by assumption) ?rest13x2
        case hy13x2 =>
          intro w hSw
          (try dsimp only at hSw)
          go_simp
          all_goals with_reducible rfl
        simp only [Act.put, List.getElem_toArray, List.getElem_cons_zero, List.getElem_cons_succ, List.setIfInBounds_toArray, List.set_cons_zero, List.set_cons_succ]
        refine wpAnyH_take (i := 14) (v := ?v14x2) rfl (by kernel_rfl) (by kernel_rfl) (by kernel_rfl) (fun _ _ _ h => h) (Or.inl ⟨by rfl, ?hy14x2⟩) (by assumption) ?rest14x2
        case hy14x2 =>
          intro w hSw
          (try dsimp only at hSw)
          go_simp
          all_goals with_reducible rfl
        simp only [Act.put, List.getElem_toArray, List.getElem_cons_zero, List.getElem_cons_succ, List.setIfInBounds_toArray, List.set_cons_zero, List.set_cons_succ]
        clear hHeld
        refine wpAnyH_ready (rs := [15]) (by kernel_rfl) (by simp) ?_
        refine AllReadyH.cons (o := _) rfl (fun K hK => ?_) AllReadyH.nil
        · go_simp
          refine hK.out _ _ ?_ (fun hHeld => ?_)
          · exact ⟨(kax2.alloc _).facts.c1, (kax2.alloc _).facts.c2, (kbx2.alloc _).facts.c1, (kbx2.alloc _).facts.c2⟩
          clear hK K hHeld
          try simp only [Act.put, List.getElem_toArray, List.getElem_cons_zero, List.getElem_cons_succ, List.setIfInBounds_toArray, List.set_cons_zero, List.set_cons_succ]
          have hbx3 : Below x2.heap.size x2 (x2.alloc (.cells #[.slice none 0 0, .slice none 0 0, .slice none 0 0, .slice none 0 0, .slice none 0 0, .slice none 0 0, .slice none 0 0, .slice none 0 0] 100)) := (Below.refl _ _).alloc (Nat.le_refl _) _
          have hzx3 := Blk8.new x2 (.slice none 0 0) (.slice none 0 0) (.slice none 0 0) (.slice none 0 0) (.slice none 0 0) (.slice none 0 0) (.slice none 0 0) (.slice none 0 0)
          obtain ⟨x3, hwe⟩ : ∃ x, x2.alloc (.cells #[.slice none 0 0, .slice none 0 0, .slice none 0 0, .slice none 0 0, .slice none 0 0, .slice none 0 0, .slice none 0 0, .slice none 0 0] 100) = x := ⟨_, rfl⟩
          rw [hwe] at hbx3 hzx3 ⊢
          clear hwe
          have kax3 := kax2.below hbx3
          have kbx3 := kbx2.below hbx3
          have krx3 := krx2.below hbx3
          have hax3 := hax2.below hbx3
          have hb_x3 := hb_x2.below hbx3
          have hO1x3 := hO1x2.below hbx3
          have hO2x3 := hO2x2.below hbx3
          have hwx3 := hwx2.trans (hbx3.mono hwx2.size)
          have hgehz : w1.heap.size ≤ x2.heap.size := hwx2.size
          refine wpAnyH_ready (rs := [16]) (by kernel_rfl) (by simp) ?_
          refine AllReadyH.cons (o := _) rfl (fun K hK => ?_) AllReadyH.nil
          obtain ⟨y0, y1, y2, y3, y4, y5, y6, y7, y8, y9, y10, y11, y12, y13, y14, y15, y16⟩ := hzx3.facts
          go_simp
          clear y0 y1 y2 y3 y4 y5 y6 y7 y8 y9 y10 y11 y12 y13 y14 y15 y16
          have hF0 : FL.In x3 (x2.heap.size) ⟨⟨none, 0, []⟩, ⟨none, 0, []⟩, ⟨none, 0, []⟩, ⟨none, 0, []⟩, ⟨none, 0, []⟩, ⟨none, 0, []⟩, ⟨none, 0, []⟩, ⟨none, 0, []⟩⟩ := ⟨hzx3, ⟨Rd.nil_, mag_nil_, Nat.le_refl _⟩, ⟨Rd.nil_, mag_nil_, Nat.le_refl _⟩, ⟨Rd.nil_, mag_nil_, Nat.le_refl _⟩, ⟨Rd.nil_, mag_nil_, Nat.le_refl _⟩, ⟨Rd.nil_, mag_nil_, Nat.le_refl _⟩, ⟨Rd.nil_, mag_nil_, Nat.le_refl _⟩, ⟨Rd.nil_, mag_nil_, Nat.le_refl _⟩, ⟨Rd.nil_, mag_nil_, Nat.le_refl _⟩⟩
          have hF1 := hF0.low (a := ⟨a.N, a.nc, a.ns⟩) (b := ⟨a.D, a.dc, a.ds⟩) (c := ⟨b.N, b.nc, b.ns⟩) (d := ⟨b.D, b.dc, b.ds⟩) ⟨hax3.rn, hax3.mn, hax3.cn⟩ ⟨hax3.rd, hax3.md, hax3.cd⟩ ⟨hb_x3.rn, hb_x3.mn, hb_x3.cn⟩ ⟨hb_x3.rd, hb_x3.md, hb_x3.cd⟩
          have hF2 := hF1.high (a := ⟨O1, o1c, o1⟩) (b := ⟨none, 0, []⟩) (c := ⟨none, 0, []⟩) (d := ⟨O2, o2c, o2⟩) (SL.Ok.put4 (s := ⟨O1, o1c, o1⟩) ⟨hO1x3, mo1, ho1c⟩ hF0.blk 0 _ _ _ _) (SL.Ok.put4 (s := ⟨none, 0, []⟩) ⟨Rd.nil_, mag_nil_, Nat.le_refl _⟩ hF0.blk 0 _ _ _ _) (SL.Ok.put4 (s := ⟨none, 0, []⟩) ⟨Rd.nil_, mag_nil_, Nat.le_refl _⟩ hF0.blk 0 _ _ _ _) (SL.Ok.put4 (s := ⟨O2, o2c, o2⟩) ⟨hO2x3, mo2, ho2c⟩ hF0.blk 0 _ _ _ _)
          have hne : w.heap.size + 2 < x2.heap.size := Nat.lt_of_lt_of_le kr1.lt hgehz
          have hkr : Blk3 ((((((((((((((((x3).setCell ⟨x2.heap.size, 0, none⟩ (.slice a.N a.ns.length a.nc))).setCell ⟨x2.heap.size, 1, none⟩ (.slice a.D a.ds.length a.dc))).setCell ⟨x2.heap.size, 2, none⟩ (.slice b.N b.ns.length b.nc))).setCell ⟨x2.heap.size, 3, none⟩ (.slice b.D b.ds.length b.dc))).setCell ⟨x2.heap.size, 4, none⟩ (.slice O1 o1.length o1c))).setCell ⟨x2.heap.size, 5, none⟩ (.slice none 0 0))).setCell ⟨x2.heap.size, 6, none⟩ (.slice none 0 0))).setCell ⟨x2.heap.size, 7, none⟩ (.slice O2 o2.length o2c)) (w.heap.size + 2) (.bool false) (.slice none 0 0) (.slice none 0 0) := ((((((((((((((((krx3).far (p := ⟨x2.heap.size, 0, none⟩) (Nat.ne_of_lt hne) _)).far (p := ⟨x2.heap.size, 1, none⟩) (Nat.ne_of_lt hne) _)).far (p := ⟨x2.heap.size, 2, none⟩) (Nat.ne_of_lt hne) _)).far (p := ⟨x2.heap.size, 3, none⟩) (Nat.ne_of_lt hne) _)).far (p := ⟨x2.heap.size, 4, none⟩) (Nat.ne_of_lt hne) _)).far (p := ⟨x2.heap.size, 5, none⟩) (Nat.ne_of_lt hne) _)).far (p := ⟨x2.heap.size, 6, none⟩) (Nat.ne_of_lt hne) _)).far (p := ⟨x2.heap.size, 7, none⟩) (Nat.ne_of_lt hne) _)
          have hka : Blk3 ((((((((((((((((x3).setCell ⟨x2.heap.size, 0, none⟩ (.slice a.N a.ns.length a.nc))).setCell ⟨x2.heap.size, 1, none⟩ (.slice a.D a.ds.length a.dc))).setCell ⟨x2.heap.size, 2, none⟩ (.slice b.N b.ns.length b.nc))).setCell ⟨x2.heap.size, 3, none⟩ (.slice b.D b.ds.length b.dc))).setCell ⟨x2.heap.size, 4, none⟩ (.slice O1 o1.length o1c))).setCell ⟨x2.heap.size, 5, none⟩ (.slice none 0 0))).setCell ⟨x2.heap.size, 6, none⟩ (.slice none 0 0))).setCell ⟨x2.heap.size, 7, none⟩ (.slice O2 o2.length o2c)) w.heap.size (.bool a.s) (.slice a.N a.ns.length a.nc) (.slice a.D a.ds.length a.dc) := ((((((((((((((((kax3).far (p := ⟨x2.heap.size, 0, none⟩) (by simp; omega) _)).far (p := ⟨x2.heap.size, 1, none⟩) (by simp; omega) _)).far (p := ⟨x2.heap.size, 2, none⟩) (by simp; omega) _)).far (p := ⟨x2.heap.size, 3, none⟩) (by simp; omega) _)).far (p := ⟨x2.heap.size, 4, none⟩) (by simp; omega) _)).far (p := ⟨x2.heap.size, 5, none⟩) (by simp; omega) _)).far (p := ⟨x2.heap.size, 6, none⟩) (by simp; omega) _)).far (p := ⟨x2.heap.size, 7, none⟩) (by simp; omega) _)
          have hkb : Blk3 ((((((((((((((((x3).setCell ⟨x2.heap.size, 0, none⟩ (.slice a.N a.ns.length a.nc))).setCell ⟨x2.heap.size, 1, none⟩ (.slice a.D a.ds.length a.dc))).setCell ⟨x2.heap.size, 2, none⟩ (.slice b.N b.ns.length b.nc))).setCell ⟨x2.heap.size, 3, none⟩ (.slice b.D b.ds.length b.dc))).setCell ⟨x2.heap.size, 4, none⟩ (.slice O1 o1.length o1c))).setCell ⟨x2.heap.size, 5, none⟩ (.slice none 0 0))).setCell ⟨x2.heap.size, 6, none⟩ (.slice none 0 0))).setCell ⟨x2.heap.size, 7, none⟩ (.slice O2 o2.length o2c)) (w.heap.size + 1) (.bool b.s) (.slice b.N b.ns.length b.nc) (.slice b.D b.ds.length b.dc) := ((((((((((((((((kbx3).far (p := ⟨x2.heap.size, 0, none⟩) (by simp; omega) _)).far (p := ⟨x2.heap.size, 1, none⟩) (by simp; omega) _)).far (p := ⟨x2.heap.size, 2, none⟩) (by simp; omega) _)).far (p := ⟨x2.heap.size, 3, none⟩) (by simp; omega) _)).far (p := ⟨x2.heap.size, 4, none⟩) (by simp; omega) _)).far (p := ⟨x2.heap.size, 5, none⟩) (by simp; omega) _)).far (p := ⟨x2.heap.size, 6, none⟩) (by simp; omega) _)).far (p := ⟨x2.heap.size, 7, none⟩) (by simp; omega) _)
          have hws : Below w1.heap.size w1 ((((((((((((((((x3).setCell ⟨x2.heap.size, 0, none⟩ (.slice a.N a.ns.length a.nc))).setCell ⟨x2.heap.size, 1, none⟩ (.slice a.D a.ds.length a.dc))).setCell ⟨x2.heap.size, 2, none⟩ (.slice b.N b.ns.length b.nc))).setCell ⟨x2.heap.size, 3, none⟩ (.slice b.D b.ds.length b.dc))).setCell ⟨x2.heap.size, 4, none⟩ (.slice O1 o1.length o1c))).setCell ⟨x2.heap.size, 5, none⟩ (.slice none 0 0))).setCell ⟨x2.heap.size, 6, none⟩ (.slice none 0 0))).setCell ⟨x2.heap.size, 7, none⟩ (.slice O2 o2.length o2c)) := below_put4 (below_put4 hwx3 hgehz 0 _ _ _ _) hgehz 4 _ _ _ _
          refine hK.out _ _ ?_ (fun hHeld => ?_)
          · exact ⟨hka.facts.c1, hka.facts.c2, hkb.facts.c1, hkb.facts.c2⟩
          clear hK K hHeld
          try simp only [Act.put, List.getElem_toArray, List.getElem_cons_zero, List.getElem_cons_succ, List.setIfInBounds_toArray, List.set_cons_zero, List.set_cons_succ]
          refine wpAnyH_done (by kernel_rfl) ?_ _
          go_wp2_with fail
          go_meet
          exact ⟨_, _, rfl, hF2, by show Frac _ _ _ _ X (V32 a.ns) (V32 a.ds) (V32 b.ns) (V32 b.ds) (V32 o1) 0 0 (V32 o2); rw [HO1.out, HO2.out]; exact HFR.out, hgehz, hkr, hws⟩
      · go_simp
        refine hK.out _ _ ?_ (fun hHeld => ?_)
        · exact ⟨(kax1.alloc _).facts.c1, (kax1.alloc _).facts.c2, (kbx1.alloc _).facts.c1, (kbx1.alloc _).facts.c2⟩
        clear hK K hHeld
        try simp only [Act.put, List.getElem_toArray, List.getElem_cons_zero, List.getElem_cons_succ, List.setIfInBounds_toArray, List.set_cons_zero, List.set_cons_succ]
        have hbx4 : Below x1.heap.size x1 (x1.alloc (.cells #[.slice none 0 0, .slice none 0 0, .slice none 0 0, .slice none 0 0, .slice none 0 0, .slice none 0 0, .slice none 0 0, .slice none 0 0] 100)) := (Below.refl _ _).alloc (Nat.le_refl _) _
        have hzx4 := Blk8.new x1 (.slice none 0 0) (.slice none 0 0) (.slice none 0 0) (.slice none 0 0) (.slice none 0 0) (.slice none 0 0) (.slice none 0 0) (.slice none 0 0)
        obtain ⟨x4, hwe⟩ : ∃ x, x1.alloc (.cells #[.slice none 0 0, .slice none 0 0, .slice none 0 0, .slice none 0 0, .slice none 0 0, .slice none 0 0, .slice none 0 0, .slice none 0 0] 100) = x := ⟨_, rfl⟩
        rw [hwe] at hbx4 hzx4 ⊢
        clear hwe
        have kax4 := kax1.below hbx4
        have kbx4 := kbx1.below hbx4
        have krx4 := krx1.below hbx4
        have hax4 := hax1.below hbx4
        have hb_x4 := hb_x1.below hbx4
        have hO1x4 := hO1x1.below hbx4
        have hwx4 := hwx1.trans (hbx4.mono hwx1.size)
        have hgehz : w1.heap.size ≤ x1.heap.size := hwx1.size
        refine wpAnyH_ready (rs := [12]) (by kernel_rfl) (by simp) ?_
        refine AllReadyH.cons (o := _) rfl (fun K hK => ?_) AllReadyH.nil
        · go_simp
          go_at_call 81
          refine (from_any 1 _ (by omega)).mono ?_
          rintro e x5 ⟨O2, o2c, o2, rfl, ho2c, hO2x5, hbx5, hv2, mo2, lo2⟩
          have HO2 := Lib.hid hv2
          clear hv2
          go_wp2_with fail
          have kax5 := kax4.below hbx5
          have kbx5 := kbx4.below hbx5
          have krx5 := krx4.below hbx5
          have hax5 := hax4.below hbx5
          have hb_x5 := hb_x4.below hbx5
          have hO1x5 := hO1x4.below hbx5
          have hzx5 := hzx4.below hbx5
          have hwx5 := hwx4.trans (hbx5.mono hwx4.size)
          refine hK.out _ _ ?_ (fun hHeld => ?_)
          · exact ⟨kax5.facts.c1, kax5.facts.c2, kbx5.facts.c1, kbx5.facts.c2⟩
          clear hK K
          try simp only [Act.put, List.getElem_toArray, List.getElem_cons_zero, List.getElem_cons_succ, List.setIfInBounds_toArray, List.set_cons_zero, List.set_cons_succ]
          refine wpAnyH_take (i := 13) (v := ?v13x5) rfl (by kernel_rfl) (by kernel_rfl) (by kernel_rfl) (fun _ _ _ h => h) (Or.inl ⟨by rfl, ?hy13x5⟩) (by assumption) ?rest13x5
          case hy13x5 =>
            intro w hSw
            (try dsimp only at hSw)
            go_simp
            all_goals with_reducible rfl
          simp only [Act.put, List.getElem_toArray, List.getElem_cons_zero, List.getElem_cons_succ, List.setIfInBounds_toArray, List.set_cons_zero, List.set_cons_succ]
          refine wpAnyH_take (i := 14) (v := ?v14x5) rfl (by kernel_rfl) (by kernel_rfl) (by kernel_rfl) (fun _ _ _ h => h) (Or.inl ⟨by rfl, ?hy14x5⟩) (by assumption) ?rest14x5
          case hy14x5 =>
            intro w hSw
            (try dsimp only at hSw)
            go_simp
            all_goals with_reducible rfl
          simp only [Act.put, List.getElem_toArray, List.getElem_cons_zero, List.getElem_cons_succ, List.setIfInBounds_toArray, List.set_cons_zero, List.set_cons_succ]
          clear hHeld
          refine wpAnyH_ready (rs := [16]) (by kernel_rfl) (by simp) ?_
          refine AllReadyH.cons (o := _) rfl (fun K hK => ?_) AllReadyH.nil
          obtain ⟨y0, y1, y2, y3, y4, y5, y6, y7, y8, y9, y10, y11, y12, y13, y14, y15, y16⟩ := hzx5.facts
          go_simp
          clear y0 y1 y2 y3 y4 y5 y6 y7 y8 y9 y10 y11 y12 y13 y14 y15 y16
          have hF0 : FL.In x5 (x1.heap.size) ⟨⟨none, 0, []⟩, ⟨none, 0, []⟩, ⟨none, 0, []⟩, ⟨none, 0, []⟩, ⟨none, 0, []⟩, ⟨none, 0, []⟩, ⟨none, 0, []⟩, ⟨none, 0, []⟩⟩ := ⟨hzx5, ⟨Rd.nil_, mag_nil_, Nat.le_refl _⟩, ⟨Rd.nil_, mag_nil_, Nat.le_refl _⟩, ⟨Rd.nil_, mag_nil_, Nat.le_refl _⟩, ⟨Rd.nil_, mag_nil_, Nat.le_refl _⟩, ⟨Rd.nil_, mag_nil_, Nat.le_refl _⟩, ⟨Rd.nil_, mag_nil_, Nat.le_refl _⟩, ⟨Rd.nil_, mag_nil_, Nat.le_refl _⟩, ⟨Rd.nil_, mag_nil_, Nat.le_refl _⟩⟩
          have hF1 := hF0.low (a := ⟨a.N, a.nc, a.ns⟩) (b := ⟨a.D, a.dc, a.ds⟩) (c := ⟨b.N, b.nc, b.ns⟩) (d := ⟨b.D, b.dc, b.ds⟩) ⟨hax5.rn, hax5.mn, hax5.cn⟩ ⟨hax5.rd, hax5.md, hax5.cd⟩ ⟨hb_x5.rn, hb_x5.mn, hb_x5.cn⟩ ⟨hb_x5.rd, hb_x5.md, hb_x5.cd⟩
          have hF2 := hF1.high (a := ⟨O1, o1c, o1⟩) (b := ⟨none, 0, []⟩) (c := ⟨none, 0, []⟩) (d := ⟨O2, o2c, o2⟩) (SL.Ok.put4 (s := ⟨O1, o1c, o1⟩) ⟨hO1x5, mo1, ho1c⟩ hF0.blk 0 _ _ _ _) (SL.Ok.put4 (s := ⟨none, 0, []⟩) ⟨Rd.nil_, mag_nil_, Nat.le_refl _⟩ hF0.blk 0 _ _ _ _) (SL.Ok.put4 (s := ⟨none, 0, []⟩) ⟨Rd.nil_, mag_nil_, Nat.le_refl _⟩ hF0.blk 0 _ _ _ _) (SL.Ok.put4 (s := ⟨O2, o2c, o2⟩) ⟨hO2x5, mo2, ho2c⟩ hF0.blk 0 _ _ _ _)
          have hne : w.heap.size + 2 < x1.heap.size := Nat.lt_of_lt_of_le kr1.lt hgehz
          have hkr : Blk3 ((((((((((((((((x5).setCell ⟨x1.heap.size, 0, none⟩ (.slice a.N a.ns.length a.nc))).setCell ⟨x1.heap.size, 1, none⟩ (.slice a.D a.ds.length a.dc))).setCell ⟨x1.heap.size, 2, none⟩ (.slice b.N b.ns.length b.nc))).setCell ⟨x1.heap.size, 3, none⟩ (.slice b.D b.ds.length b.dc))).setCell ⟨x1.heap.size, 4, none⟩ (.slice O1 o1.length o1c))).setCell ⟨x1.heap.size, 5, none⟩ (.slice none 0 0))).setCell ⟨x1.heap.size, 6, none⟩ (.slice none 0 0))).setCell ⟨x1.heap.size, 7, none⟩ (.slice O2 o2.length o2c)) (w.heap.size + 2) (.bool false) (.slice none 0 0) (.slice none 0 0) := ((((((((((((((((krx5).far (p := ⟨x1.heap.size, 0, none⟩) (Nat.ne_of_lt hne) _)).far (p := ⟨x1.heap.size, 1, none⟩) (Nat.ne_of_lt hne) _)).far (p := ⟨x1.heap.size, 2, none⟩) (Nat.ne_of_lt hne) _)).far (p := ⟨x1.heap.size, 3, none⟩) (Nat.ne_of_lt hne) _)).far (p := ⟨x1.heap.size, 4, none⟩) (Nat.ne_of_lt hne) _)).far (p := ⟨x1.heap.size, 5, none⟩) (Nat.ne_of_lt hne) _)).far (p := ⟨x1.heap.size, 6, none⟩) (Nat.ne_of_lt hne) _)).far (p := ⟨x1.heap.size, 7, none⟩) (Nat.ne_of_lt hne) _)
          have hka : Blk3 ((((((((((((((((x5).setCell ⟨x1.heap.size, 0, none⟩ (.slice a.N a.ns.length a.nc))).setCell ⟨x1.heap.size, 1, none⟩ (.slice a.D a.ds.length a.dc))).setCell ⟨x1.heap.size, 2, none⟩ (.slice b.N b.ns.length b.nc))).setCell ⟨x1.heap.size, 3, none⟩ (.slice b.D b.ds.length b.dc))).setCell ⟨x1.heap.size, 4, none⟩ (.slice O1 o1.length o1c))).setCell ⟨x1.heap.size, 5, none⟩ (.slice none 0 0))).setCell ⟨x1.heap.size, 6, none⟩ (.slice none 0 0))).setCell ⟨x1.heap.size, 7, none⟩ (.slice O2 o2.length o2c)) w.heap.size (.bool a.s) (.slice a.N a.ns.length a.nc) (.slice a.D a.ds.length a.dc) := ((((((((((((((((kax5).far (p := ⟨x1.heap.size, 0, none⟩) (by simp; omega) _)).far (p := ⟨x1.heap.size, 1, none⟩) (by simp; omega) _)).far (p := ⟨x1.heap.size, 2, none⟩) (by simp; omega) _)).far (p := ⟨x1.heap.size, 3, none⟩) (by simp; omega) _)).far (p := ⟨x1.heap.size, 4, none⟩) (by simp; omega) _)).far (p := ⟨x1.heap.size, 5, none⟩) (by simp; omega) _)).far (p := ⟨x1.heap.size, 6, none⟩) (by simp; omega) _)).far (p := ⟨x1.heap.size, 7, none⟩) (by simp; omega) _)
          have hkb : Blk3 ((((((((((((((((x5).setCell ⟨x1.heap.size, 0, none⟩ (.slice a.N a.ns.length a.nc))).setCell ⟨x1.heap.size, 1, none⟩ (.slice a.D a.ds.length a.dc))).setCell ⟨x1.heap.size, 2, none⟩ (.slice b.N b.ns.length b.nc))).setCell ⟨x1.heap.size, 3, none⟩ (.slice b.D b.ds.length b.dc))).setCell ⟨x1.heap.size, 4, none⟩ (.slice O1 o1.length o1c))).setCell ⟨x1.heap.size, 5, none⟩ (.slice none 0 0))).setCell ⟨x1.heap.size, 6, none⟩ (.slice none 0 0))).setCell ⟨x1.heap.size, 7, none⟩ (.slice O2 o2.length o2c)) (w.heap.size + 1) (.bool b.s) (.slice b.N b.ns.length b.nc) (.slice b.D b.ds.length b.dc) := ((((((((((((((((kbx5).far (p := ⟨x1.heap.size, 0, none⟩) (by simp; omega) _)).far (p := ⟨x1.heap.size, 1, none⟩) (by simp; omega) _)).far (p := ⟨x1.heap.size, 2, none⟩) (by simp; omega) _)).far (p := ⟨x1.heap.size, 3, none⟩) (by simp; omega) _)).far (p := ⟨x1.heap.size, 4, none⟩) (by simp; omega) _)).far (p := ⟨x1.heap.size, 5, none⟩) (by simp; omega) _)).far (p := ⟨x1.heap.size, 6, none⟩) (by simp; omega) _)).far (p := ⟨x1.heap.size, 7, none⟩) (by simp; omega) _)
          have hws : Below w1.heap.size w1 ((((((((((((((((x5).setCell ⟨x1.heap.size, 0, none⟩ (.slice a.N a.ns.length a.nc))).setCell ⟨x1.heap.size, 1, none⟩ (.slice a.D a.ds.length a.dc))).setCell ⟨x1.heap.size, 2, none⟩ (.slice b.N b.ns.length b.nc))).setCell ⟨x1.heap.size, 3, none⟩ (.slice b.D b.ds.length b.dc))).setCell ⟨x1.heap.size, 4, none⟩ (.slice O1 o1.length o1c))).setCell ⟨x1.heap.size, 5, none⟩ (.slice none 0 0))).setCell ⟨x1.heap.size, 6, none⟩ (.slice none 0 0))).setCell ⟨x1.heap.size, 7, none⟩ (.slice O2 o2.length o2c)) := below_put4 (below_put4 hwx5 hgehz 0 _ _ _ _) hgehz 4 _ _ _ _
          refine hK.out _ _ ?_ (fun hHeld => ?_)
          · exact ⟨hka.facts.c1, hka.facts.c2, hkb.facts.c1, hkb.facts.c2⟩
          clear hK K hHeld
          try simp only [Act.put, List.getElem_toArray, List.getElem_cons_zero, List.getElem_cons_succ, List.setIfInBounds_toArray, List.set_cons_zero, List.set_cons_succ]
          refine wpAnyH_done (by kernel_rfl) ?_ _
          go_wp2_with fail
          go_meet
          exact ⟨_, _, rfl, hF2, by show Frac _ _ _ _ X (V32 a.ns) (V32 a.ds) (V32 b.ns) (V32 b.ds) (V32 o1) 0 0 (V32 o2); rw [HO1.out, HO2.out]; exact HFR.out, hgehz, hkr, hws⟩
    · go_simp
      refine hK.out _ _ ?_ (fun hHeld => ?_)
      · exact ⟨(ka_d.alloc _).facts.c1, (ka_d.alloc _).facts.c2, (kb_d.alloc _).facts.c1, (kb_d.alloc _).facts.c2⟩
      clear hK K hHeld
      try simp only [Act.put, List.getElem_toArray, List.getElem_cons_zero, List.getElem_cons_succ, List.setIfInBounds_toArray, List.set_cons_zero, List.set_cons_succ]
      have hbx6 : Below wd.heap.size wd (wd.alloc (.cells #[.slice none 0 0, .slice none 0 0, .slice none 0 0, .slice none 0 0, .slice none 0 0, .slice none 0 0, .slice none 0 0, .slice none 0 0] 100)) := (Below.refl _ _).alloc (Nat.le_refl _) _
      have hzx6 := Blk8.new wd (.slice none 0 0) (.slice none 0 0) (.slice none 0 0) (.slice none 0 0) (.slice none 0 0) (.slice none 0 0) (.slice none 0 0) (.slice none 0 0)
      obtain ⟨x6, hwe⟩ : ∃ x, wd.alloc (.cells #[.slice none 0 0, .slice none 0 0, .slice none 0 0, .slice none 0 0, .slice none 0 0, .slice none 0 0, .slice none 0 0, .slice none 0 0] 100) = x := ⟨_, rfl⟩
      rw [hwe] at hbx6 hzx6 ⊢
      clear hwe
      have kax6 := ka_d.below hbx6
      have kbx6 := kb_d.below hbx6
      have krx6 := kr_d.below hbx6
      have hax6 := ha_d.below hbx6
      have hb_x6 := hb__d.below hbx6
      have hwx6 := hbd.trans (hbx6.mono hbd.size)
      have hgehz : w1.heap.size ≤ wd.heap.size := hbd.size
      refine wpAnyH_ready (rs := [10]) (by kernel_rfl) (by simp) ?_
      refine AllReadyH.cons (o := _) rfl (fun K hK => ?_) AllReadyH.nil
      · go_simp
        go_at_call 81
        refine (from_any 1 _ (by omega)).mono ?_
        rintro e x7 ⟨O1, o1c, o1, rfl, ho1c, hO1x7, hbx7, hv1, mo1, lo1⟩
        have HO1 := Lib.hid hv1
        clear hv1
        go_wp2_with fail
        have kax7 := kax6.below hbx7
        have kbx7 := kbx6.below hbx7
        have krx7 := krx6.below hbx7
        have hax7 := hax6.below hbx7
        have hb_x7 := hb_x6.below hbx7
        have hzx7 := hzx6.below hbx7
        have hwx7 := hwx6.trans (hbx7.mono hwx6.size)
        refine hK.out _ _ ?_ (fun hHeld => ?_)
        · exact ⟨kax7.facts.c1, kax7.facts.c2, kbx7.facts.c1, kbx7.facts.c2⟩
        clear hK K
        try simp only [Act.put, List.getElem_toArray, List.getElem_cons_zero, List.getElem_cons_succ, List.setIfInBounds_toArray, List.set_cons_zero, List.set_cons_succ]
        refine wpAnyH_take (i := 11) (v := ?v11x7) rfl (by kernel_rfl) (by kernel_rfl) (by kernel_rfl) (fun _ _ _ h => h) (Or.inl ⟨by rfl, ?hy11x7⟩) (by assumption) ?rest11x7
        case hy11x7 =>
          intro w hSw
          (try dsimp only at hSw)
          go_simp
          all_goals with_reducible rfl
        simp only [Act.put, List.getElem_toArray, List.getElem_cons_zero, List.getElem_cons_succ, List.setIfInBounds_toArray, List.set_cons_zero, List.set_cons_succ]
        clear hHeld
        refine wpAnyH_ready (rs := [12]) (by kernel_rfl) (by simp) ?_
        refine AllReadyH.cons (o := _) rfl (fun K hK => ?_) AllReadyH.nil
        · go_simp
          go_at_call 81
          refine (from_any 1 _ (by omega)).mono ?_
          rintro e x8 ⟨O2, o2c, o2, rfl, ho2c, hO2x8, hbx8, hv2, mo2, lo2⟩
          have HO2 := Lib.hid hv2
          clear hv2
          go_wp2_with fail
          have kax8 := kax7.below hbx8
          have kbx8 := kbx7.below hbx8
          have krx8 := krx7.below hbx8
          have hax8 := hax7.below hbx8
          have hb_x8 := hb_x7.below hbx8
          have hzx8 := hzx7.below hbx8
          have hO1x8 := hO1x7.below hbx8
          have hwx8 := hwx7.trans (hbx8.mono hwx7.size)
          refine hK.out _ _ ?_ (fun hHeld => ?_)
          · exact ⟨kax8.facts.c1, kax8.facts.c2, kbx8.facts.c1, kbx8.facts.c2⟩
          clear hK K
          try simp only [Act.put, List.getElem_toArray, List.getElem_cons_zero, List.getElem_cons_succ, List.setIfInBounds_toArray, List.set_cons_zero, List.set_cons_succ]
          refine wpAnyH_take (i := 13) (v := ?v13x8) rfl (by kernel_rfl) (by kernel_rfl) (by kernel_rfl) (fun _ _ _ h => h) (Or.inl ⟨by rfl, ?hy13x8⟩) (by assumption) ?rest13x8
          case hy13x8 =>
            intro w hSw
            (try dsimp only at hSw)
            go_simp
            all_goals with_reducible rfl
          simp only [Act.put, List.getElem_toArray, List.getElem_cons_zero, List.getElem_cons_succ, List.setIfInBounds_toArray, List.set_cons_zero, List.set_cons_succ]
          refine wpAnyH_take (i := 14) (v := ?v14x8) rfl (by kernel_rfl) (by kernel_rfl) (by kernel_rfl) (fun _ _ _ h => h) (Or.inl ⟨by rfl, ?hy14x8⟩) (by assumption) ?rest14x8
          case hy14x8 =>
            intro w hSw
            (try dsimp only at hSw)
            go_simp
            all_goals with_reducible rfl
          simp only [Act.put, List.getElem_toArray, List.getElem_cons_zero, List.getElem_cons_succ, List.setIfInBounds_toArray, List.set_cons_zero, List.set_cons_succ]
          clear hHeld
          refine wpAnyH_ready (rs := [16]) (by kernel_rfl) (by simp) ?_
          refine AllReadyH.cons (o := _) rfl (fun K hK => ?_) AllReadyH.nil
          obtain ⟨y0, y1, y2, y3, y4, y5, y6, y7, y8, y9, y10, y11, y12, y13, y14, y15, y16⟩ := hzx8.facts
          go_simp
          clear y0 y1 y2 y3 y4 y5 y6 y7 y8 y9 y10 y11 y12 y13 y14 y15 y16
          have hF0 : FL.In x8 (wd.heap.size) ⟨⟨none, 0, []⟩, ⟨none, 0, []⟩, ⟨none, 0, []⟩, ⟨none, 0, []⟩, ⟨none, 0, []⟩, ⟨none, 0, []⟩, ⟨none, 0, []⟩, ⟨none, 0, []⟩⟩ := ⟨hzx8, ⟨Rd.nil_, mag_nil_, Nat.le_refl _⟩, ⟨Rd.nil_, mag_nil_, Nat.le_refl _⟩, ⟨Rd.nil_, mag_nil_, Nat.le_refl _⟩, ⟨Rd.nil_, mag_nil_, Nat.le_refl _⟩, ⟨Rd.nil_, mag_nil_, Nat.le_refl _⟩, ⟨Rd.nil_, mag_nil_, Nat.le_refl _⟩, ⟨Rd.nil_, mag_nil_, Nat.le_refl _⟩, ⟨Rd.nil_, mag_nil_, Nat.le_refl _⟩⟩
          have hF1 := hF0.low (a := ⟨a.N, a.nc, a.ns⟩) (b := ⟨a.D, a.dc, a.ds⟩) (c := ⟨b.N, b.nc, b.ns⟩) (d := ⟨b.D, b.dc, b.ds⟩) ⟨hax8.rn, hax8.mn, hax8.cn⟩ ⟨hax8.rd, hax8.md, hax8.cd⟩ ⟨hb_x8.rn, hb_x8.mn, hb_x8.cn⟩ ⟨hb_x8.rd, hb_x8.md, hb_x8.cd⟩
          have hF2 := hF1.high (a := ⟨O1, o1c, o1⟩) (b := ⟨none, 0, []⟩) (c := ⟨none, 0, []⟩) (d := ⟨O2, o2c, o2⟩) (SL.Ok.put4 (s := ⟨O1, o1c, o1⟩) ⟨hO1x8, mo1, ho1c⟩ hF0.blk 0 _ _ _ _) (SL.Ok.put4 (s := ⟨none, 0, []⟩) ⟨Rd.nil_, mag_nil_, Nat.le_refl _⟩ hF0.blk 0 _ _ _ _) (SL.Ok.put4 (s := ⟨none, 0, []⟩) ⟨Rd.nil_, mag_nil_, Nat.le_refl _⟩ hF0.blk 0 _ _ _ _) (SL.Ok.put4 (s := ⟨O2, o2c, o2⟩) ⟨hO2x8, mo2, ho2c⟩ hF0.blk 0 _ _ _ _)
          have hne : w.heap.size + 2 < wd.heap.size := Nat.lt_of_lt_of_le kr1.lt hgehz
          have hkr : Blk3 ((((((((((((((((x8).setCell ⟨wd.heap.size, 0, none⟩ (.slice a.N a.ns.length a.nc))).setCell ⟨wd.heap.size, 1, none⟩ (.slice a.D a.ds.length a.dc))).setCell ⟨wd.heap.size, 2, none⟩ (.slice b.N b.ns.length b.nc))).setCell ⟨wd.heap.size, 3, none⟩ (.slice b.D b.ds.length b.dc))).setCell ⟨wd.heap.size, 4, none⟩ (.slice O1 o1.length o1c))).setCell ⟨wd.heap.size, 5, none⟩ (.slice none 0 0))).setCell ⟨wd.heap.size, 6, none⟩ (.slice none 0 0))).setCell ⟨wd.heap.size, 7, none⟩ (.slice O2 o2.length o2c)) (w.heap.size + 2) (.bool false) (.slice none 0 0) (.slice none 0 0) := ((((((((((((((((krx8).far (p := ⟨wd.heap.size, 0, none⟩) (Nat.ne_of_lt hne) _)).far (p := ⟨wd.heap.size, 1, none⟩) (Nat.ne_of_lt hne) _)).far (p := ⟨wd.heap.size, 2, none⟩) (Nat.ne_of_lt hne) _)).far (p := ⟨wd.heap.size, 3, none⟩) (Nat.ne_of_lt hne) _)).far (p := ⟨wd.heap.size, 4, none⟩) (Nat.ne_of_lt hne) _)).far (p := ⟨wd.heap.size, 5, none⟩) (Nat.ne_of_lt hne) _)).far (p := ⟨wd.heap.size, 6, none⟩) (Nat.ne_of_lt hne) _)).far (p := ⟨wd.heap.size, 7, none⟩) (Nat.ne_of_lt hne) _)
          have hka : Blk3 ((((((((((((((((x8).setCell ⟨wd.heap.size, 0, none⟩ (.slice a.N a.ns.length a.nc))).setCell ⟨wd.heap.size, 1, none⟩ (.slice a.D a.ds.length a.dc))).setCell ⟨wd.heap.size, 2, none⟩ (.slice b.N b.ns.length b.nc))).setCell ⟨wd.heap.size, 3, none⟩ (.slice b.D b.ds.length b.dc))).setCell ⟨wd.heap.size, 4, none⟩ (.slice O1 o1.length o1c))).setCell ⟨wd.heap.size, 5, none⟩ (.slice none 0 0))).setCell ⟨wd.heap.size, 6, none⟩ (.slice none 0 0))).setCell ⟨wd.heap.size, 7, none⟩ (.slice O2 o2.length o2c)) w.heap.size (.bool a.s) (.slice a.N a.ns.length a.nc) (.slice a.D a.ds.length a.dc) := ((((((((((((((((kax8).far (p := ⟨wd.heap.size, 0, none⟩) (by simp; omega) _)).far (p := ⟨wd.heap.size, 1, none⟩) (by simp; omega) _)).far (p := ⟨wd.heap.size, 2, none⟩) (by simp; omega) _)).far (p := ⟨wd.heap.size, 3, none⟩) (by simp; omega) _)).far (p := ⟨wd.heap.size, 4, none⟩) (by simp; omega) _)).far (p := ⟨wd.heap.size, 5, none⟩) (by simp; omega) _)).far (p := ⟨wd.heap.size, 6, none⟩) (by simp; omega) _)).far (p := ⟨wd.heap.size, 7, none⟩) (by simp; omega) _)
          have hkb : Blk3 ((((((((((((((((x8).setCell ⟨wd.heap.size, 0, none⟩ (.slice a.N a.ns.length a.nc))).setCell ⟨wd.heap.size, 1, none⟩ (.slice a.D a.ds.length a.dc))).setCell ⟨wd.heap.size, 2, none⟩ (.slice b.N b.ns.length b.nc))).setCell ⟨wd.heap.size, 3, none⟩ (.slice b.D b.ds.length b.dc))).setCell ⟨wd.heap.size, 4, none⟩ (.slice O1 o1.length o1c))).setCell ⟨wd.heap.size, 5, none⟩ (.slice none 0 0))).setCell ⟨wd.heap.size, 6, none⟩ (.slice none 0 0))).setCell ⟨wd.heap.size, 7, none⟩ (.slice O2 o2.length o2c)) (w.heap.size + 1) (.bool b.s) (.slice b.N b.ns.length b.nc) (.slice b.D b.ds.length b.dc) := ((((((((((((((((kbx8).far (p := ⟨wd.heap.size, 0, none⟩) (by simp; omega) _)).far (p := ⟨wd.heap.size, 1, none⟩) (by simp; omega) _)).far (p := ⟨wd.heap.size, 2, none⟩) (by simp; omega) _)).far (p := ⟨wd.heap.size, 3, none⟩) (by simp; omega) _)).far (p := ⟨wd.heap.size, 4, none⟩) (by simp; omega) _)).far (p := ⟨wd.heap.size, 5, none⟩) (by simp; omega) _)).far (p := ⟨wd.heap.size, 6, none⟩) (by simp; omega) _)).far (p := ⟨wd.heap.size, 7, none⟩) (by simp; omega) _)
          have hws : Below w1.heap.size w1 ((((((((((((((((x8).setCell ⟨wd.heap.size, 0, none⟩ (.slice a.N a.ns.length a.nc))).setCell ⟨wd.heap.size, 1, none⟩ (.slice a.D a.ds.length a.dc))).setCell ⟨wd.heap.size, 2, none⟩ (.slice b.N b.ns.length b.nc))).setCell ⟨wd.heap.size, 3, none⟩ (.slice b.D b.ds.length b.dc))).setCell ⟨wd.heap.size, 4, none⟩ (.slice O1 o1.length o1c))).setCell ⟨wd.heap.size, 5, none⟩ (.slice none 0 0))).setCell ⟨wd.heap.size, 6, none⟩ (.slice none 0 0))).setCell ⟨wd.heap.size, 7, none⟩ (.slice O2 o2.length o2c)) := below_put4 (below_put4 hwx8 hgehz 0 _ _ _ _) hgehz 4 _ _ _ _
          refine hK.out _ _ ?_ (fun hHeld => ?_)
          · exact ⟨hka.facts.c1, hka.facts.c2, hkb.facts.c1, hkb.facts.c2⟩
          clear hK K hHeld
          try simp only [Act.put, List.getElem_toArray, List.getElem_cons_zero, List.getElem_cons_succ, List.setIfInBounds_toArray, List.set_cons_zero, List.set_cons_succ]
          refine wpAnyH_done (by kernel_rfl) ?_ _
          go_wp2_with fail
          go_meet
          exact ⟨_, _, rfl, hF2, by show Frac _ _ _ _ X (V32 a.ns) (V32 a.ds) (V32 b.ns) (V32 b.ds) (V32 o1) 0 0 (V32 o2); rw [HO1.out, HO2.out]; exact HFR.out, hgehz, hkr, hws⟩
  clear a0 a1 a2 a3 a4 a5 a6 b0 b1 b2 b3 b4 b5 b6
  obtain ⟨w2, rfl⟩ : ∃ x, x = wc := ⟨_, rfl⟩
  obtain ⟨g, f, rfl, hf, hFr, hg, hkr, hbc⟩ := hcut
  have hww := hw1.trans (hbc.mono hw1.size)
  have HG : Hid (w.heap.size + 2 < g) := Lib.hid (Nat.lt_of_lt_of_le kr1.lt hg)
  have hgw : w.heap.size ≤ g := by have := HG.out; omega
  clear hbc hg ka1 kb1 kr1 ha1 hb_1 hw1
  go_wp2_with fail
  go_loopg [22] (V32 f.ad.xs + V32 f.bd.xs) (fun gh _ wr => ∃ f : FL, FL.In wr g f ∧ Frac (V32 a.ns) (V32 a.ds) (V32 b.ns) (V32 b.ds) X (V32 f.an.xs) (V32 f.ad.xs) (V32 f.bn.xs) (V32 f.bd.xs) (V32 f.vn.xs) (V32 f.vd.xs) (V32 f.un.xs) (V32 f.ud.xs) ∧ V32 f.ad.xs + V32 f.bd.xs = gh ∧ Blk3 wr (w.heap.size + 2) (.bool false) (.slice none 0 0) (.slice none 0 0) ∧ Below w.heap.size w wr)
  case atStart => exact ⟨f, hf, hFr, rfl, hkr, hww⟩
  case round =>
    clear hf hFr hkr hww
    obtain ⟨f1, hf, hFr, hgh, hkr, hww⟩ := hrel
    have HGH := Lib.hid hgh
    have HFR1 := Lib.hid hFr
    clear hgh hFr
    go_wp2_with fail
    refine (ext_any _ _ _ _ X f1 g _ hf HFR1.out HX.out).mono ?_
    rintro e w8 ⟨f2, last, rfl, hf2, hb8, hno, hyes⟩
    have HNO := Lib.hid hno
    have HYES := Lib.hid hyes
    clear hno hyes
    have hkr8 := (show Blk3 w8 (w.heap.size + 2) (.bool false) (.slice none 0 0) (.slice none 0 0) from (hb8.block _ HG.out).trans hkr)
    have hw8 := hww.trans (hb8.mono hgw)
    cases last with
    | false =>
      go_wp2_with fail
      go_roundg (V32 f2.ad.xs + V32 f2.bd.xs)
      case rel => exact ⟨f2, hf2, (HNO.out trivial).1, rfl, hkr8, hw8⟩
      case measure => rw [← HGH.out]; exact (HNO.out trivial).2
    | true =>
      obtain ⟨a0, a1, a2, a3, a4, a5, a6⟩ := hkr8.facts
      obtain ⟨c0, c1, c2, c3, c4, c5, c6, c7, d0, d1, d2, d3, d4, d5, d6, d7, dl⟩ := hf2.facts
      go_wp2_with fail
      refine (signed_any false f2.vn.p f2.vd.p f2.vn.xs.length f2.vn.c f2.vd.xs.length f2.vd.c _).mono ?_
      rintro e w9 ⟨he, hb9⟩
      simp only [Bool.false_and] at he
      subst he
      have hkr9 := hkr8.below hb9
      have hw9 := hw8.trans (hb9.mono hw8.size)
      have hS := HYES.out trivial
      have hs := simp_of hS.1 HFR0.out.ha HFR0.out.hb HFR0.out.hd HFR0.out.lt
      have hI : RL.Is w9 ⟨false, f2.vn.p, f2.vn.c, f2.vn.xs, f2.vd.p, f2.vd.c, f2.vd.xs⟩ (mkRat ((V32 f2.vn.xs : Nat) : Int) (V32 f2.vd.xs)) := ⟨hf2.vn.rd.below hb9, hf2.vd.rd.below hb9, hf2.vn.m, hf2.vd.m, hf2.vn.c, hf2.vd.c, QOf.mk_ (neg := false) hs.2.1 hs.2.2.1 (fun _ => rfl)⟩
      have HI := Lib.hid hI
      have HS := Lib.hid hS
      clear hI hS hs a0 a1 a2 a3 a4 a5 a6
      clear c0 c1 c2 c3 c4 c5 c6 c7 d0 d1 d2 d3 d4 d5 d6 d7 dl
      obtain ⟨a0, a1, a2, a3, a4, a5, a6⟩ := hkr9.facts
      go_wp2_with fail
      refine bodyPost_ret (v := .agg #[.bool false, .slice f2.vn.p f2.vn.xs.length f2.vn.c, .slice f2.vd.p f2.vd.xs.length f2.vd.c]) (by simp [results, Tryz.results56, go_sem, a0, a1, a2]) rfl ?_
      exact ⟨⟨false, f2.vn.p, f2.vn.c, f2.vn.xs, f2.vd.p, f2.vd.c, f2.vd.xs⟩, rfl, rfl, HI.out.put3 hkr9 _ _ _, HS.out.1, HS.out.2.1, HS.out.2.2, below_put3 hw9 (by omega) _ _ _⟩
end Go.Proofs.YtopppmlkddajjaaGreatDoor

