/- isochronelaw02.RatField answers true for all arguments: the walks. -/
import Derived.Test.YtopppmlkddajjaaGreatDoorQFR24
namespace Go.Proofs.YtopppmlkddajjaaGreatDoor
open Go.RowKit V
set_option maxRecDepth 100000 in
set_option maxHeartbeats 20000000 in
theorem field_n (a b : RL) (p q : Rat) (w : World) (hra : a.Raw w) (hrb : b.Raw w) (ha : a.Is w p) (hb_ : b.Is w q) (la1 : a.ns.length ≤ 6) (la2 : a.ds.length ≤ 6) (lb1 : b.ns.length ≤ 6) (lb2 : b.ds.length ≤ 6) (hva : Hid a.Val) (hvb : Hid b.Val) (hz : 0 < b.ns.length) (htab : Lib.TabBelow Tryz.prog w.heap.size w "internal/strconv.uint64pow10" .u64 Lib.pow10Tab) :
    Calls Tryz.prog 3 #[.agg #[.bool a.s, .slice a.N a.ns.length a.nc, .slice a.D a.ds.length a.dc], .agg #[.bool b.s, .slice b.N b.ns.length b.nc, .slice b.D b.ds.length b.dc]] w (Yes w) := by
  have HT := Lib.hid htab
  have HVA := hva
  have HVB := hvb
  have HZ := Lib.hid hz
  clear htab hva hvb hz
  go_enter Tryz.func3, Tryz.ntmps3
  go_wp2_with fail
  have hbox := box1r w (.bool a.s) (.slice a.N a.ns.length a.nc) (.slice a.D a.ds.length a.dc) (.bool b.s) (.slice b.N b.ns.length b.nc) (.slice b.D b.ds.length b.dc)
  obtain ⟨w1, hwe⟩ : ∃ x, (w.alloc (.cells #[.bool a.s, .slice a.N a.ns.length a.nc, .slice a.D a.ds.length a.dc] 24)).alloc (.cells #[.bool b.s, .slice b.N b.ns.length b.nc, .slice b.D b.ds.length b.dc] 24) = x := ⟨_, rfl⟩
  rw [hwe] at hbox ⊢
  obtain ⟨ka1, kb1, hb1⟩ := hbox
  have HWE := Lib.hid hwe
  clear hwe HWE
  have hra1 := hra.below hb1
  have hrb1 := hrb.below hb1
  have ha1 := ha.below hb1
  have hb_1 := hb_.below hb1
  have hw1 := hb1
  clear hra hrb ha hb_ hb1
  refine (qawake_yes _ (fun w' h => HT.out w' (hw1.trans (h.mono hw1.size)))).mono ?_
  rintro e w2 ⟨rfl, hb2⟩
  have hra2 := hra1.below hb2
  have hrb2 := hrb1.below hb2
  have ha2 := ha1.below hb2
  have hb_2 := hb_1.below hb2
  have ka2 := ka1.below hb2
  have kb2 := kb1.below hb2
  have hw2 := hw1.trans (hb2.mono hw1.size)
  clear hra1 hrb1 ha1 hb_1 ka1 kb1 hw1 hb2
  obtain ⟨a0, a1, a2, a3, a4, a5, a6⟩ := ka2.facts
  obtain ⟨b0, b1, b2, b3, b4, b5, b6⟩ := kb2.facts
  go_wp2_with fail
  refine (qsm_yes a b 6 _ hra2 hrb2 ⟨la1, la2⟩ ⟨lb1, lb2⟩ HVA HVB).mono ?_
  rintro e w3 ⟨rfl, hb3⟩
  have hra3 := hra2.below hb3
  have hrb3 := hrb2.below hb3
  have ha3 := ha2.below hb3
  have hb_3 := hb_2.below hb3
  have ka3 := ka2.below hb3
  have kb3 := kb2.below hb3
  have hw3 := hw2.trans (hb3.mono hw2.size)
  clear hra2 hrb2 ha2 hb_2 ka2 kb2 hw2 hb3
  clear a0 a1 a2 a3 a4 a5 a6
  clear b0 b1 b2 b3 b4 b5 b6
  clear hra3 hrb3
  obtain ⟨a0, a1, a2, a3, a4, a5, a6⟩ := ka3.facts
  obtain ⟨b0, b1, b2, b3, b4, b5, b6⟩ := kb3.facts
  go_upto_region 5 with fail
  go_cut [5, 6] (fun s5 s6 wx => ∃ g1 g2 u v, s5 = .pointer (some ⟨g1, 0, none⟩) ∧ s6 = .pointer (some ⟨g2, 0, none⟩) ∧ BlkT 30 wx g1 (.bool (u : RL).s) (.slice u.N u.ns.length u.nc) (.slice u.D u.ds.length u.dc) ∧ BlkT 30 wx g2 (.bool (v : RL).s) (.slice v.N v.ns.length v.nc) (.slice v.D v.ds.length v.dc) ∧ u.Ref wx p ∧ v.Ref wx q ∧ u.ns.length ≤ 24 ∧ u.ds.length ≤ 24 ∧ v.ns.length ≤ 24 ∧ v.ds.length ≤ 24 ∧ Below w3.heap.size w3 wx)
  case first =>
    refine wp_region_held_drew (S := fun w' => w'.cell? ⟨w.heap.size, 0, none⟩ = some (.bool a.s) ∧ w'.cell? ⟨w.heap.size, 1, none⟩ = some (.slice a.N a.ns.length a.nc) ∧ w'.cell? ⟨w.heap.size, 2, none⟩ = some (.slice a.D a.ds.length a.dc) ∧ w'.cell? ⟨w.heap.size + 1, 0, none⟩ = some (.bool b.s) ∧ w'.cell? ⟨w.heap.size + 1, 1, none⟩ = some (.slice b.N b.ns.length b.nc) ∧ w'.cell? ⟨w.heap.size + 1, 2, none⟩ = some (.slice b.D b.ds.length b.dc)) (by kernel_rfl) ?_ (fun hHeld => ?_)
    · first | exact ⟨‹_›, ‹_›, ‹_›, ‹_›, ‹_›, ‹_›⟩ | go_keep
    refine wpAnyH_take (i := 0) (v := ?v0) rfl (by kernel_rfl) (by kernel_rfl) (by kernel_rfl) (fun _ _ _ h => h) (Or.inl ⟨by rfl, ?hy0⟩) (by assumption) ?rest0
    case hy0 =>
      intro w hSw
      (try dsimp only at hSw)
      go_simp
      all_goals with_reducible rfl
    simp only [Act.put, List.getElem_toArray, List.getElem_cons_zero, List.setIfInBounds_toArray, List.set_cons_zero, List.set_cons_succ]
    refine wpAnyH_take (i := 2) (v := ?v2) rfl (by kernel_rfl) (by kernel_rfl) (by kernel_rfl) (fun _ _ _ h => h) (Or.inl ⟨by rfl, ?hy2⟩) (by assumption) ?rest2
    case hy2 =>
      intro w hSw
      (try dsimp only at hSw)
      go_simp
      all_goals with_reducible rfl
    simp only [Act.put, List.getElem_toArray, List.getElem_cons_zero, List.getElem_cons_succ, List.setIfInBounds_toArray, List.set_cons_zero, List.set_cons_succ]
    have hbd : Below w3.heap.size w3 w3.drew := below_drew_ (Below.refl _ _) 1
    obtain ⟨wd, hwd⟩ : ∃ x, w3.drew = x := ⟨_, rfl⟩
    rw [hwd] at hbd ⊢
    clear hwd
    have had := ha3.below hbd
    have hbd_ := hb_3.below hbd
    have kad := ka3.below hbd
    have kbd := kb3.below hbd
    refine wpAnyH_ready (rs := [1, 4, 5]) (by kernel_rfl) (by simp) ?_
    refine AllReadyH.cons (o := _) rfl (fun K hK => ?_) (AllReadyH.cons (o := _) rfl (fun K hK => ?_) (AllReadyH.cons (o := _) rfl (fun K hK => ?_) AllReadyH.nil))
    · go_simp
      go_at_call_of 8 (Value.agg #[.bool a.s, .slice a.N a.ns.length a.nc, .slice a.D a.ds.length a.dc])
      refine (qof a p _ had (by omega) (by omega)).mono ?_
      rintro e x1 ⟨u, rfl, hux1, hua, hub, hbx1⟩
      go_wp2_with fail
      have hax1 := had.below hbx1
      have hb_x1 := hbd_.below hbx1
      have kax1 := kad.below hbx1
      have kbx1 := kbd.below hbx1
      have hwx1 := hbd.trans (hbx1.mono hbd.size)
      refine hK.out _ _ ?_ (fun hHeld => ?_)
      · exact ⟨(kax1).facts.c0, (kax1).facts.c1, (kax1).facts.c2, (kbx1).facts.c0, (kbx1).facts.c1, (kbx1).facts.c2⟩
      clear hK K hHeld
      try simp only [Act.put, List.getElem_toArray, List.getElem_cons_zero, List.getElem_cons_succ, List.setIfInBounds_toArray, List.set_cons_zero, List.set_cons_succ]
      refine wpAnyH_ready (rs := [3, 4, 5]) (by kernel_rfl) (by simp) ?_
      refine AllReadyH.cons (o := _) rfl (fun K hK => ?_) (AllReadyH.cons (o := _) rfl (fun K hK => ?_) (AllReadyH.cons (o := _) rfl (fun K hK => ?_) AllReadyH.nil))
      · go_simp
        go_at_call_of 8 (Value.agg #[.bool b.s, .slice b.N b.ns.length b.nc, .slice b.D b.ds.length b.dc])
        refine (qof b q _ hb_x1 (by omega) (by omega)).mono ?_
        rintro e x2 ⟨v, rfl, hvx2, hva, hvb, hbx2⟩
        go_wp2_with fail
        have hax2 := hax1.below hbx2
        have hb_x2 := hb_x1.below hbx2
        have kax2 := kax1.below hbx2
        have kbx2 := kbx1.below hbx2
        have hux2 := hux1.below hbx2
        have hwx2 := hwx1.trans (hbx2.mono hwx1.size)
        refine hK.out _ _ ?_ (fun hHeld => ?_)
        · exact ⟨(kax2).facts.c0, (kax2).facts.c1, (kax2).facts.c2, (kbx2).facts.c0, (kbx2).facts.c1, (kbx2).facts.c2⟩
        clear hK K hHeld
        try simp only [Act.put, List.getElem_toArray, List.getElem_cons_zero, List.getElem_cons_succ, List.setIfInBounds_toArray, List.set_cons_zero, List.set_cons_succ]
        refine wpAnyH_ready (rs := [4, 5]) (by kernel_rfl) (by simp) ?_
        refine AllReadyH.cons (o := _) rfl (fun K hK => ?_) (AllReadyH.cons (o := _) rfl (fun K hK => ?_) AllReadyH.nil)
        · go_simp
          refine hK.out _ _ ?_ (fun hHeld => ?_)
          · exact ⟨(kax2.alloc _).facts.c0, (kax2.alloc _).facts.c1, (kax2.alloc _).facts.c2, (kbx2.alloc _).facts.c0, (kbx2.alloc _).facts.c1, (kbx2.alloc _).facts.c2⟩
          clear hK K hHeld
          try simp only [Act.put, List.getElem_toArray, List.getElem_cons_zero, List.getElem_cons_succ, List.setIfInBounds_toArray, List.set_cons_zero, List.set_cons_succ]
          have hbx3 : Below x2.heap.size x2 (x2.alloc (.cells #[.bool false, .slice none 0 0, .slice none 0 0] 30)) := (Below.refl _ _).alloc (Nat.le_refl _) _
          have z5x3 := BlkT.new 30 x2 (.bool false) (.slice none 0 0) (.slice none 0 0)
          obtain ⟨x3, hwe⟩ : ∃ x, x2.alloc (.cells #[.bool false, .slice none 0 0, .slice none 0 0] 30) = x := ⟨_, rfl⟩
          rw [hwe] at hbx3 z5x3 ⊢
          clear hwe
          have hax3 := hax2.below hbx3
          have hb_x3 := hb_x2.below hbx3
          have kax3 := kax2.below hbx3
          have kbx3 := kbx2.below hbx3
          have hux3 := hux2.below hbx3
          have hvx3 := hvx2.below hbx3
          have hwx3 := hwx2.trans (hbx3.mono hwx2.size)
          have hgez5 : w3.heap.size ≤ x2.heap.size := hwx2.size
          refine wpAnyH_ready (rs := [5]) (by kernel_rfl) (by simp) ?_
          refine AllReadyH.cons (o := _) rfl (fun K hK => ?_) AllReadyH.nil
          · go_simp
            refine hK.out _ _ ?_ (fun hHeld => ?_)
            · exact ⟨(kax3.alloc _).facts.c0, (kax3.alloc _).facts.c1, (kax3.alloc _).facts.c2, (kbx3.alloc _).facts.c0, (kbx3.alloc _).facts.c1, (kbx3.alloc _).facts.c2⟩
            clear hK K hHeld
            try simp only [Act.put, List.getElem_toArray, List.getElem_cons_zero, List.getElem_cons_succ, List.setIfInBounds_toArray, List.set_cons_zero, List.set_cons_succ]
            have hbx4 : Below x3.heap.size x3 (x3.alloc (.cells #[.bool false, .slice none 0 0, .slice none 0 0] 30)) := (Below.refl _ _).alloc (Nat.le_refl _) _
            have z6x4 := BlkT.new 30 x3 (.bool false) (.slice none 0 0) (.slice none 0 0)
            obtain ⟨x4, hwe⟩ : ∃ x, x3.alloc (.cells #[.bool false, .slice none 0 0, .slice none 0 0] 30) = x := ⟨_, rfl⟩
            rw [hwe] at hbx4 z6x4 ⊢
            clear hwe
            have hax4 := hax3.below hbx4
            have hb_x4 := hb_x3.below hbx4
            have kax4 := kax3.below hbx4
            have kbx4 := kbx3.below hbx4
            have z5x4 := z5x3.below hbx4
            have hux4 := hux3.below hbx4
            have hvx4 := hvx3.below hbx4
            have hne : x2.heap.size < x3.heap.size := z5x3.lt
            have hwx4 := hwx3.trans (hbx4.mono hwx3.size)
            have hgez6 : w3.heap.size ≤ x3.heap.size := hwx3.size
            refine wpAnyH_ready (rs := [6]) (by kernel_rfl) (by simp) ?_
            refine AllReadyH.cons (o := _) rfl (fun K hK => ?_) AllReadyH.nil
            obtain ⟨y0, y1, y2, y3, y4, y5, y6⟩ := z5x4.facts
            go_simp
            clear y0 y1 y2 y3 y4 y5 y6
            have kast6 : BlkT _ (put3 x4 (x2.heap.size) (.bool u.s) (.slice u.N u.ns.length u.nc) (.slice u.D u.ds.length u.dc)) _ _ _ _ := (((kax4).far (p := ⟨x2.heap.size, 0, none⟩) (by have := kax4.lt; have := ka3.lt; simp; omega) _).far (p := ⟨x2.heap.size, 1, none⟩) (by have := kax4.lt; have := ka3.lt; simp; omega) _).far (p := ⟨x2.heap.size, 2, none⟩) (by have := kax4.lt; have := ka3.lt; simp; omega) _
            have kbst6 : BlkT _ (put3 x4 (x2.heap.size) (.bool u.s) (.slice u.N u.ns.length u.nc) (.slice u.D u.ds.length u.dc)) _ _ _ _ := (((kbx4).far (p := ⟨x2.heap.size, 0, none⟩) (by have := kb3.lt; simp; omega) _).far (p := ⟨x2.heap.size, 1, none⟩) (by have := kb3.lt; simp; omega) _).far (p := ⟨x2.heap.size, 2, none⟩) (by have := kb3.lt; simp; omega) _
            have z6st6 : BlkT _ (put3 x4 (x2.heap.size) (.bool u.s) (.slice u.N u.ns.length u.nc) (.slice u.D u.ds.length u.dc)) _ _ _ _ := (((z6x4).far (p := ⟨x2.heap.size, 0, none⟩) (by simp; omega) _).far (p := ⟨x2.heap.size, 1, none⟩) (by simp; omega) _).far (p := ⟨x2.heap.size, 2, none⟩) (by simp; omega) _
            have z5st6 : BlkT _ (put3 x4 (x2.heap.size) (.bool u.s) (.slice u.N u.ns.length u.nc) (.slice u.D u.ds.length u.dc)) _ _ _ _ := z5x4.put3_ (.bool u.s) (.slice u.N u.ns.length u.nc) (.slice u.D u.ds.length u.dc)
            have hust6 : u.Ref (put3 x4 (x2.heap.size) (.bool u.s) (.slice u.N u.ns.length u.nc) (.slice u.D u.ds.length u.dc)) p := hux4.put3 z5x4 (.bool u.s) (.slice u.N u.ns.length u.nc) (.slice u.D u.ds.length u.dc)
            have hvst6 : v.Ref (put3 x4 (x2.heap.size) (.bool u.s) (.slice u.N u.ns.length u.nc) (.slice u.D u.ds.length u.dc)) q := hvx4.put3 z5x4 (.bool u.s) (.slice u.N u.ns.length u.nc) (.slice u.D u.ds.length u.dc)
            have hwst6 : Below w3.heap.size w3 (put3 x4 (x2.heap.size) (.bool u.s) (.slice u.N u.ns.length u.nc) (.slice u.D u.ds.length u.dc)) := below_put3 hwx4 hgez5 (.bool u.s) (.slice u.N u.ns.length u.nc) (.slice u.D u.ds.length u.dc)
            refine hK.out _ _ ?_ (fun hHeld => ?_)
            · exact ⟨(kast6).facts.c0, (kast6).facts.c1, (kast6).facts.c2, (kbst6).facts.c0, (kbst6).facts.c1, (kbst6).facts.c2⟩
            clear hK K hHeld
            try simp only [Act.put, List.getElem_toArray, List.getElem_cons_zero, List.getElem_cons_succ, List.setIfInBounds_toArray, List.set_cons_zero, List.set_cons_succ]
            obtain ⟨st6, hwe⟩ : ∃ x, (put3 x4 (x2.heap.size) (.bool u.s) (.slice u.N u.ns.length u.nc) (.slice u.D u.ds.length u.dc)) = x := ⟨_, rfl⟩
            rw [hwe] at kast6 kbst6 z5st6 z6st6 hust6 hvst6 hwst6
            simp only [put3] at hwe
            rw [hwe]
            clear hwe
            refine wpAnyH_ready (rs := [7]) (by kernel_rfl) (by simp) ?_
            refine AllReadyH.cons (o := _) rfl (fun K hK => ?_) AllReadyH.nil
            obtain ⟨y0, y1, y2, y3, y4, y5, y6⟩ := z6st6.facts
            go_simp
            clear y0 y1 y2 y3 y4 y5 y6
            have kast7 : BlkT _ (put3 st6 (x3.heap.size) (.bool v.s) (.slice v.N v.ns.length v.nc) (.slice v.D v.ds.length v.dc)) _ _ _ _ := (((kast6).far (p := ⟨x3.heap.size, 0, none⟩) (by have := kast6.lt; have := ka3.lt; simp; omega) _).far (p := ⟨x3.heap.size, 1, none⟩) (by have := kast6.lt; have := ka3.lt; simp; omega) _).far (p := ⟨x3.heap.size, 2, none⟩) (by have := kast6.lt; have := ka3.lt; simp; omega) _
            have kbst7 : BlkT _ (put3 st6 (x3.heap.size) (.bool v.s) (.slice v.N v.ns.length v.nc) (.slice v.D v.ds.length v.dc)) _ _ _ _ := (((kbst6).far (p := ⟨x3.heap.size, 0, none⟩) (by have := kb3.lt; simp; omega) _).far (p := ⟨x3.heap.size, 1, none⟩) (by have := kb3.lt; simp; omega) _).far (p := ⟨x3.heap.size, 2, none⟩) (by have := kb3.lt; simp; omega) _
            have z5st7 : BlkT _ (put3 st6 (x3.heap.size) (.bool v.s) (.slice v.N v.ns.length v.nc) (.slice v.D v.ds.length v.dc)) _ _ _ _ := (((z5st6).far (p := ⟨x3.heap.size, 0, none⟩) (by simp; omega) _).far (p := ⟨x3.heap.size, 1, none⟩) (by simp; omega) _).far (p := ⟨x3.heap.size, 2, none⟩) (by simp; omega) _
            have z6st7 : BlkT _ (put3 st6 (x3.heap.size) (.bool v.s) (.slice v.N v.ns.length v.nc) (.slice v.D v.ds.length v.dc)) _ _ _ _ := z6st6.put3_ (.bool v.s) (.slice v.N v.ns.length v.nc) (.slice v.D v.ds.length v.dc)
            have hust7 : u.Ref (put3 st6 (x3.heap.size) (.bool v.s) (.slice v.N v.ns.length v.nc) (.slice v.D v.ds.length v.dc)) p := hust6.put3 z6st6 (.bool v.s) (.slice v.N v.ns.length v.nc) (.slice v.D v.ds.length v.dc)
            have hvst7 : v.Ref (put3 st6 (x3.heap.size) (.bool v.s) (.slice v.N v.ns.length v.nc) (.slice v.D v.ds.length v.dc)) q := hvst6.put3 z6st6 (.bool v.s) (.slice v.N v.ns.length v.nc) (.slice v.D v.ds.length v.dc)
            have hwst7 : Below w3.heap.size w3 (put3 st6 (x3.heap.size) (.bool v.s) (.slice v.N v.ns.length v.nc) (.slice v.D v.ds.length v.dc)) := below_put3 hwst6 hgez6 (.bool v.s) (.slice v.N v.ns.length v.nc) (.slice v.D v.ds.length v.dc)
            refine hK.out _ _ ?_ (fun hHeld => ?_)
            · exact ⟨(kast7).facts.c0, (kast7).facts.c1, (kast7).facts.c2, (kbst7).facts.c0, (kbst7).facts.c1, (kbst7).facts.c2⟩
            clear hK K hHeld
            try simp only [Act.put, List.getElem_toArray, List.getElem_cons_zero, List.getElem_cons_succ, List.setIfInBounds_toArray, List.set_cons_zero, List.set_cons_succ]
            obtain ⟨st7, hwe⟩ : ∃ x, (put3 st6 (x3.heap.size) (.bool v.s) (.slice v.N v.ns.length v.nc) (.slice v.D v.ds.length v.dc)) = x := ⟨_, rfl⟩
            rw [hwe] at kast7 kbst7 z5st7 z6st7 hust7 hvst7 hwst7
            simp only [put3] at hwe
            rw [hwe]
            clear hwe
            refine wpAnyH_done (by kernel_rfl) ?_ _
            go_wp2_with fail
            go_meet
            exact ⟨_, _, u, v, rfl, rfl, z5st7, z6st7, hust7, hvst7, by omega, by omega, by omega, by omega, hwst7⟩
        · go_simp
          refine hK.out _ _ ?_ (fun hHeld => ?_)
          · exact ⟨(kax2.alloc _).facts.c0, (kax2.alloc _).facts.c1, (kax2.alloc _).facts.c2, (kbx2.alloc _).facts.c0, (kbx2.alloc _).facts.c1, (kbx2.alloc _).facts.c2⟩
          clear hK K hHeld
          try simp only [Act.put, List.getElem_toArray, List.getElem_cons_zero, List.getElem_cons_succ, List.setIfInBounds_toArray, List.set_cons_zero, List.set_cons_succ]
          have hbx5 : Below x2.heap.size x2 (x2.alloc (.cells #[.bool false, .slice none 0 0, .slice none 0 0] 30)) := (Below.refl _ _).alloc (Nat.le_refl _) _
          have z6x5 := BlkT.new 30 x2 (.bool false) (.slice none 0 0) (.slice none 0 0)
          obtain ⟨x5, hwe⟩ : ∃ x, x2.alloc (.cells #[.bool false, .slice none 0 0, .slice none 0 0] 30) = x := ⟨_, rfl⟩
          rw [hwe] at hbx5 z6x5 ⊢
          clear hwe
          have hax5 := hax2.below hbx5
          have hb_x5 := hb_x2.below hbx5
          have kax5 := kax2.below hbx5
          have kbx5 := kbx2.below hbx5
          have hux5 := hux2.below hbx5
          have hvx5 := hvx2.below hbx5
          have hwx5 := hwx2.trans (hbx5.mono hwx2.size)
          have hgez6 : w3.heap.size ≤ x2.heap.size := hwx2.size
          refine wpAnyH_ready (rs := [4]) (by kernel_rfl) (by simp) ?_
          refine AllReadyH.cons (o := _) rfl (fun K hK => ?_) AllReadyH.nil
          · go_simp
            refine hK.out _ _ ?_ (fun hHeld => ?_)
            · exact ⟨(kax5.alloc _).facts.c0, (kax5.alloc _).facts.c1, (kax5.alloc _).facts.c2, (kbx5.alloc _).facts.c0, (kbx5.alloc _).facts.c1, (kbx5.alloc _).facts.c2⟩
            clear hK K hHeld
            try simp only [Act.put, List.getElem_toArray, List.getElem_cons_zero, List.getElem_cons_succ, List.setIfInBounds_toArray, List.set_cons_zero, List.set_cons_succ]
            have hbx6 : Below x5.heap.size x5 (x5.alloc (.cells #[.bool false, .slice none 0 0, .slice none 0 0] 30)) := (Below.refl _ _).alloc (Nat.le_refl _) _
            have z5x6 := BlkT.new 30 x5 (.bool false) (.slice none 0 0) (.slice none 0 0)
            obtain ⟨x6, hwe⟩ : ∃ x, x5.alloc (.cells #[.bool false, .slice none 0 0, .slice none 0 0] 30) = x := ⟨_, rfl⟩
            rw [hwe] at hbx6 z5x6 ⊢
            clear hwe
            have hax6 := hax5.below hbx6
            have hb_x6 := hb_x5.below hbx6
            have kax6 := kax5.below hbx6
            have kbx6 := kbx5.below hbx6
            have z6x6 := z6x5.below hbx6
            have hux6 := hux5.below hbx6
            have hvx6 := hvx5.below hbx6
            have hne : x2.heap.size < x5.heap.size := z6x5.lt
            have hwx6 := hwx5.trans (hbx6.mono hwx5.size)
            have hgez5 : w3.heap.size ≤ x5.heap.size := hwx5.size
            refine wpAnyH_ready (rs := [6]) (by kernel_rfl) (by simp) ?_
            refine AllReadyH.cons (o := _) rfl (fun K hK => ?_) AllReadyH.nil
            obtain ⟨y0, y1, y2, y3, y4, y5, y6⟩ := z5x6.facts
            go_simp
            clear y0 y1 y2 y3 y4 y5 y6
            have kast6 : BlkT _ (put3 x6 (x5.heap.size) (.bool u.s) (.slice u.N u.ns.length u.nc) (.slice u.D u.ds.length u.dc)) _ _ _ _ := (((kax6).far (p := ⟨x5.heap.size, 0, none⟩) (by have := kax6.lt; have := ka3.lt; simp; omega) _).far (p := ⟨x5.heap.size, 1, none⟩) (by have := kax6.lt; have := ka3.lt; simp; omega) _).far (p := ⟨x5.heap.size, 2, none⟩) (by have := kax6.lt; have := ka3.lt; simp; omega) _
            have kbst6 : BlkT _ (put3 x6 (x5.heap.size) (.bool u.s) (.slice u.N u.ns.length u.nc) (.slice u.D u.ds.length u.dc)) _ _ _ _ := (((kbx6).far (p := ⟨x5.heap.size, 0, none⟩) (by have := kb3.lt; simp; omega) _).far (p := ⟨x5.heap.size, 1, none⟩) (by have := kb3.lt; simp; omega) _).far (p := ⟨x5.heap.size, 2, none⟩) (by have := kb3.lt; simp; omega) _
            have z6st6 : BlkT _ (put3 x6 (x5.heap.size) (.bool u.s) (.slice u.N u.ns.length u.nc) (.slice u.D u.ds.length u.dc)) _ _ _ _ := (((z6x6).far (p := ⟨x5.heap.size, 0, none⟩) (by simp; omega) _).far (p := ⟨x5.heap.size, 1, none⟩) (by simp; omega) _).far (p := ⟨x5.heap.size, 2, none⟩) (by simp; omega) _
            have z5st6 : BlkT _ (put3 x6 (x5.heap.size) (.bool u.s) (.slice u.N u.ns.length u.nc) (.slice u.D u.ds.length u.dc)) _ _ _ _ := z5x6.put3_ (.bool u.s) (.slice u.N u.ns.length u.nc) (.slice u.D u.ds.length u.dc)
            have hust6 : u.Ref (put3 x6 (x5.heap.size) (.bool u.s) (.slice u.N u.ns.length u.nc) (.slice u.D u.ds.length u.dc)) p := hux6.put3 z5x6 (.bool u.s) (.slice u.N u.ns.length u.nc) (.slice u.D u.ds.length u.dc)
            have hvst6 : v.Ref (put3 x6 (x5.heap.size) (.bool u.s) (.slice u.N u.ns.length u.nc) (.slice u.D u.ds.length u.dc)) q := hvx6.put3 z5x6 (.bool u.s) (.slice u.N u.ns.length u.nc) (.slice u.D u.ds.length u.dc)
            have hwst6 : Below w3.heap.size w3 (put3 x6 (x5.heap.size) (.bool u.s) (.slice u.N u.ns.length u.nc) (.slice u.D u.ds.length u.dc)) := below_put3 hwx6 hgez5 (.bool u.s) (.slice u.N u.ns.length u.nc) (.slice u.D u.ds.length u.dc)
            refine hK.out _ _ ?_ (fun hHeld => ?_)
            · exact ⟨(kast6).facts.c0, (kast6).facts.c1, (kast6).facts.c2, (kbst6).facts.c0, (kbst6).facts.c1, (kbst6).facts.c2⟩
            clear hK K hHeld
            try simp only [Act.put, List.getElem_toArray, List.getElem_cons_zero, List.getElem_cons_succ, List.setIfInBounds_toArray, List.set_cons_zero, List.set_cons_succ]
            obtain ⟨st6, hwe⟩ : ∃ x, (put3 x6 (x5.heap.size) (.bool u.s) (.slice u.N u.ns.length u.nc) (.slice u.D u.ds.length u.dc)) = x := ⟨_, rfl⟩
            rw [hwe] at kast6 kbst6 z5st6 z6st6 hust6 hvst6 hwst6
            simp only [put3] at hwe
            rw [hwe]
            clear hwe
            refine wpAnyH_ready (rs := [7]) (by kernel_rfl) (by simp) ?_
            refine AllReadyH.cons (o := _) rfl (fun K hK => ?_) AllReadyH.nil
            obtain ⟨y0, y1, y2, y3, y4, y5, y6⟩ := z6st6.facts
            go_simp
            clear y0 y1 y2 y3 y4 y5 y6
            have kast7 : BlkT _ (put3 st6 (x2.heap.size) (.bool v.s) (.slice v.N v.ns.length v.nc) (.slice v.D v.ds.length v.dc)) _ _ _ _ := (((kast6).far (p := ⟨x2.heap.size, 0, none⟩) (by have := kast6.lt; have := ka3.lt; simp; omega) _).far (p := ⟨x2.heap.size, 1, none⟩) (by have := kast6.lt; have := ka3.lt; simp; omega) _).far (p := ⟨x2.heap.size, 2, none⟩) (by have := kast6.lt; have := ka3.lt; simp; omega) _
            have kbst7 : BlkT _ (put3 st6 (x2.heap.size) (.bool v.s) (.slice v.N v.ns.length v.nc) (.slice v.D v.ds.length v.dc)) _ _ _ _ := (((kbst6).far (p := ⟨x2.heap.size, 0, none⟩) (by have := kb3.lt; simp; omega) _).far (p := ⟨x2.heap.size, 1, none⟩) (by have := kb3.lt; simp; omega) _).far (p := ⟨x2.heap.size, 2, none⟩) (by have := kb3.lt; simp; omega) _
            have z5st7 : BlkT _ (put3 st6 (x2.heap.size) (.bool v.s) (.slice v.N v.ns.length v.nc) (.slice v.D v.ds.length v.dc)) _ _ _ _ := (((z5st6).far (p := ⟨x2.heap.size, 0, none⟩) (by simp; omega) _).far (p := ⟨x2.heap.size, 1, none⟩) (by simp; omega) _).far (p := ⟨x2.heap.size, 2, none⟩) (by simp; omega) _
            have z6st7 : BlkT _ (put3 st6 (x2.heap.size) (.bool v.s) (.slice v.N v.ns.length v.nc) (.slice v.D v.ds.length v.dc)) _ _ _ _ := z6st6.put3_ (.bool v.s) (.slice v.N v.ns.length v.nc) (.slice v.D v.ds.length v.dc)
            have hust7 : u.Ref (put3 st6 (x2.heap.size) (.bool v.s) (.slice v.N v.ns.length v.nc) (.slice v.D v.ds.length v.dc)) p := hust6.put3 z6st6 (.bool v.s) (.slice v.N v.ns.length v.nc) (.slice v.D v.ds.length v.dc)
            have hvst7 : v.Ref (put3 st6 (x2.heap.size) (.bool v.s) (.slice v.N v.ns.length v.nc) (.slice v.D v.ds.length v.dc)) q := hvst6.put3 z6st6 (.bool v.s) (.slice v.N v.ns.length v.nc) (.slice v.D v.ds.length v.dc)
            have hwst7 : Below w3.heap.size w3 (put3 st6 (x2.heap.size) (.bool v.s) (.slice v.N v.ns.length v.nc) (.slice v.D v.ds.length v.dc)) := below_put3 hwst6 hgez6 (.bool v.s) (.slice v.N v.ns.length v.nc) (.slice v.D v.ds.length v.dc)
            refine hK.out _ _ ?_ (fun hHeld => ?_)
            · exact ⟨(kast7).facts.c0, (kast7).facts.c1, (kast7).facts.c2, (kbst7).facts.c0, (kbst7).facts.c1, (kbst7).facts.c2⟩
            clear hK K hHeld
            try simp only [Act.put, List.getElem_toArray, List.getElem_cons_zero, List.getElem_cons_succ, List.setIfInBounds_toArray, List.set_cons_zero, List.set_cons_succ]
            obtain ⟨st7, hwe⟩ : ∃ x, (put3 st6 (x2.heap.size) (.bool v.s) (.slice v.N v.ns.length v.nc) (.slice v.D v.ds.length v.dc)) = x := ⟨_, rfl⟩
            rw [hwe] at kast7 kbst7 z5st7 z6st7 hust7 hvst7 hwst7
            simp only [put3] at hwe
            rw [hwe]
            clear hwe
            refine wpAnyH_done (by kernel_rfl) ?_ _
            go_wp2_with fail
            go_meet
            exact ⟨_, _, u, v, rfl, rfl, z5st7, z6st7, hust7, hvst7, by omega, by omega, by omega, by omega, hwst7⟩
      · go_simp
        refine hK.out _ _ ?_ (fun hHeld => ?_)
        · exact ⟨(kax1.alloc _).facts.c0, (kax1.alloc _).facts.c1, (kax1.alloc _).facts.c2, (kbx1.alloc _).facts.c0, (kbx1.alloc _).facts.c1, (kbx1.alloc _).facts.c2⟩
        clear hK K hHeld
        try simp only [Act.put, List.getElem_toArray, List.getElem_cons_zero, List.getElem_cons_succ, List.setIfInBounds_toArray, List.set_cons_zero, List.set_cons_succ]
        have hbx7 : Below x1.heap.size x1 (x1.alloc (.cells #[.bool false, .slice none 0 0, .slice none 0 0] 30)) := (Below.refl _ _).alloc (Nat.le_refl _) _
        have z5x7 := BlkT.new 30 x1 (.bool false) (.slice none 0 0) (.slice none 0 0)
        obtain ⟨x7, hwe⟩ : ∃ x, x1.alloc (.cells #[.bool false, .slice none 0 0, .slice none 0 0] 30) = x := ⟨_, rfl⟩
        rw [hwe] at hbx7 z5x7 ⊢
        clear hwe
        have hax7 := hax1.below hbx7
        have hb_x7 := hb_x1.below hbx7
        have kax7 := kax1.below hbx7
        have kbx7 := kbx1.below hbx7
        have hux7 := hux1.below hbx7
        have hwx7 := hwx1.trans (hbx7.mono hwx1.size)
        have hgez5 : w3.heap.size ≤ x1.heap.size := hwx1.size
        refine wpAnyH_ready (rs := [3, 5]) (by kernel_rfl) (by simp) ?_
        refine AllReadyH.cons (o := _) rfl (fun K hK => ?_) (AllReadyH.cons (o := _) rfl (fun K hK => ?_) AllReadyH.nil)
        · go_simp
          go_at_call_of 8 (Value.agg #[.bool b.s, .slice b.N b.ns.length b.nc, .slice b.D b.ds.length b.dc])
          refine (qof b q _ hb_x7 (by omega) (by omega)).mono ?_
          rintro e x8 ⟨v, rfl, hvx8, hva, hvb, hbx8⟩
          go_wp2_with fail
          have hax8 := hax7.below hbx8
          have hb_x8 := hb_x7.below hbx8
          have kax8 := kax7.below hbx8
          have kbx8 := kbx7.below hbx8
          have z5x8 := z5x7.below hbx8
          have hux8 := hux7.below hbx8
          have hwx8 := hwx7.trans (hbx8.mono hwx7.size)
          refine hK.out _ _ ?_ (fun hHeld => ?_)
          · exact ⟨(kax8).facts.c0, (kax8).facts.c1, (kax8).facts.c2, (kbx8).facts.c0, (kbx8).facts.c1, (kbx8).facts.c2⟩
          clear hK K hHeld
          try simp only [Act.put, List.getElem_toArray, List.getElem_cons_zero, List.getElem_cons_succ, List.setIfInBounds_toArray, List.set_cons_zero, List.set_cons_succ]
          refine wpAnyH_ready (rs := [5]) (by kernel_rfl) (by simp) ?_
          refine AllReadyH.cons (o := _) rfl (fun K hK => ?_) AllReadyH.nil
          · go_simp
            refine hK.out _ _ ?_ (fun hHeld => ?_)
            · exact ⟨(kax8.alloc _).facts.c0, (kax8.alloc _).facts.c1, (kax8.alloc _).facts.c2, (kbx8.alloc _).facts.c0, (kbx8.alloc _).facts.c1, (kbx8.alloc _).facts.c2⟩
            clear hK K hHeld
            try simp only [Act.put, List.getElem_toArray, List.getElem_cons_zero, List.getElem_cons_succ, List.setIfInBounds_toArray, List.set_cons_zero, List.set_cons_succ]
            have hbx9 : Below x8.heap.size x8 (x8.alloc (.cells #[.bool false, .slice none 0 0, .slice none 0 0] 30)) := (Below.refl _ _).alloc (Nat.le_refl _) _
            have z6x9 := BlkT.new 30 x8 (.bool false) (.slice none 0 0) (.slice none 0 0)
            obtain ⟨x9, hwe⟩ : ∃ x, x8.alloc (.cells #[.bool false, .slice none 0 0, .slice none 0 0] 30) = x := ⟨_, rfl⟩
            rw [hwe] at hbx9 z6x9 ⊢
            clear hwe
            have hax9 := hax8.below hbx9
            have hb_x9 := hb_x8.below hbx9
            have kax9 := kax8.below hbx9
            have kbx9 := kbx8.below hbx9
            have z5x9 := z5x8.below hbx9
            have hux9 := hux8.below hbx9
            have hvx9 := hvx8.below hbx9
            have hne : x1.heap.size < x8.heap.size := z5x8.lt
            have hwx9 := hwx8.trans (hbx9.mono hwx8.size)
            have hgez6 : w3.heap.size ≤ x8.heap.size := hwx8.size
            refine wpAnyH_ready (rs := [6]) (by kernel_rfl) (by simp) ?_
            refine AllReadyH.cons (o := _) rfl (fun K hK => ?_) AllReadyH.nil
            obtain ⟨y0, y1, y2, y3, y4, y5, y6⟩ := z5x9.facts
            go_simp
            clear y0 y1 y2 y3 y4 y5 y6
            have kast6 : BlkT _ (put3 x9 (x1.heap.size) (.bool u.s) (.slice u.N u.ns.length u.nc) (.slice u.D u.ds.length u.dc)) _ _ _ _ := (((kax9).far (p := ⟨x1.heap.size, 0, none⟩) (by have := kax9.lt; have := ka3.lt; simp; omega) _).far (p := ⟨x1.heap.size, 1, none⟩) (by have := kax9.lt; have := ka3.lt; simp; omega) _).far (p := ⟨x1.heap.size, 2, none⟩) (by have := kax9.lt; have := ka3.lt; simp; omega) _
            have kbst6 : BlkT _ (put3 x9 (x1.heap.size) (.bool u.s) (.slice u.N u.ns.length u.nc) (.slice u.D u.ds.length u.dc)) _ _ _ _ := (((kbx9).far (p := ⟨x1.heap.size, 0, none⟩) (by have := kb3.lt; simp; omega) _).far (p := ⟨x1.heap.size, 1, none⟩) (by have := kb3.lt; simp; omega) _).far (p := ⟨x1.heap.size, 2, none⟩) (by have := kb3.lt; simp; omega) _
            have z6st6 : BlkT _ (put3 x9 (x1.heap.size) (.bool u.s) (.slice u.N u.ns.length u.nc) (.slice u.D u.ds.length u.dc)) _ _ _ _ := (((z6x9).far (p := ⟨x1.heap.size, 0, none⟩) (by simp; omega) _).far (p := ⟨x1.heap.size, 1, none⟩) (by simp; omega) _).far (p := ⟨x1.heap.size, 2, none⟩) (by simp; omega) _
            have z5st6 : BlkT _ (put3 x9 (x1.heap.size) (.bool u.s) (.slice u.N u.ns.length u.nc) (.slice u.D u.ds.length u.dc)) _ _ _ _ := z5x9.put3_ (.bool u.s) (.slice u.N u.ns.length u.nc) (.slice u.D u.ds.length u.dc)
            have hust6 : u.Ref (put3 x9 (x1.heap.size) (.bool u.s) (.slice u.N u.ns.length u.nc) (.slice u.D u.ds.length u.dc)) p := hux9.put3 z5x9 (.bool u.s) (.slice u.N u.ns.length u.nc) (.slice u.D u.ds.length u.dc)
            have hvst6 : v.Ref (put3 x9 (x1.heap.size) (.bool u.s) (.slice u.N u.ns.length u.nc) (.slice u.D u.ds.length u.dc)) q := hvx9.put3 z5x9 (.bool u.s) (.slice u.N u.ns.length u.nc) (.slice u.D u.ds.length u.dc)
            have hwst6 : Below w3.heap.size w3 (put3 x9 (x1.heap.size) (.bool u.s) (.slice u.N u.ns.length u.nc) (.slice u.D u.ds.length u.dc)) := below_put3 hwx9 hgez5 (.bool u.s) (.slice u.N u.ns.length u.nc) (.slice u.D u.ds.length u.dc)
            refine hK.out _ _ ?_ (fun hHeld => ?_)
            · exact ⟨(kast6).facts.c0, (kast6).facts.c1, (kast6).facts.c2, (kbst6).facts.c0, (kbst6).facts.c1, (kbst6).facts.c2⟩
            clear hK K hHeld
            try simp only [Act.put, List.getElem_toArray, List.getElem_cons_zero, List.getElem_cons_succ, List.setIfInBounds_toArray, List.set_cons_zero, List.set_cons_succ]
            obtain ⟨st6, hwe⟩ : ∃ x, (put3 x9 (x1.heap.size) (.bool u.s) (.slice u.N u.ns.length u.nc) (.slice u.D u.ds.length u.dc)) = x := ⟨_, rfl⟩
            rw [hwe] at kast6 kbst6 z5st6 z6st6 hust6 hvst6 hwst6
            simp only [put3] at hwe
            rw [hwe]
            clear hwe
            refine wpAnyH_ready (rs := [7]) (by kernel_rfl) (by simp) ?_
            refine AllReadyH.cons (o := _) rfl (fun K hK => ?_) AllReadyH.nil
            obtain ⟨y0, y1, y2, y3, y4, y5, y6⟩ := z6st6.facts
            go_simp
            clear y0 y1 y2 y3 y4 y5 y6
            have kast7 : BlkT _ (put3 st6 (x8.heap.size) (.bool v.s) (.slice v.N v.ns.length v.nc) (.slice v.D v.ds.length v.dc)) _ _ _ _ := (((kast6).far (p := ⟨x8.heap.size, 0, none⟩) (by have := kast6.lt; have := ka3.lt; simp; omega) _).far (p := ⟨x8.heap.size, 1, none⟩) (by have := kast6.lt; have := ka3.lt; simp; omega) _).far (p := ⟨x8.heap.size, 2, none⟩) (by have := kast6.lt; have := ka3.lt; simp; omega) _
            have kbst7 : BlkT _ (put3 st6 (x8.heap.size) (.bool v.s) (.slice v.N v.ns.length v.nc) (.slice v.D v.ds.length v.dc)) _ _ _ _ := (((kbst6).far (p := ⟨x8.heap.size, 0, none⟩) (by have := kb3.lt; simp; omega) _).far (p := ⟨x8.heap.size, 1, none⟩) (by have := kb3.lt; simp; omega) _).far (p := ⟨x8.heap.size, 2, none⟩) (by have := kb3.lt; simp; omega) _
            have z5st7 : BlkT _ (put3 st6 (x8.heap.size) (.bool v.s) (.slice v.N v.ns.length v.nc) (.slice v.D v.ds.length v.dc)) _ _ _ _ := (((z5st6).far (p := ⟨x8.heap.size, 0, none⟩) (by simp; omega) _).far (p := ⟨x8.heap.size, 1, none⟩) (by simp; omega) _).far (p := ⟨x8.heap.size, 2, none⟩) (by simp; omega) _
            have z6st7 : BlkT _ (put3 st6 (x8.heap.size) (.bool v.s) (.slice v.N v.ns.length v.nc) (.slice v.D v.ds.length v.dc)) _ _ _ _ := z6st6.put3_ (.bool v.s) (.slice v.N v.ns.length v.nc) (.slice v.D v.ds.length v.dc)
            have hust7 : u.Ref (put3 st6 (x8.heap.size) (.bool v.s) (.slice v.N v.ns.length v.nc) (.slice v.D v.ds.length v.dc)) p := hust6.put3 z6st6 (.bool v.s) (.slice v.N v.ns.length v.nc) (.slice v.D v.ds.length v.dc)
            have hvst7 : v.Ref (put3 st6 (x8.heap.size) (.bool v.s) (.slice v.N v.ns.length v.nc) (.slice v.D v.ds.length v.dc)) q := hvst6.put3 z6st6 (.bool v.s) (.slice v.N v.ns.length v.nc) (.slice v.D v.ds.length v.dc)
            have hwst7 : Below w3.heap.size w3 (put3 st6 (x8.heap.size) (.bool v.s) (.slice v.N v.ns.length v.nc) (.slice v.D v.ds.length v.dc)) := below_put3 hwst6 hgez6 (.bool v.s) (.slice v.N v.ns.length v.nc) (.slice v.D v.ds.length v.dc)
            refine hK.out _ _ ?_ (fun hHeld => ?_)
            · exact ⟨(kast7).facts.c0, (kast7).facts.c1, (kast7).facts.c2, (kbst7).facts.c0, (kbst7).facts.c1, (kbst7).facts.c2⟩
            clear hK K hHeld
            try simp only [Act.put, List.getElem_toArray, List.getElem_cons_zero, List.getElem_cons_succ, List.setIfInBounds_toArray, List.set_cons_zero, List.set_cons_succ]
            obtain ⟨st7, hwe⟩ : ∃ x, (put3 st6 (x8.heap.size) (.bool v.s) (.slice v.N v.ns.length v.nc) (.slice v.D v.ds.length v.dc)) = x := ⟨_, rfl⟩
            rw [hwe] at kast7 kbst7 z5st7 z6st7 hust7 hvst7 hwst7
            simp only [put3] at hwe
            rw [hwe]
            clear hwe
            refine wpAnyH_done (by kernel_rfl) ?_ _
            go_wp2_with fail
            go_meet
            exact ⟨_, _, u, v, rfl, rfl, z5st7, z6st7, hust7, hvst7, by omega, by omega, by omega, by omega, hwst7⟩
        · go_simp
          refine hK.out _ _ ?_ (fun hHeld => ?_)
          · exact ⟨(kax7.alloc _).facts.c0, (kax7.alloc _).facts.c1, (kax7.alloc _).facts.c2, (kbx7.alloc _).facts.c0, (kbx7.alloc _).facts.c1, (kbx7.alloc _).facts.c2⟩
          clear hK K hHeld
          try simp only [Act.put, List.getElem_toArray, List.getElem_cons_zero, List.getElem_cons_succ, List.setIfInBounds_toArray, List.set_cons_zero, List.set_cons_succ]
          have hbx10 : Below x7.heap.size x7 (x7.alloc (.cells #[.bool false, .slice none 0 0, .slice none 0 0] 30)) := (Below.refl _ _).alloc (Nat.le_refl _) _
          have z6x10 := BlkT.new 30 x7 (.bool false) (.slice none 0 0) (.slice none 0 0)
          obtain ⟨x10, hwe⟩ : ∃ x, x7.alloc (.cells #[.bool false, .slice none 0 0, .slice none 0 0] 30) = x := ⟨_, rfl⟩
          rw [hwe] at hbx10 z6x10 ⊢
          clear hwe
          have hax10 := hax7.below hbx10
          have hb_x10 := hb_x7.below hbx10
          have kax10 := kax7.below hbx10
          have kbx10 := kbx7.below hbx10
          have z5x10 := z5x7.below hbx10
          have hux10 := hux7.below hbx10
          have hne : x1.heap.size < x7.heap.size := z5x7.lt
          have hwx10 := hwx7.trans (hbx10.mono hwx7.size)
          have hgez6 : w3.heap.size ≤ x7.heap.size := hwx7.size
          refine wpAnyH_ready (rs := [3]) (by kernel_rfl) (by simp) ?_
          refine AllReadyH.cons (o := _) rfl (fun K hK => ?_) AllReadyH.nil
          · go_simp
            go_at_call_of 8 (Value.agg #[.bool b.s, .slice b.N b.ns.length b.nc, .slice b.D b.ds.length b.dc])
            refine (qof b q _ hb_x10 (by omega) (by omega)).mono ?_
            rintro e x11 ⟨v, rfl, hvx11, hva, hvb, hbx11⟩
            go_wp2_with fail
            have hax11 := hax10.below hbx11
            have hb_x11 := hb_x10.below hbx11
            have kax11 := kax10.below hbx11
            have kbx11 := kbx10.below hbx11
            have z5x11 := z5x10.below hbx11
            have z6x11 := z6x10.below hbx11
            have hux11 := hux10.below hbx11
            have hwx11 := hwx10.trans (hbx11.mono hwx10.size)
            refine hK.out _ _ ?_ (fun hHeld => ?_)
            · exact ⟨(kax11).facts.c0, (kax11).facts.c1, (kax11).facts.c2, (kbx11).facts.c0, (kbx11).facts.c1, (kbx11).facts.c2⟩
            clear hK K hHeld
            try simp only [Act.put, List.getElem_toArray, List.getElem_cons_zero, List.getElem_cons_succ, List.setIfInBounds_toArray, List.set_cons_zero, List.set_cons_succ]
            refine wpAnyH_ready (rs := [6]) (by kernel_rfl) (by simp) ?_
            refine AllReadyH.cons (o := _) rfl (fun K hK => ?_) AllReadyH.nil
            obtain ⟨y0, y1, y2, y3, y4, y5, y6⟩ := z5x11.facts
            go_simp
            clear y0 y1 y2 y3 y4 y5 y6
            have kast6 : BlkT _ (put3 x11 (x1.heap.size) (.bool u.s) (.slice u.N u.ns.length u.nc) (.slice u.D u.ds.length u.dc)) _ _ _ _ := (((kax11).far (p := ⟨x1.heap.size, 0, none⟩) (by have := kax11.lt; have := ka3.lt; simp; omega) _).far (p := ⟨x1.heap.size, 1, none⟩) (by have := kax11.lt; have := ka3.lt; simp; omega) _).far (p := ⟨x1.heap.size, 2, none⟩) (by have := kax11.lt; have := ka3.lt; simp; omega) _
            have kbst6 : BlkT _ (put3 x11 (x1.heap.size) (.bool u.s) (.slice u.N u.ns.length u.nc) (.slice u.D u.ds.length u.dc)) _ _ _ _ := (((kbx11).far (p := ⟨x1.heap.size, 0, none⟩) (by have := kb3.lt; simp; omega) _).far (p := ⟨x1.heap.size, 1, none⟩) (by have := kb3.lt; simp; omega) _).far (p := ⟨x1.heap.size, 2, none⟩) (by have := kb3.lt; simp; omega) _
            have z6st6 : BlkT _ (put3 x11 (x1.heap.size) (.bool u.s) (.slice u.N u.ns.length u.nc) (.slice u.D u.ds.length u.dc)) _ _ _ _ := (((z6x11).far (p := ⟨x1.heap.size, 0, none⟩) (by simp; omega) _).far (p := ⟨x1.heap.size, 1, none⟩) (by simp; omega) _).far (p := ⟨x1.heap.size, 2, none⟩) (by simp; omega) _
            have z5st6 : BlkT _ (put3 x11 (x1.heap.size) (.bool u.s) (.slice u.N u.ns.length u.nc) (.slice u.D u.ds.length u.dc)) _ _ _ _ := z5x11.put3_ (.bool u.s) (.slice u.N u.ns.length u.nc) (.slice u.D u.ds.length u.dc)
            have hust6 : u.Ref (put3 x11 (x1.heap.size) (.bool u.s) (.slice u.N u.ns.length u.nc) (.slice u.D u.ds.length u.dc)) p := hux11.put3 z5x11 (.bool u.s) (.slice u.N u.ns.length u.nc) (.slice u.D u.ds.length u.dc)
            have hvst6 : v.Ref (put3 x11 (x1.heap.size) (.bool u.s) (.slice u.N u.ns.length u.nc) (.slice u.D u.ds.length u.dc)) q := hvx11.put3 z5x11 (.bool u.s) (.slice u.N u.ns.length u.nc) (.slice u.D u.ds.length u.dc)
            have hwst6 : Below w3.heap.size w3 (put3 x11 (x1.heap.size) (.bool u.s) (.slice u.N u.ns.length u.nc) (.slice u.D u.ds.length u.dc)) := below_put3 hwx11 hgez5 (.bool u.s) (.slice u.N u.ns.length u.nc) (.slice u.D u.ds.length u.dc)
            refine hK.out _ _ ?_ (fun hHeld => ?_)
            · exact ⟨(kast6).facts.c0, (kast6).facts.c1, (kast6).facts.c2, (kbst6).facts.c0, (kbst6).facts.c1, (kbst6).facts.c2⟩
            clear hK K hHeld
            try simp only [Act.put, List.getElem_toArray, List.getElem_cons_zero, List.getElem_cons_succ, List.setIfInBounds_toArray, List.set_cons_zero, List.set_cons_succ]
            obtain ⟨st6, hwe⟩ : ∃ x, (put3 x11 (x1.heap.size) (.bool u.s) (.slice u.N u.ns.length u.nc) (.slice u.D u.ds.length u.dc)) = x := ⟨_, rfl⟩
            rw [hwe] at kast6 kbst6 z5st6 z6st6 hust6 hvst6 hwst6
            simp only [put3] at hwe
            rw [hwe]
            clear hwe
            refine wpAnyH_ready (rs := [7]) (by kernel_rfl) (by simp) ?_
            refine AllReadyH.cons (o := _) rfl (fun K hK => ?_) AllReadyH.nil
            obtain ⟨y0, y1, y2, y3, y4, y5, y6⟩ := z6st6.facts
            go_simp
            clear y0 y1 y2 y3 y4 y5 y6
            have kast7 : BlkT _ (put3 st6 (x7.heap.size) (.bool v.s) (.slice v.N v.ns.length v.nc) (.slice v.D v.ds.length v.dc)) _ _ _ _ := (((kast6).far (p := ⟨x7.heap.size, 0, none⟩) (by have := kast6.lt; have := ka3.lt; simp; omega) _).far (p := ⟨x7.heap.size, 1, none⟩) (by have := kast6.lt; have := ka3.lt; simp; omega) _).far (p := ⟨x7.heap.size, 2, none⟩) (by have := kast6.lt; have := ka3.lt; simp; omega) _
            have kbst7 : BlkT _ (put3 st6 (x7.heap.size) (.bool v.s) (.slice v.N v.ns.length v.nc) (.slice v.D v.ds.length v.dc)) _ _ _ _ := (((kbst6).far (p := ⟨x7.heap.size, 0, none⟩) (by have := kb3.lt; simp; omega) _).far (p := ⟨x7.heap.size, 1, none⟩) (by have := kb3.lt; simp; omega) _).far (p := ⟨x7.heap.size, 2, none⟩) (by have := kb3.lt; simp; omega) _
            have z5st7 : BlkT _ (put3 st6 (x7.heap.size) (.bool v.s) (.slice v.N v.ns.length v.nc) (.slice v.D v.ds.length v.dc)) _ _ _ _ := (((z5st6).far (p := ⟨x7.heap.size, 0, none⟩) (by simp; omega) _).far (p := ⟨x7.heap.size, 1, none⟩) (by simp; omega) _).far (p := ⟨x7.heap.size, 2, none⟩) (by simp; omega) _
            have z6st7 : BlkT _ (put3 st6 (x7.heap.size) (.bool v.s) (.slice v.N v.ns.length v.nc) (.slice v.D v.ds.length v.dc)) _ _ _ _ := z6st6.put3_ (.bool v.s) (.slice v.N v.ns.length v.nc) (.slice v.D v.ds.length v.dc)
            have hust7 : u.Ref (put3 st6 (x7.heap.size) (.bool v.s) (.slice v.N v.ns.length v.nc) (.slice v.D v.ds.length v.dc)) p := hust6.put3 z6st6 (.bool v.s) (.slice v.N v.ns.length v.nc) (.slice v.D v.ds.length v.dc)
            have hvst7 : v.Ref (put3 st6 (x7.heap.size) (.bool v.s) (.slice v.N v.ns.length v.nc) (.slice v.D v.ds.length v.dc)) q := hvst6.put3 z6st6 (.bool v.s) (.slice v.N v.ns.length v.nc) (.slice v.D v.ds.length v.dc)
            have hwst7 : Below w3.heap.size w3 (put3 st6 (x7.heap.size) (.bool v.s) (.slice v.N v.ns.length v.nc) (.slice v.D v.ds.length v.dc)) := below_put3 hwst6 hgez6 (.bool v.s) (.slice v.N v.ns.length v.nc) (.slice v.D v.ds.length v.dc)
            refine hK.out _ _ ?_ (fun hHeld => ?_)
            · exact ⟨(kast7).facts.c0, (kast7).facts.c1, (kast7).facts.c2, (kbst7).facts.c0, (kbst7).facts.c1, (kbst7).facts.c2⟩
            clear hK K hHeld
            try simp only [Act.put, List.getElem_toArray, List.getElem_cons_zero, List.getElem_cons_succ, List.setIfInBounds_toArray, List.set_cons_zero, List.set_cons_succ]
            obtain ⟨st7, hwe⟩ : ∃ x, (put3 st6 (x7.heap.size) (.bool v.s) (.slice v.N v.ns.length v.nc) (.slice v.D v.ds.length v.dc)) = x := ⟨_, rfl⟩
            rw [hwe] at kast7 kbst7 z5st7 z6st7 hust7 hvst7 hwst7
            simp only [put3] at hwe
            rw [hwe]
            clear hwe
            refine wpAnyH_done (by kernel_rfl) ?_ _
            go_wp2_with fail
            go_meet
            exact ⟨_, _, u, v, rfl, rfl, z5st7, z6st7, hust7, hvst7, by omega, by omega, by omega, by omega, hwst7⟩
      · go_simp
        refine hK.out _ _ ?_ (fun hHeld => ?_)
        · exact ⟨(kax1.alloc _).facts.c0, (kax1.alloc _).facts.c1, (kax1.alloc _).facts.c2, (kbx1.alloc _).facts.c0, (kbx1.alloc _).facts.c1, (kbx1.alloc _).facts.c2⟩
        clear hK K hHeld
        try simp only [Act.put, List.getElem_toArray, List.getElem_cons_zero, List.getElem_cons_succ, List.setIfInBounds_toArray, List.set_cons_zero, List.set_cons_succ]
        have hbx12 : Below x1.heap.size x1 (x1.alloc (.cells #[.bool false, .slice none 0 0, .slice none 0 0] 30)) := (Below.refl _ _).alloc (Nat.le_refl _) _
        have z6x12 := BlkT.new 30 x1 (.bool false) (.slice none 0 0) (.slice none 0 0)
        obtain ⟨x12, hwe⟩ : ∃ x, x1.alloc (.cells #[.bool false, .slice none 0 0, .slice none 0 0] 30) = x := ⟨_, rfl⟩
        rw [hwe] at hbx12 z6x12 ⊢
        clear hwe
        have hax12 := hax1.below hbx12
        have hb_x12 := hb_x1.below hbx12
        have kax12 := kax1.below hbx12
        have kbx12 := kbx1.below hbx12
        have hux12 := hux1.below hbx12
        have hwx12 := hwx1.trans (hbx12.mono hwx1.size)
        have hgez6 : w3.heap.size ≤ x1.heap.size := hwx1.size
        refine wpAnyH_ready (rs := [3, 4]) (by kernel_rfl) (by simp) ?_
        refine AllReadyH.cons (o := _) rfl (fun K hK => ?_) (AllReadyH.cons (o := _) rfl (fun K hK => ?_) AllReadyH.nil)
        · go_simp
          go_at_call_of 8 (Value.agg #[.bool b.s, .slice b.N b.ns.length b.nc, .slice b.D b.ds.length b.dc])
          refine (qof b q _ hb_x12 (by omega) (by omega)).mono ?_
          rintro e x13 ⟨v, rfl, hvx13, hva, hvb, hbx13⟩
          go_wp2_with fail
          have hax13 := hax12.below hbx13
          have hb_x13 := hb_x12.below hbx13
          have kax13 := kax12.below hbx13
          have kbx13 := kbx12.below hbx13
          have z6x13 := z6x12.below hbx13
          have hux13 := hux12.below hbx13
          have hwx13 := hwx12.trans (hbx13.mono hwx12.size)
          refine hK.out _ _ ?_ (fun hHeld => ?_)
          · exact ⟨(kax13).facts.c0, (kax13).facts.c1, (kax13).facts.c2, (kbx13).facts.c0, (kbx13).facts.c1, (kbx13).facts.c2⟩
          clear hK K hHeld
          try simp only [Act.put, List.getElem_toArray, List.getElem_cons_zero, List.getElem_cons_succ, List.setIfInBounds_toArray, List.set_cons_zero, List.set_cons_succ]
          refine wpAnyH_ready (rs := [4]) (by kernel_rfl) (by simp) ?_
          refine AllReadyH.cons (o := _) rfl (fun K hK => ?_) AllReadyH.nil
          · go_simp
            refine hK.out _ _ ?_ (fun hHeld => ?_)
            · exact ⟨(kax13.alloc _).facts.c0, (kax13.alloc _).facts.c1, (kax13.alloc _).facts.c2, (kbx13.alloc _).facts.c0, (kbx13.alloc _).facts.c1, (kbx13.alloc _).facts.c2⟩
            clear hK K hHeld
            try simp only [Act.put, List.getElem_toArray, List.getElem_cons_zero, List.getElem_cons_succ, List.setIfInBounds_toArray, List.set_cons_zero, List.set_cons_succ]
            have hbx14 : Below x13.heap.size x13 (x13.alloc (.cells #[.bool false, .slice none 0 0, .slice none 0 0] 30)) := (Below.refl _ _).alloc (Nat.le_refl _) _
            have z5x14 := BlkT.new 30 x13 (.bool false) (.slice none 0 0) (.slice none 0 0)
            obtain ⟨x14, hwe⟩ : ∃ x, x13.alloc (.cells #[.bool false, .slice none 0 0, .slice none 0 0] 30) = x := ⟨_, rfl⟩
            rw [hwe] at hbx14 z5x14 ⊢
            clear hwe
            have hax14 := hax13.below hbx14
            have hb_x14 := hb_x13.below hbx14
            have kax14 := kax13.below hbx14
            have kbx14 := kbx13.below hbx14
            have z6x14 := z6x13.below hbx14
            have hux14 := hux13.below hbx14
            have hvx14 := hvx13.below hbx14
            have hne : x1.heap.size < x13.heap.size := z6x13.lt
            have hwx14 := hwx13.trans (hbx14.mono hwx13.size)
            have hgez5 : w3.heap.size ≤ x13.heap.size := hwx13.size
            refine wpAnyH_ready (rs := [6]) (by kernel_rfl) (by simp) ?_
            refine AllReadyH.cons (o := _) rfl (fun K hK => ?_) AllReadyH.nil
            obtain ⟨y0, y1, y2, y3, y4, y5, y6⟩ := z5x14.facts
            go_simp
            clear y0 y1 y2 y3 y4 y5 y6
            have kast6 : BlkT _ (put3 x14 (x13.heap.size) (.bool u.s) (.slice u.N u.ns.length u.nc) (.slice u.D u.ds.length u.dc)) _ _ _ _ := (((kax14).far (p := ⟨x13.heap.size, 0, none⟩) (by have := kax14.lt; have := ka3.lt; simp; omega) _).far (p := ⟨x13.heap.size, 1, none⟩) (by have := kax14.lt; have := ka3.lt; simp; omega) _).far (p := ⟨x13.heap.size, 2, none⟩) (by have := kax14.lt; have := ka3.lt; simp; omega) _
            have kbst6 : BlkT _ (put3 x14 (x13.heap.size) (.bool u.s) (.slice u.N u.ns.length u.nc) (.slice u.D u.ds.length u.dc)) _ _ _ _ := (((kbx14).far (p := ⟨x13.heap.size, 0, none⟩) (by have := kb3.lt; simp; omega) _).far (p := ⟨x13.heap.size, 1, none⟩) (by have := kb3.lt; simp; omega) _).far (p := ⟨x13.heap.size, 2, none⟩) (by have := kb3.lt; simp; omega) _
            have z6st6 : BlkT _ (put3 x14 (x13.heap.size) (.bool u.s) (.slice u.N u.ns.length u.nc) (.slice u.D u.ds.length u.dc)) _ _ _ _ := (((z6x14).far (p := ⟨x13.heap.size, 0, none⟩) (by simp; omega) _).far (p := ⟨x13.heap.size, 1, none⟩) (by simp; omega) _).far (p := ⟨x13.heap.size, 2, none⟩) (by simp; omega) _
            have z5st6 : BlkT _ (put3 x14 (x13.heap.size) (.bool u.s) (.slice u.N u.ns.length u.nc) (.slice u.D u.ds.length u.dc)) _ _ _ _ := z5x14.put3_ (.bool u.s) (.slice u.N u.ns.length u.nc) (.slice u.D u.ds.length u.dc)
            have hust6 : u.Ref (put3 x14 (x13.heap.size) (.bool u.s) (.slice u.N u.ns.length u.nc) (.slice u.D u.ds.length u.dc)) p := hux14.put3 z5x14 (.bool u.s) (.slice u.N u.ns.length u.nc) (.slice u.D u.ds.length u.dc)
            have hvst6 : v.Ref (put3 x14 (x13.heap.size) (.bool u.s) (.slice u.N u.ns.length u.nc) (.slice u.D u.ds.length u.dc)) q := hvx14.put3 z5x14 (.bool u.s) (.slice u.N u.ns.length u.nc) (.slice u.D u.ds.length u.dc)
            have hwst6 : Below w3.heap.size w3 (put3 x14 (x13.heap.size) (.bool u.s) (.slice u.N u.ns.length u.nc) (.slice u.D u.ds.length u.dc)) := below_put3 hwx14 hgez5 (.bool u.s) (.slice u.N u.ns.length u.nc) (.slice u.D u.ds.length u.dc)
            refine hK.out _ _ ?_ (fun hHeld => ?_)
            · exact ⟨(kast6).facts.c0, (kast6).facts.c1, (kast6).facts.c2, (kbst6).facts.c0, (kbst6).facts.c1, (kbst6).facts.c2⟩
            clear hK K hHeld
            try simp only [Act.put, List.getElem_toArray, List.getElem_cons_zero, List.getElem_cons_succ, List.setIfInBounds_toArray, List.set_cons_zero, List.set_cons_succ]
            obtain ⟨st6, hwe⟩ : ∃ x, (put3 x14 (x13.heap.size) (.bool u.s) (.slice u.N u.ns.length u.nc) (.slice u.D u.ds.length u.dc)) = x := ⟨_, rfl⟩
            rw [hwe] at kast6 kbst6 z5st6 z6st6 hust6 hvst6 hwst6
            simp only [put3] at hwe
            rw [hwe]
            clear hwe
            refine wpAnyH_ready (rs := [7]) (by kernel_rfl) (by simp) ?_
            refine AllReadyH.cons (o := _) rfl (fun K hK => ?_) AllReadyH.nil
            obtain ⟨y0, y1, y2, y3, y4, y5, y6⟩ := z6st6.facts
            go_simp
            clear y0 y1 y2 y3 y4 y5 y6
            have kast7 : BlkT _ (put3 st6 (x1.heap.size) (.bool v.s) (.slice v.N v.ns.length v.nc) (.slice v.D v.ds.length v.dc)) _ _ _ _ := (((kast6).far (p := ⟨x1.heap.size, 0, none⟩) (by have := kast6.lt; have := ka3.lt; simp; omega) _).far (p := ⟨x1.heap.size, 1, none⟩) (by have := kast6.lt; have := ka3.lt; simp; omega) _).far (p := ⟨x1.heap.size, 2, none⟩) (by have := kast6.lt; have := ka3.lt; simp; omega) _
            have kbst7 : BlkT _ (put3 st6 (x1.heap.size) (.bool v.s) (.slice v.N v.ns.length v.nc) (.slice v.D v.ds.length v.dc)) _ _ _ _ := (((kbst6).far (p := ⟨x1.heap.size, 0, none⟩) (by have := kb3.lt; simp; omega) _).far (p := ⟨x1.heap.size, 1, none⟩) (by have := kb3.lt; simp; omega) _).far (p := ⟨x1.heap.size, 2, none⟩) (by have := kb3.lt; simp; omega) _
            have z5st7 : BlkT _ (put3 st6 (x1.heap.size) (.bool v.s) (.slice v.N v.ns.length v.nc) (.slice v.D v.ds.length v.dc)) _ _ _ _ := (((z5st6).far (p := ⟨x1.heap.size, 0, none⟩) (by simp; omega) _).far (p := ⟨x1.heap.size, 1, none⟩) (by simp; omega) _).far (p := ⟨x1.heap.size, 2, none⟩) (by simp; omega) _
            have z6st7 : BlkT _ (put3 st6 (x1.heap.size) (.bool v.s) (.slice v.N v.ns.length v.nc) (.slice v.D v.ds.length v.dc)) _ _ _ _ := z6st6.put3_ (.bool v.s) (.slice v.N v.ns.length v.nc) (.slice v.D v.ds.length v.dc)
            have hust7 : u.Ref (put3 st6 (x1.heap.size) (.bool v.s) (.slice v.N v.ns.length v.nc) (.slice v.D v.ds.length v.dc)) p := hust6.put3 z6st6 (.bool v.s) (.slice v.N v.ns.length v.nc) (.slice v.D v.ds.length v.dc)
            have hvst7 : v.Ref (put3 st6 (x1.heap.size) (.bool v.s) (.slice v.N v.ns.length v.nc) (.slice v.D v.ds.length v.dc)) q := hvst6.put3 z6st6 (.bool v.s) (.slice v.N v.ns.length v.nc) (.slice v.D v.ds.length v.dc)
            have hwst7 : Below w3.heap.size w3 (put3 st6 (x1.heap.size) (.bool v.s) (.slice v.N v.ns.length v.nc) (.slice v.D v.ds.length v.dc)) := below_put3 hwst6 hgez6 (.bool v.s) (.slice v.N v.ns.length v.nc) (.slice v.D v.ds.length v.dc)
            refine hK.out _ _ ?_ (fun hHeld => ?_)
            · exact ⟨(kast7).facts.c0, (kast7).facts.c1, (kast7).facts.c2, (kbst7).facts.c0, (kbst7).facts.c1, (kbst7).facts.c2⟩
            clear hK K hHeld
            try simp only [Act.put, List.getElem_toArray, List.getElem_cons_zero, List.getElem_cons_succ, List.setIfInBounds_toArray, List.set_cons_zero, List.set_cons_succ]
            obtain ⟨st7, hwe⟩ : ∃ x, (put3 st6 (x1.heap.size) (.bool v.s) (.slice v.N v.ns.length v.nc) (.slice v.D v.ds.length v.dc)) = x := ⟨_, rfl⟩
            rw [hwe] at kast7 kbst7 z5st7 z6st7 hust7 hvst7 hwst7
            simp only [put3] at hwe
            rw [hwe]
            clear hwe
            refine wpAnyH_done (by kernel_rfl) ?_ _
            go_wp2_with fail
            go_meet
            exact ⟨_, _, u, v, rfl, rfl, z5st7, z6st7, hust7, hvst7, by omega, by omega, by omega, by omega, hwst7⟩
        · go_simp
          refine hK.out _ _ ?_ (fun hHeld => ?_)
          · exact ⟨(kax12.alloc _).facts.c0, (kax12.alloc _).facts.c1, (kax12.alloc _).facts.c2, (kbx12.alloc _).facts.c0, (kbx12.alloc _).facts.c1, (kbx12.alloc _).facts.c2⟩
          clear hK K hHeld
          try simp only [Act.put, List.getElem_toArray, List.getElem_cons_zero, List.getElem_cons_succ, List.setIfInBounds_toArray, List.set_cons_zero, List.set_cons_succ]
          have hbx15 : Below x12.heap.size x12 (x12.alloc (.cells #[.bool false, .slice none 0 0, .slice none 0 0] 30)) := (Below.refl _ _).alloc (Nat.le_refl _) _
          have z5x15 := BlkT.new 30 x12 (.bool false) (.slice none 0 0) (.slice none 0 0)
          obtain ⟨x15, hwe⟩ : ∃ x, x12.alloc (.cells #[.bool false, .slice none 0 0, .slice none 0 0] 30) = x := ⟨_, rfl⟩
          rw [hwe] at hbx15 z5x15 ⊢
          clear hwe
          have hax15 := hax12.below hbx15
          have hb_x15 := hb_x12.below hbx15
          have kax15 := kax12.below hbx15
          have kbx15 := kbx12.below hbx15
          have z6x15 := z6x12.below hbx15
          have hux15 := hux12.below hbx15
          have hne : x1.heap.size < x12.heap.size := z6x12.lt
          have hwx15 := hwx12.trans (hbx15.mono hwx12.size)
          have hgez5 : w3.heap.size ≤ x12.heap.size := hwx12.size
          refine wpAnyH_ready (rs := [3]) (by kernel_rfl) (by simp) ?_
          refine AllReadyH.cons (o := _) rfl (fun K hK => ?_) AllReadyH.nil
          · go_simp
            go_at_call_of 8 (Value.agg #[.bool b.s, .slice b.N b.ns.length b.nc, .slice b.D b.ds.length b.dc])
            refine (qof b q _ hb_x15 (by omega) (by omega)).mono ?_
            rintro e x16 ⟨v, rfl, hvx16, hva, hvb, hbx16⟩
            go_wp2_with fail
            have hax16 := hax15.below hbx16
            have hb_x16 := hb_x15.below hbx16
            have kax16 := kax15.below hbx16
            have kbx16 := kbx15.below hbx16
            have z5x16 := z5x15.below hbx16
            have z6x16 := z6x15.below hbx16
            have hux16 := hux15.below hbx16
            have hwx16 := hwx15.trans (hbx16.mono hwx15.size)
            refine hK.out _ _ ?_ (fun hHeld => ?_)
            · exact ⟨(kax16).facts.c0, (kax16).facts.c1, (kax16).facts.c2, (kbx16).facts.c0, (kbx16).facts.c1, (kbx16).facts.c2⟩
            clear hK K hHeld
            try simp only [Act.put, List.getElem_toArray, List.getElem_cons_zero, List.getElem_cons_succ, List.setIfInBounds_toArray, List.set_cons_zero, List.set_cons_succ]
            refine wpAnyH_ready (rs := [6]) (by kernel_rfl) (by simp) ?_
            refine AllReadyH.cons (o := _) rfl (fun K hK => ?_) AllReadyH.nil
            obtain ⟨y0, y1, y2, y3, y4, y5, y6⟩ := z5x16.facts
            go_simp
            clear y0 y1 y2 y3 y4 y5 y6
            have kast6 : BlkT _ (put3 x16 (x12.heap.size) (.bool u.s) (.slice u.N u.ns.length u.nc) (.slice u.D u.ds.length u.dc)) _ _ _ _ := (((kax16).far (p := ⟨x12.heap.size, 0, none⟩) (by have := kax16.lt; have := ka3.lt; simp; omega) _).far (p := ⟨x12.heap.size, 1, none⟩) (by have := kax16.lt; have := ka3.lt; simp; omega) _).far (p := ⟨x12.heap.size, 2, none⟩) (by have := kax16.lt; have := ka3.lt; simp; omega) _
            have kbst6 : BlkT _ (put3 x16 (x12.heap.size) (.bool u.s) (.slice u.N u.ns.length u.nc) (.slice u.D u.ds.length u.dc)) _ _ _ _ := (((kbx16).far (p := ⟨x12.heap.size, 0, none⟩) (by have := kb3.lt; simp; omega) _).far (p := ⟨x12.heap.size, 1, none⟩) (by have := kb3.lt; simp; omega) _).far (p := ⟨x12.heap.size, 2, none⟩) (by have := kb3.lt; simp; omega) _
            have z6st6 : BlkT _ (put3 x16 (x12.heap.size) (.bool u.s) (.slice u.N u.ns.length u.nc) (.slice u.D u.ds.length u.dc)) _ _ _ _ := (((z6x16).far (p := ⟨x12.heap.size, 0, none⟩) (by simp; omega) _).far (p := ⟨x12.heap.size, 1, none⟩) (by simp; omega) _).far (p := ⟨x12.heap.size, 2, none⟩) (by simp; omega) _
            have z5st6 : BlkT _ (put3 x16 (x12.heap.size) (.bool u.s) (.slice u.N u.ns.length u.nc) (.slice u.D u.ds.length u.dc)) _ _ _ _ := z5x16.put3_ (.bool u.s) (.slice u.N u.ns.length u.nc) (.slice u.D u.ds.length u.dc)
            have hust6 : u.Ref (put3 x16 (x12.heap.size) (.bool u.s) (.slice u.N u.ns.length u.nc) (.slice u.D u.ds.length u.dc)) p := hux16.put3 z5x16 (.bool u.s) (.slice u.N u.ns.length u.nc) (.slice u.D u.ds.length u.dc)
            have hvst6 : v.Ref (put3 x16 (x12.heap.size) (.bool u.s) (.slice u.N u.ns.length u.nc) (.slice u.D u.ds.length u.dc)) q := hvx16.put3 z5x16 (.bool u.s) (.slice u.N u.ns.length u.nc) (.slice u.D u.ds.length u.dc)
            have hwst6 : Below w3.heap.size w3 (put3 x16 (x12.heap.size) (.bool u.s) (.slice u.N u.ns.length u.nc) (.slice u.D u.ds.length u.dc)) := below_put3 hwx16 hgez5 (.bool u.s) (.slice u.N u.ns.length u.nc) (.slice u.D u.ds.length u.dc)
            refine hK.out _ _ ?_ (fun hHeld => ?_)
            · exact ⟨(kast6).facts.c0, (kast6).facts.c1, (kast6).facts.c2, (kbst6).facts.c0, (kbst6).facts.c1, (kbst6).facts.c2⟩
            clear hK K hHeld
            try simp only [Act.put, List.getElem_toArray, List.getElem_cons_zero, List.getElem_cons_succ, List.setIfInBounds_toArray, List.set_cons_zero, List.set_cons_succ]
            obtain ⟨st6, hwe⟩ : ∃ x, (put3 x16 (x12.heap.size) (.bool u.s) (.slice u.N u.ns.length u.nc) (.slice u.D u.ds.length u.dc)) = x := ⟨_, rfl⟩
            rw [hwe] at kast6 kbst6 z5st6 z6st6 hust6 hvst6 hwst6
            simp only [put3] at hwe
            rw [hwe]
            clear hwe
            refine wpAnyH_ready (rs := [7]) (by kernel_rfl) (by simp) ?_
            refine AllReadyH.cons (o := _) rfl (fun K hK => ?_) AllReadyH.nil
            obtain ⟨y0, y1, y2, y3, y4, y5, y6⟩ := z6st6.facts
            go_simp
            clear y0 y1 y2 y3 y4 y5 y6
            have kast7 : BlkT _ (put3 st6 (x1.heap.size) (.bool v.s) (.slice v.N v.ns.length v.nc) (.slice v.D v.ds.length v.dc)) _ _ _ _ := (((kast6).far (p := ⟨x1.heap.size, 0, none⟩) (by have := kast6.lt; have := ka3.lt; simp; omega) _).far (p := ⟨x1.heap.size, 1, none⟩) (by have := kast6.lt; have := ka3.lt; simp; omega) _).far (p := ⟨x1.heap.size, 2, none⟩) (by have := kast6.lt; have := ka3.lt; simp; omega) _
            have kbst7 : BlkT _ (put3 st6 (x1.heap.size) (.bool v.s) (.slice v.N v.ns.length v.nc) (.slice v.D v.ds.length v.dc)) _ _ _ _ := (((kbst6).far (p := ⟨x1.heap.size, 0, none⟩) (by have := kb3.lt; simp; omega) _).far (p := ⟨x1.heap.size, 1, none⟩) (by have := kb3.lt; simp; omega) _).far (p := ⟨x1.heap.size, 2, none⟩) (by have := kb3.lt; simp; omega) _
            have z5st7 : BlkT _ (put3 st6 (x1.heap.size) (.bool v.s) (.slice v.N v.ns.length v.nc) (.slice v.D v.ds.length v.dc)) _ _ _ _ := (((z5st6).far (p := ⟨x1.heap.size, 0, none⟩) (by simp; omega) _).far (p := ⟨x1.heap.size, 1, none⟩) (by simp; omega) _).far (p := ⟨x1.heap.size, 2, none⟩) (by simp; omega) _
            have z6st7 : BlkT _ (put3 st6 (x1.heap.size) (.bool v.s) (.slice v.N v.ns.length v.nc) (.slice v.D v.ds.length v.dc)) _ _ _ _ := z6st6.put3_ (.bool v.s) (.slice v.N v.ns.length v.nc) (.slice v.D v.ds.length v.dc)
            have hust7 : u.Ref (put3 st6 (x1.heap.size) (.bool v.s) (.slice v.N v.ns.length v.nc) (.slice v.D v.ds.length v.dc)) p := hust6.put3 z6st6 (.bool v.s) (.slice v.N v.ns.length v.nc) (.slice v.D v.ds.length v.dc)
            have hvst7 : v.Ref (put3 st6 (x1.heap.size) (.bool v.s) (.slice v.N v.ns.length v.nc) (.slice v.D v.ds.length v.dc)) q := hvst6.put3 z6st6 (.bool v.s) (.slice v.N v.ns.length v.nc) (.slice v.D v.ds.length v.dc)
            have hwst7 : Below w3.heap.size w3 (put3 st6 (x1.heap.size) (.bool v.s) (.slice v.N v.ns.length v.nc) (.slice v.D v.ds.length v.dc)) := below_put3 hwst6 hgez6 (.bool v.s) (.slice v.N v.ns.length v.nc) (.slice v.D v.ds.length v.dc)
            refine hK.out _ _ ?_ (fun hHeld => ?_)
            · exact ⟨(kast7).facts.c0, (kast7).facts.c1, (kast7).facts.c2, (kbst7).facts.c0, (kbst7).facts.c1, (kbst7).facts.c2⟩
            clear hK K hHeld
            try simp only [Act.put, List.getElem_toArray, List.getElem_cons_zero, List.getElem_cons_succ, List.setIfInBounds_toArray, List.set_cons_zero, List.set_cons_succ]
            obtain ⟨st7, hwe⟩ : ∃ x, (put3 st6 (x1.heap.size) (.bool v.s) (.slice v.N v.ns.length v.nc) (.slice v.D v.ds.length v.dc)) = x := ⟨_, rfl⟩
            rw [hwe] at kast7 kbst7 z5st7 z6st7 hust7 hvst7 hwst7
            simp only [put3] at hwe
            rw [hwe]
            clear hwe
            refine wpAnyH_done (by kernel_rfl) ?_ _
            go_wp2_with fail
            go_meet
            exact ⟨_, _, u, v, rfl, rfl, z5st7, z6st7, hust7, hvst7, by omega, by omega, by omega, by omega, hwst7⟩
    · go_simp
      refine hK.out _ _ ?_ (fun hHeld => ?_)
      · exact ⟨(kad.alloc _).facts.c0, (kad.alloc _).facts.c1, (kad.alloc _).facts.c2, (kbd.alloc _).facts.c0, (kbd.alloc _).facts.c1, (kbd.alloc _).facts.c2⟩
      clear hK K hHeld
      try simp only [Act.put, List.getElem_toArray, List.getElem_cons_zero, List.getElem_cons_succ, List.setIfInBounds_toArray, List.set_cons_zero, List.set_cons_succ]
      have hbx17 : Below wd.heap.size wd (wd.alloc (.cells #[.bool false, .slice none 0 0, .slice none 0 0] 30)) := (Below.refl _ _).alloc (Nat.le_refl _) _
      have z5x17 := BlkT.new 30 wd (.bool false) (.slice none 0 0) (.slice none 0 0)
      obtain ⟨x17, hwe⟩ : ∃ x, wd.alloc (.cells #[.bool false, .slice none 0 0, .slice none 0 0] 30) = x := ⟨_, rfl⟩
      rw [hwe] at hbx17 z5x17 ⊢
      clear hwe
      have hax17 := had.below hbx17
      have hb_x17 := hbd_.below hbx17
      have kax17 := kad.below hbx17
      have kbx17 := kbd.below hbx17
      have hwx17 := hbd.trans (hbx17.mono hbd.size)
      have hgez5 : w3.heap.size ≤ wd.heap.size := hbd.size
      refine wpAnyH_ready (rs := [1, 5]) (by kernel_rfl) (by simp) ?_
      refine AllReadyH.cons (o := _) rfl (fun K hK => ?_) (AllReadyH.cons (o := _) rfl (fun K hK => ?_) AllReadyH.nil)
      · go_simp
        go_at_call_of 8 (Value.agg #[.bool a.s, .slice a.N a.ns.length a.nc, .slice a.D a.ds.length a.dc])
        refine (qof a p _ hax17 (by omega) (by omega)).mono ?_
        rintro e x18 ⟨u, rfl, hux18, hua, hub, hbx18⟩
        go_wp2_with fail
        have hax18 := hax17.below hbx18
        have hb_x18 := hb_x17.below hbx18
        have kax18 := kax17.below hbx18
        have kbx18 := kbx17.below hbx18
        have z5x18 := z5x17.below hbx18
        have hwx18 := hwx17.trans (hbx18.mono hwx17.size)
        refine hK.out _ _ ?_ (fun hHeld => ?_)
        · exact ⟨(kax18).facts.c0, (kax18).facts.c1, (kax18).facts.c2, (kbx18).facts.c0, (kbx18).facts.c1, (kbx18).facts.c2⟩
        clear hK K hHeld
        try simp only [Act.put, List.getElem_toArray, List.getElem_cons_zero, List.getElem_cons_succ, List.setIfInBounds_toArray, List.set_cons_zero, List.set_cons_succ]
        refine wpAnyH_ready (rs := [3, 5]) (by kernel_rfl) (by simp) ?_
        refine AllReadyH.cons (o := _) rfl (fun K hK => ?_) (AllReadyH.cons (o := _) rfl (fun K hK => ?_) AllReadyH.nil)
        · go_simp
          go_at_call_of 8 (Value.agg #[.bool b.s, .slice b.N b.ns.length b.nc, .slice b.D b.ds.length b.dc])
          refine (qof b q _ hb_x18 (by omega) (by omega)).mono ?_
          rintro e x19 ⟨v, rfl, hvx19, hva, hvb, hbx19⟩
          go_wp2_with fail
          have hax19 := hax18.below hbx19
          have hb_x19 := hb_x18.below hbx19
          have kax19 := kax18.below hbx19
          have kbx19 := kbx18.below hbx19
          have z5x19 := z5x18.below hbx19
          have hux19 := hux18.below hbx19
          have hwx19 := hwx18.trans (hbx19.mono hwx18.size)
          refine hK.out _ _ ?_ (fun hHeld => ?_)
          · exact ⟨(kax19).facts.c0, (kax19).facts.c1, (kax19).facts.c2, (kbx19).facts.c0, (kbx19).facts.c1, (kbx19).facts.c2⟩
          clear hK K hHeld
          try simp only [Act.put, List.getElem_toArray, List.getElem_cons_zero, List.getElem_cons_succ, List.setIfInBounds_toArray, List.set_cons_zero, List.set_cons_succ]
          refine wpAnyH_ready (rs := [5]) (by kernel_rfl) (by simp) ?_
          refine AllReadyH.cons (o := _) rfl (fun K hK => ?_) AllReadyH.nil
          · go_simp
            refine hK.out _ _ ?_ (fun hHeld => ?_)
            · exact ⟨(kax19.alloc _).facts.c0, (kax19.alloc _).facts.c1, (kax19.alloc _).facts.c2, (kbx19.alloc _).facts.c0, (kbx19.alloc _).facts.c1, (kbx19.alloc _).facts.c2⟩
            clear hK K hHeld
            try simp only [Act.put, List.getElem_toArray, List.getElem_cons_zero, List.getElem_cons_succ, List.setIfInBounds_toArray, List.set_cons_zero, List.set_cons_succ]
            have hbx20 : Below x19.heap.size x19 (x19.alloc (.cells #[.bool false, .slice none 0 0, .slice none 0 0] 30)) := (Below.refl _ _).alloc (Nat.le_refl _) _
            have z6x20 := BlkT.new 30 x19 (.bool false) (.slice none 0 0) (.slice none 0 0)
            obtain ⟨x20, hwe⟩ : ∃ x, x19.alloc (.cells #[.bool false, .slice none 0 0, .slice none 0 0] 30) = x := ⟨_, rfl⟩
            rw [hwe] at hbx20 z6x20 ⊢
            clear hwe
            have hax20 := hax19.below hbx20
            have hb_x20 := hb_x19.below hbx20
            have kax20 := kax19.below hbx20
            have kbx20 := kbx19.below hbx20
            have z5x20 := z5x19.below hbx20
            have hux20 := hux19.below hbx20
            have hvx20 := hvx19.below hbx20
            have hne : wd.heap.size < x19.heap.size := z5x19.lt
            have hwx20 := hwx19.trans (hbx20.mono hwx19.size)
            have hgez6 : w3.heap.size ≤ x19.heap.size := hwx19.size
            refine wpAnyH_ready (rs := [6]) (by kernel_rfl) (by simp) ?_
            refine AllReadyH.cons (o := _) rfl (fun K hK => ?_) AllReadyH.nil
            obtain ⟨y0, y1, y2, y3, y4, y5, y6⟩ := z5x20.facts
            go_simp
            clear y0 y1 y2 y3 y4 y5 y6
            have kast6 : BlkT _ (put3 x20 (wd.heap.size) (.bool u.s) (.slice u.N u.ns.length u.nc) (.slice u.D u.ds.length u.dc)) _ _ _ _ := (((kax20).far (p := ⟨wd.heap.size, 0, none⟩) (by have := kax20.lt; have := ka3.lt; simp; omega) _).far (p := ⟨wd.heap.size, 1, none⟩) (by have := kax20.lt; have := ka3.lt; simp; omega) _).far (p := ⟨wd.heap.size, 2, none⟩) (by have := kax20.lt; have := ka3.lt; simp; omega) _
            have kbst6 : BlkT _ (put3 x20 (wd.heap.size) (.bool u.s) (.slice u.N u.ns.length u.nc) (.slice u.D u.ds.length u.dc)) _ _ _ _ := (((kbx20).far (p := ⟨wd.heap.size, 0, none⟩) (by have := kb3.lt; simp; omega) _).far (p := ⟨wd.heap.size, 1, none⟩) (by have := kb3.lt; simp; omega) _).far (p := ⟨wd.heap.size, 2, none⟩) (by have := kb3.lt; simp; omega) _
            have z6st6 : BlkT _ (put3 x20 (wd.heap.size) (.bool u.s) (.slice u.N u.ns.length u.nc) (.slice u.D u.ds.length u.dc)) _ _ _ _ := (((z6x20).far (p := ⟨wd.heap.size, 0, none⟩) (by simp; omega) _).far (p := ⟨wd.heap.size, 1, none⟩) (by simp; omega) _).far (p := ⟨wd.heap.size, 2, none⟩) (by simp; omega) _
            have z5st6 : BlkT _ (put3 x20 (wd.heap.size) (.bool u.s) (.slice u.N u.ns.length u.nc) (.slice u.D u.ds.length u.dc)) _ _ _ _ := z5x20.put3_ (.bool u.s) (.slice u.N u.ns.length u.nc) (.slice u.D u.ds.length u.dc)
            have hust6 : u.Ref (put3 x20 (wd.heap.size) (.bool u.s) (.slice u.N u.ns.length u.nc) (.slice u.D u.ds.length u.dc)) p := hux20.put3 z5x20 (.bool u.s) (.slice u.N u.ns.length u.nc) (.slice u.D u.ds.length u.dc)
            have hvst6 : v.Ref (put3 x20 (wd.heap.size) (.bool u.s) (.slice u.N u.ns.length u.nc) (.slice u.D u.ds.length u.dc)) q := hvx20.put3 z5x20 (.bool u.s) (.slice u.N u.ns.length u.nc) (.slice u.D u.ds.length u.dc)
            have hwst6 : Below w3.heap.size w3 (put3 x20 (wd.heap.size) (.bool u.s) (.slice u.N u.ns.length u.nc) (.slice u.D u.ds.length u.dc)) := below_put3 hwx20 hgez5 (.bool u.s) (.slice u.N u.ns.length u.nc) (.slice u.D u.ds.length u.dc)
            refine hK.out _ _ ?_ (fun hHeld => ?_)
            · exact ⟨(kast6).facts.c0, (kast6).facts.c1, (kast6).facts.c2, (kbst6).facts.c0, (kbst6).facts.c1, (kbst6).facts.c2⟩
            clear hK K hHeld
            try simp only [Act.put, List.getElem_toArray, List.getElem_cons_zero, List.getElem_cons_succ, List.setIfInBounds_toArray, List.set_cons_zero, List.set_cons_succ]
            obtain ⟨st6, hwe⟩ : ∃ x, (put3 x20 (wd.heap.size) (.bool u.s) (.slice u.N u.ns.length u.nc) (.slice u.D u.ds.length u.dc)) = x := ⟨_, rfl⟩
            rw [hwe] at kast6 kbst6 z5st6 z6st6 hust6 hvst6 hwst6
            simp only [put3] at hwe
            rw [hwe]
            clear hwe
            refine wpAnyH_ready (rs := [7]) (by kernel_rfl) (by simp) ?_
            refine AllReadyH.cons (o := _) rfl (fun K hK => ?_) AllReadyH.nil
            obtain ⟨y0, y1, y2, y3, y4, y5, y6⟩ := z6st6.facts
            go_simp
            clear y0 y1 y2 y3 y4 y5 y6
            have kast7 : BlkT _ (put3 st6 (x19.heap.size) (.bool v.s) (.slice v.N v.ns.length v.nc) (.slice v.D v.ds.length v.dc)) _ _ _ _ := (((kast6).far (p := ⟨x19.heap.size, 0, none⟩) (by have := kast6.lt; have := ka3.lt; simp; omega) _).far (p := ⟨x19.heap.size, 1, none⟩) (by have := kast6.lt; have := ka3.lt; simp; omega) _).far (p := ⟨x19.heap.size, 2, none⟩) (by have := kast6.lt; have := ka3.lt; simp; omega) _
            have kbst7 : BlkT _ (put3 st6 (x19.heap.size) (.bool v.s) (.slice v.N v.ns.length v.nc) (.slice v.D v.ds.length v.dc)) _ _ _ _ := (((kbst6).far (p := ⟨x19.heap.size, 0, none⟩) (by have := kb3.lt; simp; omega) _).far (p := ⟨x19.heap.size, 1, none⟩) (by have := kb3.lt; simp; omega) _).far (p := ⟨x19.heap.size, 2, none⟩) (by have := kb3.lt; simp; omega) _
            have z5st7 : BlkT _ (put3 st6 (x19.heap.size) (.bool v.s) (.slice v.N v.ns.length v.nc) (.slice v.D v.ds.length v.dc)) _ _ _ _ := (((z5st6).far (p := ⟨x19.heap.size, 0, none⟩) (by simp; omega) _).far (p := ⟨x19.heap.size, 1, none⟩) (by simp; omega) _).far (p := ⟨x19.heap.size, 2, none⟩) (by simp; omega) _
            have z6st7 : BlkT _ (put3 st6 (x19.heap.size) (.bool v.s) (.slice v.N v.ns.length v.nc) (.slice v.D v.ds.length v.dc)) _ _ _ _ := z6st6.put3_ (.bool v.s) (.slice v.N v.ns.length v.nc) (.slice v.D v.ds.length v.dc)
            have hust7 : u.Ref (put3 st6 (x19.heap.size) (.bool v.s) (.slice v.N v.ns.length v.nc) (.slice v.D v.ds.length v.dc)) p := hust6.put3 z6st6 (.bool v.s) (.slice v.N v.ns.length v.nc) (.slice v.D v.ds.length v.dc)
            have hvst7 : v.Ref (put3 st6 (x19.heap.size) (.bool v.s) (.slice v.N v.ns.length v.nc) (.slice v.D v.ds.length v.dc)) q := hvst6.put3 z6st6 (.bool v.s) (.slice v.N v.ns.length v.nc) (.slice v.D v.ds.length v.dc)
            have hwst7 : Below w3.heap.size w3 (put3 st6 (x19.heap.size) (.bool v.s) (.slice v.N v.ns.length v.nc) (.slice v.D v.ds.length v.dc)) := below_put3 hwst6 hgez6 (.bool v.s) (.slice v.N v.ns.length v.nc) (.slice v.D v.ds.length v.dc)
            refine hK.out _ _ ?_ (fun hHeld => ?_)
            · exact ⟨(kast7).facts.c0, (kast7).facts.c1, (kast7).facts.c2, (kbst7).facts.c0, (kbst7).facts.c1, (kbst7).facts.c2⟩
            clear hK K hHeld
            try simp only [Act.put, List.getElem_toArray, List.getElem_cons_zero, List.getElem_cons_succ, List.setIfInBounds_toArray, List.set_cons_zero, List.set_cons_succ]
            obtain ⟨st7, hwe⟩ : ∃ x, (put3 st6 (x19.heap.size) (.bool v.s) (.slice v.N v.ns.length v.nc) (.slice v.D v.ds.length v.dc)) = x := ⟨_, rfl⟩
            rw [hwe] at kast7 kbst7 z5st7 z6st7 hust7 hvst7 hwst7
            simp only [put3] at hwe
            rw [hwe]
            clear hwe
            refine wpAnyH_done (by kernel_rfl) ?_ _
            go_wp2_with fail
            go_meet
            exact ⟨_, _, u, v, rfl, rfl, z5st7, z6st7, hust7, hvst7, by omega, by omega, by omega, by omega, hwst7⟩
        · go_simp
          refine hK.out _ _ ?_ (fun hHeld => ?_)
          · exact ⟨(kax18.alloc _).facts.c0, (kax18.alloc _).facts.c1, (kax18.alloc _).facts.c2, (kbx18.alloc _).facts.c0, (kbx18.alloc _).facts.c1, (kbx18.alloc _).facts.c2⟩
          clear hK K hHeld
          try simp only [Act.put, List.getElem_toArray, List.getElem_cons_zero, List.getElem_cons_succ, List.setIfInBounds_toArray, List.set_cons_zero, List.set_cons_succ]
          have hbx21 : Below x18.heap.size x18 (x18.alloc (.cells #[.bool false, .slice none 0 0, .slice none 0 0] 30)) := (Below.refl _ _).alloc (Nat.le_refl _) _
          have z6x21 := BlkT.new 30 x18 (.bool false) (.slice none 0 0) (.slice none 0 0)
          obtain ⟨x21, hwe⟩ : ∃ x, x18.alloc (.cells #[.bool false, .slice none 0 0, .slice none 0 0] 30) = x := ⟨_, rfl⟩
          rw [hwe] at hbx21 z6x21 ⊢
          clear hwe
          have hax21 := hax18.below hbx21
          have hb_x21 := hb_x18.below hbx21
          have kax21 := kax18.below hbx21
          have kbx21 := kbx18.below hbx21
          have z5x21 := z5x18.below hbx21
          have hux21 := hux18.below hbx21
          have hne : wd.heap.size < x18.heap.size := z5x18.lt
          have hwx21 := hwx18.trans (hbx21.mono hwx18.size)
          have hgez6 : w3.heap.size ≤ x18.heap.size := hwx18.size
          refine wpAnyH_ready (rs := [3]) (by kernel_rfl) (by simp) ?_
          refine AllReadyH.cons (o := _) rfl (fun K hK => ?_) AllReadyH.nil
          · go_simp
            go_at_call_of 8 (Value.agg #[.bool b.s, .slice b.N b.ns.length b.nc, .slice b.D b.ds.length b.dc])
            refine (qof b q _ hb_x21 (by omega) (by omega)).mono ?_
            rintro e x22 ⟨v, rfl, hvx22, hva, hvb, hbx22⟩
            go_wp2_with fail
            have hax22 := hax21.below hbx22
            have hb_x22 := hb_x21.below hbx22
            have kax22 := kax21.below hbx22
            have kbx22 := kbx21.below hbx22
            have z5x22 := z5x21.below hbx22
            have z6x22 := z6x21.below hbx22
            have hux22 := hux21.below hbx22
            have hwx22 := hwx21.trans (hbx22.mono hwx21.size)
            refine hK.out _ _ ?_ (fun hHeld => ?_)
            · exact ⟨(kax22).facts.c0, (kax22).facts.c1, (kax22).facts.c2, (kbx22).facts.c0, (kbx22).facts.c1, (kbx22).facts.c2⟩
            clear hK K hHeld
            try simp only [Act.put, List.getElem_toArray, List.getElem_cons_zero, List.getElem_cons_succ, List.setIfInBounds_toArray, List.set_cons_zero, List.set_cons_succ]
            refine wpAnyH_ready (rs := [6]) (by kernel_rfl) (by simp) ?_
            refine AllReadyH.cons (o := _) rfl (fun K hK => ?_) AllReadyH.nil
            obtain ⟨y0, y1, y2, y3, y4, y5, y6⟩ := z5x22.facts
            go_simp
            clear y0 y1 y2 y3 y4 y5 y6
            have kast6 : BlkT _ (put3 x22 (wd.heap.size) (.bool u.s) (.slice u.N u.ns.length u.nc) (.slice u.D u.ds.length u.dc)) _ _ _ _ := (((kax22).far (p := ⟨wd.heap.size, 0, none⟩) (by have := kax22.lt; have := ka3.lt; simp; omega) _).far (p := ⟨wd.heap.size, 1, none⟩) (by have := kax22.lt; have := ka3.lt; simp; omega) _).far (p := ⟨wd.heap.size, 2, none⟩) (by have := kax22.lt; have := ka3.lt; simp; omega) _
            have kbst6 : BlkT _ (put3 x22 (wd.heap.size) (.bool u.s) (.slice u.N u.ns.length u.nc) (.slice u.D u.ds.length u.dc)) _ _ _ _ := (((kbx22).far (p := ⟨wd.heap.size, 0, none⟩) (by have := kb3.lt; simp; omega) _).far (p := ⟨wd.heap.size, 1, none⟩) (by have := kb3.lt; simp; omega) _).far (p := ⟨wd.heap.size, 2, none⟩) (by have := kb3.lt; simp; omega) _
            have z6st6 : BlkT _ (put3 x22 (wd.heap.size) (.bool u.s) (.slice u.N u.ns.length u.nc) (.slice u.D u.ds.length u.dc)) _ _ _ _ := (((z6x22).far (p := ⟨wd.heap.size, 0, none⟩) (by simp; omega) _).far (p := ⟨wd.heap.size, 1, none⟩) (by simp; omega) _).far (p := ⟨wd.heap.size, 2, none⟩) (by simp; omega) _
            have z5st6 : BlkT _ (put3 x22 (wd.heap.size) (.bool u.s) (.slice u.N u.ns.length u.nc) (.slice u.D u.ds.length u.dc)) _ _ _ _ := z5x22.put3_ (.bool u.s) (.slice u.N u.ns.length u.nc) (.slice u.D u.ds.length u.dc)
            have hust6 : u.Ref (put3 x22 (wd.heap.size) (.bool u.s) (.slice u.N u.ns.length u.nc) (.slice u.D u.ds.length u.dc)) p := hux22.put3 z5x22 (.bool u.s) (.slice u.N u.ns.length u.nc) (.slice u.D u.ds.length u.dc)
            have hvst6 : v.Ref (put3 x22 (wd.heap.size) (.bool u.s) (.slice u.N u.ns.length u.nc) (.slice u.D u.ds.length u.dc)) q := hvx22.put3 z5x22 (.bool u.s) (.slice u.N u.ns.length u.nc) (.slice u.D u.ds.length u.dc)
            have hwst6 : Below w3.heap.size w3 (put3 x22 (wd.heap.size) (.bool u.s) (.slice u.N u.ns.length u.nc) (.slice u.D u.ds.length u.dc)) := below_put3 hwx22 hgez5 (.bool u.s) (.slice u.N u.ns.length u.nc) (.slice u.D u.ds.length u.dc)
            refine hK.out _ _ ?_ (fun hHeld => ?_)
            · exact ⟨(kast6).facts.c0, (kast6).facts.c1, (kast6).facts.c2, (kbst6).facts.c0, (kbst6).facts.c1, (kbst6).facts.c2⟩
            clear hK K hHeld
            try simp only [Act.put, List.getElem_toArray, List.getElem_cons_zero, List.getElem_cons_succ, List.setIfInBounds_toArray, List.set_cons_zero, List.set_cons_succ]
            obtain ⟨st6, hwe⟩ : ∃ x, (put3 x22 (wd.heap.size) (.bool u.s) (.slice u.N u.ns.length u.nc) (.slice u.D u.ds.length u.dc)) = x := ⟨_, rfl⟩
            rw [hwe] at kast6 kbst6 z5st6 z6st6 hust6 hvst6 hwst6
            simp only [put3] at hwe
            rw [hwe]
            clear hwe
            refine wpAnyH_ready (rs := [7]) (by kernel_rfl) (by simp) ?_
            refine AllReadyH.cons (o := _) rfl (fun K hK => ?_) AllReadyH.nil
            obtain ⟨y0, y1, y2, y3, y4, y5, y6⟩ := z6st6.facts
            go_simp
            clear y0 y1 y2 y3 y4 y5 y6
            have kast7 : BlkT _ (put3 st6 (x18.heap.size) (.bool v.s) (.slice v.N v.ns.length v.nc) (.slice v.D v.ds.length v.dc)) _ _ _ _ := (((kast6).far (p := ⟨x18.heap.size, 0, none⟩) (by have := kast6.lt; have := ka3.lt; simp; omega) _).far (p := ⟨x18.heap.size, 1, none⟩) (by have := kast6.lt; have := ka3.lt; simp; omega) _).far (p := ⟨x18.heap.size, 2, none⟩) (by have := kast6.lt; have := ka3.lt; simp; omega) _
            have kbst7 : BlkT _ (put3 st6 (x18.heap.size) (.bool v.s) (.slice v.N v.ns.length v.nc) (.slice v.D v.ds.length v.dc)) _ _ _ _ := (((kbst6).far (p := ⟨x18.heap.size, 0, none⟩) (by have := kb3.lt; simp; omega) _).far (p := ⟨x18.heap.size, 1, none⟩) (by have := kb3.lt; simp; omega) _).far (p := ⟨x18.heap.size, 2, none⟩) (by have := kb3.lt; simp; omega) _
            have z5st7 : BlkT _ (put3 st6 (x18.heap.size) (.bool v.s) (.slice v.N v.ns.length v.nc) (.slice v.D v.ds.length v.dc)) _ _ _ _ := (((z5st6).far (p := ⟨x18.heap.size, 0, none⟩) (by simp; omega) _).far (p := ⟨x18.heap.size, 1, none⟩) (by simp; omega) _).far (p := ⟨x18.heap.size, 2, none⟩) (by simp; omega) _
            have z6st7 : BlkT _ (put3 st6 (x18.heap.size) (.bool v.s) (.slice v.N v.ns.length v.nc) (.slice v.D v.ds.length v.dc)) _ _ _ _ := z6st6.put3_ (.bool v.s) (.slice v.N v.ns.length v.nc) (.slice v.D v.ds.length v.dc)
            have hust7 : u.Ref (put3 st6 (x18.heap.size) (.bool v.s) (.slice v.N v.ns.length v.nc) (.slice v.D v.ds.length v.dc)) p := hust6.put3 z6st6 (.bool v.s) (.slice v.N v.ns.length v.nc) (.slice v.D v.ds.length v.dc)
            have hvst7 : v.Ref (put3 st6 (x18.heap.size) (.bool v.s) (.slice v.N v.ns.length v.nc) (.slice v.D v.ds.length v.dc)) q := hvst6.put3 z6st6 (.bool v.s) (.slice v.N v.ns.length v.nc) (.slice v.D v.ds.length v.dc)
            have hwst7 : Below w3.heap.size w3 (put3 st6 (x18.heap.size) (.bool v.s) (.slice v.N v.ns.length v.nc) (.slice v.D v.ds.length v.dc)) := below_put3 hwst6 hgez6 (.bool v.s) (.slice v.N v.ns.length v.nc) (.slice v.D v.ds.length v.dc)
            refine hK.out _ _ ?_ (fun hHeld => ?_)
            · exact ⟨(kast7).facts.c0, (kast7).facts.c1, (kast7).facts.c2, (kbst7).facts.c0, (kbst7).facts.c1, (kbst7).facts.c2⟩
            clear hK K hHeld
            try simp only [Act.put, List.getElem_toArray, List.getElem_cons_zero, List.getElem_cons_succ, List.setIfInBounds_toArray, List.set_cons_zero, List.set_cons_succ]
            obtain ⟨st7, hwe⟩ : ∃ x, (put3 st6 (x18.heap.size) (.bool v.s) (.slice v.N v.ns.length v.nc) (.slice v.D v.ds.length v.dc)) = x := ⟨_, rfl⟩
            rw [hwe] at kast7 kbst7 z5st7 z6st7 hust7 hvst7 hwst7
            simp only [put3] at hwe
            rw [hwe]
            clear hwe
            refine wpAnyH_done (by kernel_rfl) ?_ _
            go_wp2_with fail
            go_meet
            exact ⟨_, _, u, v, rfl, rfl, z5st7, z6st7, hust7, hvst7, by omega, by omega, by omega, by omega, hwst7⟩
      · go_simp
        refine hK.out _ _ ?_ (fun hHeld => ?_)
        · exact ⟨(kax17.alloc _).facts.c0, (kax17.alloc _).facts.c1, (kax17.alloc _).facts.c2, (kbx17.alloc _).facts.c0, (kbx17.alloc _).facts.c1, (kbx17.alloc _).facts.c2⟩
        clear hK K hHeld
        try simp only [Act.put, List.getElem_toArray, List.getElem_cons_zero, List.getElem_cons_succ, List.setIfInBounds_toArray, List.set_cons_zero, List.set_cons_succ]
        have hbx23 : Below x17.heap.size x17 (x17.alloc (.cells #[.bool false, .slice none 0 0, .slice none 0 0] 30)) := (Below.refl _ _).alloc (Nat.le_refl _) _
        have z6x23 := BlkT.new 30 x17 (.bool false) (.slice none 0 0) (.slice none 0 0)
        obtain ⟨x23, hwe⟩ : ∃ x, x17.alloc (.cells #[.bool false, .slice none 0 0, .slice none 0 0] 30) = x := ⟨_, rfl⟩
        rw [hwe] at hbx23 z6x23 ⊢
        clear hwe
        have hax23 := hax17.below hbx23
        have hb_x23 := hb_x17.below hbx23
        have kax23 := kax17.below hbx23
        have kbx23 := kbx17.below hbx23
        have z5x23 := z5x17.below hbx23
        have hne : wd.heap.size < x17.heap.size := z5x17.lt
        have hwx23 := hwx17.trans (hbx23.mono hwx17.size)
        have hgez6 : w3.heap.size ≤ x17.heap.size := hwx17.size
        refine wpAnyH_ready (rs := [1]) (by kernel_rfl) (by simp) ?_
        refine AllReadyH.cons (o := _) rfl (fun K hK => ?_) AllReadyH.nil
        · go_simp
          go_at_call_of 8 (Value.agg #[.bool a.s, .slice a.N a.ns.length a.nc, .slice a.D a.ds.length a.dc])
          refine (qof a p _ hax23 (by omega) (by omega)).mono ?_
          rintro e x24 ⟨u, rfl, hux24, hua, hub, hbx24⟩
          go_wp2_with fail
          have hax24 := hax23.below hbx24
          have hb_x24 := hb_x23.below hbx24
          have kax24 := kax23.below hbx24
          have kbx24 := kbx23.below hbx24
          have z5x24 := z5x23.below hbx24
          have z6x24 := z6x23.below hbx24
          have hwx24 := hwx23.trans (hbx24.mono hwx23.size)
          refine hK.out _ _ ?_ (fun hHeld => ?_)
          · exact ⟨(kax24).facts.c0, (kax24).facts.c1, (kax24).facts.c2, (kbx24).facts.c0, (kbx24).facts.c1, (kbx24).facts.c2⟩
          clear hK K hHeld
          try simp only [Act.put, List.getElem_toArray, List.getElem_cons_zero, List.getElem_cons_succ, List.setIfInBounds_toArray, List.set_cons_zero, List.set_cons_succ]
          refine wpAnyH_ready (rs := [3]) (by kernel_rfl) (by simp) ?_
          refine AllReadyH.cons (o := _) rfl (fun K hK => ?_) AllReadyH.nil
          · go_simp
            go_at_call_of 8 (Value.agg #[.bool b.s, .slice b.N b.ns.length b.nc, .slice b.D b.ds.length b.dc])
            refine (qof b q _ hb_x24 (by omega) (by omega)).mono ?_
            rintro e x25 ⟨v, rfl, hvx25, hva, hvb, hbx25⟩
            go_wp2_with fail
            have hax25 := hax24.below hbx25
            have hb_x25 := hb_x24.below hbx25
            have kax25 := kax24.below hbx25
            have kbx25 := kbx24.below hbx25
            have z5x25 := z5x24.below hbx25
            have z6x25 := z6x24.below hbx25
            have hux25 := hux24.below hbx25
            have hwx25 := hwx24.trans (hbx25.mono hwx24.size)
            refine hK.out _ _ ?_ (fun hHeld => ?_)
            · exact ⟨(kax25).facts.c0, (kax25).facts.c1, (kax25).facts.c2, (kbx25).facts.c0, (kbx25).facts.c1, (kbx25).facts.c2⟩
            clear hK K hHeld
            try simp only [Act.put, List.getElem_toArray, List.getElem_cons_zero, List.getElem_cons_succ, List.setIfInBounds_toArray, List.set_cons_zero, List.set_cons_succ]
            refine wpAnyH_ready (rs := [6]) (by kernel_rfl) (by simp) ?_
            refine AllReadyH.cons (o := _) rfl (fun K hK => ?_) AllReadyH.nil
            obtain ⟨y0, y1, y2, y3, y4, y5, y6⟩ := z5x25.facts
            go_simp
            clear y0 y1 y2 y3 y4 y5 y6
            have kast6 : BlkT _ (put3 x25 (wd.heap.size) (.bool u.s) (.slice u.N u.ns.length u.nc) (.slice u.D u.ds.length u.dc)) _ _ _ _ := (((kax25).far (p := ⟨wd.heap.size, 0, none⟩) (by have := kax25.lt; have := ka3.lt; simp; omega) _).far (p := ⟨wd.heap.size, 1, none⟩) (by have := kax25.lt; have := ka3.lt; simp; omega) _).far (p := ⟨wd.heap.size, 2, none⟩) (by have := kax25.lt; have := ka3.lt; simp; omega) _
            have kbst6 : BlkT _ (put3 x25 (wd.heap.size) (.bool u.s) (.slice u.N u.ns.length u.nc) (.slice u.D u.ds.length u.dc)) _ _ _ _ := (((kbx25).far (p := ⟨wd.heap.size, 0, none⟩) (by have := kb3.lt; simp; omega) _).far (p := ⟨wd.heap.size, 1, none⟩) (by have := kb3.lt; simp; omega) _).far (p := ⟨wd.heap.size, 2, none⟩) (by have := kb3.lt; simp; omega) _
            have z6st6 : BlkT _ (put3 x25 (wd.heap.size) (.bool u.s) (.slice u.N u.ns.length u.nc) (.slice u.D u.ds.length u.dc)) _ _ _ _ := (((z6x25).far (p := ⟨wd.heap.size, 0, none⟩) (by simp; omega) _).far (p := ⟨wd.heap.size, 1, none⟩) (by simp; omega) _).far (p := ⟨wd.heap.size, 2, none⟩) (by simp; omega) _
            have z5st6 : BlkT _ (put3 x25 (wd.heap.size) (.bool u.s) (.slice u.N u.ns.length u.nc) (.slice u.D u.ds.length u.dc)) _ _ _ _ := z5x25.put3_ (.bool u.s) (.slice u.N u.ns.length u.nc) (.slice u.D u.ds.length u.dc)
            have hust6 : u.Ref (put3 x25 (wd.heap.size) (.bool u.s) (.slice u.N u.ns.length u.nc) (.slice u.D u.ds.length u.dc)) p := hux25.put3 z5x25 (.bool u.s) (.slice u.N u.ns.length u.nc) (.slice u.D u.ds.length u.dc)
            have hvst6 : v.Ref (put3 x25 (wd.heap.size) (.bool u.s) (.slice u.N u.ns.length u.nc) (.slice u.D u.ds.length u.dc)) q := hvx25.put3 z5x25 (.bool u.s) (.slice u.N u.ns.length u.nc) (.slice u.D u.ds.length u.dc)
            have hwst6 : Below w3.heap.size w3 (put3 x25 (wd.heap.size) (.bool u.s) (.slice u.N u.ns.length u.nc) (.slice u.D u.ds.length u.dc)) := below_put3 hwx25 hgez5 (.bool u.s) (.slice u.N u.ns.length u.nc) (.slice u.D u.ds.length u.dc)
            refine hK.out _ _ ?_ (fun hHeld => ?_)
            · exact ⟨(kast6).facts.c0, (kast6).facts.c1, (kast6).facts.c2, (kbst6).facts.c0, (kbst6).facts.c1, (kbst6).facts.c2⟩
            clear hK K hHeld
            try simp only [Act.put, List.getElem_toArray, List.getElem_cons_zero, List.getElem_cons_succ, List.setIfInBounds_toArray, List.set_cons_zero, List.set_cons_succ]
            obtain ⟨st6, hwe⟩ : ∃ x, (put3 x25 (wd.heap.size) (.bool u.s) (.slice u.N u.ns.length u.nc) (.slice u.D u.ds.length u.dc)) = x := ⟨_, rfl⟩
            rw [hwe] at kast6 kbst6 z5st6 z6st6 hust6 hvst6 hwst6
            simp only [put3] at hwe
            rw [hwe]
            clear hwe
            refine wpAnyH_ready (rs := [7]) (by kernel_rfl) (by simp) ?_
            refine AllReadyH.cons (o := _) rfl (fun K hK => ?_) AllReadyH.nil
            obtain ⟨y0, y1, y2, y3, y4, y5, y6⟩ := z6st6.facts
            go_simp
            clear y0 y1 y2 y3 y4 y5 y6
            have kast7 : BlkT _ (put3 st6 (x17.heap.size) (.bool v.s) (.slice v.N v.ns.length v.nc) (.slice v.D v.ds.length v.dc)) _ _ _ _ := (((kast6).far (p := ⟨x17.heap.size, 0, none⟩) (by have := kast6.lt; have := ka3.lt; simp; omega) _).far (p := ⟨x17.heap.size, 1, none⟩) (by have := kast6.lt; have := ka3.lt; simp; omega) _).far (p := ⟨x17.heap.size, 2, none⟩) (by have := kast6.lt; have := ka3.lt; simp; omega) _
            have kbst7 : BlkT _ (put3 st6 (x17.heap.size) (.bool v.s) (.slice v.N v.ns.length v.nc) (.slice v.D v.ds.length v.dc)) _ _ _ _ := (((kbst6).far (p := ⟨x17.heap.size, 0, none⟩) (by have := kb3.lt; simp; omega) _).far (p := ⟨x17.heap.size, 1, none⟩) (by have := kb3.lt; simp; omega) _).far (p := ⟨x17.heap.size, 2, none⟩) (by have := kb3.lt; simp; omega) _
            have z5st7 : BlkT _ (put3 st6 (x17.heap.size) (.bool v.s) (.slice v.N v.ns.length v.nc) (.slice v.D v.ds.length v.dc)) _ _ _ _ := (((z5st6).far (p := ⟨x17.heap.size, 0, none⟩) (by simp; omega) _).far (p := ⟨x17.heap.size, 1, none⟩) (by simp; omega) _).far (p := ⟨x17.heap.size, 2, none⟩) (by simp; omega) _
            have z6st7 : BlkT _ (put3 st6 (x17.heap.size) (.bool v.s) (.slice v.N v.ns.length v.nc) (.slice v.D v.ds.length v.dc)) _ _ _ _ := z6st6.put3_ (.bool v.s) (.slice v.N v.ns.length v.nc) (.slice v.D v.ds.length v.dc)
            have hust7 : u.Ref (put3 st6 (x17.heap.size) (.bool v.s) (.slice v.N v.ns.length v.nc) (.slice v.D v.ds.length v.dc)) p := hust6.put3 z6st6 (.bool v.s) (.slice v.N v.ns.length v.nc) (.slice v.D v.ds.length v.dc)
            have hvst7 : v.Ref (put3 st6 (x17.heap.size) (.bool v.s) (.slice v.N v.ns.length v.nc) (.slice v.D v.ds.length v.dc)) q := hvst6.put3 z6st6 (.bool v.s) (.slice v.N v.ns.length v.nc) (.slice v.D v.ds.length v.dc)
            have hwst7 : Below w3.heap.size w3 (put3 st6 (x17.heap.size) (.bool v.s) (.slice v.N v.ns.length v.nc) (.slice v.D v.ds.length v.dc)) := below_put3 hwst6 hgez6 (.bool v.s) (.slice v.N v.ns.length v.nc) (.slice v.D v.ds.length v.dc)
            refine hK.out _ _ ?_ (fun hHeld => ?_)
            · exact ⟨(kast7).facts.c0, (kast7).facts.c1, (kast7).facts.c2, (kbst7).facts.c0, (kbst7).facts.c1, (kbst7).facts.c2⟩
            clear hK K hHeld
            try simp only [Act.put, List.getElem_toArray, List.getElem_cons_zero, List.getElem_cons_succ, List.setIfInBounds_toArray, List.set_cons_zero, List.set_cons_succ]
            obtain ⟨st7, hwe⟩ : ∃ x, (put3 st6 (x17.heap.size) (.bool v.s) (.slice v.N v.ns.length v.nc) (.slice v.D v.ds.length v.dc)) = x := ⟨_, rfl⟩
            rw [hwe] at kast7 kbst7 z5st7 z6st7 hust7 hvst7 hwst7
            simp only [put3] at hwe
            rw [hwe]
            clear hwe
            refine wpAnyH_done (by kernel_rfl) ?_ _
            go_wp2_with fail
            go_meet
            exact ⟨_, _, u, v, rfl, rfl, z5st7, z6st7, hust7, hvst7, by omega, by omega, by omega, by omega, hwst7⟩
    · go_simp
      refine hK.out _ _ ?_ (fun hHeld => ?_)
      · exact ⟨(kad.alloc _).facts.c0, (kad.alloc _).facts.c1, (kad.alloc _).facts.c2, (kbd.alloc _).facts.c0, (kbd.alloc _).facts.c1, (kbd.alloc _).facts.c2⟩
      clear hK K hHeld
      try simp only [Act.put, List.getElem_toArray, List.getElem_cons_zero, List.getElem_cons_succ, List.setIfInBounds_toArray, List.set_cons_zero, List.set_cons_succ]
      have hbx26 : Below wd.heap.size wd (wd.alloc (.cells #[.bool false, .slice none 0 0, .slice none 0 0] 30)) := (Below.refl _ _).alloc (Nat.le_refl _) _
      have z6x26 := BlkT.new 30 wd (.bool false) (.slice none 0 0) (.slice none 0 0)
      obtain ⟨x26, hwe⟩ : ∃ x, wd.alloc (.cells #[.bool false, .slice none 0 0, .slice none 0 0] 30) = x := ⟨_, rfl⟩
      rw [hwe] at hbx26 z6x26 ⊢
      clear hwe
      have hax26 := had.below hbx26
      have hb_x26 := hbd_.below hbx26
      have kax26 := kad.below hbx26
      have kbx26 := kbd.below hbx26
      have hwx26 := hbd.trans (hbx26.mono hbd.size)
      have hgez6 : w3.heap.size ≤ wd.heap.size := hbd.size
      refine wpAnyH_ready (rs := [1, 4]) (by kernel_rfl) (by simp) ?_
      refine AllReadyH.cons (o := _) rfl (fun K hK => ?_) (AllReadyH.cons (o := _) rfl (fun K hK => ?_) AllReadyH.nil)
      · go_simp
        go_at_call_of 8 (Value.agg #[.bool a.s, .slice a.N a.ns.length a.nc, .slice a.D a.ds.length a.dc])
        refine (qof a p _ hax26 (by omega) (by omega)).mono ?_
        rintro e x27 ⟨u, rfl, hux27, hua, hub, hbx27⟩
        go_wp2_with fail
        have hax27 := hax26.below hbx27
        have hb_x27 := hb_x26.below hbx27
        have kax27 := kax26.below hbx27
        have kbx27 := kbx26.below hbx27
        have z6x27 := z6x26.below hbx27
        have hwx27 := hwx26.trans (hbx27.mono hwx26.size)
        refine hK.out _ _ ?_ (fun hHeld => ?_)
        · exact ⟨(kax27).facts.c0, (kax27).facts.c1, (kax27).facts.c2, (kbx27).facts.c0, (kbx27).facts.c1, (kbx27).facts.c2⟩
        clear hK K hHeld
        try simp only [Act.put, List.getElem_toArray, List.getElem_cons_zero, List.getElem_cons_succ, List.setIfInBounds_toArray, List.set_cons_zero, List.set_cons_succ]
        refine wpAnyH_ready (rs := [3, 4]) (by kernel_rfl) (by simp) ?_
        refine AllReadyH.cons (o := _) rfl (fun K hK => ?_) (AllReadyH.cons (o := _) rfl (fun K hK => ?_) AllReadyH.nil)
        · go_simp
          go_at_call_of 8 (Value.agg #[.bool b.s, .slice b.N b.ns.length b.nc, .slice b.D b.ds.length b.dc])
          refine (qof b q _ hb_x27 (by omega) (by omega)).mono ?_
          rintro e x28 ⟨v, rfl, hvx28, hva, hvb, hbx28⟩
          go_wp2_with fail
          have hax28 := hax27.below hbx28
          have hb_x28 := hb_x27.below hbx28
          have kax28 := kax27.below hbx28
          have kbx28 := kbx27.below hbx28
          have z6x28 := z6x27.below hbx28
          have hux28 := hux27.below hbx28
          have hwx28 := hwx27.trans (hbx28.mono hwx27.size)
          refine hK.out _ _ ?_ (fun hHeld => ?_)
          · exact ⟨(kax28).facts.c0, (kax28).facts.c1, (kax28).facts.c2, (kbx28).facts.c0, (kbx28).facts.c1, (kbx28).facts.c2⟩
          clear hK K hHeld
          try simp only [Act.put, List.getElem_toArray, List.getElem_cons_zero, List.getElem_cons_succ, List.setIfInBounds_toArray, List.set_cons_zero, List.set_cons_succ]
          refine wpAnyH_ready (rs := [4]) (by kernel_rfl) (by simp) ?_
          refine AllReadyH.cons (o := _) rfl (fun K hK => ?_) AllReadyH.nil
          · go_simp
            refine hK.out _ _ ?_ (fun hHeld => ?_)
            · exact ⟨(kax28.alloc _).facts.c0, (kax28.alloc _).facts.c1, (kax28.alloc _).facts.c2, (kbx28.alloc _).facts.c0, (kbx28.alloc _).facts.c1, (kbx28.alloc _).facts.c2⟩
            clear hK K hHeld
            try simp only [Act.put, List.getElem_toArray, List.getElem_cons_zero, List.getElem_cons_succ, List.setIfInBounds_toArray, List.set_cons_zero, List.set_cons_succ]
            have hbx29 : Below x28.heap.size x28 (x28.alloc (.cells #[.bool false, .slice none 0 0, .slice none 0 0] 30)) := (Below.refl _ _).alloc (Nat.le_refl _) _
            have z5x29 := BlkT.new 30 x28 (.bool false) (.slice none 0 0) (.slice none 0 0)
            obtain ⟨x29, hwe⟩ : ∃ x, x28.alloc (.cells #[.bool false, .slice none 0 0, .slice none 0 0] 30) = x := ⟨_, rfl⟩
            rw [hwe] at hbx29 z5x29 ⊢
            clear hwe
            have hax29 := hax28.below hbx29
            have hb_x29 := hb_x28.below hbx29
            have kax29 := kax28.below hbx29
            have kbx29 := kbx28.below hbx29
            have z6x29 := z6x28.below hbx29
            have hux29 := hux28.below hbx29
            have hvx29 := hvx28.below hbx29
            have hne : wd.heap.size < x28.heap.size := z6x28.lt
            have hwx29 := hwx28.trans (hbx29.mono hwx28.size)
            have hgez5 : w3.heap.size ≤ x28.heap.size := hwx28.size
            refine wpAnyH_ready (rs := [6]) (by kernel_rfl) (by simp) ?_
            refine AllReadyH.cons (o := _) rfl (fun K hK => ?_) AllReadyH.nil
            obtain ⟨y0, y1, y2, y3, y4, y5, y6⟩ := z5x29.facts
            go_simp
            clear y0 y1 y2 y3 y4 y5 y6
            have kast6 : BlkT _ (put3 x29 (x28.heap.size) (.bool u.s) (.slice u.N u.ns.length u.nc) (.slice u.D u.ds.length u.dc)) _ _ _ _ := (((kax29).far (p := ⟨x28.heap.size, 0, none⟩) (by have := kax29.lt; have := ka3.lt; simp; omega) _).far (p := ⟨x28.heap.size, 1, none⟩) (by have := kax29.lt; have := ka3.lt; simp; omega) _).far (p := ⟨x28.heap.size, 2, none⟩) (by have := kax29.lt; have := ka3.lt; simp; omega) _
            have kbst6 : BlkT _ (put3 x29 (x28.heap.size) (.bool u.s) (.slice u.N u.ns.length u.nc) (.slice u.D u.ds.length u.dc)) _ _ _ _ := (((kbx29).far (p := ⟨x28.heap.size, 0, none⟩) (by have := kb3.lt; simp; omega) _).far (p := ⟨x28.heap.size, 1, none⟩) (by have := kb3.lt; simp; omega) _).far (p := ⟨x28.heap.size, 2, none⟩) (by have := kb3.lt; simp; omega) _
            have z6st6 : BlkT _ (put3 x29 (x28.heap.size) (.bool u.s) (.slice u.N u.ns.length u.nc) (.slice u.D u.ds.length u.dc)) _ _ _ _ := (((z6x29).far (p := ⟨x28.heap.size, 0, none⟩) (by simp; omega) _).far (p := ⟨x28.heap.size, 1, none⟩) (by simp; omega) _).far (p := ⟨x28.heap.size, 2, none⟩) (by simp; omega) _
            have z5st6 : BlkT _ (put3 x29 (x28.heap.size) (.bool u.s) (.slice u.N u.ns.length u.nc) (.slice u.D u.ds.length u.dc)) _ _ _ _ := z5x29.put3_ (.bool u.s) (.slice u.N u.ns.length u.nc) (.slice u.D u.ds.length u.dc)
            have hust6 : u.Ref (put3 x29 (x28.heap.size) (.bool u.s) (.slice u.N u.ns.length u.nc) (.slice u.D u.ds.length u.dc)) p := hux29.put3 z5x29 (.bool u.s) (.slice u.N u.ns.length u.nc) (.slice u.D u.ds.length u.dc)
            have hvst6 : v.Ref (put3 x29 (x28.heap.size) (.bool u.s) (.slice u.N u.ns.length u.nc) (.slice u.D u.ds.length u.dc)) q := hvx29.put3 z5x29 (.bool u.s) (.slice u.N u.ns.length u.nc) (.slice u.D u.ds.length u.dc)
            have hwst6 : Below w3.heap.size w3 (put3 x29 (x28.heap.size) (.bool u.s) (.slice u.N u.ns.length u.nc) (.slice u.D u.ds.length u.dc)) := below_put3 hwx29 hgez5 (.bool u.s) (.slice u.N u.ns.length u.nc) (.slice u.D u.ds.length u.dc)
            refine hK.out _ _ ?_ (fun hHeld => ?_)
            · exact ⟨(kast6).facts.c0, (kast6).facts.c1, (kast6).facts.c2, (kbst6).facts.c0, (kbst6).facts.c1, (kbst6).facts.c2⟩
            clear hK K hHeld
            try simp only [Act.put, List.getElem_toArray, List.getElem_cons_zero, List.getElem_cons_succ, List.setIfInBounds_toArray, List.set_cons_zero, List.set_cons_succ]
            obtain ⟨st6, hwe⟩ : ∃ x, (put3 x29 (x28.heap.size) (.bool u.s) (.slice u.N u.ns.length u.nc) (.slice u.D u.ds.length u.dc)) = x := ⟨_, rfl⟩
            rw [hwe] at kast6 kbst6 z5st6 z6st6 hust6 hvst6 hwst6
            simp only [put3] at hwe
            rw [hwe]
            clear hwe
            refine wpAnyH_ready (rs := [7]) (by kernel_rfl) (by simp) ?_
            refine AllReadyH.cons (o := _) rfl (fun K hK => ?_) AllReadyH.nil
            obtain ⟨y0, y1, y2, y3, y4, y5, y6⟩ := z6st6.facts
            go_simp
            clear y0 y1 y2 y3 y4 y5 y6
            have kast7 : BlkT _ (put3 st6 (wd.heap.size) (.bool v.s) (.slice v.N v.ns.length v.nc) (.slice v.D v.ds.length v.dc)) _ _ _ _ := (((kast6).far (p := ⟨wd.heap.size, 0, none⟩) (by have := kast6.lt; have := ka3.lt; simp; omega) _).far (p := ⟨wd.heap.size, 1, none⟩) (by have := kast6.lt; have := ka3.lt; simp; omega) _).far (p := ⟨wd.heap.size, 2, none⟩) (by have := kast6.lt; have := ka3.lt; simp; omega) _
            have kbst7 : BlkT _ (put3 st6 (wd.heap.size) (.bool v.s) (.slice v.N v.ns.length v.nc) (.slice v.D v.ds.length v.dc)) _ _ _ _ := (((kbst6).far (p := ⟨wd.heap.size, 0, none⟩) (by have := kb3.lt; simp; omega) _).far (p := ⟨wd.heap.size, 1, none⟩) (by have := kb3.lt; simp; omega) _).far (p := ⟨wd.heap.size, 2, none⟩) (by have := kb3.lt; simp; omega) _
            have z5st7 : BlkT _ (put3 st6 (wd.heap.size) (.bool v.s) (.slice v.N v.ns.length v.nc) (.slice v.D v.ds.length v.dc)) _ _ _ _ := (((z5st6).far (p := ⟨wd.heap.size, 0, none⟩) (by simp; omega) _).far (p := ⟨wd.heap.size, 1, none⟩) (by simp; omega) _).far (p := ⟨wd.heap.size, 2, none⟩) (by simp; omega) _
            have z6st7 : BlkT _ (put3 st6 (wd.heap.size) (.bool v.s) (.slice v.N v.ns.length v.nc) (.slice v.D v.ds.length v.dc)) _ _ _ _ := z6st6.put3_ (.bool v.s) (.slice v.N v.ns.length v.nc) (.slice v.D v.ds.length v.dc)
            have hust7 : u.Ref (put3 st6 (wd.heap.size) (.bool v.s) (.slice v.N v.ns.length v.nc) (.slice v.D v.ds.length v.dc)) p := hust6.put3 z6st6 (.bool v.s) (.slice v.N v.ns.length v.nc) (.slice v.D v.ds.length v.dc)
            have hvst7 : v.Ref (put3 st6 (wd.heap.size) (.bool v.s) (.slice v.N v.ns.length v.nc) (.slice v.D v.ds.length v.dc)) q := hvst6.put3 z6st6 (.bool v.s) (.slice v.N v.ns.length v.nc) (.slice v.D v.ds.length v.dc)
            have hwst7 : Below w3.heap.size w3 (put3 st6 (wd.heap.size) (.bool v.s) (.slice v.N v.ns.length v.nc) (.slice v.D v.ds.length v.dc)) := below_put3 hwst6 hgez6 (.bool v.s) (.slice v.N v.ns.length v.nc) (.slice v.D v.ds.length v.dc)
            refine hK.out _ _ ?_ (fun hHeld => ?_)
            · exact ⟨(kast7).facts.c0, (kast7).facts.c1, (kast7).facts.c2, (kbst7).facts.c0, (kbst7).facts.c1, (kbst7).facts.c2⟩
            clear hK K hHeld
            try simp only [Act.put, List.getElem_toArray, List.getElem_cons_zero, List.getElem_cons_succ, List.setIfInBounds_toArray, List.set_cons_zero, List.set_cons_succ]
            obtain ⟨st7, hwe⟩ : ∃ x, (put3 st6 (wd.heap.size) (.bool v.s) (.slice v.N v.ns.length v.nc) (.slice v.D v.ds.length v.dc)) = x := ⟨_, rfl⟩
            rw [hwe] at kast7 kbst7 z5st7 z6st7 hust7 hvst7 hwst7
            simp only [put3] at hwe
            rw [hwe]
            clear hwe
            refine wpAnyH_done (by kernel_rfl) ?_ _
            go_wp2_with fail
            go_meet
            exact ⟨_, _, u, v, rfl, rfl, z5st7, z6st7, hust7, hvst7, by omega, by omega, by omega, by omega, hwst7⟩
        · go_simp
          refine hK.out _ _ ?_ (fun hHeld => ?_)
          · exact ⟨(kax27.alloc _).facts.c0, (kax27.alloc _).facts.c1, (kax27.alloc _).facts.c2, (kbx27.alloc _).facts.c0, (kbx27.alloc _).facts.c1, (kbx27.alloc _).facts.c2⟩
          clear hK K hHeld
          try simp only [Act.put, List.getElem_toArray, List.getElem_cons_zero, List.getElem_cons_succ, List.setIfInBounds_toArray, List.set_cons_zero, List.set_cons_succ]
          have hbx30 : Below x27.heap.size x27 (x27.alloc (.cells #[.bool false, .slice none 0 0, .slice none 0 0] 30)) := (Below.refl _ _).alloc (Nat.le_refl _) _
          have z5x30 := BlkT.new 30 x27 (.bool false) (.slice none 0 0) (.slice none 0 0)
          obtain ⟨x30, hwe⟩ : ∃ x, x27.alloc (.cells #[.bool false, .slice none 0 0, .slice none 0 0] 30) = x := ⟨_, rfl⟩
          rw [hwe] at hbx30 z5x30 ⊢
          clear hwe
          have hax30 := hax27.below hbx30
          have hb_x30 := hb_x27.below hbx30
          have kax30 := kax27.below hbx30
          have kbx30 := kbx27.below hbx30
          have z6x30 := z6x27.below hbx30
          have hux30 := hux27.below hbx30
          have hne : wd.heap.size < x27.heap.size := z6x27.lt
          have hwx30 := hwx27.trans (hbx30.mono hwx27.size)
          have hgez5 : w3.heap.size ≤ x27.heap.size := hwx27.size
          refine wpAnyH_ready (rs := [3]) (by kernel_rfl) (by simp) ?_
          refine AllReadyH.cons (o := _) rfl (fun K hK => ?_) AllReadyH.nil
          · go_simp
            go_at_call_of 8 (Value.agg #[.bool b.s, .slice b.N b.ns.length b.nc, .slice b.D b.ds.length b.dc])
            refine (qof b q _ hb_x30 (by omega) (by omega)).mono ?_
            rintro e x31 ⟨v, rfl, hvx31, hva, hvb, hbx31⟩
            go_wp2_with fail
            have hax31 := hax30.below hbx31
            have hb_x31 := hb_x30.below hbx31
            have kax31 := kax30.below hbx31
            have kbx31 := kbx30.below hbx31
            have z5x31 := z5x30.below hbx31
            have z6x31 := z6x30.below hbx31
            have hux31 := hux30.below hbx31
            have hwx31 := hwx30.trans (hbx31.mono hwx30.size)
            refine hK.out _ _ ?_ (fun hHeld => ?_)
            · exact ⟨(kax31).facts.c0, (kax31).facts.c1, (kax31).facts.c2, (kbx31).facts.c0, (kbx31).facts.c1, (kbx31).facts.c2⟩
            clear hK K hHeld
            try simp only [Act.put, List.getElem_toArray, List.getElem_cons_zero, List.getElem_cons_succ, List.setIfInBounds_toArray, List.set_cons_zero, List.set_cons_succ]
            refine wpAnyH_ready (rs := [6]) (by kernel_rfl) (by simp) ?_
            refine AllReadyH.cons (o := _) rfl (fun K hK => ?_) AllReadyH.nil
            obtain ⟨y0, y1, y2, y3, y4, y5, y6⟩ := z5x31.facts
            go_simp
            clear y0 y1 y2 y3 y4 y5 y6
            have kast6 : BlkT _ (put3 x31 (x27.heap.size) (.bool u.s) (.slice u.N u.ns.length u.nc) (.slice u.D u.ds.length u.dc)) _ _ _ _ := (((kax31).far (p := ⟨x27.heap.size, 0, none⟩) (by have := kax31.lt; have := ka3.lt; simp; omega) _).far (p := ⟨x27.heap.size, 1, none⟩) (by have := kax31.lt; have := ka3.lt; simp; omega) _).far (p := ⟨x27.heap.size, 2, none⟩) (by have := kax31.lt; have := ka3.lt; simp; omega) _
            have kbst6 : BlkT _ (put3 x31 (x27.heap.size) (.bool u.s) (.slice u.N u.ns.length u.nc) (.slice u.D u.ds.length u.dc)) _ _ _ _ := (((kbx31).far (p := ⟨x27.heap.size, 0, none⟩) (by have := kb3.lt; simp; omega) _).far (p := ⟨x27.heap.size, 1, none⟩) (by have := kb3.lt; simp; omega) _).far (p := ⟨x27.heap.size, 2, none⟩) (by have := kb3.lt; simp; omega) _
            have z6st6 : BlkT _ (put3 x31 (x27.heap.size) (.bool u.s) (.slice u.N u.ns.length u.nc) (.slice u.D u.ds.length u.dc)) _ _ _ _ := (((z6x31).far (p := ⟨x27.heap.size, 0, none⟩) (by simp; omega) _).far (p := ⟨x27.heap.size, 1, none⟩) (by simp; omega) _).far (p := ⟨x27.heap.size, 2, none⟩) (by simp; omega) _
            have z5st6 : BlkT _ (put3 x31 (x27.heap.size) (.bool u.s) (.slice u.N u.ns.length u.nc) (.slice u.D u.ds.length u.dc)) _ _ _ _ := z5x31.put3_ (.bool u.s) (.slice u.N u.ns.length u.nc) (.slice u.D u.ds.length u.dc)
            have hust6 : u.Ref (put3 x31 (x27.heap.size) (.bool u.s) (.slice u.N u.ns.length u.nc) (.slice u.D u.ds.length u.dc)) p := hux31.put3 z5x31 (.bool u.s) (.slice u.N u.ns.length u.nc) (.slice u.D u.ds.length u.dc)
            have hvst6 : v.Ref (put3 x31 (x27.heap.size) (.bool u.s) (.slice u.N u.ns.length u.nc) (.slice u.D u.ds.length u.dc)) q := hvx31.put3 z5x31 (.bool u.s) (.slice u.N u.ns.length u.nc) (.slice u.D u.ds.length u.dc)
            have hwst6 : Below w3.heap.size w3 (put3 x31 (x27.heap.size) (.bool u.s) (.slice u.N u.ns.length u.nc) (.slice u.D u.ds.length u.dc)) := below_put3 hwx31 hgez5 (.bool u.s) (.slice u.N u.ns.length u.nc) (.slice u.D u.ds.length u.dc)
            refine hK.out _ _ ?_ (fun hHeld => ?_)
            · exact ⟨(kast6).facts.c0, (kast6).facts.c1, (kast6).facts.c2, (kbst6).facts.c0, (kbst6).facts.c1, (kbst6).facts.c2⟩
            clear hK K hHeld
            try simp only [Act.put, List.getElem_toArray, List.getElem_cons_zero, List.getElem_cons_succ, List.setIfInBounds_toArray, List.set_cons_zero, List.set_cons_succ]
            obtain ⟨st6, hwe⟩ : ∃ x, (put3 x31 (x27.heap.size) (.bool u.s) (.slice u.N u.ns.length u.nc) (.slice u.D u.ds.length u.dc)) = x := ⟨_, rfl⟩
            rw [hwe] at kast6 kbst6 z5st6 z6st6 hust6 hvst6 hwst6
            simp only [put3] at hwe
            rw [hwe]
            clear hwe
            refine wpAnyH_ready (rs := [7]) (by kernel_rfl) (by simp) ?_
            refine AllReadyH.cons (o := _) rfl (fun K hK => ?_) AllReadyH.nil
            obtain ⟨y0, y1, y2, y3, y4, y5, y6⟩ := z6st6.facts
            go_simp
            clear y0 y1 y2 y3 y4 y5 y6
            have kast7 : BlkT _ (put3 st6 (wd.heap.size) (.bool v.s) (.slice v.N v.ns.length v.nc) (.slice v.D v.ds.length v.dc)) _ _ _ _ := (((kast6).far (p := ⟨wd.heap.size, 0, none⟩) (by have := kast6.lt; have := ka3.lt; simp; omega) _).far (p := ⟨wd.heap.size, 1, none⟩) (by have := kast6.lt; have := ka3.lt; simp; omega) _).far (p := ⟨wd.heap.size, 2, none⟩) (by have := kast6.lt; have := ka3.lt; simp; omega) _
            have kbst7 : BlkT _ (put3 st6 (wd.heap.size) (.bool v.s) (.slice v.N v.ns.length v.nc) (.slice v.D v.ds.length v.dc)) _ _ _ _ := (((kbst6).far (p := ⟨wd.heap.size, 0, none⟩) (by have := kb3.lt; simp; omega) _).far (p := ⟨wd.heap.size, 1, none⟩) (by have := kb3.lt; simp; omega) _).far (p := ⟨wd.heap.size, 2, none⟩) (by have := kb3.lt; simp; omega) _
            have z5st7 : BlkT _ (put3 st6 (wd.heap.size) (.bool v.s) (.slice v.N v.ns.length v.nc) (.slice v.D v.ds.length v.dc)) _ _ _ _ := (((z5st6).far (p := ⟨wd.heap.size, 0, none⟩) (by simp; omega) _).far (p := ⟨wd.heap.size, 1, none⟩) (by simp; omega) _).far (p := ⟨wd.heap.size, 2, none⟩) (by simp; omega) _
            have z6st7 : BlkT _ (put3 st6 (wd.heap.size) (.bool v.s) (.slice v.N v.ns.length v.nc) (.slice v.D v.ds.length v.dc)) _ _ _ _ := z6st6.put3_ (.bool v.s) (.slice v.N v.ns.length v.nc) (.slice v.D v.ds.length v.dc)
            have hust7 : u.Ref (put3 st6 (wd.heap.size) (.bool v.s) (.slice v.N v.ns.length v.nc) (.slice v.D v.ds.length v.dc)) p := hust6.put3 z6st6 (.bool v.s) (.slice v.N v.ns.length v.nc) (.slice v.D v.ds.length v.dc)
            have hvst7 : v.Ref (put3 st6 (wd.heap.size) (.bool v.s) (.slice v.N v.ns.length v.nc) (.slice v.D v.ds.length v.dc)) q := hvst6.put3 z6st6 (.bool v.s) (.slice v.N v.ns.length v.nc) (.slice v.D v.ds.length v.dc)
            have hwst7 : Below w3.heap.size w3 (put3 st6 (wd.heap.size) (.bool v.s) (.slice v.N v.ns.length v.nc) (.slice v.D v.ds.length v.dc)) := below_put3 hwst6 hgez6 (.bool v.s) (.slice v.N v.ns.length v.nc) (.slice v.D v.ds.length v.dc)
            refine hK.out _ _ ?_ (fun hHeld => ?_)
            · exact ⟨(kast7).facts.c0, (kast7).facts.c1, (kast7).facts.c2, (kbst7).facts.c0, (kbst7).facts.c1, (kbst7).facts.c2⟩
            clear hK K hHeld
            try simp only [Act.put, List.getElem_toArray, List.getElem_cons_zero, List.getElem_cons_succ, List.setIfInBounds_toArray, List.set_cons_zero, List.set_cons_succ]
            obtain ⟨st7, hwe⟩ : ∃ x, (put3 st6 (wd.heap.size) (.bool v.s) (.slice v.N v.ns.length v.nc) (.slice v.D v.ds.length v.dc)) = x := ⟨_, rfl⟩
            rw [hwe] at kast7 kbst7 z5st7 z6st7 hust7 hvst7 hwst7
            simp only [put3] at hwe
            rw [hwe]
            clear hwe
            refine wpAnyH_done (by kernel_rfl) ?_ _
            go_wp2_with fail
            go_meet
            exact ⟨_, _, u, v, rfl, rfl, z5st7, z6st7, hust7, hvst7, by omega, by omega, by omega, by omega, hwst7⟩
      · go_simp
        refine hK.out _ _ ?_ (fun hHeld => ?_)
        · exact ⟨(kax26.alloc _).facts.c0, (kax26.alloc _).facts.c1, (kax26.alloc _).facts.c2, (kbx26.alloc _).facts.c0, (kbx26.alloc _).facts.c1, (kbx26.alloc _).facts.c2⟩
        clear hK K hHeld
        try simp only [Act.put, List.getElem_toArray, List.getElem_cons_zero, List.getElem_cons_succ, List.setIfInBounds_toArray, List.set_cons_zero, List.set_cons_succ]
        have hbx32 : Below x26.heap.size x26 (x26.alloc (.cells #[.bool false, .slice none 0 0, .slice none 0 0] 30)) := (Below.refl _ _).alloc (Nat.le_refl _) _
        have z5x32 := BlkT.new 30 x26 (.bool false) (.slice none 0 0) (.slice none 0 0)
        obtain ⟨x32, hwe⟩ : ∃ x, x26.alloc (.cells #[.bool false, .slice none 0 0, .slice none 0 0] 30) = x := ⟨_, rfl⟩
        rw [hwe] at hbx32 z5x32 ⊢
        clear hwe
        have hax32 := hax26.below hbx32
        have hb_x32 := hb_x26.below hbx32
        have kax32 := kax26.below hbx32
        have kbx32 := kbx26.below hbx32
        have z6x32 := z6x26.below hbx32
        have hne : wd.heap.size < x26.heap.size := z6x26.lt
        have hwx32 := hwx26.trans (hbx32.mono hwx26.size)
        have hgez5 : w3.heap.size ≤ x26.heap.size := hwx26.size
        refine wpAnyH_ready (rs := [1]) (by kernel_rfl) (by simp) ?_
        refine AllReadyH.cons (o := _) rfl (fun K hK => ?_) AllReadyH.nil
        · go_simp
          go_at_call_of 8 (Value.agg #[.bool a.s, .slice a.N a.ns.length a.nc, .slice a.D a.ds.length a.dc])
          refine (qof a p _ hax32 (by omega) (by omega)).mono ?_
          rintro e x33 ⟨u, rfl, hux33, hua, hub, hbx33⟩
          go_wp2_with fail
          have hax33 := hax32.below hbx33
          have hb_x33 := hb_x32.below hbx33
          have kax33 := kax32.below hbx33
          have kbx33 := kbx32.below hbx33
          have z5x33 := z5x32.below hbx33
          have z6x33 := z6x32.below hbx33
          have hwx33 := hwx32.trans (hbx33.mono hwx32.size)
          refine hK.out _ _ ?_ (fun hHeld => ?_)
          · exact ⟨(kax33).facts.c0, (kax33).facts.c1, (kax33).facts.c2, (kbx33).facts.c0, (kbx33).facts.c1, (kbx33).facts.c2⟩
          clear hK K hHeld
          try simp only [Act.put, List.getElem_toArray, List.getElem_cons_zero, List.getElem_cons_succ, List.setIfInBounds_toArray, List.set_cons_zero, List.set_cons_succ]
          refine wpAnyH_ready (rs := [3]) (by kernel_rfl) (by simp) ?_
          refine AllReadyH.cons (o := _) rfl (fun K hK => ?_) AllReadyH.nil
          · go_simp
            go_at_call_of 8 (Value.agg #[.bool b.s, .slice b.N b.ns.length b.nc, .slice b.D b.ds.length b.dc])
            refine (qof b q _ hb_x33 (by omega) (by omega)).mono ?_
            rintro e x34 ⟨v, rfl, hvx34, hva, hvb, hbx34⟩
            go_wp2_with fail
            have hax34 := hax33.below hbx34
            have hb_x34 := hb_x33.below hbx34
            have kax34 := kax33.below hbx34
            have kbx34 := kbx33.below hbx34
            have z5x34 := z5x33.below hbx34
            have z6x34 := z6x33.below hbx34
            have hux34 := hux33.below hbx34
            have hwx34 := hwx33.trans (hbx34.mono hwx33.size)
            refine hK.out _ _ ?_ (fun hHeld => ?_)
            · exact ⟨(kax34).facts.c0, (kax34).facts.c1, (kax34).facts.c2, (kbx34).facts.c0, (kbx34).facts.c1, (kbx34).facts.c2⟩
            clear hK K hHeld
            try simp only [Act.put, List.getElem_toArray, List.getElem_cons_zero, List.getElem_cons_succ, List.setIfInBounds_toArray, List.set_cons_zero, List.set_cons_succ]
            refine wpAnyH_ready (rs := [6]) (by kernel_rfl) (by simp) ?_
            refine AllReadyH.cons (o := _) rfl (fun K hK => ?_) AllReadyH.nil
            obtain ⟨y0, y1, y2, y3, y4, y5, y6⟩ := z5x34.facts
            go_simp
            clear y0 y1 y2 y3 y4 y5 y6
            have kast6 : BlkT _ (put3 x34 (x26.heap.size) (.bool u.s) (.slice u.N u.ns.length u.nc) (.slice u.D u.ds.length u.dc)) _ _ _ _ := (((kax34).far (p := ⟨x26.heap.size, 0, none⟩) (by have := kax34.lt; have := ka3.lt; simp; omega) _).far (p := ⟨x26.heap.size, 1, none⟩) (by have := kax34.lt; have := ka3.lt; simp; omega) _).far (p := ⟨x26.heap.size, 2, none⟩) (by have := kax34.lt; have := ka3.lt; simp; omega) _
            have kbst6 : BlkT _ (put3 x34 (x26.heap.size) (.bool u.s) (.slice u.N u.ns.length u.nc) (.slice u.D u.ds.length u.dc)) _ _ _ _ := (((kbx34).far (p := ⟨x26.heap.size, 0, none⟩) (by have := kb3.lt; simp; omega) _).far (p := ⟨x26.heap.size, 1, none⟩) (by have := kb3.lt; simp; omega) _).far (p := ⟨x26.heap.size, 2, none⟩) (by have := kb3.lt; simp; omega) _
            have z6st6 : BlkT _ (put3 x34 (x26.heap.size) (.bool u.s) (.slice u.N u.ns.length u.nc) (.slice u.D u.ds.length u.dc)) _ _ _ _ := (((z6x34).far (p := ⟨x26.heap.size, 0, none⟩) (by simp; omega) _).far (p := ⟨x26.heap.size, 1, none⟩) (by simp; omega) _).far (p := ⟨x26.heap.size, 2, none⟩) (by simp; omega) _
            have z5st6 : BlkT _ (put3 x34 (x26.heap.size) (.bool u.s) (.slice u.N u.ns.length u.nc) (.slice u.D u.ds.length u.dc)) _ _ _ _ := z5x34.put3_ (.bool u.s) (.slice u.N u.ns.length u.nc) (.slice u.D u.ds.length u.dc)
            have hust6 : u.Ref (put3 x34 (x26.heap.size) (.bool u.s) (.slice u.N u.ns.length u.nc) (.slice u.D u.ds.length u.dc)) p := hux34.put3 z5x34 (.bool u.s) (.slice u.N u.ns.length u.nc) (.slice u.D u.ds.length u.dc)
            have hvst6 : v.Ref (put3 x34 (x26.heap.size) (.bool u.s) (.slice u.N u.ns.length u.nc) (.slice u.D u.ds.length u.dc)) q := hvx34.put3 z5x34 (.bool u.s) (.slice u.N u.ns.length u.nc) (.slice u.D u.ds.length u.dc)
            have hwst6 : Below w3.heap.size w3 (put3 x34 (x26.heap.size) (.bool u.s) (.slice u.N u.ns.length u.nc) (.slice u.D u.ds.length u.dc)) := below_put3 hwx34 hgez5 (.bool u.s) (.slice u.N u.ns.length u.nc) (.slice u.D u.ds.length u.dc)
            refine hK.out _ _ ?_ (fun hHeld => ?_)
            · exact ⟨(kast6).facts.c0, (kast6).facts.c1, (kast6).facts.c2, (kbst6).facts.c0, (kbst6).facts.c1, (kbst6).facts.c2⟩
            clear hK K hHeld
            try simp only [Act.put, List.getElem_toArray, List.getElem_cons_zero, List.getElem_cons_succ, List.setIfInBounds_toArray, List.set_cons_zero, List.set_cons_succ]
            obtain ⟨st6, hwe⟩ : ∃ x, (put3 x34 (x26.heap.size) (.bool u.s) (.slice u.N u.ns.length u.nc) (.slice u.D u.ds.length u.dc)) = x := ⟨_, rfl⟩
            rw [hwe] at kast6 kbst6 z5st6 z6st6 hust6 hvst6 hwst6
            simp only [put3] at hwe
            rw [hwe]
            clear hwe
            refine wpAnyH_ready (rs := [7]) (by kernel_rfl) (by simp) ?_
            refine AllReadyH.cons (o := _) rfl (fun K hK => ?_) AllReadyH.nil
            obtain ⟨y0, y1, y2, y3, y4, y5, y6⟩ := z6st6.facts
            go_simp
            clear y0 y1 y2 y3 y4 y5 y6
            have kast7 : BlkT _ (put3 st6 (wd.heap.size) (.bool v.s) (.slice v.N v.ns.length v.nc) (.slice v.D v.ds.length v.dc)) _ _ _ _ := (((kast6).far (p := ⟨wd.heap.size, 0, none⟩) (by have := kast6.lt; have := ka3.lt; simp; omega) _).far (p := ⟨wd.heap.size, 1, none⟩) (by have := kast6.lt; have := ka3.lt; simp; omega) _).far (p := ⟨wd.heap.size, 2, none⟩) (by have := kast6.lt; have := ka3.lt; simp; omega) _
            have kbst7 : BlkT _ (put3 st6 (wd.heap.size) (.bool v.s) (.slice v.N v.ns.length v.nc) (.slice v.D v.ds.length v.dc)) _ _ _ _ := (((kbst6).far (p := ⟨wd.heap.size, 0, none⟩) (by have := kb3.lt; simp; omega) _).far (p := ⟨wd.heap.size, 1, none⟩) (by have := kb3.lt; simp; omega) _).far (p := ⟨wd.heap.size, 2, none⟩) (by have := kb3.lt; simp; omega) _
            have z5st7 : BlkT _ (put3 st6 (wd.heap.size) (.bool v.s) (.slice v.N v.ns.length v.nc) (.slice v.D v.ds.length v.dc)) _ _ _ _ := (((z5st6).far (p := ⟨wd.heap.size, 0, none⟩) (by simp; omega) _).far (p := ⟨wd.heap.size, 1, none⟩) (by simp; omega) _).far (p := ⟨wd.heap.size, 2, none⟩) (by simp; omega) _
            have z6st7 : BlkT _ (put3 st6 (wd.heap.size) (.bool v.s) (.slice v.N v.ns.length v.nc) (.slice v.D v.ds.length v.dc)) _ _ _ _ := z6st6.put3_ (.bool v.s) (.slice v.N v.ns.length v.nc) (.slice v.D v.ds.length v.dc)
            have hust7 : u.Ref (put3 st6 (wd.heap.size) (.bool v.s) (.slice v.N v.ns.length v.nc) (.slice v.D v.ds.length v.dc)) p := hust6.put3 z6st6 (.bool v.s) (.slice v.N v.ns.length v.nc) (.slice v.D v.ds.length v.dc)
            have hvst7 : v.Ref (put3 st6 (wd.heap.size) (.bool v.s) (.slice v.N v.ns.length v.nc) (.slice v.D v.ds.length v.dc)) q := hvst6.put3 z6st6 (.bool v.s) (.slice v.N v.ns.length v.nc) (.slice v.D v.ds.length v.dc)
            have hwst7 : Below w3.heap.size w3 (put3 st6 (wd.heap.size) (.bool v.s) (.slice v.N v.ns.length v.nc) (.slice v.D v.ds.length v.dc)) := below_put3 hwst6 hgez6 (.bool v.s) (.slice v.N v.ns.length v.nc) (.slice v.D v.ds.length v.dc)
            refine hK.out _ _ ?_ (fun hHeld => ?_)
            · exact ⟨(kast7).facts.c0, (kast7).facts.c1, (kast7).facts.c2, (kbst7).facts.c0, (kbst7).facts.c1, (kbst7).facts.c2⟩
            clear hK K hHeld
            try simp only [Act.put, List.getElem_toArray, List.getElem_cons_zero, List.getElem_cons_succ, List.setIfInBounds_toArray, List.set_cons_zero, List.set_cons_succ]
            obtain ⟨st7, hwe⟩ : ∃ x, (put3 st6 (wd.heap.size) (.bool v.s) (.slice v.N v.ns.length v.nc) (.slice v.D v.ds.length v.dc)) = x := ⟨_, rfl⟩
            rw [hwe] at kast7 kbst7 z5st7 z6st7 hust7 hvst7 hwst7
            simp only [put3] at hwe
            rw [hwe]
            clear hwe
            refine wpAnyH_done (by kernel_rfl) ?_ _
            go_wp2_with fail
            go_meet
            exact ⟨_, _, u, v, rfl, rfl, z5st7, z6st7, hust7, hvst7, by omega, by omega, by omega, by omega, hwst7⟩
  clear a0 a1 a2 a3 a4 a5 a6
  clear b0 b1 b2 b3 b4 b5 b6
  obtain ⟨w4, rfl⟩ : ∃ x, x = wc := ⟨_, rfl⟩
  obtain ⟨g1, g2, u, v, rfl, rfl, kx4, ky4, hx4, hy4, hu1, hu2, hv1, hv2, hb4⟩ := hcut
  have ha4 := ha3.below hb4
  have hb_4 := hb_3.below hb4
  have ka4 := ka3.below hb4
  have kb4 := kb3.below hb4
  have hw4 := hw3.trans (hb4.mono hw3.size)
  clear ha3 hb_3 ka3 kb3 hw3 hb4
  have HU := Lib.hid (ha4.q.inj hx4.q)
  have HV := Lib.hid (hb_4.q.inj hy4.q)
  obtain ⟨c, hc1, hc2⟩ : ∃ c : Int, Hid (cmpOf (sgn a.s (V32 a.ns) * V32 b.ds) (sgn b.s (V32 b.ns) * V32 a.ds) = c) ∧ Hid (cmpOf (sgn u.s (VD u.ns) * VD v.ds) (sgn v.s (VD v.ns) * VD u.ds) = c) := ⟨_, Lib.hid rfl, by show _ = _; rw [← HU.out.1, ← HU.out.2.1, ← HU.out.2.2, ← HV.out.1, ← HV.out.2.1, ← HV.out.2.2]⟩
  obtain ⟨g, hg1, hg2⟩ : ∃ g : Int, Hid (sgnI a.s a.ns.length = g) ∧ Hid (sgnI u.s u.ns.length = g) := ⟨_, Lib.hid rfl, by show _ = _; rw [sgnI_len hx4.mn, sgnI_mag ha4.mn, HU.out.1, HU.out.2.1]⟩
  have HVP : Hid (0 < VD v.ns) := by show _ < _; rw [← HV.out.2.1]; exact (V32_pos_iff hb_4.mn).1 HZ.out
  obtain ⟨z, hz2, hz3⟩ : ∃ z : Int, Hid (sgnI v.s v.ns.length = z) ∧ (z == 0) = false := ⟨_, Lib.hid rfl, by rw [sgnI_len hy4.mn]; have := HVP.out; unfold sgnI; rw [if_neg (by omega)]; cases v.s <;> rfl⟩
  obtain ⟨a0, a1, a2, a3, a4, a5, a6⟩ := ka4.facts
  obtain ⟨b0, b1, b2, b3, b4, b5, b6⟩ := kb4.facts
  go_wp2_with fail
  refine (Add_any a b p q _ ha4 hb_4 (by omega)).mono ?_
  rintro e w5 ⟨s, rfl, hs5, hsa, hsb, hb5⟩
  have ha5 := ha4.below hb5
  have hb_5 := hb_4.below hb5
  have ka5 := ka4.below hb5
  have kb5 := kb4.below hb5
  have kx5 := kx4.below hb5
  have ky5 := ky4.below hb5
  have hx5 := hx4.below hb5
  have hy5 := hy4.below hb5
  have hw5 := hw4.trans (hb5.mono hw4.size)
  clear ha4 hb_4 ka4 kb4 kx4 ky4 hx4 hy4 hw4 hb5
  clear a0 a1 a2 a3 a4 a5 a6
  clear b0 b1 b2 b3 b4 b5 b6
  go_upto_region 7 with fail
  have ks6 := Blk3.new w5 (.bool s.s) (.slice s.N s.ns.length s.nc) (.slice s.D s.ds.length s.dc)
  have hb6 : Below w5.heap.size w5 (w5.alloc (.cells #[.bool s.s, .slice s.N s.ns.length s.nc, .slice s.D s.ds.length s.dc] 24)) := (Below.refl _ _).alloc (Nat.le_refl _) _
  obtain ⟨w6, hwe⟩ : ∃ x, w5.alloc (.cells #[.bool s.s, .slice s.N s.ns.length s.nc, .slice s.D s.ds.length s.dc] 24) = x := ⟨_, rfl⟩
  rw [hwe] at ks6 hb6 ⊢
  clear hwe
  have ha6 := ha5.below hb6
  have hb_6 := hb_5.below hb6
  have ka6 := ka5.below hb6
  have kb6 := kb5.below hb6
  have kx6 := kx5.below hb6
  have ky6 := ky5.below hb6
  have hx6 := hx5.below hb6
  have hy6 := hy5.below hb6
  have hs6 := hs5.below hb6
  have hw6 := hw5.trans (hb6.mono hw5.size)
  clear ha5 hb_5 ka5 kb5 kx5 ky5 hx5 hy5 hs5 hw5 hb6
  obtain ⟨a0, a1, a2, a3, a4, a5, a6⟩ := ka6.facts
  obtain ⟨b0, b1, b2, b3, b4, b5, b6⟩ := kb6.facts
  go_wp2_with fail
  refine (Sub_any a b p q _ ha6 hb_6 (by omega)).mono ?_
  rintro e w7 ⟨d, rfl, hd7, hda, hdb, hb7⟩
  have ha7 := ha6.below hb7
  have hb_7 := hb_6.below hb7
  have ka7 := ka6.below hb7
  have kb7 := kb6.below hb7
  have kx7 := kx6.below hb7
  have ky7 := ky6.below hb7
  have hx7 := hx6.below hb7
  have hy7 := hy6.below hb7
  have hs7 := hs6.below hb7
  have ks7 := ks6.below hb7
  have hw7 := hw6.trans (hb7.mono hw6.size)
  clear ha6 hb_6 ka6 kb6 kx6 ky6 hx6 hy6 hs6 ks6 hw6 hb7
  clear a0 a1 a2 a3 a4 a5 a6
  clear b0 b1 b2 b3 b4 b5 b6
  go_upto_region 8 with fail
  have kd8 := Blk3.new w7 (.bool d.s) (.slice d.N d.ns.length d.nc) (.slice d.D d.ds.length d.dc)
  have hb8 : Below w7.heap.size w7 (w7.alloc (.cells #[.bool d.s, .slice d.N d.ns.length d.nc, .slice d.D d.ds.length d.dc] 24)) := (Below.refl _ _).alloc (Nat.le_refl _) _
  obtain ⟨w8, hwe⟩ : ∃ x, w7.alloc (.cells #[.bool d.s, .slice d.N d.ns.length d.nc, .slice d.D d.ds.length d.dc] 24) = x := ⟨_, rfl⟩
  rw [hwe] at kd8 hb8 ⊢
  clear hwe
  have ha8 := ha7.below hb8
  have hb_8 := hb_7.below hb8
  have ka8 := ka7.below hb8
  have kb8 := kb7.below hb8
  have kx8 := kx7.below hb8
  have ky8 := ky7.below hb8
  have hx8 := hx7.below hb8
  have hy8 := hy7.below hb8
  have hs8 := hs7.below hb8
  have ks8 := ks7.below hb8
  have hd8 := hd7.below hb8
  have hw8 := hw7.trans (hb8.mono hw7.size)
  clear ha7 hb_7 ka7 kb7 kx7 ky7 hx7 hy7 hs7 ks7 hd7 hw7 hb8
  obtain ⟨a0, a1, a2, a3, a4, a5, a6⟩ := ka8.facts
  obtain ⟨b0, b1, b2, b3, b4, b5, b6⟩ := kb8.facts
  go_wp2_with fail
  refine (Mul_of a b p q _ ha8 hb_8 (by omega)).mono ?_
  rintro e w9 ⟨m, rfl, hm9, hma, hmb, hb9⟩
  have ha9 := ha8.below hb9
  have hb_9 := hb_8.below hb9
  have ka9 := ka8.below hb9
  have kb9 := kb8.below hb9
  have kx9 := kx8.below hb9
  have ky9 := ky8.below hb9
  have hx9 := hx8.below hb9
  have hy9 := hy8.below hb9
  have hs9 := hs8.below hb9
  have ks9 := ks8.below hb9
  have hd9 := hd8.below hb9
  have kd9 := kd8.below hb9
  have hw9 := hw8.trans (hb9.mono hw8.size)
  clear ha8 hb_8 ka8 kb8 kx8 ky8 hx8 hy8 hs8 ks8 hd8 kd8 hw8 hb9
  clear a0 a1 a2 a3 a4 a5 a6
  clear b0 b1 b2 b3 b4 b5 b6
  go_upto_region 9 with fail
  have km10 := Blk3.new w9 (.bool m.s) (.slice m.N m.ns.length m.nc) (.slice m.D m.ds.length m.dc)
  have hb10 : Below w9.heap.size w9 (w9.alloc (.cells #[.bool m.s, .slice m.N m.ns.length m.nc, .slice m.D m.ds.length m.dc] 24)) := (Below.refl _ _).alloc (Nat.le_refl _) _
  obtain ⟨w10, hwe⟩ : ∃ x, w9.alloc (.cells #[.bool m.s, .slice m.N m.ns.length m.nc, .slice m.D m.ds.length m.dc] 24) = x := ⟨_, rfl⟩
  rw [hwe] at km10 hb10 ⊢
  clear hwe
  have ha10 := ha9.below hb10
  have hb_10 := hb_9.below hb10
  have ka10 := ka9.below hb10
  have kb10 := kb9.below hb10
  have kx10 := kx9.below hb10
  have ky10 := ky9.below hb10
  have hx10 := hx9.below hb10
  have hy10 := hy9.below hb10
  have hs10 := hs9.below hb10
  have ks10 := ks9.below hb10
  have hd10 := hd9.below hb10
  have kd10 := kd9.below hb10
  have hm10 := hm9.below hb10
  have hw10 := hw9.trans (hb10.mono hw9.size)
  clear ha9 hb_9 ka9 kb9 kx9 ky9 hx9 hy9 hs9 ks9 hd9 kd9 hm9 hw9 hb10
  obtain ⟨a0, a1, a2, a3, a4, a5, a6⟩ := ka10.facts
  obtain ⟨b0, b1, b2, b3, b4, b5, b6⟩ := kb10.facts
  go_wp2_with fail
  refine (Div_of a b p q _ ha10 hb_10 (by omega) HZ.out).mono ?_
  rintro e w11 ⟨t, rfl, ht11, hta, htb, hb11⟩
  have ha11 := ha10.below hb11
  have hb_11 := hb_10.below hb11
  have ka11 := ka10.below hb11
  have kb11 := kb10.below hb11
  have kx11 := kx10.below hb11
  have ky11 := ky10.below hb11
  have hx11 := hx10.below hb11
  have hy11 := hy10.below hb11
  have hs11 := hs10.below hb11
  have ks11 := ks10.below hb11
  have hd11 := hd10.below hb11
  have kd11 := kd10.below hb11
  have hm11 := hm10.below hb11
  have km11 := km10.below hb11
  have hw11 := hw10.trans (hb11.mono hw10.size)
  clear ha10 hb_10 ka10 kb10 kx10 ky10 hx10 hy10 hs10 ks10 hd10 kd10 hm10 km10 hw10 hb11
  clear a0 a1 a2 a3 a4 a5 a6
  clear b0 b1 b2 b3 b4 b5 b6
  go_upto_region 10 with fail
  have kq12 := Blk3.new w11 (.bool t.s) (.slice t.N t.ns.length t.nc) (.slice t.D t.ds.length t.dc)
  have hb12 : Below w11.heap.size w11 (w11.alloc (.cells #[.bool t.s, .slice t.N t.ns.length t.nc, .slice t.D t.ds.length t.dc] 24)) := (Below.refl _ _).alloc (Nat.le_refl _) _
  obtain ⟨w12, hwe⟩ : ∃ x, w11.alloc (.cells #[.bool t.s, .slice t.N t.ns.length t.nc, .slice t.D t.ds.length t.dc] 24) = x := ⟨_, rfl⟩
  rw [hwe] at kq12 hb12 ⊢
  clear hwe
  have ha12 := ha11.below hb12
  have hb_12 := hb_11.below hb12
  have ka12 := ka11.below hb12
  have kb12 := kb11.below hb12
  have kx12 := kx11.below hb12
  have ky12 := ky11.below hb12
  have hx12 := hx11.below hb12
  have hy12 := hy11.below hb12
  have hs12 := hs11.below hb12
  have ks12 := ks11.below hb12
  have hd12 := hd11.below hb12
  have kd12 := kd11.below hb12
  have hm12 := hm11.below hb12
  have km12 := km11.below hb12
  have ht12 := ht11.below hb12
  have hw12 := hw11.trans (hb12.mono hw11.size)
  clear ha11 hb_11 ka11 kb11 kx11 ky11 hx11 hy11 hs11 ks11 hd11 kd11 hm11 km11 ht11 hw11 hb12
  obtain ⟨a0, a1, a2, a3, a4, a5, a6⟩ := ka12.facts
  go_wp2_with fail
  refine (Neg_of a p _ ha12 (by omega)).mono ?_
  rintro e w13 ⟨n, rfl, hn13, hna, hnb, hb13⟩
  have ha13 := ha12.below hb13
  have hb_13 := hb_12.below hb13
  have ka13 := ka12.below hb13
  have kb13 := kb12.below hb13
  have kx13 := kx12.below hb13
  have ky13 := ky12.below hb13
  have hx13 := hx12.below hb13
  have hy13 := hy12.below hb13
  have hs13 := hs12.below hb13
  have ks13 := ks12.below hb13
  have hd13 := hd12.below hb13
  have kd13 := kd12.below hb13
  have hm13 := hm12.below hb13
  have km13 := km12.below hb13
  have ht13 := ht12.below hb13
  have kq13 := kq12.below hb13
  have hw13 := hw12.trans (hb13.mono hw12.size)
  clear ha12 hb_12 ka12 kb12 kx12 ky12 hx12 hy12 hs12 ks12 hd12 kd12 hm12 km12 ht12 kq12 hw12 hb13
  clear a0 a1 a2 a3 a4 a5 a6
  go_upto_region 11 with fail
  have kn14 := Blk3.new w13 (.bool n.s) (.slice n.N n.ns.length n.nc) (.slice n.D n.ds.length n.dc)
  have hb14 : Below w13.heap.size w13 (w13.alloc (.cells #[.bool n.s, .slice n.N n.ns.length n.nc, .slice n.D n.ds.length n.dc] 24)) := (Below.refl _ _).alloc (Nat.le_refl _) _
  obtain ⟨w14, hwe⟩ : ∃ x, w13.alloc (.cells #[.bool n.s, .slice n.N n.ns.length n.nc, .slice n.D n.ds.length n.dc] 24) = x := ⟨_, rfl⟩
  rw [hwe] at kn14 hb14 ⊢
  clear hwe
  have ha14 := ha13.below hb14
  have hb_14 := hb_13.below hb14
  have ka14 := ka13.below hb14
  have kb14 := kb13.below hb14
  have kx14 := kx13.below hb14
  have ky14 := ky13.below hb14
  have hx14 := hx13.below hb14
  have hy14 := hy13.below hb14
  have hs14 := hs13.below hb14
  have ks14 := ks13.below hb14
  have hd14 := hd13.below hb14
  have kd14 := kd13.below hb14
  have hm14 := hm13.below hb14
  have km14 := km13.below hb14
  have ht14 := ht13.below hb14
  have kq14 := kq13.below hb14
  have hn14 := hn13.below hb14
  have hw14 := hw13.trans (hb14.mono hw13.size)
  clear ha13 hb_13 ka13 kb13 kx13 ky13 hx13 hy13 hs13 ks13 hd13 kd13 hm13 km13 ht13 kq13 hn13 hw13 hb14
  obtain ⟨a0, a1, a2, a3, a4, a5, a6⟩ := ka14.facts
  obtain ⟨b0, b1, b2, b3, b4, b5, b6⟩ := kb14.facts
  go_wp2_with fail
  refine (Mid_any a b p q _ ha14 hb_14 (by omega)).mono ?_
  rintro e w15 ⟨i, rfl, hi15, hia, hib, hb15⟩
  have ha15 := ha14.below hb15
  have hb_15 := hb_14.below hb15
  have ka15 := ka14.below hb15
  have kb15 := kb14.below hb15
  have kx15 := kx14.below hb15
  have ky15 := ky14.below hb15
  have hx15 := hx14.below hb15
  have hy15 := hy14.below hb15
  have hs15 := hs14.below hb15
  have ks15 := ks14.below hb15
  have hd15 := hd14.below hb15
  have kd15 := kd14.below hb15
  have hm15 := hm14.below hb15
  have km15 := km14.below hb15
  have ht15 := ht14.below hb15
  have kq15 := kq14.below hb15
  have hn15 := hn14.below hb15
  have kn15 := kn14.below hb15
  have hw15 := hw14.trans (hb15.mono hw14.size)
  clear ha14 hb_14 ka14 kb14 kx14 ky14 hx14 hy14 hs14 ks14 hd14 kd14 hm14 km14 ht14 kq14 hn14 kn14 hw14 hb15
  clear a0 a1 a2 a3 a4 a5 a6
  clear b0 b1 b2 b3 b4 b5 b6
  go_upto_region 12 with fail
  have ki16 := Blk3.new w15 (.bool i.s) (.slice i.N i.ns.length i.nc) (.slice i.D i.ds.length i.dc)
  have hb16 : Below w15.heap.size w15 (w15.alloc (.cells #[.bool i.s, .slice i.N i.ns.length i.nc, .slice i.D i.ds.length i.dc] 24)) := (Below.refl _ _).alloc (Nat.le_refl _) _
  obtain ⟨w16, hwe⟩ : ∃ x, w15.alloc (.cells #[.bool i.s, .slice i.N i.ns.length i.nc, .slice i.D i.ds.length i.dc] 24) = x := ⟨_, rfl⟩
  rw [hwe] at ki16 hb16 ⊢
  clear hwe
  have ha16 := ha15.below hb16
  have hb_16 := hb_15.below hb16
  have ka16 := ka15.below hb16
  have kb16 := kb15.below hb16
  have kx16 := kx15.below hb16
  have ky16 := ky15.below hb16
  have hx16 := hx15.below hb16
  have hy16 := hy15.below hb16
  have hs16 := hs15.below hb16
  have ks16 := ks15.below hb16
  have hd16 := hd15.below hb16
  have kd16 := kd15.below hb16
  have hm16 := hm15.below hb16
  have km16 := km15.below hb16
  have ht16 := ht15.below hb16
  have kq16 := kq15.below hb16
  have hn16 := hn15.below hb16
  have kn16 := kn15.below hb16
  have hi16 := hi15.below hb16
  have hw16 := hw15.trans (hb16.mono hw15.size)
  clear ha15 hb_15 ka15 kb15 kx15 ky15 hx15 hy15 hs15 ks15 hd15 kd15 hm15 km15 ht15 kq15 hn15 kn15 hi15 hw15 hb16
  obtain ⟨a0, a1, a2, a3, a4, a5, a6⟩ := ka16.facts
  obtain ⟨b0, b1, b2, b3, b4, b5, b6⟩ := kb16.facts
  go_wp2_with fail
  refine (Cmp_of a b p q _ ha16 hb_16 (by omega)).mono ?_
  rintro e w17 ⟨he, hb17⟩
  rw [hc1.out] at he
  subst he
  have ha17 := ha16.below hb17
  have hb_17 := hb_16.below hb17
  have ka17 := ka16.below hb17
  have kb17 := kb16.below hb17
  have kx17 := kx16.below hb17
  have ky17 := ky16.below hb17
  have hx17 := hx16.below hb17
  have hy17 := hy16.below hb17
  have hs17 := hs16.below hb17
  have ks17 := ks16.below hb17
  have hd17 := hd16.below hb17
  have kd17 := kd16.below hb17
  have hm17 := hm16.below hb17
  have km17 := km16.below hb17
  have ht17 := ht16.below hb17
  have kq17 := kq16.below hb17
  have hn17 := hn16.below hb17
  have kn17 := kn16.below hb17
  have hi17 := hi16.below hb17
  have ki17 := ki16.below hb17
  have hw17 := hw16.trans (hb17.mono hw16.size)
  clear ha16 hb_16 ka16 kb16 kx16 ky16 hx16 hy16 hs16 ks16 hd16 kd16 hm16 km16 ht16 kq16 hn16 kn16 hi16 ki16 hw16 hb17
  clear a0 a1 a2 a3 a4 a5 a6
  clear b0 b1 b2 b3 b4 b5 b6
  obtain ⟨a0, a1, a2, a3, a4, a5, a6⟩ := ka17.facts
  go_wp2_with fail
  refine (Sign_of a p _ ha17 (by omega)).mono ?_
  rintro e w18 ⟨he, hb18⟩
  rw [hg1.out] at he
  subst he
  have ha18 := ha17.below hb18
  have hb_18 := hb_17.below hb18
  have ka18 := ka17.below hb18
  have kb18 := kb17.below hb18
  have kx18 := kx17.below hb18
  have ky18 := ky17.below hb18
  have hx18 := hx17.below hb18
  have hy18 := hy17.below hb18
  have hs18 := hs17.below hb18
  have ks18 := ks17.below hb18
  have hd18 := hd17.below hb18
  have kd18 := kd17.below hb18
  have hm18 := hm17.below hb18
  have km18 := km17.below hb18
  have ht18 := ht17.below hb18
  have kq18 := kq17.below hb18
  have hn18 := hn17.below hb18
  have kn18 := kn17.below hb18
  have hi18 := hi17.below hb18
  have ki18 := ki17.below hb18
  have hw18 := hw17.trans (hb18.mono hw17.size)
  clear ha17 hb_17 ka17 kb17 kx17 ky17 hx17 hy17 hs17 ks17 hd17 kd17 hm17 km17 ht17 kq17 hn17 kn17 hi17 ki17 hw17 hb18
  clear a0 a1 a2 a3 a4 a5 a6
  go_upto_region 16 with fail
  go_cut [154] (fun s154 wx => s154 = .bool false ∧ Below w18.heap.size w18 wx)
  case first =>
    obtain ⟨ks_0, ks_1, ks_2, ks_3, ks_4, ks_5, ks_6⟩ := ks18.facts
    obtain ⟨kd_0, kd_1, kd_2, kd_3, kd_4, kd_5, kd_6⟩ := kd18.facts
    obtain ⟨km_0, km_1, km_2, km_3, km_4, km_5, km_6⟩ := km18.facts
    obtain ⟨kn_0, kn_1, kn_2, kn_3, kn_4, kn_5, kn_6⟩ := kn18.facts
    obtain ⟨ki_0, ki_1, ki_2, ki_3, ki_4, ki_5, ki_6⟩ := ki18.facts
    obtain ⟨kx_0, kx_1, kx_2, kx_3, kx_4, kx_5, kx_6⟩ := kx18.facts
    obtain ⟨ky_0, ky_1, ky_2, ky_3, ky_4, ky_5, ky_6⟩ := ky18.facts
    go_region_held3 (fun w' => w'.cell? ⟨w5.heap.size, 0, none⟩ = some (.bool s.s) ∧ w'.cell? ⟨w5.heap.size, 1, none⟩ = some (.slice s.N s.ns.length s.nc) ∧ w'.cell? ⟨w5.heap.size, 2, none⟩ = some (.slice s.D s.ds.length s.dc) ∧ w'.cell? ⟨w7.heap.size, 0, none⟩ = some (.bool d.s) ∧ w'.cell? ⟨w7.heap.size, 1, none⟩ = some (.slice d.N d.ns.length d.nc) ∧ w'.cell? ⟨w7.heap.size, 2, none⟩ = some (.slice d.D d.ds.length d.dc) ∧ w'.cell? ⟨w9.heap.size, 0, none⟩ = some (.bool m.s) ∧ w'.cell? ⟨w9.heap.size, 1, none⟩ = some (.slice m.N m.ns.length m.nc) ∧ w'.cell? ⟨w9.heap.size, 2, none⟩ = some (.slice m.D m.ds.length m.dc) ∧ w'.cell? ⟨w13.heap.size, 0, none⟩ = some (.bool n.s) ∧ w'.cell? ⟨w13.heap.size, 1, none⟩ = some (.slice n.N n.ns.length n.nc) ∧ w'.cell? ⟨w13.heap.size, 2, none⟩ = some (.slice n.D n.ds.length n.dc) ∧ w'.cell? ⟨w15.heap.size, 0, none⟩ = some (.bool i.s) ∧ w'.cell? ⟨w15.heap.size, 1, none⟩ = some (.slice i.N i.ns.length i.nc) ∧ w'.cell? ⟨w15.heap.size, 2, none⟩ = some (.slice i.D i.ds.length i.dc) ∧ w'.cell? ⟨g1, 0, none⟩ = some (.bool u.s) ∧ w'.cell? ⟨g1, 1, none⟩ = some (.slice u.N u.ns.length u.nc) ∧ w'.cell? ⟨g1, 2, none⟩ = some (.slice u.D u.ds.length u.dc) ∧ w'.cell? ⟨g2, 0, none⟩ = some (.bool v.s) ∧ w'.cell? ⟨g2, 1, none⟩ = some (.slice v.N v.ns.length v.nc) ∧ w'.cell? ⟨g2, 2, none⟩ = some (.slice v.D v.ds.length v.dc)) (first | exact ⟨‹_›, ‹_›, ‹_›, ‹_›, ‹_›, ‹_›, ‹_›, ‹_›, ‹_›, ‹_›, ‹_›, ‹_›, ‹_›, ‹_›, ‹_›, ‹_›, ‹_›, ‹_›, ‹_›, ‹_›, ‹_›⟩ | go_keep)
      (first
      | (go_at_call 18
         refine (raddq u v p q _ (by first | exact hx18 | exact hx18.drew | exact hx18.alloc _ | exact (hx18.alloc _).drew | exact hx18.drew.alloc _) (by first | exact hy18 | exact hy18.drew | exact hy18.alloc _ | exact (hy18.alloc _).drew | exact hy18.drew.alloc _) (by omega)).mono ?_
         rintro e wry1_ ⟨y1, rfl, hy1, hy1a, hy1b, hbry1⟩
         have hbp0 : Below w18.heap.size w18 wry1_ := by first | exact hbry1 | exact below_of_drew hbry1 (Nat.le_refl _) | exact ((Below.refl _ _).alloc (Nat.le_refl _) _).trans (hbry1.mono (by simp)) | exact ((Below.refl _ _).alloc (Nat.le_refl _) _).trans ((below_of_drew hbry1 (Nat.le_refl _)).mono (by simp)) | exact below_of_drew (((Below.refl _ _).alloc (Nat.le_refl _) _).trans (hbry1.mono (by simp))) (Nat.le_refl _)
         have hx_0 := hx18.below hbp0
         have hy_0 := hy18.below hbp0
         have hs_0 := hs18.below hbp0
         have hd_0 := hd18.below hbp0
         have hm_0 := hm18.below hbp0
         have hn_0 := hn18.below hbp0
         have hi_0 := hi18.below hbp0
         have ks_0 := ks18.below hbp0
         obtain ⟨ks0wry1_, ks1wry1_, ks2wry1_, ks3wry1_, ks4wry1_, ks5wry1_, ks6wry1_⟩ := ks_0.facts
         have kd_0 := kd18.below hbp0
         obtain ⟨kd0wry1_, kd1wry1_, kd2wry1_, kd3wry1_, kd4wry1_, kd5wry1_, kd6wry1_⟩ := kd_0.facts
         have km_0 := km18.below hbp0
         obtain ⟨km0wry1_, km1wry1_, km2wry1_, km3wry1_, km4wry1_, km5wry1_, km6wry1_⟩ := km_0.facts
         have kn_0 := kn18.below hbp0
         obtain ⟨kn0wry1_, kn1wry1_, kn2wry1_, kn3wry1_, kn4wry1_, kn5wry1_, kn6wry1_⟩ := kn_0.facts
         have ki_0 := ki18.below hbp0
         obtain ⟨ki0wry1_, ki1wry1_, ki2wry1_, ki3wry1_, ki4wry1_, ki5wry1_, ki6wry1_⟩ := ki_0.facts
         have kx_0 := kx18.below hbp0
         obtain ⟨kx0wry1_, kx1wry1_, kx2wry1_, kx3wry1_, kx4wry1_, kx5wry1_, kx6wry1_⟩ := kx_0.facts
         have ky_0 := ky18.below hbp0
         obtain ⟨ky0wry1_, ky1wry1_, ky2wry1_, ky3wry1_, ky4wry1_, ky5wry1_, ky6wry1_⟩ := ky_0.facts
         have hwq0 := hw18.trans (hbp0.mono hw18.size))
      | (go_at_call_of 17 (Value.agg #[.bool s.s, .slice s.N s.ns.length s.nc, .slice s.D s.ds.length s.dc])
         refine (qis_yes s y1 _ _ (by first | exact hs_0 | exact hs_0.drew | exact hs_0.alloc _ | exact (hs_0.alloc _).drew | exact hs_0.drew.alloc _) (by first | exact hy1 | exact hy1.drew | exact hy1.alloc _ | exact (hy1.alloc _).drew | exact hy1.drew.alloc _) (by omega) (by omega)).mono ?_
         rintro e wis_ ⟨rfl, hbis⟩
         have hbp1 : Below wry1_.heap.size wry1_ wis_ := by first | exact hbis | exact below_of_drew hbis (Nat.le_refl _) | exact ((Below.refl _ _).alloc (Nat.le_refl _) _).trans (hbis.mono (by simp)) | exact ((Below.refl _ _).alloc (Nat.le_refl _) _).trans ((below_of_drew hbis (Nat.le_refl _)).mono (by simp)) | exact below_of_drew (((Below.refl _ _).alloc (Nat.le_refl _) _).trans (hbis.mono (by simp))) (Nat.le_refl _)
         have hx_1 := hx_0.below hbp1
         have hy_1 := hy_0.below hbp1
         have hs_1 := hs_0.below hbp1
         have hd_1 := hd_0.below hbp1
         have hm_1 := hm_0.below hbp1
         have hn_1 := hn_0.below hbp1
         have hi_1 := hi_0.below hbp1
         have hy1_1 := hy1.below hbp1
         have ks_1 := ks_0.below hbp1
         obtain ⟨ks0wis_, ks1wis_, ks2wis_, ks3wis_, ks4wis_, ks5wis_, ks6wis_⟩ := ks_1.facts
         have kd_1 := kd_0.below hbp1
         obtain ⟨kd0wis_, kd1wis_, kd2wis_, kd3wis_, kd4wis_, kd5wis_, kd6wis_⟩ := kd_1.facts
         have km_1 := km_0.below hbp1
         obtain ⟨km0wis_, km1wis_, km2wis_, km3wis_, km4wis_, km5wis_, km6wis_⟩ := km_1.facts
         have kn_1 := kn_0.below hbp1
         obtain ⟨kn0wis_, kn1wis_, kn2wis_, kn3wis_, kn4wis_, kn5wis_, kn6wis_⟩ := kn_1.facts
         have ki_1 := ki_0.below hbp1
         obtain ⟨ki0wis_, ki1wis_, ki2wis_, ki3wis_, ki4wis_, ki5wis_, ki6wis_⟩ := ki_1.facts
         have kx_1 := kx_0.below hbp1
         obtain ⟨kx0wis_, kx1wis_, kx2wis_, kx3wis_, kx4wis_, kx5wis_, kx6wis_⟩ := kx_1.facts
         have ky_1 := ky_0.below hbp1
         obtain ⟨ky0wis_, ky1wis_, ky2wis_, ky3wis_, ky4wis_, ky5wis_, ky6wis_⟩ := ky_1.facts
         have hwq1 := hwq0.trans (hbp1.mono hwq0.size))
      | (go_at_call 19
         refine (rsubq u v p q _ (by first | exact hx_1 | exact hx_1.drew | exact hx_1.alloc _ | exact (hx_1.alloc _).drew | exact hx_1.drew.alloc _) (by first | exact hy_1 | exact hy_1.drew | exact hy_1.alloc _ | exact (hy_1.alloc _).drew | exact hy_1.drew.alloc _) (by omega)).mono ?_
         rintro e wry2_ ⟨y2, rfl, hy2, hy2a, hy2b, hbry2⟩
         have hbp2 : Below wis_.heap.size wis_ wry2_ := by first | exact hbry2 | exact below_of_drew hbry2 (Nat.le_refl _) | exact ((Below.refl _ _).alloc (Nat.le_refl _) _).trans (hbry2.mono (by simp)) | exact ((Below.refl _ _).alloc (Nat.le_refl _) _).trans ((below_of_drew hbry2 (Nat.le_refl _)).mono (by simp)) | exact below_of_drew (((Below.refl _ _).alloc (Nat.le_refl _) _).trans (hbry2.mono (by simp))) (Nat.le_refl _)
         have hx_2 := hx_1.below hbp2
         have hy_2 := hy_1.below hbp2
         have hs_2 := hs_1.below hbp2
         have hd_2 := hd_1.below hbp2
         have hm_2 := hm_1.below hbp2
         have hn_2 := hn_1.below hbp2
         have hi_2 := hi_1.below hbp2
         have hy1_2 := hy1_1.below hbp2
         have ks_2 := ks_1.below hbp2
         obtain ⟨ks0wry2_, ks1wry2_, ks2wry2_, ks3wry2_, ks4wry2_, ks5wry2_, ks6wry2_⟩ := ks_2.facts
         have kd_2 := kd_1.below hbp2
         obtain ⟨kd0wry2_, kd1wry2_, kd2wry2_, kd3wry2_, kd4wry2_, kd5wry2_, kd6wry2_⟩ := kd_2.facts
         have km_2 := km_1.below hbp2
         obtain ⟨km0wry2_, km1wry2_, km2wry2_, km3wry2_, km4wry2_, km5wry2_, km6wry2_⟩ := km_2.facts
         have kn_2 := kn_1.below hbp2
         obtain ⟨kn0wry2_, kn1wry2_, kn2wry2_, kn3wry2_, kn4wry2_, kn5wry2_, kn6wry2_⟩ := kn_2.facts
         have ki_2 := ki_1.below hbp2
         obtain ⟨ki0wry2_, ki1wry2_, ki2wry2_, ki3wry2_, ki4wry2_, ki5wry2_, ki6wry2_⟩ := ki_2.facts
         have kx_2 := kx_1.below hbp2
         obtain ⟨kx0wry2_, kx1wry2_, kx2wry2_, kx3wry2_, kx4wry2_, kx5wry2_, kx6wry2_⟩ := kx_2.facts
         have ky_2 := ky_1.below hbp2
         obtain ⟨ky0wry2_, ky1wry2_, ky2wry2_, ky3wry2_, ky4wry2_, ky5wry2_, ky6wry2_⟩ := ky_2.facts
         have hwq2 := hwq1.trans (hbp2.mono hwq1.size))
      | (go_at_call_of 17 (Value.agg #[.bool d.s, .slice d.N d.ns.length d.nc, .slice d.D d.ds.length d.dc])
         refine (qis_yes d y2 _ _ (by first | exact hd_2 | exact hd_2.drew | exact hd_2.alloc _ | exact (hd_2.alloc _).drew | exact hd_2.drew.alloc _) (by first | exact hy2 | exact hy2.drew | exact hy2.alloc _ | exact (hy2.alloc _).drew | exact hy2.drew.alloc _) (by omega) (by omega)).mono ?_
         rintro e wid_ ⟨rfl, hbid⟩
         have hbp3 : Below wry2_.heap.size wry2_ wid_ := by first | exact hbid | exact below_of_drew hbid (Nat.le_refl _) | exact ((Below.refl _ _).alloc (Nat.le_refl _) _).trans (hbid.mono (by simp)) | exact ((Below.refl _ _).alloc (Nat.le_refl _) _).trans ((below_of_drew hbid (Nat.le_refl _)).mono (by simp)) | exact below_of_drew (((Below.refl _ _).alloc (Nat.le_refl _) _).trans (hbid.mono (by simp))) (Nat.le_refl _)
         have hx_3 := hx_2.below hbp3
         have hy_3 := hy_2.below hbp3
         have hs_3 := hs_2.below hbp3
         have hd_3 := hd_2.below hbp3
         have hm_3 := hm_2.below hbp3
         have hn_3 := hn_2.below hbp3
         have hi_3 := hi_2.below hbp3
         have hy1_3 := hy1_2.below hbp3
         have hy2_3 := hy2.below hbp3
         have ks_3 := ks_2.below hbp3
         obtain ⟨ks0wid_, ks1wid_, ks2wid_, ks3wid_, ks4wid_, ks5wid_, ks6wid_⟩ := ks_3.facts
         have kd_3 := kd_2.below hbp3
         obtain ⟨kd0wid_, kd1wid_, kd2wid_, kd3wid_, kd4wid_, kd5wid_, kd6wid_⟩ := kd_3.facts
         have km_3 := km_2.below hbp3
         obtain ⟨km0wid_, km1wid_, km2wid_, km3wid_, km4wid_, km5wid_, km6wid_⟩ := km_3.facts
         have kn_3 := kn_2.below hbp3
         obtain ⟨kn0wid_, kn1wid_, kn2wid_, kn3wid_, kn4wid_, kn5wid_, kn6wid_⟩ := kn_3.facts
         have ki_3 := ki_2.below hbp3
         obtain ⟨ki0wid_, ki1wid_, ki2wid_, ki3wid_, ki4wid_, ki5wid_, ki6wid_⟩ := ki_3.facts
         have kx_3 := kx_2.below hbp3
         obtain ⟨kx0wid_, kx1wid_, kx2wid_, kx3wid_, kx4wid_, kx5wid_, kx6wid_⟩ := kx_3.facts
         have ky_3 := ky_2.below hbp3
         obtain ⟨ky0wid_, ky1wid_, ky2wid_, ky3wid_, ky4wid_, ky5wid_, ky6wid_⟩ := ky_3.facts
         have hwq3 := hwq2.trans (hbp3.mono hwq2.size))
      | (go_at_call 20
         refine (rmulq u v p q _ (by first | exact hx_3 | exact hx_3.drew | exact hx_3.alloc _ | exact (hx_3.alloc _).drew | exact hx_3.drew.alloc _) (by first | exact hy_3 | exact hy_3.drew | exact hy_3.alloc _ | exact (hy_3.alloc _).drew | exact hy_3.drew.alloc _) (by omega)).mono ?_
         rintro e wry3_ ⟨y3, rfl, hy3, hy3a, hy3b, hbry3⟩
         have hbp4 : Below wid_.heap.size wid_ wry3_ := by first | exact hbry3 | exact below_of_drew hbry3 (Nat.le_refl _) | exact ((Below.refl _ _).alloc (Nat.le_refl _) _).trans (hbry3.mono (by simp)) | exact ((Below.refl _ _).alloc (Nat.le_refl _) _).trans ((below_of_drew hbry3 (Nat.le_refl _)).mono (by simp)) | exact below_of_drew (((Below.refl _ _).alloc (Nat.le_refl _) _).trans (hbry3.mono (by simp))) (Nat.le_refl _)
         have hx_4 := hx_3.below hbp4
         have hy_4 := hy_3.below hbp4
         have hs_4 := hs_3.below hbp4
         have hd_4 := hd_3.below hbp4
         have hm_4 := hm_3.below hbp4
         have hn_4 := hn_3.below hbp4
         have hi_4 := hi_3.below hbp4
         have hy1_4 := hy1_3.below hbp4
         have hy2_4 := hy2_3.below hbp4
         have ks_4 := ks_3.below hbp4
         obtain ⟨ks0wry3_, ks1wry3_, ks2wry3_, ks3wry3_, ks4wry3_, ks5wry3_, ks6wry3_⟩ := ks_4.facts
         have kd_4 := kd_3.below hbp4
         obtain ⟨kd0wry3_, kd1wry3_, kd2wry3_, kd3wry3_, kd4wry3_, kd5wry3_, kd6wry3_⟩ := kd_4.facts
         have km_4 := km_3.below hbp4
         obtain ⟨km0wry3_, km1wry3_, km2wry3_, km3wry3_, km4wry3_, km5wry3_, km6wry3_⟩ := km_4.facts
         have kn_4 := kn_3.below hbp4
         obtain ⟨kn0wry3_, kn1wry3_, kn2wry3_, kn3wry3_, kn4wry3_, kn5wry3_, kn6wry3_⟩ := kn_4.facts
         have ki_4 := ki_3.below hbp4
         obtain ⟨ki0wry3_, ki1wry3_, ki2wry3_, ki3wry3_, ki4wry3_, ki5wry3_, ki6wry3_⟩ := ki_4.facts
         have kx_4 := kx_3.below hbp4
         obtain ⟨kx0wry3_, kx1wry3_, kx2wry3_, kx3wry3_, kx4wry3_, kx5wry3_, kx6wry3_⟩ := kx_4.facts
         have ky_4 := ky_3.below hbp4
         obtain ⟨ky0wry3_, ky1wry3_, ky2wry3_, ky3wry3_, ky4wry3_, ky5wry3_, ky6wry3_⟩ := ky_4.facts
         have hwq4 := hwq3.trans (hbp4.mono hwq3.size))
      | (go_at_call_of 17 (Value.agg #[.bool m.s, .slice m.N m.ns.length m.nc, .slice m.D m.ds.length m.dc])
         refine (qis_yes m y3 _ _ (by first | exact hm_4 | exact hm_4.drew | exact hm_4.alloc _ | exact (hm_4.alloc _).drew | exact hm_4.drew.alloc _) (by first | exact hy3 | exact hy3.drew | exact hy3.alloc _ | exact (hy3.alloc _).drew | exact hy3.drew.alloc _) (by omega) (by omega)).mono ?_
         rintro e wim_ ⟨rfl, hbim⟩
         have hbp5 : Below wry3_.heap.size wry3_ wim_ := by first | exact hbim | exact below_of_drew hbim (Nat.le_refl _) | exact ((Below.refl _ _).alloc (Nat.le_refl _) _).trans (hbim.mono (by simp)) | exact ((Below.refl _ _).alloc (Nat.le_refl _) _).trans ((below_of_drew hbim (Nat.le_refl _)).mono (by simp)) | exact below_of_drew (((Below.refl _ _).alloc (Nat.le_refl _) _).trans (hbim.mono (by simp))) (Nat.le_refl _)
         have hx_5 := hx_4.below hbp5
         have hy_5 := hy_4.below hbp5
         have hs_5 := hs_4.below hbp5
         have hd_5 := hd_4.below hbp5
         have hm_5 := hm_4.below hbp5
         have hn_5 := hn_4.below hbp5
         have hi_5 := hi_4.below hbp5
         have hy1_5 := hy1_4.below hbp5
         have hy2_5 := hy2_4.below hbp5
         have hy3_5 := hy3.below hbp5
         have ks_5 := ks_4.below hbp5
         obtain ⟨ks0wim_, ks1wim_, ks2wim_, ks3wim_, ks4wim_, ks5wim_, ks6wim_⟩ := ks_5.facts
         have kd_5 := kd_4.below hbp5
         obtain ⟨kd0wim_, kd1wim_, kd2wim_, kd3wim_, kd4wim_, kd5wim_, kd6wim_⟩ := kd_5.facts
         have km_5 := km_4.below hbp5
         obtain ⟨km0wim_, km1wim_, km2wim_, km3wim_, km4wim_, km5wim_, km6wim_⟩ := km_5.facts
         have kn_5 := kn_4.below hbp5
         obtain ⟨kn0wim_, kn1wim_, kn2wim_, kn3wim_, kn4wim_, kn5wim_, kn6wim_⟩ := kn_5.facts
         have ki_5 := ki_4.below hbp5
         obtain ⟨ki0wim_, ki1wim_, ki2wim_, ki3wim_, ki4wim_, ki5wim_, ki6wim_⟩ := ki_5.facts
         have kx_5 := kx_4.below hbp5
         obtain ⟨kx0wim_, kx1wim_, kx2wim_, kx3wim_, kx4wim_, kx5wim_, kx6wim_⟩ := kx_5.facts
         have ky_5 := ky_4.below hbp5
         obtain ⟨ky0wim_, ky1wim_, ky2wim_, ky3wim_, ky4wim_, ky5wim_, ky6wim_⟩ := ky_5.facts
         have hwq5 := hwq4.trans (hbp5.mono hwq4.size))
      | (go_at_call 21
         refine (rneg u p _ (by first | exact hx_5 | exact hx_5.drew | exact hx_5.alloc _ | exact (hx_5.alloc _).drew | exact hx_5.drew.alloc _)).mono ?_
         rintro e wry4_ ⟨y4, rfl, hy4, hy4a, hy4b, hbry4⟩
         have hbp6 : Below wim_.heap.size wim_ wry4_ := by first | exact hbry4 | exact below_of_drew hbry4 (Nat.le_refl _) | exact ((Below.refl _ _).alloc (Nat.le_refl _) _).trans (hbry4.mono (by simp)) | exact ((Below.refl _ _).alloc (Nat.le_refl _) _).trans ((below_of_drew hbry4 (Nat.le_refl _)).mono (by simp)) | exact below_of_drew (((Below.refl _ _).alloc (Nat.le_refl _) _).trans (hbry4.mono (by simp))) (Nat.le_refl _)
         have hx_6 := hx_5.below hbp6
         have hy_6 := hy_5.below hbp6
         have hs_6 := hs_5.below hbp6
         have hd_6 := hd_5.below hbp6
         have hm_6 := hm_5.below hbp6
         have hn_6 := hn_5.below hbp6
         have hi_6 := hi_5.below hbp6
         have hy1_6 := hy1_5.below hbp6
         have hy2_6 := hy2_5.below hbp6
         have hy3_6 := hy3_5.below hbp6
         have ks_6 := ks_5.below hbp6
         obtain ⟨ks0wry4_, ks1wry4_, ks2wry4_, ks3wry4_, ks4wry4_, ks5wry4_, ks6wry4_⟩ := ks_6.facts
         have kd_6 := kd_5.below hbp6
         obtain ⟨kd0wry4_, kd1wry4_, kd2wry4_, kd3wry4_, kd4wry4_, kd5wry4_, kd6wry4_⟩ := kd_6.facts
         have km_6 := km_5.below hbp6
         obtain ⟨km0wry4_, km1wry4_, km2wry4_, km3wry4_, km4wry4_, km5wry4_, km6wry4_⟩ := km_6.facts
         have kn_6 := kn_5.below hbp6
         obtain ⟨kn0wry4_, kn1wry4_, kn2wry4_, kn3wry4_, kn4wry4_, kn5wry4_, kn6wry4_⟩ := kn_6.facts
         have ki_6 := ki_5.below hbp6
         obtain ⟨ki0wry4_, ki1wry4_, ki2wry4_, ki3wry4_, ki4wry4_, ki5wry4_, ki6wry4_⟩ := ki_6.facts
         have kx_6 := kx_5.below hbp6
         obtain ⟨kx0wry4_, kx1wry4_, kx2wry4_, kx3wry4_, kx4wry4_, kx5wry4_, kx6wry4_⟩ := kx_6.facts
         have ky_6 := ky_5.below hbp6
         obtain ⟨ky0wry4_, ky1wry4_, ky2wry4_, ky3wry4_, ky4wry4_, ky5wry4_, ky6wry4_⟩ := ky_6.facts
         have hwq6 := hwq5.trans (hbp6.mono hwq5.size))
      | (go_at_call_of 17 (Value.agg #[.bool n.s, .slice n.N n.ns.length n.nc, .slice n.D n.ds.length n.dc])
         refine (qis_yes n y4 _ _ (by first | exact hn_6 | exact hn_6.drew | exact hn_6.alloc _ | exact (hn_6.alloc _).drew | exact hn_6.drew.alloc _) (by first | exact hy4 | exact hy4.drew | exact hy4.alloc _ | exact (hy4.alloc _).drew | exact hy4.drew.alloc _) (by omega) (by omega)).mono ?_
         rintro e win_ ⟨rfl, hbin⟩
         have hbp7 : Below wry4_.heap.size wry4_ win_ := by first | exact hbin | exact below_of_drew hbin (Nat.le_refl _) | exact ((Below.refl _ _).alloc (Nat.le_refl _) _).trans (hbin.mono (by simp)) | exact ((Below.refl _ _).alloc (Nat.le_refl _) _).trans ((below_of_drew hbin (Nat.le_refl _)).mono (by simp)) | exact below_of_drew (((Below.refl _ _).alloc (Nat.le_refl _) _).trans (hbin.mono (by simp))) (Nat.le_refl _)
         have hx_7 := hx_6.below hbp7
         have hy_7 := hy_6.below hbp7
         have hs_7 := hs_6.below hbp7
         have hd_7 := hd_6.below hbp7
         have hm_7 := hm_6.below hbp7
         have hn_7 := hn_6.below hbp7
         have hi_7 := hi_6.below hbp7
         have hy1_7 := hy1_6.below hbp7
         have hy2_7 := hy2_6.below hbp7
         have hy3_7 := hy3_6.below hbp7
         have hy4_7 := hy4.below hbp7
         have ks_7 := ks_6.below hbp7
         obtain ⟨ks0win_, ks1win_, ks2win_, ks3win_, ks4win_, ks5win_, ks6win_⟩ := ks_7.facts
         have kd_7 := kd_6.below hbp7
         obtain ⟨kd0win_, kd1win_, kd2win_, kd3win_, kd4win_, kd5win_, kd6win_⟩ := kd_7.facts
         have km_7 := km_6.below hbp7
         obtain ⟨km0win_, km1win_, km2win_, km3win_, km4win_, km5win_, km6win_⟩ := km_7.facts
         have kn_7 := kn_6.below hbp7
         obtain ⟨kn0win_, kn1win_, kn2win_, kn3win_, kn4win_, kn5win_, kn6win_⟩ := kn_7.facts
         have ki_7 := ki_6.below hbp7
         obtain ⟨ki0win_, ki1win_, ki2win_, ki3win_, ki4win_, ki5win_, ki6win_⟩ := ki_7.facts
         have kx_7 := kx_6.below hbp7
         obtain ⟨kx0win_, kx1win_, kx2win_, kx3win_, kx4win_, kx5win_, kx6win_⟩ := kx_7.facts
         have ky_7 := ky_6.below hbp7
         obtain ⟨ky0win_, ky1win_, ky2win_, ky3win_, ky4win_, ky5win_, ky6win_⟩ := ky_7.facts
         have hwq7 := hwq6.trans (hbp7.mono hwq6.size))
      | (go_at_call 22
         refine (rmidq u v p q _ (by first | exact hx_7 | exact hx_7.drew | exact hx_7.alloc _ | exact (hx_7.alloc _).drew | exact hx_7.drew.alloc _) (by first | exact hy_7 | exact hy_7.drew | exact hy_7.alloc _ | exact (hy_7.alloc _).drew | exact hy_7.drew.alloc _) (by omega)).mono ?_
         rintro e wry5_ ⟨y5, rfl, hy5, hy5a, hy5b, hbry5⟩
         have hbp8 : Below win_.heap.size win_ wry5_ := by first | exact hbry5 | exact below_of_drew hbry5 (Nat.le_refl _) | exact ((Below.refl _ _).alloc (Nat.le_refl _) _).trans (hbry5.mono (by simp)) | exact ((Below.refl _ _).alloc (Nat.le_refl _) _).trans ((below_of_drew hbry5 (Nat.le_refl _)).mono (by simp)) | exact below_of_drew (((Below.refl _ _).alloc (Nat.le_refl _) _).trans (hbry5.mono (by simp))) (Nat.le_refl _)
         have hx_8 := hx_7.below hbp8
         have hy_8 := hy_7.below hbp8
         have hs_8 := hs_7.below hbp8
         have hd_8 := hd_7.below hbp8
         have hm_8 := hm_7.below hbp8
         have hn_8 := hn_7.below hbp8
         have hi_8 := hi_7.below hbp8
         have hy1_8 := hy1_7.below hbp8
         have hy2_8 := hy2_7.below hbp8
         have hy3_8 := hy3_7.below hbp8
         have hy4_8 := hy4_7.below hbp8
         have ks_8 := ks_7.below hbp8
         obtain ⟨ks0wry5_, ks1wry5_, ks2wry5_, ks3wry5_, ks4wry5_, ks5wry5_, ks6wry5_⟩ := ks_8.facts
         have kd_8 := kd_7.below hbp8
         obtain ⟨kd0wry5_, kd1wry5_, kd2wry5_, kd3wry5_, kd4wry5_, kd5wry5_, kd6wry5_⟩ := kd_8.facts
         have km_8 := km_7.below hbp8
         obtain ⟨km0wry5_, km1wry5_, km2wry5_, km3wry5_, km4wry5_, km5wry5_, km6wry5_⟩ := km_8.facts
         have kn_8 := kn_7.below hbp8
         obtain ⟨kn0wry5_, kn1wry5_, kn2wry5_, kn3wry5_, kn4wry5_, kn5wry5_, kn6wry5_⟩ := kn_8.facts
         have ki_8 := ki_7.below hbp8
         obtain ⟨ki0wry5_, ki1wry5_, ki2wry5_, ki3wry5_, ki4wry5_, ki5wry5_, ki6wry5_⟩ := ki_8.facts
         have kx_8 := kx_7.below hbp8
         obtain ⟨kx0wry5_, kx1wry5_, kx2wry5_, kx3wry5_, kx4wry5_, kx5wry5_, kx6wry5_⟩ := kx_8.facts
         have ky_8 := ky_7.below hbp8
         obtain ⟨ky0wry5_, ky1wry5_, ky2wry5_, ky3wry5_, ky4wry5_, ky5wry5_, ky6wry5_⟩ := ky_8.facts
         have hwq8 := hwq7.trans (hbp8.mono hwq7.size))
      | (go_at_call_of 17 (Value.agg #[.bool i.s, .slice i.N i.ns.length i.nc, .slice i.D i.ds.length i.dc])
         refine (qis_yes i y5 _ _ (by first | exact hi_8 | exact hi_8.drew | exact hi_8.alloc _ | exact (hi_8.alloc _).drew | exact hi_8.drew.alloc _) (by first | exact hy5 | exact hy5.drew | exact hy5.alloc _ | exact (hy5.alloc _).drew | exact hy5.drew.alloc _) (by omega) (by omega)).mono ?_
         rintro e wii_ ⟨rfl, hbii⟩
         have hbp9 : Below wry5_.heap.size wry5_ wii_ := by first | exact hbii | exact below_of_drew hbii (Nat.le_refl _) | exact ((Below.refl _ _).alloc (Nat.le_refl _) _).trans (hbii.mono (by simp)) | exact ((Below.refl _ _).alloc (Nat.le_refl _) _).trans ((below_of_drew hbii (Nat.le_refl _)).mono (by simp)) | exact below_of_drew (((Below.refl _ _).alloc (Nat.le_refl _) _).trans (hbii.mono (by simp))) (Nat.le_refl _)
         have hx_9 := hx_8.below hbp9
         have hy_9 := hy_8.below hbp9
         have hs_9 := hs_8.below hbp9
         have hd_9 := hd_8.below hbp9
         have hm_9 := hm_8.below hbp9
         have hn_9 := hn_8.below hbp9
         have hi_9 := hi_8.below hbp9
         have hy1_9 := hy1_8.below hbp9
         have hy2_9 := hy2_8.below hbp9
         have hy3_9 := hy3_8.below hbp9
         have hy4_9 := hy4_8.below hbp9
         have hy5_9 := hy5.below hbp9
         have ks_9 := ks_8.below hbp9
         obtain ⟨ks0wii_, ks1wii_, ks2wii_, ks3wii_, ks4wii_, ks5wii_, ks6wii_⟩ := ks_9.facts
         have kd_9 := kd_8.below hbp9
         obtain ⟨kd0wii_, kd1wii_, kd2wii_, kd3wii_, kd4wii_, kd5wii_, kd6wii_⟩ := kd_9.facts
         have km_9 := km_8.below hbp9
         obtain ⟨km0wii_, km1wii_, km2wii_, km3wii_, km4wii_, km5wii_, km6wii_⟩ := km_9.facts
         have kn_9 := kn_8.below hbp9
         obtain ⟨kn0wii_, kn1wii_, kn2wii_, kn3wii_, kn4wii_, kn5wii_, kn6wii_⟩ := kn_9.facts
         have ki_9 := ki_8.below hbp9
         obtain ⟨ki0wii_, ki1wii_, ki2wii_, ki3wii_, ki4wii_, ki5wii_, ki6wii_⟩ := ki_9.facts
         have kx_9 := kx_8.below hbp9
         obtain ⟨kx0wii_, kx1wii_, kx2wii_, kx3wii_, kx4wii_, kx5wii_, kx6wii_⟩ := kx_9.facts
         have ky_9 := ky_8.below hbp9
         obtain ⟨ky0wii_, ky1wii_, ky2wii_, ky3wii_, ky4wii_, ky5wii_, ky6wii_⟩ := ky_9.facts
         have hwq9 := hwq8.trans (hbp9.mono hwq8.size))
      | (go_at_call 23
         refine (rcmpq u v p q _ (by first | exact hx_9 | exact hx_9.drew | exact hx_9.alloc _ | exact (hx_9.alloc _).drew | exact hx_9.drew.alloc _) (by first | exact hy_9 | exact hy_9.drew | exact hy_9.alloc _ | exact (hy_9.alloc _).drew | exact hy_9.drew.alloc _) (by omega)).mono ?_
         rintro e wrc_ ⟨he_, hbrc⟩
         rw [hc2.out] at he_
         subst he_
         have hbp10 : Below wii_.heap.size wii_ wrc_ := by first | exact hbrc | exact below_of_drew hbrc (Nat.le_refl _) | exact ((Below.refl _ _).alloc (Nat.le_refl _) _).trans (hbrc.mono (by simp)) | exact ((Below.refl _ _).alloc (Nat.le_refl _) _).trans ((below_of_drew hbrc (Nat.le_refl _)).mono (by simp)) | exact below_of_drew (((Below.refl _ _).alloc (Nat.le_refl _) _).trans (hbrc.mono (by simp))) (Nat.le_refl _)
         have hx_10 := hx_9.below hbp10
         have hy_10 := hy_9.below hbp10
         have hs_10 := hs_9.below hbp10
         have hd_10 := hd_9.below hbp10
         have hm_10 := hm_9.below hbp10
         have hn_10 := hn_9.below hbp10
         have hi_10 := hi_9.below hbp10
         have hy1_10 := hy1_9.below hbp10
         have hy2_10 := hy2_9.below hbp10
         have hy3_10 := hy3_9.below hbp10
         have hy4_10 := hy4_9.below hbp10
         have hy5_10 := hy5_9.below hbp10
         have ks_10 := ks_9.below hbp10
         obtain ⟨ks0wrc_, ks1wrc_, ks2wrc_, ks3wrc_, ks4wrc_, ks5wrc_, ks6wrc_⟩ := ks_10.facts
         have kd_10 := kd_9.below hbp10
         obtain ⟨kd0wrc_, kd1wrc_, kd2wrc_, kd3wrc_, kd4wrc_, kd5wrc_, kd6wrc_⟩ := kd_10.facts
         have km_10 := km_9.below hbp10
         obtain ⟨km0wrc_, km1wrc_, km2wrc_, km3wrc_, km4wrc_, km5wrc_, km6wrc_⟩ := km_10.facts
         have kn_10 := kn_9.below hbp10
         obtain ⟨kn0wrc_, kn1wrc_, kn2wrc_, kn3wrc_, kn4wrc_, kn5wrc_, kn6wrc_⟩ := kn_10.facts
         have ki_10 := ki_9.below hbp10
         obtain ⟨ki0wrc_, ki1wrc_, ki2wrc_, ki3wrc_, ki4wrc_, ki5wrc_, ki6wrc_⟩ := ki_10.facts
         have kx_10 := kx_9.below hbp10
         obtain ⟨kx0wrc_, kx1wrc_, kx2wrc_, kx3wrc_, kx4wrc_, kx5wrc_, kx6wrc_⟩ := kx_10.facts
         have ky_10 := ky_9.below hbp10
         obtain ⟨ky0wrc_, ky1wrc_, ky2wrc_, ky3wrc_, ky4wrc_, ky5wrc_, ky6wrc_⟩ := ky_10.facts
         have hwq10 := hwq9.trans (hbp10.mono hwq9.size))
      | (go_at_call 24
         refine (rsign u.s u.N u.D u.ns.length u.nc u.ds.length u.dc _).mono ?_
         rintro e wrg_ ⟨he_, hbrg⟩
         rw [hg2.out] at he_
         subst he_
         have hbp11 : Below wrc_.heap.size wrc_ wrg_ := by first | exact hbrg | exact below_of_drew hbrg (Nat.le_refl _) | exact ((Below.refl _ _).alloc (Nat.le_refl _) _).trans (hbrg.mono (by simp)) | exact ((Below.refl _ _).alloc (Nat.le_refl _) _).trans ((below_of_drew hbrg (Nat.le_refl _)).mono (by simp)) | exact below_of_drew (((Below.refl _ _).alloc (Nat.le_refl _) _).trans (hbrg.mono (by simp))) (Nat.le_refl _)
         have hx_11 := hx_10.below hbp11
         have hy_11 := hy_10.below hbp11
         have hs_11 := hs_10.below hbp11
         have hd_11 := hd_10.below hbp11
         have hm_11 := hm_10.below hbp11
         have hn_11 := hn_10.below hbp11
         have hi_11 := hi_10.below hbp11
         have hy1_11 := hy1_10.below hbp11
         have hy2_11 := hy2_10.below hbp11
         have hy3_11 := hy3_10.below hbp11
         have hy4_11 := hy4_10.below hbp11
         have hy5_11 := hy5_10.below hbp11
         have ks_11 := ks_10.below hbp11
         obtain ⟨ks0wrg_, ks1wrg_, ks2wrg_, ks3wrg_, ks4wrg_, ks5wrg_, ks6wrg_⟩ := ks_11.facts
         have kd_11 := kd_10.below hbp11
         obtain ⟨kd0wrg_, kd1wrg_, kd2wrg_, kd3wrg_, kd4wrg_, kd5wrg_, kd6wrg_⟩ := kd_11.facts
         have km_11 := km_10.below hbp11
         obtain ⟨km0wrg_, km1wrg_, km2wrg_, km3wrg_, km4wrg_, km5wrg_, km6wrg_⟩ := km_11.facts
         have kn_11 := kn_10.below hbp11
         obtain ⟨kn0wrg_, kn1wrg_, kn2wrg_, kn3wrg_, kn4wrg_, kn5wrg_, kn6wrg_⟩ := kn_11.facts
         have ki_11 := ki_10.below hbp11
         obtain ⟨ki0wrg_, ki1wrg_, ki2wrg_, ki3wrg_, ki4wrg_, ki5wrg_, ki6wrg_⟩ := ki_11.facts
         have kx_11 := kx_10.below hbp11
         obtain ⟨kx0wrg_, kx1wrg_, kx2wrg_, kx3wrg_, kx4wrg_, kx5wrg_, kx6wrg_⟩ := kx_11.facts
         have ky_11 := ky_10.below hbp11
         obtain ⟨ky0wrg_, ky1wrg_, ky2wrg_, ky3wrg_, ky4wrg_, ky5wrg_, ky6wrg_⟩ := ky_11.facts
         have hwq11 := hwq10.trans (hbp11.mono hwq10.size)))
    all_goals
      go_wp2_with fail
      go_meet
      have hz1 := hbp0.trans (hbp1.mono hbp0.size)
      have hz2 := hz1.trans (hbp2.mono hz1.size)
      have hz3 := hz2.trans (hbp3.mono hz2.size)
      have hz4 := hz3.trans (hbp4.mono hz3.size)
      have hz5 := hz4.trans (hbp5.mono hz4.size)
      have hz6 := hz5.trans (hbp6.mono hz5.size)
      have hz7 := hz6.trans (hbp7.mono hz6.size)
      have hz8 := hz7.trans (hbp8.mono hz7.size)
      have hz9 := hz8.trans (hbp9.mono hz8.size)
      have hz10 := hz9.trans (hbp10.mono hz9.size)
      have hz11 := hz10.trans (hbp11.mono hz10.size)
      exact ⟨rfl, hz11⟩
  obtain ⟨w19, rfl⟩ : ∃ x, x = wc := ⟨_, rfl⟩
  obtain ⟨rfl, hb19⟩ := hcut
  have ha19 := ha18.below hb19
  have hb_19 := hb_18.below hb19
  have ka19 := ka18.below hb19
  have kb19 := kb18.below hb19
  have kx19 := kx18.below hb19
  have ky19 := ky18.below hb19
  have hx19 := hx18.below hb19
  have hy19 := hy18.below hb19
  have hs19 := hs18.below hb19
  have ks19 := ks18.below hb19
  have hd19 := hd18.below hb19
  have kd19 := kd18.below hb19
  have hm19 := hm18.below hb19
  have km19 := km18.below hb19
  have ht19 := ht18.below hb19
  have kq19 := kq18.below hb19
  have hn19 := hn18.below hb19
  have kn19 := kn18.below hb19
  have hi19 := hi18.below hb19
  have ki19 := ki18.below hb19
  have hw19 := hw18.trans (hb19.mono hw18.size)
  clear ha18 hb_18 ka18 kb18 kx18 ky18 hx18 hy18 hs18 ks18 hd18 kd18 hm18 km18 ht18 kq18 hn18 kn18 hi18 ki18 hw18 hb19
  obtain ⟨y0, y1, y2, y3, y4, y5, y6⟩ := ky19.facts
  go_wp2_with fail
  refine (rsign v.s v.N v.D v.ns.length v.nc v.ds.length v.dc _).mono ?_
  rintro e w20 ⟨he, hb20⟩
  rw [hz2.out] at he
  subst he
  have ha20 := ha19.below hb20
  have hb_20 := hb_19.below hb20
  have ka20 := ka19.below hb20
  have kb20 := kb19.below hb20
  have kx20 := kx19.below hb20
  have ky20 := ky19.below hb20
  have hx20 := hx19.below hb20
  have hy20 := hy19.below hb20
  have hs20 := hs19.below hb20
  have ks20 := ks19.below hb20
  have hd20 := hd19.below hb20
  have kd20 := kd19.below hb20
  have hm20 := hm19.below hb20
  have km20 := km19.below hb20
  have ht20 := ht19.below hb20
  have kq20 := kq19.below hb20
  have hn20 := hn19.below hb20
  have kn20 := kn19.below hb20
  have hi20 := hi19.below hb20
  have ki20 := ki19.below hb20
  have hw20 := hw19.trans (hb20.mono hw19.size)
  clear ha19 hb_19 ka19 kb19 kx19 ky19 hx19 hy19 hs19 ks19 hd19 kd19 hm19 km19 ht19 kq19 hn19 kn19 hi19 ki19 hw19 hb20
  clear y0 y1 y2 y3 y4 y5 y6
  go_upto_region 20 with fail
  obtain ⟨kq_0, kq_1, kq_2, kq_3, kq_4, kq_5, kq_6⟩ := kq20.facts
  obtain ⟨kx_0, kx_1, kx_2, kx_3, kx_4, kx_5, kx_6⟩ := kx20.facts
  obtain ⟨ky_0, ky_1, ky_2, ky_3, ky_4, ky_5, ky_6⟩ := ky20.facts
  go_region_held3 (fun w' => w'.cell? ⟨w11.heap.size, 0, none⟩ = some (.bool t.s) ∧ w'.cell? ⟨w11.heap.size, 1, none⟩ = some (.slice t.N t.ns.length t.nc) ∧ w'.cell? ⟨w11.heap.size, 2, none⟩ = some (.slice t.D t.ds.length t.dc) ∧ w'.cell? ⟨g1, 0, none⟩ = some (.bool u.s) ∧ w'.cell? ⟨g1, 1, none⟩ = some (.slice u.N u.ns.length u.nc) ∧ w'.cell? ⟨g1, 2, none⟩ = some (.slice u.D u.ds.length u.dc) ∧ w'.cell? ⟨g2, 0, none⟩ = some (.bool v.s) ∧ w'.cell? ⟨g2, 1, none⟩ = some (.slice v.N v.ns.length v.nc) ∧ w'.cell? ⟨g2, 2, none⟩ = some (.slice v.D v.ds.length v.dc)) (first | exact ⟨‹_›, ‹_›, ‹_›, ‹_›, ‹_›, ‹_›, ‹_›, ‹_›, ‹_›⟩ | go_keep)
    (first
    | (go_at_call 26
       refine (rdivq u v p q _ (by first | exact hx20 | exact hx20.drew | exact hx20.alloc _ | exact (hx20.alloc _).drew | exact hx20.drew.alloc _) (by first | exact hy20 | exact hy20.drew | exact hy20.alloc _ | exact (hy20.alloc _).drew | exact hy20.drew.alloc _) (by omega) HVP.out).mono ?_
       rintro e wrq_ ⟨y6, rfl, hy6, hy6a, hy6b, hbr6⟩
       have hbp0 : Below w20.heap.size w20 wrq_ := by first | exact hbr6 | exact below_of_drew hbr6 (Nat.le_refl _) | exact ((Below.refl _ _).alloc (Nat.le_refl _) _).trans (hbr6.mono (by simp)) | exact ((Below.refl _ _).alloc (Nat.le_refl _) _).trans ((below_of_drew hbr6 (Nat.le_refl _)).mono (by simp)) | exact below_of_drew (((Below.refl _ _).alloc (Nat.le_refl _) _).trans (hbr6.mono (by simp))) (Nat.le_refl _)
       have ht_0 := ht20.below hbp0
       have hx_0 := hx20.below hbp0
       have hy_0 := hy20.below hbp0
       have kq_0 := kq20.below hbp0
       obtain ⟨kq0wrq_, kq1wrq_, kq2wrq_, kq3wrq_, kq4wrq_, kq5wrq_, kq6wrq_⟩ := kq_0.facts
       have kx_0 := kx20.below hbp0
       obtain ⟨kx0wrq_, kx1wrq_, kx2wrq_, kx3wrq_, kx4wrq_, kx5wrq_, kx6wrq_⟩ := kx_0.facts
       have ky_0 := ky20.below hbp0
       obtain ⟨ky0wrq_, ky1wrq_, ky2wrq_, ky3wrq_, ky4wrq_, ky5wrq_, ky6wrq_⟩ := ky_0.facts
       have hwq0 := hw20.trans (hbp0.mono hw20.size))
    | (go_at_call 17
       refine (qis_yes t y6 _ _ (by first | exact ht_0 | exact ht_0.drew | exact ht_0.alloc _ | exact (ht_0.alloc _).drew | exact ht_0.drew.alloc _) (by first | exact hy6 | exact hy6.drew | exact hy6.alloc _ | exact (hy6.alloc _).drew | exact hy6.drew.alloc _) (by omega) (by omega)).mono ?_
       rintro e wiq_ ⟨rfl, hbiq⟩
       have hbp1 : Below wrq_.heap.size wrq_ wiq_ := by first | exact hbiq | exact below_of_drew hbiq (Nat.le_refl _) | exact ((Below.refl _ _).alloc (Nat.le_refl _) _).trans (hbiq.mono (by simp)) | exact ((Below.refl _ _).alloc (Nat.le_refl _) _).trans ((below_of_drew hbiq (Nat.le_refl _)).mono (by simp)) | exact below_of_drew (((Below.refl _ _).alloc (Nat.le_refl _) _).trans (hbiq.mono (by simp))) (Nat.le_refl _)
       have ht_1 := ht_0.below hbp1
       have hx_1 := hx_0.below hbp1
       have hy_1 := hy_0.below hbp1
       have hy6_1 := hy6.below hbp1
       have kq_1 := kq_0.below hbp1
       obtain ⟨kq0wiq_, kq1wiq_, kq2wiq_, kq3wiq_, kq4wiq_, kq5wiq_, kq6wiq_⟩ := kq_1.facts
       have kx_1 := kx_0.below hbp1
       obtain ⟨kx0wiq_, kx1wiq_, kx2wiq_, kx3wiq_, kx4wiq_, kx5wiq_, kx6wiq_⟩ := kx_1.facts
       have ky_1 := ky_0.below hbp1
       obtain ⟨ky0wiq_, ky1wiq_, ky2wiq_, ky3wiq_, ky4wiq_, ky5wiq_, ky6wiq_⟩ := ky_1.facts
       have hwq1 := hwq0.trans (hbp1.mono hwq0.size)))
  all_goals
    go_wp2_with fail
    go_ret
    exact ⟨rfl, hwq1⟩
set_option maxRecDepth 100000 in
set_option maxHeartbeats 20000000 in
theorem field_no (a b : RL) (w : World) (hra : a.Raw w) (hrb : b.Raw w) (hno : ¬ (a.Sm 6 ∧ b.Sm 6 ∧ a.Val ∧ b.Val)) (htab : Lib.TabBelow Tryz.prog w.heap.size w "internal/strconv.uint64pow10" .u64 Lib.pow10Tab) :
    Calls Tryz.prog 3 #[.agg #[.bool a.s, .slice a.N a.ns.length a.nc, .slice a.D a.ds.length a.dc], .agg #[.bool b.s, .slice b.N b.ns.length b.nc, .slice b.D b.ds.length b.dc]] w (Yes w) := by
  have HT := Lib.hid htab
  have HNO := Lib.hid hno
  clear htab hno
  go_enter Tryz.func3, Tryz.ntmps3
  go_wp2_with fail
  have hbox := box1r w (.bool a.s) (.slice a.N a.ns.length a.nc) (.slice a.D a.ds.length a.dc) (.bool b.s) (.slice b.N b.ns.length b.nc) (.slice b.D b.ds.length b.dc)
  obtain ⟨w1, hwe⟩ : ∃ x, (w.alloc (.cells #[.bool a.s, .slice a.N a.ns.length a.nc, .slice a.D a.ds.length a.dc] 24)).alloc (.cells #[.bool b.s, .slice b.N b.ns.length b.nc, .slice b.D b.ds.length b.dc] 24) = x := ⟨_, rfl⟩
  rw [hwe] at hbox ⊢
  obtain ⟨ka1, kb1, hb1⟩ := hbox
  have HWE := Lib.hid hwe
  clear hwe HWE
  have hra1 := hra.below hb1
  have hrb1 := hrb.below hb1
  have hw1 := hb1
  clear hra hrb hb1
  refine (qawake_yes _ (fun w' h => HT.out w' (hw1.trans (h.mono hw1.size)))).mono ?_
  rintro e w2 ⟨rfl, hb2⟩
  have hra2 := hra1.below hb2
  have hrb2 := hrb1.below hb2
  have ka2 := ka1.below hb2
  have kb2 := kb1.below hb2
  have hw2 := hw1.trans (hb2.mono hw1.size)
  clear hra1 hrb1 ka1 kb1 hw1 hb2
  obtain ⟨a0, a1, a2, a3, a4, a5, a6⟩ := ka2.facts
  obtain ⟨b0, b1, b2, b3, b4, b5, b6⟩ := kb2.facts
  go_wp2_with fail
  refine (qsm_no a b 6 _ hra2 hrb2 HNO.out).mono ?_
  rintro e w3 ⟨rfl, hb3⟩
  have hra3 := hra2.below hb3
  have hrb3 := hrb2.below hb3
  have ka3 := ka2.below hb3
  have kb3 := kb2.below hb3
  have hw3 := hw2.trans (hb3.mono hw2.size)
  clear hra2 hrb2 ka2 kb2 hw2 hb3
  clear a0 a1 a2 a3 a4 a5 a6
  clear b0 b1 b2 b3 b4 b5 b6
  go_wp2_with fail
  go_ret
  exact ⟨rfl, hw3⟩
theorem field_row (a b : RL) (w : World) (ha : a.Raw w) (hb_ : b.Raw w) (htab : Lib.TabBelow Tryz.prog w.heap.size w "internal/strconv.uint64pow10" .u64 Lib.pow10Tab) :
    Calls Tryz.prog 3 #[.agg #[.bool a.s, .slice a.N a.ns.length a.nc, .slice a.D a.ds.length a.dc], .agg #[.bool b.s, .slice b.N b.ns.length b.nc, .slice b.D b.ds.length b.dc]] w (Yes w) := by
  by_cases h : a.Sm 6 ∧ b.Sm 6 ∧ a.Val ∧ b.Val
  · obtain ⟨⟨l1, l2⟩, ⟨l3, l4⟩, hv, hv2⟩ := h
    rcases Nat.eq_zero_or_pos b.ns.length with hz | hz
    · exact field_z a b _ _ w ha hb_ (ha.is hv) (hb_.is hv2) l1 l2 l3 l4 hv hv2 hz htab
    · exact field_n a b _ _ w ha hb_ (ha.is hv) (hb_.is hv2) l1 l2 l3 l4 hv hv2 hz htab
  · exact field_no a b w ha hb_ h htab
end Go.Proofs.YtopppmlkddajjaaGreatDoor

