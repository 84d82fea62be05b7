/- isochronelaw02.RatSimplest answers true: the walk. -/
import Derived.Test.YtopppmlkddajjaaGreatDoorQSR28
namespace Go.Proofs.YtopppmlkddajjaaGreatDoor
open Go.RowKit V
theorem qof0 : QOf false 0 1 (0 : Rat) := zero_rat ▸ QOf.mk_ (neg := false) (n := 0) (d := 1) (by omega) (by decide) (fun _ => rfl)
set_option maxRecDepth 100000 in
set_option maxHeartbeats 20000000 in
theorem rs_ok (n m : Int) (d e : Nat) (hn1 : -2147483648 ≤ n) (hn2 : n ≤ 2147483647) (hm1 : -2147483648 ≤ m) (hm2 : m ≤ 2147483647) (hd : d < 65536) (he : e < 65536) (D1 D2 : Nat) (HD1 : Hid ((d : Int) % 400 + 1 = (D1 : Int))) (HD2 : Hid ((e : Int) % 400 + 1 = (D2 : Int))) (h1 : 1 ≤ D1) (h2 : D1 ≤ 400) (h3 : 1 ≤ D2) (h4 : D2 ≤ 400) (p q : Rat) (HP : Hid (mkRat n 1 / mkRat (D1 : Int) 1 = p)) (HQ : Hid (mkRat m 1 / mkRat (D2 : Int) 1 = q)) (HPN : Hid (p.num.natAbs ≤ 4294967296 ∧ p.den ≤ 400)) (HQN : Hid (q.num.natAbs ≤ 4294967296 ∧ q.den ≤ 400)) (HC : Hid (p.num * q.den ≤ q.num * p.den)) (c0 : Int) (hc0 : c0 ≤ 0) (HCM0 : Hid (cmpOf (p.num * q.den) (q.num * p.den) = c0)) (w : World) (htab : Lib.TabBelow Tryz.prog w.heap.size w "internal/strconv.uint64pow10" .u64 Lib.pow10Tab) :
    Calls Tryz.prog 4 #[.int .i32 n, .int .i32 m, .int .u16 d, .int .u16 e] w (Yes w) := by
  have HT := Lib.hid htab
  clear htab
  go_enter Tryz.func4, Tryz.ntmps4
  go_wp2_with fail
  refine (qawake_yes _ HT.out).mono ?_
  rintro e w1 ⟨rfl, hb1⟩
  have hw1 := hb1
  clear hb1
  go_wp2_with fail
  refine (rint_any n (by omega) (by omega) _).mono ?_
  rintro e w2 ⟨y1, rfl, hy12, y1a, y1b, hb2⟩
  have hw2 := hw1.trans (hb2.mono hw1.size)
  clear hw1 hb2
  go_wp2_with fail
  rw [HD1.out]
  refine (rint_any (D1 : Int) (by omega) (by omega) _).mono ?_
  rintro e w3 ⟨y2, rfl, hy23, y2a, y2b, hb3⟩
  have hy13 := hy12.below hb3
  have hw3 := hw2.trans (hb3.mono hw2.size)
  clear hy12 hw2 hb3
  go_wp2_with fail
  refine (rdivq y1 y2 _ _ _ hy13 hy23 (by omega) (vd_int hy23 (by omega))).mono ?_
  rintro e w4 ⟨u, rfl, hx4, hxa, hxb, hb4⟩
  have hy14 := hy13.below hb4
  have hy24 := hy23.below hb4
  have hw4 := hw3.trans (hb4.mono hw3.size)
  clear hy13 hy23 hw3 hb4
  rw [HP.out] at hx4
  clear hy14 hy24
  go_upto_region 4 with fail
  have kx5 := BlkT.new 30 w4 (.bool u.s) (.slice u.N u.ns.length u.nc) (.slice u.D u.ds.length u.dc)
  have hb5 : Below w4.heap.size w4 (w4.alloc (.cells #[.bool u.s, .slice u.N u.ns.length u.nc, .slice u.D u.ds.length u.dc] 30)) := (Below.refl _ _).alloc (Nat.le_refl _) _
  obtain ⟨w5, hwe⟩ : ∃ x, w4.alloc (.cells #[.bool u.s, .slice u.N u.ns.length u.nc, .slice u.D u.ds.length u.dc] 30) = x := ⟨_, rfl⟩
  rw [hwe] at kx5 hb5 ⊢
  clear hwe
  have hx5 := hx4.below hb5
  have hw5 := hw4.trans (hb5.mono hw4.size)
  clear hx4 hw4 hb5
  go_wp2_with fail
  refine (rint_any m (by omega) (by omega) _).mono ?_
  rintro e w6 ⟨y3, rfl, hy36, y3a, y3b, hb6⟩
  have hx6 := hx5.below hb6
  have kx6 := kx5.below hb6
  have hw6 := hw5.trans (hb6.mono hw5.size)
  clear hx5 kx5 hw5 hb6
  go_wp2_with fail
  rw [HD2.out]
  refine (rint_any (D2 : Int) (by omega) (by omega) _).mono ?_
  rintro e w7 ⟨y4, rfl, hy47, y4a, y4b, hb7⟩
  have hx7 := hx6.below hb7
  have kx7 := kx6.below hb7
  have hy37 := hy36.below hb7
  have hw7 := hw6.trans (hb7.mono hw6.size)
  clear hx6 kx6 hy36 hw6 hb7
  go_wp2_with fail
  refine (rdivq y3 y4 _ _ _ hy37 hy47 (by omega) (vd_int hy47 (by omega))).mono ?_
  rintro e w8 ⟨v, rfl, hy8, hya, hyb, hb8⟩
  have hx8 := hx7.below hb8
  have kx8 := kx7.below hb8
  have hy38 := hy37.below hb8
  have hy48 := hy47.below hb8
  have hw8 := hw7.trans (hb8.mono hw7.size)
  clear hx7 kx7 hy37 hy47 hw7 hb8
  rw [HQ.out] at hy8
  clear hy38 hy48
  go_upto_region 5 with fail
  have ky9 := BlkT.new 30 w8 (.bool v.s) (.slice v.N v.ns.length v.nc) (.slice v.D v.ds.length v.dc)
  have hb9 : Below w8.heap.size w8 (w8.alloc (.cells #[.bool v.s, .slice v.N v.ns.length v.nc, .slice v.D v.ds.length v.dc] 30)) := (Below.refl _ _).alloc (Nat.le_refl _) _
  obtain ⟨w9, hwe⟩ : ∃ x, w8.alloc (.cells #[.bool v.s, .slice v.N v.ns.length v.nc, .slice v.D v.ds.length v.dc] 30) = x := ⟨_, rfl⟩
  rw [hwe] at ky9 hb9 ⊢
  clear hwe
  have hx9 := hx8.below hb9
  have kx9 := kx8.below hb9
  have hy9 := hy8.below hb9
  have hw9 := hw8.trans (hb9.mono hw8.size)
  clear hx8 kx8 hy8 hw8 hb9
  have hgx : w4.heap.size < w9.heap.size := kx9.lt
  have hgy : w8.heap.size < w9.heap.size := ky9.lt
  skip
  obtain ⟨ga, hga⟩ : ∃ g, w4.heap.size = g := ⟨_, rfl⟩
  obtain ⟨gb, hgb⟩ : ∃ g, w8.heap.size = g := ⟨_, rfl⟩
  rw [hga] at kx9 hgx
  rw [hgb] at ky9 hgy
  rw [hga, hgb]
  have HGA := Lib.hid hga
  have HGB := Lib.hid hgb
  clear hga hgb
  go_cut [11, 12] (fun s11 s12 wx => ∃ (g3 : Nat) (r : RL) (x : Rat), s11 = .pointer (some ⟨g3, 0, none⟩) ∧ s12 = .int .i64 0 ∧ Blk3 wx g3 (.bool r.s) (.slice r.N r.ns.length r.nc) (.slice r.D r.ds.length r.dc) ∧ r.Is wx x ∧ Best p q x ∧ r.ns.length ≤ 4 ∧ r.ds.length ≤ 4 ∧ BlkT 30 wx ga (.bool u.s) (.slice u.N u.ns.length u.nc) (.slice u.D u.ds.length u.dc) ∧ BlkT 30 wx gb (.bool v.s) (.slice v.N v.ns.length v.nc) (.slice v.D v.ds.length v.dc) ∧ u.Ref wx p ∧ v.Ref wx q ∧ Below w9.heap.size w9 wx)
  case first =>
    refine wp_region_held_drew (S := fun w' => w'.cell? ⟨ga, 0, none⟩ = some (.bool u.s) ∧ w'.cell? ⟨ga, 1, none⟩ = some (.slice u.N u.ns.length u.nc) ∧ w'.cell? ⟨ga, 2, none⟩ = some (.slice u.D u.ds.length u.dc) ∧ w'.cell? ⟨gb, 0, none⟩ = some (.bool v.s) ∧ w'.cell? ⟨gb, 1, none⟩ = some (.slice v.N v.ns.length v.nc) ∧ w'.cell? ⟨gb, 2, none⟩ = some (.slice v.D v.ds.length v.dc)) (by kernel_rfl) ?_ (fun hHeld => ?_)
    · first | exact ⟨kx9.facts.c0, kx9.facts.c1, kx9.facts.c2, ky9.facts.c0, ky9.facts.c1, ky9.facts.c2⟩ | exact ⟨‹_›, ‹_›, ‹_›, ‹_›, ‹_›, ‹_›⟩ | go_keep
    refine wpAnyH_take (i := 0) (v := ?v0t1) rfl (by kernel_rfl) (by kernel_rfl) (by kernel_rfl) (fun _ _ _ h => h) (Or.inl ⟨by rfl, ?hy0t1⟩) (by assumption) ?rest0t1
    case hy0t1 =>
      intro w hSw
      (try dsimp only at hSw)
      go_simp
      all_goals with_reducible rfl
    simp only [Act.put, List.getElem_toArray, List.getElem_cons_zero, List.setIfInBounds_toArray, List.set_cons_zero, List.set_cons_succ]
    refine wpAnyH_take (i := 2) (v := ?v2t1) rfl (by kernel_rfl) (by kernel_rfl) (by kernel_rfl) (fun _ _ _ h => h) (Or.inl ⟨by rfl, ?hy2t1⟩) (by assumption) ?rest2t1
    case hy2t1 =>
      intro w hSw
      (try dsimp only at hSw)
      go_simp
      all_goals with_reducible rfl
    simp only [Act.put, List.getElem_toArray, List.getElem_cons_zero, List.getElem_cons_succ, List.setIfInBounds_toArray, List.set_cons_zero, List.set_cons_succ]
    have hbd : Below w9.heap.size w9 w9.drew := below_drew_ (Below.refl _ _) 1
    obtain ⟨wd, hwd⟩ : ∃ x, w9.drew = x := ⟨_, rfl⟩
    rw [hwd] at hbd ⊢
    clear hwd
    have kx_d := kx9.below hbd
    have ky_d := ky9.below hbd
    have hx_d := hx9.below hbd
    have hy_d := hy9.below hbd
    refine wpAnyH_ready (rs := [1, 8]) (by kernel_rfl) (by simp) ?_
    refine AllReadyH.cons (o := _) rfl (fun K hK => ?_) (AllReadyH.cons (o := _) rfl (fun K hK => ?_) AllReadyH.nil)
    · go_simp
      go_at_call 29
      refine (qto u p _ hx_d (by omega) (by omega)).mono ?_
      rintro e x1 ⟨a, rfl, hax1, a1_, a2_, hbx1⟩
      obtain ⟨la1, la2⟩ := is_small hax1 HPN.out.1 HPN.out.2
      go_wp2_with fail
      have kxx1 := kx_d.below hbx1
      have kyx1 := ky_d.below hbx1
      have hxx1 := hx_d.below hbx1
      have hyx1 := hy_d.below hbx1
      have hwx1 := hbd.trans (hbx1.mono hbd.size)
      refine hK.out _ _ ?_ (fun hHeld => ?_)
      · exact ⟨kxx1.facts.c0, kxx1.facts.c1, kxx1.facts.c2, kyx1.facts.c0, kyx1.facts.c1, kyx1.facts.c2⟩
      clear hK K
      try simp only [Act.put, List.getElem_toArray, List.getElem_cons_zero, List.getElem_cons_succ, List.setIfInBounds_toArray, List.set_cons_zero, List.set_cons_succ]
      clear hHeld
      refine wpAnyH_ready (rs := [3, 8]) (by kernel_rfl) (by simp) ?_
      refine AllReadyH.cons (o := _) rfl (fun K hK => ?_) (AllReadyH.cons (o := _) rfl (fun K hK => ?_) AllReadyH.nil)
      · go_simp
        go_at_call 29
        refine (qto v q _ hyx1 (by omega) (by omega)).mono ?_
        rintro e x2 ⟨b, rfl, hbqx2, b1_, b2_, hbx2⟩
        obtain ⟨lb1, lb2⟩ := is_small hbqx2 HQN.out.1 HQN.out.2
        go_wp2_with fail
        have kxx2 := kxx1.below hbx2
        have kyx2 := kyx1.below hbx2
        have hxx2 := hxx1.below hbx2
        have hyx2 := hyx1.below hbx2
        have hax2 := hax1.below hbx2
        have hwx2 := hwx1.trans (hbx2.mono hwx1.size)
        refine hK.out _ _ ?_ (fun hHeld => ?_)
        · exact ⟨kxx2.facts.c0, kxx2.facts.c1, kxx2.facts.c2, kyx2.facts.c0, kyx2.facts.c1, kyx2.facts.c2⟩
        clear hK K
        try simp only [Act.put, List.getElem_toArray, List.getElem_cons_zero, List.getElem_cons_succ, List.setIfInBounds_toArray, List.set_cons_zero, List.set_cons_succ]
        clear hHeld
        refine wpAnyH_ready (rs := [4, 8]) (by kernel_rfl) (by simp) ?_
        refine AllReadyH.cons (o := _) rfl (fun K hK => ?_) (AllReadyH.cons (o := _) rfl (fun K hK => ?_) AllReadyH.nil)
        · go_simp
          go_at_call 28
          refine (simplest_ok a b p q _ hax2 hbqx2 la1 la2 lb1 lb2 HC.out).mono ?_
          rintro e x3 ⟨r, x, rfl, hrx3, hbest, lr1, lr2, hbx3⟩
          have HBS := Lib.hid hbest
          clear hbest
          go_wp2_with fail
          have kxx3 := kxx2.below hbx3
          have kyx3 := kyx2.below hbx3
          have hxx3 := hxx2.below hbx3
          have hyx3 := hyx2.below hbx3
          have hax3 := hax2.below hbx3
          have hbqx3 := hbqx2.below hbx3
          have hwx3 := hwx2.trans (hbx3.mono hwx2.size)
          refine hK.out _ _ ?_ (fun hHeld => ?_)
          · exact ⟨kxx3.facts.c0, kxx3.facts.c1, kxx3.facts.c2, kyx3.facts.c0, kyx3.facts.c1, kyx3.facts.c2⟩
          clear hK K
          try simp only [Act.put, List.getElem_toArray, List.getElem_cons_zero, List.getElem_cons_succ, List.setIfInBounds_toArray, List.set_cons_zero, List.set_cons_succ]
          refine wpAnyH_take (i := 5) (v := ?v5t1x3) rfl (by kernel_rfl) (by kernel_rfl) (by kernel_rfl) (fun _ _ _ h => h) (Or.inl ⟨by rfl, ?hy5t1x3⟩) (by assumption) ?rest5t1x3
          case hy5t1x3 =>
            intro w hSw
            (try dsimp only at hSw)
            go_simp
            all_goals with_reducible rfl
          simp only [Act.put, List.getElem_toArray, List.getElem_cons_zero, List.getElem_cons_succ, List.setIfInBounds_toArray, List.set_cons_zero, List.set_cons_succ]
          refine wpAnyH_take (i := 6) (v := ?v6t1x3) rfl (by kernel_rfl) (by kernel_rfl) (by kernel_rfl) (fun _ _ _ h => h) (Or.inl ⟨by rfl, ?hy6t1x3⟩) (by assumption) ?rest6t1x3
          case hy6t1x3 =>
            intro w hSw
            (try dsimp only at hSw)
            go_simp
            all_goals with_reducible rfl
          simp only [Act.put, List.getElem_toArray, List.getElem_cons_zero, List.getElem_cons_succ, List.setIfInBounds_toArray, List.set_cons_zero, List.set_cons_succ]
          refine wpAnyH_take (i := 7) (v := ?v7t1x3) rfl (by kernel_rfl) (by kernel_rfl) (by kernel_rfl) (fun _ _ _ h => h) (Or.inl ⟨by rfl, ?hy7t1x3⟩) (by assumption) ?rest7t1x3
          case hy7t1x3 =>
            intro w hSw
            (try dsimp only at hSw)
            go_simp
            all_goals with_reducible rfl
          simp only [Act.put, List.getElem_toArray, List.getElem_cons_zero, List.getElem_cons_succ, List.setIfInBounds_toArray, List.set_cons_zero, List.set_cons_succ]
          clear hHeld
          refine wpAnyH_ready (rs := [8]) (by kernel_rfl) (by simp) ?_
          refine AllReadyH.cons (o := _) rfl (fun K hK => ?_) AllReadyH.nil
          · go_simp
            refine hK.out _ _ ?_ (fun hHeld => ?_)
            · exact ⟨(kxx3.alloc _).facts.c0, (kxx3.alloc _).facts.c1, (kxx3.alloc _).facts.c2, (kyx3.alloc _).facts.c0, (kyx3.alloc _).facts.c1, (kyx3.alloc _).facts.c2⟩
            clear hK K hHeld
            try simp only [Act.put, List.getElem_toArray, List.getElem_cons_zero, List.getElem_cons_succ, List.setIfInBounds_toArray, List.set_cons_zero, List.set_cons_succ]
            have hbx4 : Below x3.heap.size x3 (x3.alloc (.cells #[.bool false, .slice none 0 0, .slice none 0 0] 24)) := (Below.refl _ _).alloc (Nat.le_refl _) _
            have hzx4 := Blk3.new x3 (.bool false) (.slice none 0 0) (.slice none 0 0)
            obtain ⟨x4, hwe⟩ : ∃ x, x3.alloc (.cells #[.bool false, .slice none 0 0, .slice none 0 0] 24) = x := ⟨_, rfl⟩
            rw [hwe] at hbx4 hzx4 ⊢
            clear hwe
            have kxx4 := kxx3.below hbx4
            have kyx4 := kyx3.below hbx4
            have hxx4 := hxx3.below hbx4
            have hyx4 := hyx3.below hbx4
            have hax4 := hax3.below hbx4
            have hbqx4 := hbqx3.below hbx4
            have hrx4 := hrx3.below hbx4
            have hwx4 := hwx3.trans (hbx4.mono hwx3.size)
            have hgehz : w9.heap.size ≤ x3.heap.size := hwx3.size
            refine wpAnyH_ready (rs := [9]) (by kernel_rfl) (by simp) ?_
            refine AllReadyH.cons (o := _) rfl (fun K hK => ?_) AllReadyH.nil
            obtain ⟨z0, z1, z2, z3, z4, z5, z6⟩ := hzx4.facts
            go_simp
            clear z0 z1 z2 z3 z4 z5 z6
            have hne1 : ga ≠ x3.heap.size := Nat.ne_of_lt (Nat.lt_of_lt_of_le hgx hgehz)
            have hne2 : gb ≠ x3.heap.size := Nat.ne_of_lt (Nat.lt_of_lt_of_le hgy hgehz)
            have hkx : BlkT _ (put3 x4 (x3.heap.size) (.bool r.s) (.slice r.N r.ns.length r.nc) (.slice r.D r.ds.length r.dc)) _ _ _ _ := ((((((kxx4).far (p := ⟨x3.heap.size, 0, none⟩) hne1 _)).far (p := ⟨x3.heap.size, 1, none⟩) hne1 _)).far (p := ⟨x3.heap.size, 2, none⟩) hne1 _)
            have hky : BlkT _ (put3 x4 (x3.heap.size) (.bool r.s) (.slice r.N r.ns.length r.nc) (.slice r.D r.ds.length r.dc)) _ _ _ _ := ((((((kyx4).far (p := ⟨x3.heap.size, 0, none⟩) hne2 _)).far (p := ⟨x3.heap.size, 1, none⟩) hne2 _)).far (p := ⟨x3.heap.size, 2, none⟩) hne2 _)
            have hkz : Blk3 (put3 x4 (x3.heap.size) (.bool r.s) (.slice r.N r.ns.length r.nc) (.slice r.D r.ds.length r.dc)) (x3.heap.size) (.bool r.s) (.slice r.N r.ns.length r.nc) (.slice r.D r.ds.length r.dc) := hzx4.put3_ (.bool r.s) (.slice r.N r.ns.length r.nc) (.slice r.D r.ds.length r.dc)
            have hxs : u.Ref (put3 x4 (x3.heap.size) (.bool r.s) (.slice r.N r.ns.length r.nc) (.slice r.D r.ds.length r.dc)) p := hxx4.put3 hzx4 (.bool r.s) (.slice r.N r.ns.length r.nc) (.slice r.D r.ds.length r.dc)
            have hys : v.Ref (put3 x4 (x3.heap.size) (.bool r.s) (.slice r.N r.ns.length r.nc) (.slice r.D r.ds.length r.dc)) q := hyx4.put3 hzx4 (.bool r.s) (.slice r.N r.ns.length r.nc) (.slice r.D r.ds.length r.dc)
            have hws : Below w9.heap.size w9 (put3 x4 (x3.heap.size) (.bool r.s) (.slice r.N r.ns.length r.nc) (.slice r.D r.ds.length r.dc)) := below_put3 hwx4 hgehz (.bool r.s) (.slice r.N r.ns.length r.nc) (.slice r.D r.ds.length r.dc)
            have hrs : r.Is (put3 x4 (x3.heap.size) (.bool r.s) (.slice r.N r.ns.length r.nc) (.slice r.D r.ds.length r.dc)) x := hrx4.put3 hzx4 (.bool r.s) (.slice r.N r.ns.length r.nc) (.slice r.D r.ds.length r.dc)
            refine hK.out _ _ ?_ (fun hHeld => ?_)
            · exact ⟨hkx.facts.c0, hkx.facts.c1, hkx.facts.c2, hky.facts.c0, hky.facts.c1, hky.facts.c2⟩
            clear hK K
            try simp only [Act.put, List.getElem_toArray, List.getElem_cons_zero, List.getElem_cons_succ, List.setIfInBounds_toArray, List.set_cons_zero, List.set_cons_succ]
            refine wpAnyH_take (i := 10) (v := ?v10x4) rfl (by kernel_rfl) (by kernel_rfl) (by kernel_rfl) (fun _ _ _ h => h) (Or.inl ⟨by rfl, ?hy10x4⟩) (by assumption) ?rest10x4
            case hy10x4 =>
              intro w hSw
              (try dsimp only at hSw)
              go_simp
              all_goals with_reducible rfl
            simp only [Act.put, List.getElem_toArray, List.getElem_cons_zero, List.getElem_cons_succ, List.setIfInBounds_toArray, List.set_cons_zero, List.set_cons_succ]
            clear hHeld
            refine wpAnyH_done (by kernel_rfl) ?_ _
            go_wp2_with fail
            go_meet
            exact ⟨_, r, x, rfl, rfl, hkz, hrs, HBS.out, lr1, lr2, hkx, hky, hxs, hys, hws⟩
        · go_simp
          refine hK.out _ _ ?_ (fun hHeld => ?_)
          · exact ⟨(kxx2.alloc _).facts.c0, (kxx2.alloc _).facts.c1, (kxx2.alloc _).facts.c2, (kyx2.alloc _).facts.c0, (kyx2.alloc _).facts.c1, (kyx2.alloc _).facts.c2⟩
          clear hK K hHeld
          try simp only [Act.put, List.getElem_toArray, List.getElem_cons_zero, List.getElem_cons_succ, List.setIfInBounds_toArray, List.set_cons_zero, List.set_cons_succ]
          have hbx5 : Below x2.heap.size x2 (x2.alloc (.cells #[.bool false, .slice none 0 0, .slice none 0 0] 24)) := (Below.refl _ _).alloc (Nat.le_refl _) _
          have hzx5 := Blk3.new x2 (.bool false) (.slice none 0 0) (.slice none 0 0)
          obtain ⟨x5, hwe⟩ : ∃ x, x2.alloc (.cells #[.bool false, .slice none 0 0, .slice none 0 0] 24) = x := ⟨_, rfl⟩
          rw [hwe] at hbx5 hzx5 ⊢
          clear hwe
          have kxx5 := kxx2.below hbx5
          have kyx5 := kyx2.below hbx5
          have hxx5 := hxx2.below hbx5
          have hyx5 := hyx2.below hbx5
          have hax5 := hax2.below hbx5
          have hbqx5 := hbqx2.below hbx5
          have hwx5 := hwx2.trans (hbx5.mono hwx2.size)
          have hgehz : w9.heap.size ≤ x2.heap.size := hwx2.size
          refine wpAnyH_ready (rs := [4]) (by kernel_rfl) (by simp) ?_
          refine AllReadyH.cons (o := _) rfl (fun K hK => ?_) AllReadyH.nil
          · go_simp
            go_at_call 28
            refine (simplest_ok a b p q _ hax5 hbqx5 la1 la2 lb1 lb2 HC.out).mono ?_
            rintro e x6 ⟨r, x, rfl, hrx6, hbest, lr1, lr2, hbx6⟩
            have HBS := Lib.hid hbest
            clear hbest
            go_wp2_with fail
            have kxx6 := kxx5.below hbx6
            have kyx6 := kyx5.below hbx6
            have hxx6 := hxx5.below hbx6
            have hyx6 := hyx5.below hbx6
            have hax6 := hax5.below hbx6
            have hbqx6 := hbqx5.below hbx6
            have hzx6 := hzx5.below hbx6
            have hwx6 := hwx5.trans (hbx6.mono hwx5.size)
            refine hK.out _ _ ?_ (fun hHeld => ?_)
            · exact ⟨kxx6.facts.c0, kxx6.facts.c1, kxx6.facts.c2, kyx6.facts.c0, kyx6.facts.c1, kyx6.facts.c2⟩
            clear hK K
            try simp only [Act.put, List.getElem_toArray, List.getElem_cons_zero, List.getElem_cons_succ, List.setIfInBounds_toArray, List.set_cons_zero, List.set_cons_succ]
            refine wpAnyH_take (i := 5) (v := ?v5t1x6) rfl (by kernel_rfl) (by kernel_rfl) (by kernel_rfl) (fun _ _ _ h => h) (Or.inl ⟨by rfl, ?hy5t1x6⟩) (by assumption) ?rest5t1x6
            case hy5t1x6 =>
              intro w hSw
              (try dsimp only at hSw)
              go_simp
              all_goals with_reducible rfl
            simp only [Act.put, List.getElem_toArray, List.getElem_cons_zero, List.getElem_cons_succ, List.setIfInBounds_toArray, List.set_cons_zero, List.set_cons_succ]
            refine wpAnyH_take (i := 6) (v := ?v6t1x6) rfl (by kernel_rfl) (by kernel_rfl) (by kernel_rfl) (fun _ _ _ h => h) (Or.inl ⟨by rfl, ?hy6t1x6⟩) (by assumption) ?rest6t1x6
            case hy6t1x6 =>
              intro w hSw
              (try dsimp only at hSw)
              go_simp
              all_goals with_reducible rfl
            simp only [Act.put, List.getElem_toArray, List.getElem_cons_zero, List.getElem_cons_succ, List.setIfInBounds_toArray, List.set_cons_zero, List.set_cons_succ]
            refine wpAnyH_take (i := 7) (v := ?v7t1x6) rfl (by kernel_rfl) (by kernel_rfl) (by kernel_rfl) (fun _ _ _ h => h) (Or.inl ⟨by rfl, ?hy7t1x6⟩) (by assumption) ?rest7t1x6
            case hy7t1x6 =>
              intro w hSw
              (try dsimp only at hSw)
              go_simp
              all_goals with_reducible rfl
            simp only [Act.put, List.getElem_toArray, List.getElem_cons_zero, List.getElem_cons_succ, List.setIfInBounds_toArray, List.set_cons_zero, List.set_cons_succ]
            clear hHeld
            refine wpAnyH_ready (rs := [9]) (by kernel_rfl) (by simp) ?_
            refine AllReadyH.cons (o := _) rfl (fun K hK => ?_) AllReadyH.nil
            obtain ⟨z0, z1, z2, z3, z4, z5, z6⟩ := hzx6.facts
            go_simp
            clear z0 z1 z2 z3 z4 z5 z6
            have hne1 : ga ≠ x2.heap.size := Nat.ne_of_lt (Nat.lt_of_lt_of_le hgx hgehz)
            have hne2 : gb ≠ x2.heap.size := Nat.ne_of_lt (Nat.lt_of_lt_of_le hgy hgehz)
            have hkx : BlkT _ (put3 x6 (x2.heap.size) (.bool r.s) (.slice r.N r.ns.length r.nc) (.slice r.D r.ds.length r.dc)) _ _ _ _ := ((((((kxx6).far (p := ⟨x2.heap.size, 0, none⟩) hne1 _)).far (p := ⟨x2.heap.size, 1, none⟩) hne1 _)).far (p := ⟨x2.heap.size, 2, none⟩) hne1 _)
            have hky : BlkT _ (put3 x6 (x2.heap.size) (.bool r.s) (.slice r.N r.ns.length r.nc) (.slice r.D r.ds.length r.dc)) _ _ _ _ := ((((((kyx6).far (p := ⟨x2.heap.size, 0, none⟩) hne2 _)).far (p := ⟨x2.heap.size, 1, none⟩) hne2 _)).far (p := ⟨x2.heap.size, 2, none⟩) hne2 _)
            have hkz : Blk3 (put3 x6 (x2.heap.size) (.bool r.s) (.slice r.N r.ns.length r.nc) (.slice r.D r.ds.length r.dc)) (x2.heap.size) (.bool r.s) (.slice r.N r.ns.length r.nc) (.slice r.D r.ds.length r.dc) := hzx6.put3_ (.bool r.s) (.slice r.N r.ns.length r.nc) (.slice r.D r.ds.length r.dc)
            have hxs : u.Ref (put3 x6 (x2.heap.size) (.bool r.s) (.slice r.N r.ns.length r.nc) (.slice r.D r.ds.length r.dc)) p := hxx6.put3 hzx6 (.bool r.s) (.slice r.N r.ns.length r.nc) (.slice r.D r.ds.length r.dc)
            have hys : v.Ref (put3 x6 (x2.heap.size) (.bool r.s) (.slice r.N r.ns.length r.nc) (.slice r.D r.ds.length r.dc)) q := hyx6.put3 hzx6 (.bool r.s) (.slice r.N r.ns.length r.nc) (.slice r.D r.ds.length r.dc)
            have hws : Below w9.heap.size w9 (put3 x6 (x2.heap.size) (.bool r.s) (.slice r.N r.ns.length r.nc) (.slice r.D r.ds.length r.dc)) := below_put3 hwx6 hgehz (.bool r.s) (.slice r.N r.ns.length r.nc) (.slice r.D r.ds.length r.dc)
            have hrs : r.Is (put3 x6 (x2.heap.size) (.bool r.s) (.slice r.N r.ns.length r.nc) (.slice r.D r.ds.length r.dc)) x := hrx6.put3 hzx6 (.bool r.s) (.slice r.N r.ns.length r.nc) (.slice r.D r.ds.length r.dc)
            refine hK.out _ _ ?_ (fun hHeld => ?_)
            · exact ⟨hkx.facts.c0, hkx.facts.c1, hkx.facts.c2, hky.facts.c0, hky.facts.c1, hky.facts.c2⟩
            clear hK K
            try simp only [Act.put, List.getElem_toArray, List.getElem_cons_zero, List.getElem_cons_succ, List.setIfInBounds_toArray, List.set_cons_zero, List.set_cons_succ]
            refine wpAnyH_take (i := 10) (v := ?v10x6) rfl (by kernel_rfl) (by kernel_rfl) (by kernel_rfl) (fun _ _ _ h => h) (Or.inl ⟨by rfl, ?hy10x6⟩) (by assumption) ?rest10x6
            case hy10x6 =>
              intro w hSw
              (try dsimp only at hSw)
              go_simp
              all_goals with_reducible rfl
            simp only [Act.put, List.getElem_toArray, List.getElem_cons_zero, List.getElem_cons_succ, List.setIfInBounds_toArray, List.set_cons_zero, List.set_cons_succ]
            clear hHeld
            refine wpAnyH_done (by kernel_rfl) ?_ _
            go_wp2_with fail
            go_meet
            exact ⟨_, r, x, rfl, rfl, hkz, hrs, HBS.out, lr1, lr2, hkx, hky, hxs, hys, hws⟩
      · go_simp
        refine hK.out _ _ ?_ (fun hHeld => ?_)
        · exact ⟨(kxx1.alloc _).facts.c0, (kxx1.alloc _).facts.c1, (kxx1.alloc _).facts.c2, (kyx1.alloc _).facts.c0, (kyx1.alloc _).facts.c1, (kyx1.alloc _).facts.c2⟩
        clear hK K hHeld
        try simp only [Act.put, List.getElem_toArray, List.getElem_cons_zero, List.getElem_cons_succ, List.setIfInBounds_toArray, List.set_cons_zero, List.set_cons_succ]
        have hbx7 : Below x1.heap.size x1 (x1.alloc (.cells #[.bool false, .slice none 0 0, .slice none 0 0] 24)) := (Below.refl _ _).alloc (Nat.le_refl _) _
        have hzx7 := Blk3.new x1 (.bool false) (.slice none 0 0) (.slice none 0 0)
        obtain ⟨x7, hwe⟩ : ∃ x, x1.alloc (.cells #[.bool false, .slice none 0 0, .slice none 0 0] 24) = x := ⟨_, rfl⟩
        rw [hwe] at hbx7 hzx7 ⊢
        clear hwe
        have kxx7 := kxx1.below hbx7
        have kyx7 := kyx1.below hbx7
        have hxx7 := hxx1.below hbx7
        have hyx7 := hyx1.below hbx7
        have hax7 := hax1.below hbx7
        have hwx7 := hwx1.trans (hbx7.mono hwx1.size)
        have hgehz : w9.heap.size ≤ x1.heap.size := hwx1.size
        refine wpAnyH_ready (rs := [3]) (by kernel_rfl) (by simp) ?_
        refine AllReadyH.cons (o := _) rfl (fun K hK => ?_) AllReadyH.nil
        · go_simp
          go_at_call 29
          refine (qto v q _ hyx7 (by omega) (by omega)).mono ?_
          rintro e x8 ⟨b, rfl, hbqx8, b1_, b2_, hbx8⟩
          obtain ⟨lb1, lb2⟩ := is_small hbqx8 HQN.out.1 HQN.out.2
          go_wp2_with fail
          have kxx8 := kxx7.below hbx8
          have kyx8 := kyx7.below hbx8
          have hxx8 := hxx7.below hbx8
          have hyx8 := hyx7.below hbx8
          have hax8 := hax7.below hbx8
          have hzx8 := hzx7.below hbx8
          have hwx8 := hwx7.trans (hbx8.mono hwx7.size)
          refine hK.out _ _ ?_ (fun hHeld => ?_)
          · exact ⟨kxx8.facts.c0, kxx8.facts.c1, kxx8.facts.c2, kyx8.facts.c0, kyx8.facts.c1, kyx8.facts.c2⟩
          clear hK K
          try simp only [Act.put, List.getElem_toArray, List.getElem_cons_zero, List.getElem_cons_succ, List.setIfInBounds_toArray, List.set_cons_zero, List.set_cons_succ]
          clear hHeld
          refine wpAnyH_ready (rs := [4]) (by kernel_rfl) (by simp) ?_
          refine AllReadyH.cons (o := _) rfl (fun K hK => ?_) AllReadyH.nil
          · go_simp
            go_at_call 28
            refine (simplest_ok a b p q _ hax8 hbqx8 la1 la2 lb1 lb2 HC.out).mono ?_
            rintro e x9 ⟨r, x, rfl, hrx9, hbest, lr1, lr2, hbx9⟩
            have HBS := Lib.hid hbest
            clear hbest
            go_wp2_with fail
            have kxx9 := kxx8.below hbx9
            have kyx9 := kyx8.below hbx9
            have hxx9 := hxx8.below hbx9
            have hyx9 := hyx8.below hbx9
            have hax9 := hax8.below hbx9
            have hzx9 := hzx8.below hbx9
            have hbqx9 := hbqx8.below hbx9
            have hwx9 := hwx8.trans (hbx9.mono hwx8.size)
            refine hK.out _ _ ?_ (fun hHeld => ?_)
            · exact ⟨kxx9.facts.c0, kxx9.facts.c1, kxx9.facts.c2, kyx9.facts.c0, kyx9.facts.c1, kyx9.facts.c2⟩
            clear hK K
            try simp only [Act.put, List.getElem_toArray, List.getElem_cons_zero, List.getElem_cons_succ, List.setIfInBounds_toArray, List.set_cons_zero, List.set_cons_succ]
            refine wpAnyH_take (i := 5) (v := ?v5t1x9) rfl (by kernel_rfl) (by kernel_rfl) (by kernel_rfl) (fun _ _ _ h => h) (Or.inl ⟨by rfl, ?hy5t1x9⟩) (by assumption) ?rest5t1x9
            case hy5t1x9 =>
              intro w hSw
              (try dsimp only at hSw)
              go_simp
              all_goals with_reducible rfl
            simp only [Act.put, List.getElem_toArray, List.getElem_cons_zero, List.getElem_cons_succ, List.setIfInBounds_toArray, List.set_cons_zero, List.set_cons_succ]
            refine wpAnyH_take (i := 6) (v := ?v6t1x9) rfl (by kernel_rfl) (by kernel_rfl) (by kernel_rfl) (fun _ _ _ h => h) (Or.inl ⟨by rfl, ?hy6t1x9⟩) (by assumption) ?rest6t1x9
            case hy6t1x9 =>
              intro w hSw
              (try dsimp only at hSw)
              go_simp
              all_goals with_reducible rfl
            simp only [Act.put, List.getElem_toArray, List.getElem_cons_zero, List.getElem_cons_succ, List.setIfInBounds_toArray, List.set_cons_zero, List.set_cons_succ]
            refine wpAnyH_take (i := 7) (v := ?v7t1x9) rfl (by kernel_rfl) (by kernel_rfl) (by kernel_rfl) (fun _ _ _ h => h) (Or.inl ⟨by rfl, ?hy7t1x9⟩) (by assumption) ?rest7t1x9
            case hy7t1x9 =>
              intro w hSw
              (try dsimp only at hSw)
              go_simp
              all_goals with_reducible rfl
            simp only [Act.put, List.getElem_toArray, List.getElem_cons_zero, List.getElem_cons_succ, List.setIfInBounds_toArray, List.set_cons_zero, List.set_cons_succ]
            clear hHeld
            refine wpAnyH_ready (rs := [9]) (by kernel_rfl) (by simp) ?_
            refine AllReadyH.cons (o := _) rfl (fun K hK => ?_) AllReadyH.nil
            obtain ⟨z0, z1, z2, z3, z4, z5, z6⟩ := hzx9.facts
            go_simp
            clear z0 z1 z2 z3 z4 z5 z6
            have hne1 : ga ≠ x1.heap.size := Nat.ne_of_lt (Nat.lt_of_lt_of_le hgx hgehz)
            have hne2 : gb ≠ x1.heap.size := Nat.ne_of_lt (Nat.lt_of_lt_of_le hgy hgehz)
            have hkx : BlkT _ (put3 x9 (x1.heap.size) (.bool r.s) (.slice r.N r.ns.length r.nc) (.slice r.D r.ds.length r.dc)) _ _ _ _ := ((((((kxx9).far (p := ⟨x1.heap.size, 0, none⟩) hne1 _)).far (p := ⟨x1.heap.size, 1, none⟩) hne1 _)).far (p := ⟨x1.heap.size, 2, none⟩) hne1 _)
            have hky : BlkT _ (put3 x9 (x1.heap.size) (.bool r.s) (.slice r.N r.ns.length r.nc) (.slice r.D r.ds.length r.dc)) _ _ _ _ := ((((((kyx9).far (p := ⟨x1.heap.size, 0, none⟩) hne2 _)).far (p := ⟨x1.heap.size, 1, none⟩) hne2 _)).far (p := ⟨x1.heap.size, 2, none⟩) hne2 _)
            have hkz : Blk3 (put3 x9 (x1.heap.size) (.bool r.s) (.slice r.N r.ns.length r.nc) (.slice r.D r.ds.length r.dc)) (x1.heap.size) (.bool r.s) (.slice r.N r.ns.length r.nc) (.slice r.D r.ds.length r.dc) := hzx9.put3_ (.bool r.s) (.slice r.N r.ns.length r.nc) (.slice r.D r.ds.length r.dc)
            have hxs : u.Ref (put3 x9 (x1.heap.size) (.bool r.s) (.slice r.N r.ns.length r.nc) (.slice r.D r.ds.length r.dc)) p := hxx9.put3 hzx9 (.bool r.s) (.slice r.N r.ns.length r.nc) (.slice r.D r.ds.length r.dc)
            have hys : v.Ref (put3 x9 (x1.heap.size) (.bool r.s) (.slice r.N r.ns.length r.nc) (.slice r.D r.ds.length r.dc)) q := hyx9.put3 hzx9 (.bool r.s) (.slice r.N r.ns.length r.nc) (.slice r.D r.ds.length r.dc)
            have hws : Below w9.heap.size w9 (put3 x9 (x1.heap.size) (.bool r.s) (.slice r.N r.ns.length r.nc) (.slice r.D r.ds.length r.dc)) := below_put3 hwx9 hgehz (.bool r.s) (.slice r.N r.ns.length r.nc) (.slice r.D r.ds.length r.dc)
            have hrs : r.Is (put3 x9 (x1.heap.size) (.bool r.s) (.slice r.N r.ns.length r.nc) (.slice r.D r.ds.length r.dc)) x := hrx9.put3 hzx9 (.bool r.s) (.slice r.N r.ns.length r.nc) (.slice r.D r.ds.length r.dc)
            refine hK.out _ _ ?_ (fun hHeld => ?_)
            · exact ⟨hkx.facts.c0, hkx.facts.c1, hkx.facts.c2, hky.facts.c0, hky.facts.c1, hky.facts.c2⟩
            clear hK K
            try simp only [Act.put, List.getElem_toArray, List.getElem_cons_zero, List.getElem_cons_succ, List.setIfInBounds_toArray, List.set_cons_zero, List.set_cons_succ]
            refine wpAnyH_take (i := 10) (v := ?v10x9) rfl (by kernel_rfl) (by kernel_rfl) (by kernel_rfl) (fun _ _ _ h => h) (Or.inl ⟨by rfl, ?hy10x9⟩) (by assumption) ?rest10x9
            case hy10x9 =>
              intro w hSw
              (try dsimp only at hSw)
              go_simp
              all_goals with_reducible rfl
            simp only [Act.put, List.getElem_toArray, List.getElem_cons_zero, List.getElem_cons_succ, List.setIfInBounds_toArray, List.set_cons_zero, List.set_cons_succ]
            clear hHeld
            refine wpAnyH_done (by kernel_rfl) ?_ _
            go_wp2_with fail
            go_meet
            exact ⟨_, r, x, rfl, rfl, hkz, hrs, HBS.out, lr1, lr2, hkx, hky, hxs, hys, hws⟩
    · go_simp
      refine hK.out _ _ ?_ (fun hHeld => ?_)
      · exact ⟨(kx_d.alloc _).facts.c0, (kx_d.alloc _).facts.c1, (kx_d.alloc _).facts.c2, (ky_d.alloc _).facts.c0, (ky_d.alloc _).facts.c1, (ky_d.alloc _).facts.c2⟩
      clear hK K hHeld
      try simp only [Act.put, List.getElem_toArray, List.getElem_cons_zero, List.getElem_cons_succ, List.setIfInBounds_toArray, List.set_cons_zero, List.set_cons_succ]
      have hbx10 : Below wd.heap.size wd (wd.alloc (.cells #[.bool false, .slice none 0 0, .slice none 0 0] 24)) := (Below.refl _ _).alloc (Nat.le_refl _) _
      have hzx10 := Blk3.new wd (.bool false) (.slice none 0 0) (.slice none 0 0)
      obtain ⟨x10, hwe⟩ : ∃ x, wd.alloc (.cells #[.bool false, .slice none 0 0, .slice none 0 0] 24) = x := ⟨_, rfl⟩
      rw [hwe] at hbx10 hzx10 ⊢
      clear hwe
      have kxx10 := kx_d.below hbx10
      have kyx10 := ky_d.below hbx10
      have hxx10 := hx_d.below hbx10
      have hyx10 := hy_d.below hbx10
      have hwx10 := hbd.trans (hbx10.mono hbd.size)
      have hgehz : w9.heap.size ≤ wd.heap.size := hbd.size
      refine wpAnyH_ready (rs := [1]) (by kernel_rfl) (by simp) ?_
      refine AllReadyH.cons (o := _) rfl (fun K hK => ?_) AllReadyH.nil
      · go_simp
        go_at_call 29
        refine (qto u p _ hxx10 (by omega) (by omega)).mono ?_
        rintro e x11 ⟨a, rfl, hax11, a1_, a2_, hbx11⟩
        obtain ⟨la1, la2⟩ := is_small hax11 HPN.out.1 HPN.out.2
        go_wp2_with fail
        have kxx11 := kxx10.below hbx11
        have kyx11 := kyx10.below hbx11
        have hxx11 := hxx10.below hbx11
        have hyx11 := hyx10.below hbx11
        have hzx11 := hzx10.below hbx11
        have hwx11 := hwx10.trans (hbx11.mono hwx10.size)
        refine hK.out _ _ ?_ (fun hHeld => ?_)
        · exact ⟨kxx11.facts.c0, kxx11.facts.c1, kxx11.facts.c2, kyx11.facts.c0, kyx11.facts.c1, kyx11.facts.c2⟩
        clear hK K
        try simp only [Act.put, List.getElem_toArray, List.getElem_cons_zero, List.getElem_cons_succ, List.setIfInBounds_toArray, List.set_cons_zero, List.set_cons_succ]
        clear hHeld
        refine wpAnyH_ready (rs := [3]) (by kernel_rfl) (by simp) ?_
        refine AllReadyH.cons (o := _) rfl (fun K hK => ?_) AllReadyH.nil
        · go_simp
          go_at_call 29
          refine (qto v q _ hyx11 (by omega) (by omega)).mono ?_
          rintro e x12 ⟨b, rfl, hbqx12, b1_, b2_, hbx12⟩
          obtain ⟨lb1, lb2⟩ := is_small hbqx12 HQN.out.1 HQN.out.2
          go_wp2_with fail
          have kxx12 := kxx11.below hbx12
          have kyx12 := kyx11.below hbx12
          have hxx12 := hxx11.below hbx12
          have hyx12 := hyx11.below hbx12
          have hzx12 := hzx11.below hbx12
          have hax12 := hax11.below hbx12
          have hwx12 := hwx11.trans (hbx12.mono hwx11.size)
          refine hK.out _ _ ?_ (fun hHeld => ?_)
          · exact ⟨kxx12.facts.c0, kxx12.facts.c1, kxx12.facts.c2, kyx12.facts.c0, kyx12.facts.c1, kyx12.facts.c2⟩
          clear hK K
          try simp only [Act.put, List.getElem_toArray, List.getElem_cons_zero, List.getElem_cons_succ, List.setIfInBounds_toArray, List.set_cons_zero, List.set_cons_succ]
          clear hHeld
          refine wpAnyH_ready (rs := [4]) (by kernel_rfl) (by simp) ?_
          refine AllReadyH.cons (o := _) rfl (fun K hK => ?_) AllReadyH.nil
          · go_simp
            go_at_call 28
            refine (simplest_ok a b p q _ hax12 hbqx12 la1 la2 lb1 lb2 HC.out).mono ?_
            rintro e x13 ⟨r, x, rfl, hrx13, hbest, lr1, lr2, hbx13⟩
            have HBS := Lib.hid hbest
            clear hbest
            go_wp2_with fail
            have kxx13 := kxx12.below hbx13
            have kyx13 := kyx12.below hbx13
            have hxx13 := hxx12.below hbx13
            have hyx13 := hyx12.below hbx13
            have hzx13 := hzx12.below hbx13
            have hax13 := hax12.below hbx13
            have hbqx13 := hbqx12.below hbx13
            have hwx13 := hwx12.trans (hbx13.mono hwx12.size)
            refine hK.out _ _ ?_ (fun hHeld => ?_)
            · exact ⟨kxx13.facts.c0, kxx13.facts.c1, kxx13.facts.c2, kyx13.facts.c0, kyx13.facts.c1, kyx13.facts.c2⟩
            clear hK K
            try simp only [Act.put, List.getElem_toArray, List.getElem_cons_zero, List.getElem_cons_succ, List.setIfInBounds_toArray, List.set_cons_zero, List.set_cons_succ]
            refine wpAnyH_take (i := 5) (v := ?v5t1x13) rfl (by kernel_rfl) (by kernel_rfl) (by kernel_rfl) (fun _ _ _ h => h) (Or.inl ⟨by rfl, ?hy5t1x13⟩) (by assumption) ?rest5t1x13
            case hy5t1x13 =>
              intro w hSw
              (try dsimp only at hSw)
              go_simp
              all_goals with_reducible rfl
            simp only [Act.put, List.getElem_toArray, List.getElem_cons_zero, List.getElem_cons_succ, List.setIfInBounds_toArray, List.set_cons_zero, List.set_cons_succ]
            refine wpAnyH_take (i := 6) (v := ?v6t1x13) rfl (by kernel_rfl) (by kernel_rfl) (by kernel_rfl) (fun _ _ _ h => h) (Or.inl ⟨by rfl, ?hy6t1x13⟩) (by assumption) ?rest6t1x13
            case hy6t1x13 =>
              intro w hSw
              (try dsimp only at hSw)
              go_simp
              all_goals with_reducible rfl
            simp only [Act.put, List.getElem_toArray, List.getElem_cons_zero, List.getElem_cons_succ, List.setIfInBounds_toArray, List.set_cons_zero, List.set_cons_succ]
            refine wpAnyH_take (i := 7) (v := ?v7t1x13) rfl (by kernel_rfl) (by kernel_rfl) (by kernel_rfl) (fun _ _ _ h => h) (Or.inl ⟨by rfl, ?hy7t1x13⟩) (by assumption) ?rest7t1x13
            case hy7t1x13 =>
              intro w hSw
              (try dsimp only at hSw)
              go_simp
              all_goals with_reducible rfl
            simp only [Act.put, List.getElem_toArray, List.getElem_cons_zero, List.getElem_cons_succ, List.setIfInBounds_toArray, List.set_cons_zero, List.set_cons_succ]
            clear hHeld
            refine wpAnyH_ready (rs := [9]) (by kernel_rfl) (by simp) ?_
            refine AllReadyH.cons (o := _) rfl (fun K hK => ?_) AllReadyH.nil
            obtain ⟨z0, z1, z2, z3, z4, z5, z6⟩ := hzx13.facts
            go_simp
            clear z0 z1 z2 z3 z4 z5 z6
            have hne1 : ga ≠ wd.heap.size := Nat.ne_of_lt (Nat.lt_of_lt_of_le hgx hgehz)
            have hne2 : gb ≠ wd.heap.size := Nat.ne_of_lt (Nat.lt_of_lt_of_le hgy hgehz)
            have hkx : BlkT _ (put3 x13 (wd.heap.size) (.bool r.s) (.slice r.N r.ns.length r.nc) (.slice r.D r.ds.length r.dc)) _ _ _ _ := ((((((kxx13).far (p := ⟨wd.heap.size, 0, none⟩) hne1 _)).far (p := ⟨wd.heap.size, 1, none⟩) hne1 _)).far (p := ⟨wd.heap.size, 2, none⟩) hne1 _)
            have hky : BlkT _ (put3 x13 (wd.heap.size) (.bool r.s) (.slice r.N r.ns.length r.nc) (.slice r.D r.ds.length r.dc)) _ _ _ _ := ((((((kyx13).far (p := ⟨wd.heap.size, 0, none⟩) hne2 _)).far (p := ⟨wd.heap.size, 1, none⟩) hne2 _)).far (p := ⟨wd.heap.size, 2, none⟩) hne2 _)
            have hkz : Blk3 (put3 x13 (wd.heap.size) (.bool r.s) (.slice r.N r.ns.length r.nc) (.slice r.D r.ds.length r.dc)) (wd.heap.size) (.bool r.s) (.slice r.N r.ns.length r.nc) (.slice r.D r.ds.length r.dc) := hzx13.put3_ (.bool r.s) (.slice r.N r.ns.length r.nc) (.slice r.D r.ds.length r.dc)
            have hxs : u.Ref (put3 x13 (wd.heap.size) (.bool r.s) (.slice r.N r.ns.length r.nc) (.slice r.D r.ds.length r.dc)) p := hxx13.put3 hzx13 (.bool r.s) (.slice r.N r.ns.length r.nc) (.slice r.D r.ds.length r.dc)
            have hys : v.Ref (put3 x13 (wd.heap.size) (.bool r.s) (.slice r.N r.ns.length r.nc) (.slice r.D r.ds.length r.dc)) q := hyx13.put3 hzx13 (.bool r.s) (.slice r.N r.ns.length r.nc) (.slice r.D r.ds.length r.dc)
            have hws : Below w9.heap.size w9 (put3 x13 (wd.heap.size) (.bool r.s) (.slice r.N r.ns.length r.nc) (.slice r.D r.ds.length r.dc)) := below_put3 hwx13 hgehz (.bool r.s) (.slice r.N r.ns.length r.nc) (.slice r.D r.ds.length r.dc)
            have hrs : r.Is (put3 x13 (wd.heap.size) (.bool r.s) (.slice r.N r.ns.length r.nc) (.slice r.D r.ds.length r.dc)) x := hrx13.put3 hzx13 (.bool r.s) (.slice r.N r.ns.length r.nc) (.slice r.D r.ds.length r.dc)
            refine hK.out _ _ ?_ (fun hHeld => ?_)
            · exact ⟨hkx.facts.c0, hkx.facts.c1, hkx.facts.c2, hky.facts.c0, hky.facts.c1, hky.facts.c2⟩
            clear hK K
            try simp only [Act.put, List.getElem_toArray, List.getElem_cons_zero, List.getElem_cons_succ, List.setIfInBounds_toArray, List.set_cons_zero, List.set_cons_succ]
            refine wpAnyH_take (i := 10) (v := ?v10x13) rfl (by kernel_rfl) (by kernel_rfl) (by kernel_rfl) (fun _ _ _ h => h) (Or.inl ⟨by rfl, ?hy10x13⟩) (by assumption) ?rest10x13
            case hy10x13 =>
              intro w hSw
              (try dsimp only at hSw)
              go_simp
              all_goals with_reducible rfl
            simp only [Act.put, List.getElem_toArray, List.getElem_cons_zero, List.getElem_cons_succ, List.setIfInBounds_toArray, List.set_cons_zero, List.set_cons_succ]
            clear hHeld
            refine wpAnyH_done (by kernel_rfl) ?_ _
            go_wp2_with fail
            go_meet
            exact ⟨_, r, x, rfl, rfl, hkz, hrs, HBS.out, lr1, lr2, hkx, hky, hxs, hys, hws⟩
  obtain ⟨w10, rfl⟩ : ∃ x, x = wc := ⟨_, rfl⟩
  obtain ⟨g3, r, x, rfl, rfl, kr10, hr10, hbest, lr1, lr2, kx10, ky10, hx10, hy10, hb10⟩ := hcut
  have hw10 := hw9.trans (hb10.mono hw9.size)
  have HBS := Lib.hid hbest
  clear hbest
  obtain ⟨a0, a1, a2, a3, a4, a5, a6⟩ := kx10.facts
  obtain ⟨b0, b1, b2, b3, b4, b5, b6⟩ := ky10.facts
  go_wp2_with fail
  have HCM : Hid (cmpOf (sgn u.s (VD u.ns) * VD v.ds) (sgn v.s (VD v.ns) * VD u.ds) = c0) := Lib.hid ((cmp_pq hx10 hy10).trans HCM0.out)
  refine (rcmpq u v p q _ hx10 hy10 (by omega)).mono ?_
  rintro e w11 ⟨he_, hb11⟩
  rw [HCM.out] at he_
  subst he_
  have kr11 := kr10.below hb11
  have kx11 := kx10.below hb11
  have ky11 := ky10.below hb11
  have hx11 := hx10.below hb11
  have hy11 := hy10.below hb11
  have hr11 := hr10.below hb11
  have hw11 := hw10.trans (hb11.mono hw10.size)
  clear kr10 kx10 ky10 hx10 hy10 hr10 hw10 hb11
  clear a0 a1 a2 a3 a4 a5 a6
  clear b0 b1 b2 b3 b4 b5 b6
  obtain ⟨a0, a1, a2, a3, a4, a5, a6⟩ := kr11.facts
  go_wp2_with fail
  refine (qshort_yes r.s r.N r.D r.ns.length r.nc r.ds.length r.dc 4 _ lr1 lr2).mono ?_
  rintro e w12 ⟨rfl, hb12⟩
  have kr12 := kr11.below hb12
  have kx12 := kx11.below hb12
  have ky12 := ky11.below hb12
  have hx12 := hx11.below hb12
  have hy12 := hy11.below hb12
  have hr12 := hr11.below hb12
  have hw12 := hw11.trans (hb12.mono hw11.size)
  clear kr11 kx11 ky11 hx11 hy11 hr11 hw11 hb12
  clear a0 a1 a2 a3 a4 a5 a6
  obtain ⟨a0, a1, a2, a3, a4, a5, a6⟩ := kr12.facts
  go_wp2_with fail
  refine (rqvalid_rawyes r _ (is_raw hr12) (hr12.okv (by omega) (by omega))).mono ?_
  rintro e w13 ⟨rfl, hb13⟩
  have kr13 := kr12.below hb13
  have kx13 := kx12.below hb13
  have ky13 := ky12.below hb13
  have hx13 := hx12.below hb13
  have hy13 := hy12.below hb13
  have hr13 := hr12.below hb13
  have hw13 := hw12.trans (hb13.mono hw12.size)
  clear kr12 kx12 ky12 hx12 hy12 hr12 hw12 hb13
  clear a0 a1 a2 a3 a4 a5 a6
  obtain ⟨a0, a1, a2, a3, a4, a5, a6⟩ := kr13.facts
  go_wp2_with fail
  refine (qof r x _ hr13 (by omega) (by omega)).mono ?_
  rintro e w14 ⟨y, rfl, hz14, hza, hzb, hb14⟩
  have kr14 := kr13.below hb14
  have kx14 := kx13.below hb14
  have ky14 := ky13.below hb14
  have hx14 := hx13.below hb14
  have hy14 := hy13.below hb14
  have hr14 := hr13.below hb14
  have hw14 := hw13.trans (hb14.mono hw13.size)
  clear kr13 kx13 ky13 hx13 hy13 hr13 hw13 hb14
  clear a0 a1 a2 a3 a4 a5 a6
  go_upto_region 11 with fail
  have kz15 := BlkT.new 30 w14 (.bool y.s) (.slice y.N y.ns.length y.nc) (.slice y.D y.ds.length y.dc)
  have hb15 : Below w14.heap.size w14 (w14.alloc (.cells #[.bool y.s, .slice y.N y.ns.length y.nc, .slice y.D y.ds.length y.dc] 30)) := (Below.refl _ _).alloc (Nat.le_refl _) _
  obtain ⟨w15, hwe⟩ : ∃ x, w14.alloc (.cells #[.bool y.s, .slice y.N y.ns.length y.nc, .slice y.D y.ds.length y.dc] 30) = x := ⟨_, rfl⟩
  rw [hwe] at kz15 hb15 ⊢
  clear hwe
  have kr15 := kr14.below hb15
  have kx15 := kx14.below hb15
  have ky15 := ky14.below hb15
  have hx15 := hx14.below hb15
  have hy15 := hy14.below hb15
  have hr15 := hr14.below hb15
  have hz15 := hz14.below hb15
  have hw15 := hw14.trans (hb15.mono hw14.size)
  clear kr14 kx14 ky14 hx14 hy14 hr14 hz14 hw14 hb15
  have hgz : w14.heap.size < w15.heap.size := kz15.lt
  obtain ⟨gz, hgz_⟩ : ∃ g, w14.heap.size = g := ⟨_, rfl⟩
  rw [hgz_] at kz15 hgz
  rw [hgz_]
  have HGZ := Lib.hid hgz_
  clear hgz_
  obtain ⟨K, mm, hK1, hK2, hmin, hxe, hin, hnear⟩ := HBS.out.le HC.out
  have HMIN := Lib.hid hmin
  have HXE := Lib.hid hxe
  have HIN := Lib.hid hin
  have HNEAR := Lib.hid hnear
  have hK3 : K ≤ 400 := Nat.le_trans hK2 HQN.out.2
  clear hmin hxe hin hnear hK2
  have hga2 : ga < w15.heap.size := kx15.lt
  have hgb2 : gb < w15.heap.size := ky15.lt
  go_wp2_with fail
  go_loopw [14, 15, 16, 17] (fun kv _ _ _ wr => ∃ j : Nat, 1 ≤ j ∧ j ≤ K ∧ kv = .int .i64 j ∧ BlkT 30 wr ga (.bool u.s) (.slice u.N u.ns.length u.nc) (.slice u.D u.ds.length u.dc) ∧ BlkT 30 wr gb (.bool v.s) (.slice v.N v.ns.length v.nc) (.slice v.D v.ds.length v.dc) ∧ BlkT 30 wr gz (.bool y.s) (.slice y.N y.ns.length y.nc) (.slice y.D y.ds.length y.dc) ∧ u.Ref wr p ∧ v.Ref wr q ∧ y.Ref wr x ∧ Below w15.heap.size w15 wr) (fun kv _ _ _ _ => 401 - (intOf kv).toNat)
  case atStart => exact ⟨1, Nat.le_refl _, hK1, rfl, kx15, ky15, kz15, hx15, hy15, hz15, Below.refl _ _⟩
  case round =>
    have hwL := hw15
    clear kx15 ky15 kz15 hx15 hy15 hz15 kr15 hr15 hw15
    obtain ⟨w16, rfl⟩ : ∃ x, x = wr := ⟨_, rfl⟩
    obtain ⟨j, hj1, hjK, rfl, kx16, ky16, kz16, hx16, hy16, hz16, hb16⟩ := hrel
    have hw16 := hb16
    have hj4 : j ≤ 400 := by omega
    go_upto_region 14 with fail
    go_cut [15] (fun s wx => ∃ (gl : Nat) (l : RL), s = .pointer (some ⟨gl, 0, none⟩) ∧ BlkT 30 wx gl (.bool l.s) (.slice l.N l.ns.length l.nc) (.slice l.D l.ds.length l.dc) ∧ l.Ref wx (mkRat (loI p j) 1) ∧ l.ns.length ≤ 200 ∧ l.ds.length ≤ 200 ∧ w16.heap.size ≤ gl ∧ Below w16.heap.size w16 wx)
    case first =>
      refine wp_region_held_drew (S := fun w' => w'.cell? ⟨ga, 0, none⟩ = some (.bool u.s) ∧ w'.cell? ⟨ga, 1, none⟩ = some (.slice u.N u.ns.length u.nc) ∧ w'.cell? ⟨ga, 2, none⟩ = some (.slice u.D u.ds.length u.dc)) (by kernel_rfl) ?_ (fun hHeld => ?_)
      · first | exact ⟨kx16.facts.c0, kx16.facts.c1, kx16.facts.c2⟩ | exact ⟨‹_›, ‹_›, ‹_›⟩ | go_keep
      refine wpAnyH_take (i := 0) (v := ?v0t2) rfl (by kernel_rfl) (by kernel_rfl) (by kernel_rfl) (fun _ _ _ h => h) (Or.inl ⟨by rfl, ?hy0t2⟩) (by assumption) ?rest0t2
      case hy0t2 =>
        intro w hSw
        (try dsimp only at hSw)
        go_simp
        all_goals with_reducible rfl
      simp only [Act.put, List.getElem_toArray, List.getElem_cons_zero, List.setIfInBounds_toArray, List.set_cons_zero, List.set_cons_succ]
      refine wpAnyH_take (i := 1) (v := ?v1t2) rfl (by kernel_rfl) (by kernel_rfl) (by kernel_rfl) (fun _ _ _ h => h) (Or.inl ⟨by rfl, ?hy1t2⟩) (by assumption) ?rest1t2
      case hy1t2 =>
        intro w hSw
        (try dsimp only at hSw)
        go_simp
        all_goals with_reducible rfl
      simp only [Act.put, List.getElem_toArray, List.getElem_cons_zero, List.getElem_cons_succ, List.setIfInBounds_toArray, List.set_cons_zero, List.set_cons_succ]
      have hbd : Below w16.heap.size w16 w16.drew := below_drew_ (Below.refl _ _) 1
      obtain ⟨wd, hwd⟩ : ∃ x, w16.drew = x := ⟨_, rfl⟩
      rw [hwd] at hbd ⊢
      clear hwd
      have kx_d := kx16.below hbd
      have hx_d := hx16.below hbd
      refine wpAnyH_ready (rs := [2, 7]) (by kernel_rfl) (by simp) ?_
      refine AllReadyH.cons (o := _) rfl (fun K hK => ?_) (AllReadyH.cons (o := _) rfl (fun K hK => ?_) AllReadyH.nil)
      · go_simp
        go_at_call 27
        refine (rint_any (j : Int) (by omega) (by omega) _).mono ?_
        rintro e x1 ⟨i, rfl, hix1, hia, hib, hbx1⟩
        go_wp2_with fail
        have kxx1 := kx_d.below hbx1
        have hxx1 := hx_d.below hbx1
        have hwx1 := hbd.trans (hbx1.mono hbd.size)
        refine hK.out _ _ ?_ (fun hHeld => ?_)
        · exact ⟨kxx1.facts.c0, kxx1.facts.c1, kxx1.facts.c2⟩
        clear hK K
        try simp only [Act.put, List.getElem_toArray, List.getElem_cons_zero, List.getElem_cons_succ, List.setIfInBounds_toArray, List.set_cons_zero, List.set_cons_succ]
        clear hHeld
        refine wpAnyH_ready (rs := [3, 7]) (by kernel_rfl) (by simp) ?_
        refine AllReadyH.cons (o := _) rfl (fun K hK => ?_) (AllReadyH.cons (o := _) rfl (fun K hK => ?_) AllReadyH.nil)
        · go_simp
          go_at_call 20
          refine (rmulq u i _ _ _ hxx1 hix1 (by omega)).mono ?_
          rintro e x2 ⟨m1, rfl, hm1x2, m1a, m1b, hbx2⟩
          go_wp2_with fail
          have kxx2 := kxx1.below hbx2
          have hxx2 := hxx1.below hbx2
          have hix2 := hix1.below hbx2
          have hwx2 := hwx1.trans (hbx2.mono hwx1.size)
          refine hK.out _ _ ?_ (fun hHeld => ?_)
          · exact ⟨kxx2.facts.c0, kxx2.facts.c1, kxx2.facts.c2⟩
          clear hK K
          try simp only [Act.put, List.getElem_toArray, List.getElem_cons_zero, List.getElem_cons_succ, List.setIfInBounds_toArray, List.set_cons_zero, List.set_cons_succ]
          clear hHeld
          refine wpAnyH_ready (rs := [4, 7]) (by kernel_rfl) (by simp) ?_
          refine AllReadyH.cons (o := _) rfl (fun K hK => ?_) (AllReadyH.cons (o := _) rfl (fun K hK => ?_) AllReadyH.nil)
          · go_simp
            go_at_call 21
            refine (rneg m1 _ _ hm1x2).mono ?_
            rintro e x3 ⟨m2, rfl, hm2x3, m2a, m2b, hbx3⟩
            go_wp2_with fail
            have kxx3 := kxx2.below hbx3
            have hxx3 := hxx2.below hbx3
            have hix3 := hix2.below hbx3
            have hm1x3 := hm1x2.below hbx3
            have hwx3 := hwx2.trans (hbx3.mono hwx2.size)
            refine hK.out _ _ ?_ (fun hHeld => ?_)
            · exact ⟨kxx3.facts.c0, kxx3.facts.c1, kxx3.facts.c2⟩
            clear hK K
            try simp only [Act.put, List.getElem_toArray, List.getElem_cons_zero, List.getElem_cons_succ, List.setIfInBounds_toArray, List.set_cons_zero, List.set_cons_succ]
            clear hHeld
            refine wpAnyH_ready (rs := [5, 7]) (by kernel_rfl) (by simp) ?_
            refine AllReadyH.cons (o := _) rfl (fun K hK => ?_) (AllReadyH.cons (o := _) rfl (fun K hK => ?_) AllReadyH.nil)
            · go_simp
              go_at_call 32
              refine (rfloor m2 _ _ hm2x3 (by omega)).mono ?_
              rintro e x4 ⟨m3, rfl, hm3x4, m3a, m3b, hbx4⟩
              rw [lo_ref hm2x3] at hm3x4
              go_wp2_with fail
              have kxx4 := kxx3.below hbx4
              have hxx4 := hxx3.below hbx4
              have hix4 := hix3.below hbx4
              have hm1x4 := hm1x3.below hbx4
              have hm2x4 := hm2x3.below hbx4
              have hwx4 := hwx3.trans (hbx4.mono hwx3.size)
              refine hK.out _ _ ?_ (fun hHeld => ?_)
              · exact ⟨kxx4.facts.c0, kxx4.facts.c1, kxx4.facts.c2⟩
              clear hK K
              try simp only [Act.put, List.getElem_toArray, List.getElem_cons_zero, List.getElem_cons_succ, List.setIfInBounds_toArray, List.set_cons_zero, List.set_cons_succ]
              clear hHeld
              refine wpAnyH_ready (rs := [6, 7]) (by kernel_rfl) (by simp) ?_
              refine AllReadyH.cons (o := _) rfl (fun K hK => ?_) (AllReadyH.cons (o := _) rfl (fun K hK => ?_) AllReadyH.nil)
              · go_simp
                go_at_call 21
                refine (rneg m3 _ _ hm3x4).mono ?_
                rintro e x5 ⟨lo, rfl, hlox5, loa, lob, hbx5⟩
                rw [lo_neg] at hlox5
                go_wp2_with fail
                have kxx5 := kxx4.below hbx5
                have hxx5 := hxx4.below hbx5
                have hix5 := hix4.below hbx5
                have hm1x5 := hm1x4.below hbx5
                have hm2x5 := hm2x4.below hbx5
                have hm3x5 := hm3x4.below hbx5
                have hwx5 := hwx4.trans (hbx5.mono hwx4.size)
                refine hK.out _ _ ?_ (fun hHeld => ?_)
                · exact ⟨kxx5.facts.c0, kxx5.facts.c1, kxx5.facts.c2⟩
                clear hK K
                try simp only [Act.put, List.getElem_toArray, List.getElem_cons_zero, List.getElem_cons_succ, List.setIfInBounds_toArray, List.set_cons_zero, List.set_cons_succ]
                clear hHeld
                refine wpAnyH_ready (rs := [7]) (by kernel_rfl) (by simp) ?_
                refine AllReadyH.cons (o := _) rfl (fun K hK => ?_) AllReadyH.nil
                · go_simp
                  refine hK.out _ _ ?_ (fun hHeld => ?_)
                  · exact ⟨(kxx5.alloc _).facts.c0, (kxx5.alloc _).facts.c1, (kxx5.alloc _).facts.c2⟩
                  clear hK K hHeld
                  try simp only [Act.put, List.getElem_toArray, List.getElem_cons_zero, List.getElem_cons_succ, List.setIfInBounds_toArray, List.set_cons_zero, List.set_cons_succ]
                  have hbx6 : Below x5.heap.size x5 (x5.alloc (.cells #[.bool false, .slice none 0 0, .slice none 0 0] 30)) := (Below.refl _ _).alloc (Nat.le_refl _) _
                  have hqx6 := BlkT.new 30 x5 (.bool false) (.slice none 0 0) (.slice none 0 0)
                  obtain ⟨x6, hwe⟩ : ∃ x, x5.alloc (.cells #[.bool false, .slice none 0 0, .slice none 0 0] 30) = x := ⟨_, rfl⟩
                  rw [hwe] at hbx6 hqx6 ⊢
                  clear hwe
                  have kxx6 := kxx5.below hbx6
                  have hxx6 := hxx5.below hbx6
                  have hix6 := hix5.below hbx6
                  have hm1x6 := hm1x5.below hbx6
                  have hm2x6 := hm2x5.below hbx6
                  have hm3x6 := hm3x5.below hbx6
                  have hlox6 := hlox5.below hbx6
                  have hwx6 := hwx5.trans (hbx6.mono hwx5.size)
                  have hgehq : w16.heap.size ≤ x5.heap.size := hwx5.size
                  refine wpAnyH_ready (rs := [8]) (by kernel_rfl) (by simp) ?_
                  refine AllReadyH.cons (o := _) rfl (fun K hK => ?_) AllReadyH.nil
                  obtain ⟨z0, z1, z2, z3, z4, z5, z6⟩ := hqx6.facts
                  go_simp
                  clear z0 z1 z2 z3 z4 z5 z6
                  have hne1 : ga ≠ x5.heap.size := Nat.ne_of_lt (Nat.lt_of_lt_of_le kx16.lt hgehq)
                  have hkx : BlkT _ (put3 x6 (x5.heap.size) (.bool lo.s) (.slice lo.N lo.ns.length lo.nc) (.slice lo.D lo.ds.length lo.dc)) _ _ _ _ := ((((((kxx6).far (p := ⟨x5.heap.size, 0, none⟩) hne1 _)).far (p := ⟨x5.heap.size, 1, none⟩) hne1 _)).far (p := ⟨x5.heap.size, 2, none⟩) hne1 _)
                  have hkz : BlkT _ (put3 x6 (x5.heap.size) (.bool lo.s) (.slice lo.N lo.ns.length lo.nc) (.slice lo.D lo.ds.length lo.dc)) _ _ _ _ := hqx6.put3_ (.bool lo.s) (.slice lo.N lo.ns.length lo.nc) (.slice lo.D lo.ds.length lo.dc)
                  have hls : lo.Ref (put3 x6 (x5.heap.size) (.bool lo.s) (.slice lo.N lo.ns.length lo.nc) (.slice lo.D lo.ds.length lo.dc)) (mkRat (loI p j) 1) := hlox6.put3 hqx6 (.bool lo.s) (.slice lo.N lo.ns.length lo.nc) (.slice lo.D lo.ds.length lo.dc)
                  have hws : Below w16.heap.size w16 (put3 x6 (x5.heap.size) (.bool lo.s) (.slice lo.N lo.ns.length lo.nc) (.slice lo.D lo.ds.length lo.dc)) := below_put3 hwx6 hgehq (.bool lo.s) (.slice lo.N lo.ns.length lo.nc) (.slice lo.D lo.ds.length lo.dc)
                  refine hK.out _ _ ?_ (fun hHeld => ?_)
                  · exact ⟨hkx.facts.c0, hkx.facts.c1, hkx.facts.c2⟩
                  clear hK K hHeld
                  try simp only [Act.put, List.getElem_toArray, List.getElem_cons_zero, List.getElem_cons_succ, List.setIfInBounds_toArray, List.set_cons_zero, List.set_cons_succ]
                  refine wpAnyH_done (by kernel_rfl) ?_ _
                  go_wp2_with fail
                  go_meet
                  exact ⟨_, lo, rfl, hkz, hls, by omega, by omega, hgehq, hws⟩
              · go_simp
                refine hK.out _ _ ?_ (fun hHeld => ?_)
                · exact ⟨(kxx4.alloc _).facts.c0, (kxx4.alloc _).facts.c1, (kxx4.alloc _).facts.c2⟩
                clear hK K hHeld
                try simp only [Act.put, List.getElem_toArray, List.getElem_cons_zero, List.getElem_cons_succ, List.setIfInBounds_toArray, List.set_cons_zero, List.set_cons_succ]
                have hbx7 : Below x4.heap.size x4 (x4.alloc (.cells #[.bool false, .slice none 0 0, .slice none 0 0] 30)) := (Below.refl _ _).alloc (Nat.le_refl _) _
                have hqx7 := BlkT.new 30 x4 (.bool false) (.slice none 0 0) (.slice none 0 0)
                obtain ⟨x7, hwe⟩ : ∃ x, x4.alloc (.cells #[.bool false, .slice none 0 0, .slice none 0 0] 30) = x := ⟨_, rfl⟩
                rw [hwe] at hbx7 hqx7 ⊢
                clear hwe
                have kxx7 := kxx4.below hbx7
                have hxx7 := hxx4.below hbx7
                have hix7 := hix4.below hbx7
                have hm1x7 := hm1x4.below hbx7
                have hm2x7 := hm2x4.below hbx7
                have hm3x7 := hm3x4.below hbx7
                have hwx7 := hwx4.trans (hbx7.mono hwx4.size)
                have hgehq : w16.heap.size ≤ x4.heap.size := hwx4.size
                refine wpAnyH_ready (rs := [6]) (by kernel_rfl) (by simp) ?_
                refine AllReadyH.cons (o := _) rfl (fun K hK => ?_) AllReadyH.nil
                · go_simp
                  go_at_call 21
                  refine (rneg m3 _ _ hm3x7).mono ?_
                  rintro e x8 ⟨lo, rfl, hlox8, loa, lob, hbx8⟩
                  rw [lo_neg] at hlox8
                  go_wp2_with fail
                  have kxx8 := kxx7.below hbx8
                  have hxx8 := hxx7.below hbx8
                  have hix8 := hix7.below hbx8
                  have hm1x8 := hm1x7.below hbx8
                  have hm2x8 := hm2x7.below hbx8
                  have hm3x8 := hm3x7.below hbx8
                  have hqx8 := hqx7.below hbx8
                  have hwx8 := hwx7.trans (hbx8.mono hwx7.size)
                  refine hK.out _ _ ?_ (fun hHeld => ?_)
                  · exact ⟨kxx8.facts.c0, kxx8.facts.c1, kxx8.facts.c2⟩
                  clear hK K
                  try simp only [Act.put, List.getElem_toArray, List.getElem_cons_zero, List.getElem_cons_succ, List.setIfInBounds_toArray, List.set_cons_zero, List.set_cons_succ]
                  clear hHeld
                  refine wpAnyH_ready (rs := [8]) (by kernel_rfl) (by simp) ?_
                  refine AllReadyH.cons (o := _) rfl (fun K hK => ?_) AllReadyH.nil
                  obtain ⟨z0, z1, z2, z3, z4, z5, z6⟩ := hqx8.facts
                  go_simp
                  clear z0 z1 z2 z3 z4 z5 z6
                  have hne1 : ga ≠ x4.heap.size := Nat.ne_of_lt (Nat.lt_of_lt_of_le kx16.lt hgehq)
                  have hkx : BlkT _ (put3 x8 (x4.heap.size) (.bool lo.s) (.slice lo.N lo.ns.length lo.nc) (.slice lo.D lo.ds.length lo.dc)) _ _ _ _ := ((((((kxx8).far (p := ⟨x4.heap.size, 0, none⟩) hne1 _)).far (p := ⟨x4.heap.size, 1, none⟩) hne1 _)).far (p := ⟨x4.heap.size, 2, none⟩) hne1 _)
                  have hkz : BlkT _ (put3 x8 (x4.heap.size) (.bool lo.s) (.slice lo.N lo.ns.length lo.nc) (.slice lo.D lo.ds.length lo.dc)) _ _ _ _ := hqx8.put3_ (.bool lo.s) (.slice lo.N lo.ns.length lo.nc) (.slice lo.D lo.ds.length lo.dc)
                  have hls : lo.Ref (put3 x8 (x4.heap.size) (.bool lo.s) (.slice lo.N lo.ns.length lo.nc) (.slice lo.D lo.ds.length lo.dc)) (mkRat (loI p j) 1) := hlox8.put3 hqx8 (.bool lo.s) (.slice lo.N lo.ns.length lo.nc) (.slice lo.D lo.ds.length lo.dc)
                  have hws : Below w16.heap.size w16 (put3 x8 (x4.heap.size) (.bool lo.s) (.slice lo.N lo.ns.length lo.nc) (.slice lo.D lo.ds.length lo.dc)) := below_put3 hwx8 hgehq (.bool lo.s) (.slice lo.N lo.ns.length lo.nc) (.slice lo.D lo.ds.length lo.dc)
                  refine hK.out _ _ ?_ (fun hHeld => ?_)
                  · exact ⟨hkx.facts.c0, hkx.facts.c1, hkx.facts.c2⟩
                  clear hK K hHeld
                  try simp only [Act.put, List.getElem_toArray, List.getElem_cons_zero, List.getElem_cons_succ, List.setIfInBounds_toArray, List.set_cons_zero, List.set_cons_succ]
                  refine wpAnyH_done (by kernel_rfl) ?_ _
                  go_wp2_with fail
                  go_meet
                  exact ⟨_, lo, rfl, hkz, hls, by omega, by omega, hgehq, hws⟩
            · go_simp
              refine hK.out _ _ ?_ (fun hHeld => ?_)
              · exact ⟨(kxx3.alloc _).facts.c0, (kxx3.alloc _).facts.c1, (kxx3.alloc _).facts.c2⟩
              clear hK K hHeld
              try simp only [Act.put, List.getElem_toArray, List.getElem_cons_zero, List.getElem_cons_succ, List.setIfInBounds_toArray, List.set_cons_zero, List.set_cons_succ]
              have hbx9 : Below x3.heap.size x3 (x3.alloc (.cells #[.bool false, .slice none 0 0, .slice none 0 0] 30)) := (Below.refl _ _).alloc (Nat.le_refl _) _
              have hqx9 := BlkT.new 30 x3 (.bool false) (.slice none 0 0) (.slice none 0 0)
              obtain ⟨x9, hwe⟩ : ∃ x, x3.alloc (.cells #[.bool false, .slice none 0 0, .slice none 0 0] 30) = x := ⟨_, rfl⟩
              rw [hwe] at hbx9 hqx9 ⊢
              clear hwe
              have kxx9 := kxx3.below hbx9
              have hxx9 := hxx3.below hbx9
              have hix9 := hix3.below hbx9
              have hm1x9 := hm1x3.below hbx9
              have hm2x9 := hm2x3.below hbx9
              have hwx9 := hwx3.trans (hbx9.mono hwx3.size)
              have hgehq : w16.heap.size ≤ x3.heap.size := hwx3.size
              refine wpAnyH_ready (rs := [5]) (by kernel_rfl) (by simp) ?_
              refine AllReadyH.cons (o := _) rfl (fun K hK => ?_) AllReadyH.nil
              · go_simp
                go_at_call 32
                refine (rfloor m2 _ _ hm2x9 (by omega)).mono ?_
                rintro e x10 ⟨m3, rfl, hm3x10, m3a, m3b, hbx10⟩
                rw [lo_ref hm2x9] at hm3x10
                go_wp2_with fail
                have kxx10 := kxx9.below hbx10
                have hxx10 := hxx9.below hbx10
                have hix10 := hix9.below hbx10
                have hm1x10 := hm1x9.below hbx10
                have hm2x10 := hm2x9.below hbx10
                have hqx10 := hqx9.below hbx10
                have hwx10 := hwx9.trans (hbx10.mono hwx9.size)
                refine hK.out _ _ ?_ (fun hHeld => ?_)
                · exact ⟨kxx10.facts.c0, kxx10.facts.c1, kxx10.facts.c2⟩
                clear hK K
                try simp only [Act.put, List.getElem_toArray, List.getElem_cons_zero, List.getElem_cons_succ, List.setIfInBounds_toArray, List.set_cons_zero, List.set_cons_succ]
                clear hHeld
                refine wpAnyH_ready (rs := [6]) (by kernel_rfl) (by simp) ?_
                refine AllReadyH.cons (o := _) rfl (fun K hK => ?_) AllReadyH.nil
                · go_simp
                  go_at_call 21
                  refine (rneg m3 _ _ hm3x10).mono ?_
                  rintro e x11 ⟨lo, rfl, hlox11, loa, lob, hbx11⟩
                  rw [lo_neg] at hlox11
                  go_wp2_with fail
                  have kxx11 := kxx10.below hbx11
                  have hxx11 := hxx10.below hbx11
                  have hix11 := hix10.below hbx11
                  have hm1x11 := hm1x10.below hbx11
                  have hm2x11 := hm2x10.below hbx11
                  have hqx11 := hqx10.below hbx11
                  have hm3x11 := hm3x10.below hbx11
                  have hwx11 := hwx10.trans (hbx11.mono hwx10.size)
                  refine hK.out _ _ ?_ (fun hHeld => ?_)
                  · exact ⟨kxx11.facts.c0, kxx11.facts.c1, kxx11.facts.c2⟩
                  clear hK K
                  try simp only [Act.put, List.getElem_toArray, List.getElem_cons_zero, List.getElem_cons_succ, List.setIfInBounds_toArray, List.set_cons_zero, List.set_cons_succ]
                  clear hHeld
                  refine wpAnyH_ready (rs := [8]) (by kernel_rfl) (by simp) ?_
                  refine AllReadyH.cons (o := _) rfl (fun K hK => ?_) AllReadyH.nil
                  obtain ⟨z0, z1, z2, z3, z4, z5, z6⟩ := hqx11.facts
                  go_simp
                  clear z0 z1 z2 z3 z4 z5 z6
                  have hne1 : ga ≠ x3.heap.size := Nat.ne_of_lt (Nat.lt_of_lt_of_le kx16.lt hgehq)
                  have hkx : BlkT _ (put3 x11 (x3.heap.size) (.bool lo.s) (.slice lo.N lo.ns.length lo.nc) (.slice lo.D lo.ds.length lo.dc)) _ _ _ _ := ((((((kxx11).far (p := ⟨x3.heap.size, 0, none⟩) hne1 _)).far (p := ⟨x3.heap.size, 1, none⟩) hne1 _)).far (p := ⟨x3.heap.size, 2, none⟩) hne1 _)
                  have hkz : BlkT _ (put3 x11 (x3.heap.size) (.bool lo.s) (.slice lo.N lo.ns.length lo.nc) (.slice lo.D lo.ds.length lo.dc)) _ _ _ _ := hqx11.put3_ (.bool lo.s) (.slice lo.N lo.ns.length lo.nc) (.slice lo.D lo.ds.length lo.dc)
                  have hls : lo.Ref (put3 x11 (x3.heap.size) (.bool lo.s) (.slice lo.N lo.ns.length lo.nc) (.slice lo.D lo.ds.length lo.dc)) (mkRat (loI p j) 1) := hlox11.put3 hqx11 (.bool lo.s) (.slice lo.N lo.ns.length lo.nc) (.slice lo.D lo.ds.length lo.dc)
                  have hws : Below w16.heap.size w16 (put3 x11 (x3.heap.size) (.bool lo.s) (.slice lo.N lo.ns.length lo.nc) (.slice lo.D lo.ds.length lo.dc)) := below_put3 hwx11 hgehq (.bool lo.s) (.slice lo.N lo.ns.length lo.nc) (.slice lo.D lo.ds.length lo.dc)
                  refine hK.out _ _ ?_ (fun hHeld => ?_)
                  · exact ⟨hkx.facts.c0, hkx.facts.c1, hkx.facts.c2⟩
                  clear hK K hHeld
                  try simp only [Act.put, List.getElem_toArray, List.getElem_cons_zero, List.getElem_cons_succ, List.setIfInBounds_toArray, List.set_cons_zero, List.set_cons_succ]
                  refine wpAnyH_done (by kernel_rfl) ?_ _
                  go_wp2_with fail
                  go_meet
                  exact ⟨_, lo, rfl, hkz, hls, by omega, by omega, hgehq, hws⟩
          · go_simp
            refine hK.out _ _ ?_ (fun hHeld => ?_)
            · exact ⟨(kxx2.alloc _).facts.c0, (kxx2.alloc _).facts.c1, (kxx2.alloc _).facts.c2⟩
            clear hK K hHeld
            try simp only [Act.put, List.getElem_toArray, List.getElem_cons_zero, List.getElem_cons_succ, List.setIfInBounds_toArray, List.set_cons_zero, List.set_cons_succ]
            have hbx12 : Below x2.heap.size x2 (x2.alloc (.cells #[.bool false, .slice none 0 0, .slice none 0 0] 30)) := (Below.refl _ _).alloc (Nat.le_refl _) _
            have hqx12 := BlkT.new 30 x2 (.bool false) (.slice none 0 0) (.slice none 0 0)
            obtain ⟨x12, hwe⟩ : ∃ x, x2.alloc (.cells #[.bool false, .slice none 0 0, .slice none 0 0] 30) = x := ⟨_, rfl⟩
            rw [hwe] at hbx12 hqx12 ⊢
            clear hwe
            have kxx12 := kxx2.below hbx12
            have hxx12 := hxx2.below hbx12
            have hix12 := hix2.below hbx12
            have hm1x12 := hm1x2.below hbx12
            have hwx12 := hwx2.trans (hbx12.mono hwx2.size)
            have hgehq : w16.heap.size ≤ x2.heap.size := hwx2.size
            refine wpAnyH_ready (rs := [4]) (by kernel_rfl) (by simp) ?_
            refine AllReadyH.cons (o := _) rfl (fun K hK => ?_) AllReadyH.nil
            · go_simp
              go_at_call 21
              refine (rneg m1 _ _ hm1x12).mono ?_
              rintro e x13 ⟨m2, rfl, hm2x13, m2a, m2b, hbx13⟩
              go_wp2_with fail
              have kxx13 := kxx12.below hbx13
              have hxx13 := hxx12.below hbx13
              have hix13 := hix12.below hbx13
              have hm1x13 := hm1x12.below hbx13
              have hqx13 := hqx12.below hbx13
              have hwx13 := hwx12.trans (hbx13.mono hwx12.size)
              refine hK.out _ _ ?_ (fun hHeld => ?_)
              · exact ⟨kxx13.facts.c0, kxx13.facts.c1, kxx13.facts.c2⟩
              clear hK K
              try simp only [Act.put, List.getElem_toArray, List.getElem_cons_zero, List.getElem_cons_succ, List.setIfInBounds_toArray, List.set_cons_zero, List.set_cons_succ]
              clear hHeld
              refine wpAnyH_ready (rs := [5]) (by kernel_rfl) (by simp) ?_
              refine AllReadyH.cons (o := _) rfl (fun K hK => ?_) AllReadyH.nil
              · go_simp
                go_at_call 32
                refine (rfloor m2 _ _ hm2x13 (by omega)).mono ?_
                rintro e x14 ⟨m3, rfl, hm3x14, m3a, m3b, hbx14⟩
                rw [lo_ref hm2x13] at hm3x14
                go_wp2_with fail
                have kxx14 := kxx13.below hbx14
                have hxx14 := hxx13.below hbx14
                have hix14 := hix13.below hbx14
                have hm1x14 := hm1x13.below hbx14
                have hqx14 := hqx13.below hbx14
                have hm2x14 := hm2x13.below hbx14
                have hwx14 := hwx13.trans (hbx14.mono hwx13.size)
                refine hK.out _ _ ?_ (fun hHeld => ?_)
                · exact ⟨kxx14.facts.c0, kxx14.facts.c1, kxx14.facts.c2⟩
                clear hK K
                try simp only [Act.put, List.getElem_toArray, List.getElem_cons_zero, List.getElem_cons_succ, List.setIfInBounds_toArray, List.set_cons_zero, List.set_cons_succ]
                clear hHeld
                refine wpAnyH_ready (rs := [6]) (by kernel_rfl) (by simp) ?_
                refine AllReadyH.cons (o := _) rfl (fun K hK => ?_) AllReadyH.nil
                · go_simp
                  go_at_call 21
                  refine (rneg m3 _ _ hm3x14).mono ?_
                  rintro e x15 ⟨lo, rfl, hlox15, loa, lob, hbx15⟩
                  rw [lo_neg] at hlox15
                  go_wp2_with fail
                  have kxx15 := kxx14.below hbx15
                  have hxx15 := hxx14.below hbx15
                  have hix15 := hix14.below hbx15
                  have hm1x15 := hm1x14.below hbx15
                  have hqx15 := hqx14.below hbx15
                  have hm2x15 := hm2x14.below hbx15
                  have hm3x15 := hm3x14.below hbx15
                  have hwx15 := hwx14.trans (hbx15.mono hwx14.size)
                  refine hK.out _ _ ?_ (fun hHeld => ?_)
                  · exact ⟨kxx15.facts.c0, kxx15.facts.c1, kxx15.facts.c2⟩
                  clear hK K
                  try simp only [Act.put, List.getElem_toArray, List.getElem_cons_zero, List.getElem_cons_succ, List.setIfInBounds_toArray, List.set_cons_zero, List.set_cons_succ]
                  clear hHeld
                  refine wpAnyH_ready (rs := [8]) (by kernel_rfl) (by simp) ?_
                  refine AllReadyH.cons (o := _) rfl (fun K hK => ?_) AllReadyH.nil
                  obtain ⟨z0, z1, z2, z3, z4, z5, z6⟩ := hqx15.facts
                  go_simp
                  clear z0 z1 z2 z3 z4 z5 z6
                  have hne1 : ga ≠ x2.heap.size := Nat.ne_of_lt (Nat.lt_of_lt_of_le kx16.lt hgehq)
                  have hkx : BlkT _ (put3 x15 (x2.heap.size) (.bool lo.s) (.slice lo.N lo.ns.length lo.nc) (.slice lo.D lo.ds.length lo.dc)) _ _ _ _ := ((((((kxx15).far (p := ⟨x2.heap.size, 0, none⟩) hne1 _)).far (p := ⟨x2.heap.size, 1, none⟩) hne1 _)).far (p := ⟨x2.heap.size, 2, none⟩) hne1 _)
                  have hkz : BlkT _ (put3 x15 (x2.heap.size) (.bool lo.s) (.slice lo.N lo.ns.length lo.nc) (.slice lo.D lo.ds.length lo.dc)) _ _ _ _ := hqx15.put3_ (.bool lo.s) (.slice lo.N lo.ns.length lo.nc) (.slice lo.D lo.ds.length lo.dc)
                  have hls : lo.Ref (put3 x15 (x2.heap.size) (.bool lo.s) (.slice lo.N lo.ns.length lo.nc) (.slice lo.D lo.ds.length lo.dc)) (mkRat (loI p j) 1) := hlox15.put3 hqx15 (.bool lo.s) (.slice lo.N lo.ns.length lo.nc) (.slice lo.D lo.ds.length lo.dc)
                  have hws : Below w16.heap.size w16 (put3 x15 (x2.heap.size) (.bool lo.s) (.slice lo.N lo.ns.length lo.nc) (.slice lo.D lo.ds.length lo.dc)) := below_put3 hwx15 hgehq (.bool lo.s) (.slice lo.N lo.ns.length lo.nc) (.slice lo.D lo.ds.length lo.dc)
                  refine hK.out _ _ ?_ (fun hHeld => ?_)
                  · exact ⟨hkx.facts.c0, hkx.facts.c1, hkx.facts.c2⟩
                  clear hK K hHeld
                  try simp only [Act.put, List.getElem_toArray, List.getElem_cons_zero, List.getElem_cons_succ, List.setIfInBounds_toArray, List.set_cons_zero, List.set_cons_succ]
                  refine wpAnyH_done (by kernel_rfl) ?_ _
                  go_wp2_with fail
                  go_meet
                  exact ⟨_, lo, rfl, hkz, hls, by omega, by omega, hgehq, hws⟩
        · go_simp
          refine hK.out _ _ ?_ (fun hHeld => ?_)
          · exact ⟨(kxx1.alloc _).facts.c0, (kxx1.alloc _).facts.c1, (kxx1.alloc _).facts.c2⟩
          clear hK K hHeld
          try simp only [Act.put, List.getElem_toArray, List.getElem_cons_zero, List.getElem_cons_succ, List.setIfInBounds_toArray, List.set_cons_zero, List.set_cons_succ]
          have hbx16 : Below x1.heap.size x1 (x1.alloc (.cells #[.bool false, .slice none 0 0, .slice none 0 0] 30)) := (Below.refl _ _).alloc (Nat.le_refl _) _
          have hqx16 := BlkT.new 30 x1 (.bool false) (.slice none 0 0) (.slice none 0 0)
          obtain ⟨x16, hwe⟩ : ∃ x, x1.alloc (.cells #[.bool false, .slice none 0 0, .slice none 0 0] 30) = x := ⟨_, rfl⟩
          rw [hwe] at hbx16 hqx16 ⊢
          clear hwe
          have kxx16 := kxx1.below hbx16
          have hxx16 := hxx1.below hbx16
          have hix16 := hix1.below hbx16
          have hwx16 := hwx1.trans (hbx16.mono hwx1.size)
          have hgehq : w16.heap.size ≤ x1.heap.size := hwx1.size
          refine wpAnyH_ready (rs := [3]) (by kernel_rfl) (by simp) ?_
          refine AllReadyH.cons (o := _) rfl (fun K hK => ?_) AllReadyH.nil
          · go_simp
            go_at_call 20
            refine (rmulq u i _ _ _ hxx16 hix16 (by omega)).mono ?_
            rintro e x17 ⟨m1, rfl, hm1x17, m1a, m1b, hbx17⟩
            go_wp2_with fail
            have kxx17 := kxx16.below hbx17
            have hxx17 := hxx16.below hbx17
            have hix17 := hix16.below hbx17
            have hqx17 := hqx16.below hbx17
            have hwx17 := hwx16.trans (hbx17.mono hwx16.size)
            refine hK.out _ _ ?_ (fun hHeld => ?_)
            · exact ⟨kxx17.facts.c0, kxx17.facts.c1, kxx17.facts.c2⟩
            clear hK K
            try simp only [Act.put, List.getElem_toArray, List.getElem_cons_zero, List.getElem_cons_succ, List.setIfInBounds_toArray, List.set_cons_zero, List.set_cons_succ]
            clear hHeld
            refine wpAnyH_ready (rs := [4]) (by kernel_rfl) (by simp) ?_
            refine AllReadyH.cons (o := _) rfl (fun K hK => ?_) AllReadyH.nil
            · go_simp
              go_at_call 21
              refine (rneg m1 _ _ hm1x17).mono ?_
              rintro e x18 ⟨m2, rfl, hm2x18, m2a, m2b, hbx18⟩
              go_wp2_with fail
              have kxx18 := kxx17.below hbx18
              have hxx18 := hxx17.below hbx18
              have hix18 := hix17.below hbx18
              have hqx18 := hqx17.below hbx18
              have hm1x18 := hm1x17.below hbx18
              have hwx18 := hwx17.trans (hbx18.mono hwx17.size)
              refine hK.out _ _ ?_ (fun hHeld => ?_)
              · exact ⟨kxx18.facts.c0, kxx18.facts.c1, kxx18.facts.c2⟩
              clear hK K
              try simp only [Act.put, List.getElem_toArray, List.getElem_cons_zero, List.getElem_cons_succ, List.setIfInBounds_toArray, List.set_cons_zero, List.set_cons_succ]
              clear hHeld
              refine wpAnyH_ready (rs := [5]) (by kernel_rfl) (by simp) ?_
              refine AllReadyH.cons (o := _) rfl (fun K hK => ?_) AllReadyH.nil
              · go_simp
                go_at_call 32
                refine (rfloor m2 _ _ hm2x18 (by omega)).mono ?_
                rintro e x19 ⟨m3, rfl, hm3x19, m3a, m3b, hbx19⟩
                rw [lo_ref hm2x18] at hm3x19
                go_wp2_with fail
                have kxx19 := kxx18.below hbx19
                have hxx19 := hxx18.below hbx19
                have hix19 := hix18.below hbx19
                have hqx19 := hqx18.below hbx19
                have hm1x19 := hm1x18.below hbx19
                have hm2x19 := hm2x18.below hbx19
                have hwx19 := hwx18.trans (hbx19.mono hwx18.size)
                refine hK.out _ _ ?_ (fun hHeld => ?_)
                · exact ⟨kxx19.facts.c0, kxx19.facts.c1, kxx19.facts.c2⟩
                clear hK K
                try simp only [Act.put, List.getElem_toArray, List.getElem_cons_zero, List.getElem_cons_succ, List.setIfInBounds_toArray, List.set_cons_zero, List.set_cons_succ]
                clear hHeld
                refine wpAnyH_ready (rs := [6]) (by kernel_rfl) (by simp) ?_
                refine AllReadyH.cons (o := _) rfl (fun K hK => ?_) AllReadyH.nil
                · go_simp
                  go_at_call 21
                  refine (rneg m3 _ _ hm3x19).mono ?_
                  rintro e x20 ⟨lo, rfl, hlox20, loa, lob, hbx20⟩
                  rw [lo_neg] at hlox20
                  go_wp2_with fail
                  have kxx20 := kxx19.below hbx20
                  have hxx20 := hxx19.below hbx20
                  have hix20 := hix19.below hbx20
                  have hqx20 := hqx19.below hbx20
                  have hm1x20 := hm1x19.below hbx20
                  have hm2x20 := hm2x19.below hbx20
                  have hm3x20 := hm3x19.below hbx20
                  have hwx20 := hwx19.trans (hbx20.mono hwx19.size)
                  refine hK.out _ _ ?_ (fun hHeld => ?_)
                  · exact ⟨kxx20.facts.c0, kxx20.facts.c1, kxx20.facts.c2⟩
                  clear hK K
                  try simp only [Act.put, List.getElem_toArray, List.getElem_cons_zero, List.getElem_cons_succ, List.setIfInBounds_toArray, List.set_cons_zero, List.set_cons_succ]
                  clear hHeld
                  refine wpAnyH_ready (rs := [8]) (by kernel_rfl) (by simp) ?_
                  refine AllReadyH.cons (o := _) rfl (fun K hK => ?_) AllReadyH.nil
                  obtain ⟨z0, z1, z2, z3, z4, z5, z6⟩ := hqx20.facts
                  go_simp
                  clear z0 z1 z2 z3 z4 z5 z6
                  have hne1 : ga ≠ x1.heap.size := Nat.ne_of_lt (Nat.lt_of_lt_of_le kx16.lt hgehq)
                  have hkx : BlkT _ (put3 x20 (x1.heap.size) (.bool lo.s) (.slice lo.N lo.ns.length lo.nc) (.slice lo.D lo.ds.length lo.dc)) _ _ _ _ := ((((((kxx20).far (p := ⟨x1.heap.size, 0, none⟩) hne1 _)).far (p := ⟨x1.heap.size, 1, none⟩) hne1 _)).far (p := ⟨x1.heap.size, 2, none⟩) hne1 _)
                  have hkz : BlkT _ (put3 x20 (x1.heap.size) (.bool lo.s) (.slice lo.N lo.ns.length lo.nc) (.slice lo.D lo.ds.length lo.dc)) _ _ _ _ := hqx20.put3_ (.bool lo.s) (.slice lo.N lo.ns.length lo.nc) (.slice lo.D lo.ds.length lo.dc)
                  have hls : lo.Ref (put3 x20 (x1.heap.size) (.bool lo.s) (.slice lo.N lo.ns.length lo.nc) (.slice lo.D lo.ds.length lo.dc)) (mkRat (loI p j) 1) := hlox20.put3 hqx20 (.bool lo.s) (.slice lo.N lo.ns.length lo.nc) (.slice lo.D lo.ds.length lo.dc)
                  have hws : Below w16.heap.size w16 (put3 x20 (x1.heap.size) (.bool lo.s) (.slice lo.N lo.ns.length lo.nc) (.slice lo.D lo.ds.length lo.dc)) := below_put3 hwx20 hgehq (.bool lo.s) (.slice lo.N lo.ns.length lo.nc) (.slice lo.D lo.ds.length lo.dc)
                  refine hK.out _ _ ?_ (fun hHeld => ?_)
                  · exact ⟨hkx.facts.c0, hkx.facts.c1, hkx.facts.c2⟩
                  clear hK K hHeld
                  try simp only [Act.put, List.getElem_toArray, List.getElem_cons_zero, List.getElem_cons_succ, List.setIfInBounds_toArray, List.set_cons_zero, List.set_cons_succ]
                  refine wpAnyH_done (by kernel_rfl) ?_ _
                  go_wp2_with fail
                  go_meet
                  exact ⟨_, lo, rfl, hkz, hls, by omega, by omega, hgehq, hws⟩
      · go_simp
        refine hK.out _ _ ?_ (fun hHeld => ?_)
        · exact ⟨(kx_d.alloc _).facts.c0, (kx_d.alloc _).facts.c1, (kx_d.alloc _).facts.c2⟩
        clear hK K hHeld
        try simp only [Act.put, List.getElem_toArray, List.getElem_cons_zero, List.getElem_cons_succ, List.setIfInBounds_toArray, List.set_cons_zero, List.set_cons_succ]
        have hbx21 : Below wd.heap.size wd (wd.alloc (.cells #[.bool false, .slice none 0 0, .slice none 0 0] 30)) := (Below.refl _ _).alloc (Nat.le_refl _) _
        have hqx21 := BlkT.new 30 wd (.bool false) (.slice none 0 0) (.slice none 0 0)
        obtain ⟨x21, hwe⟩ : ∃ x, wd.alloc (.cells #[.bool false, .slice none 0 0, .slice none 0 0] 30) = x := ⟨_, rfl⟩
        rw [hwe] at hbx21 hqx21 ⊢
        clear hwe
        have kxx21 := kx_d.below hbx21
        have hxx21 := hx_d.below hbx21
        have hwx21 := hbd.trans (hbx21.mono hbd.size)
        have hgehq : w16.heap.size ≤ wd.heap.size := hbd.size
        refine wpAnyH_ready (rs := [2]) (by kernel_rfl) (by simp) ?_
        refine AllReadyH.cons (o := _) rfl (fun K hK => ?_) AllReadyH.nil
        · go_simp
          go_at_call 27
          refine (rint_any (j : Int) (by omega) (by omega) _).mono ?_
          rintro e x22 ⟨i, rfl, hix22, hia, hib, hbx22⟩
          go_wp2_with fail
          have kxx22 := kxx21.below hbx22
          have hxx22 := hxx21.below hbx22
          have hqx22 := hqx21.below hbx22
          have hwx22 := hwx21.trans (hbx22.mono hwx21.size)
          refine hK.out _ _ ?_ (fun hHeld => ?_)
          · exact ⟨kxx22.facts.c0, kxx22.facts.c1, kxx22.facts.c2⟩
          clear hK K
          try simp only [Act.put, List.getElem_toArray, List.getElem_cons_zero, List.getElem_cons_succ, List.setIfInBounds_toArray, List.set_cons_zero, List.set_cons_succ]
          clear hHeld
          refine wpAnyH_ready (rs := [3]) (by kernel_rfl) (by simp) ?_
          refine AllReadyH.cons (o := _) rfl (fun K hK => ?_) AllReadyH.nil
          · go_simp
            go_at_call 20
            refine (rmulq u i _ _ _ hxx22 hix22 (by omega)).mono ?_
            rintro e x23 ⟨m1, rfl, hm1x23, m1a, m1b, hbx23⟩
            go_wp2_with fail
            have kxx23 := kxx22.below hbx23
            have hxx23 := hxx22.below hbx23
            have hqx23 := hqx22.below hbx23
            have hix23 := hix22.below hbx23
            have hwx23 := hwx22.trans (hbx23.mono hwx22.size)
            refine hK.out _ _ ?_ (fun hHeld => ?_)
            · exact ⟨kxx23.facts.c0, kxx23.facts.c1, kxx23.facts.c2⟩
            clear hK K
            try simp only [Act.put, List.getElem_toArray, List.getElem_cons_zero, List.getElem_cons_succ, List.setIfInBounds_toArray, List.set_cons_zero, List.set_cons_succ]
            clear hHeld
            refine wpAnyH_ready (rs := [4]) (by kernel_rfl) (by simp) ?_
            refine AllReadyH.cons (o := _) rfl (fun K hK => ?_) AllReadyH.nil
            · go_simp
              go_at_call 21
              refine (rneg m1 _ _ hm1x23).mono ?_
              rintro e x24 ⟨m2, rfl, hm2x24, m2a, m2b, hbx24⟩
              go_wp2_with fail
              have kxx24 := kxx23.below hbx24
              have hxx24 := hxx23.below hbx24
              have hqx24 := hqx23.below hbx24
              have hix24 := hix23.below hbx24
              have hm1x24 := hm1x23.below hbx24
              have hwx24 := hwx23.trans (hbx24.mono hwx23.size)
              refine hK.out _ _ ?_ (fun hHeld => ?_)
              · exact ⟨kxx24.facts.c0, kxx24.facts.c1, kxx24.facts.c2⟩
              clear hK K
              try simp only [Act.put, List.getElem_toArray, List.getElem_cons_zero, List.getElem_cons_succ, List.setIfInBounds_toArray, List.set_cons_zero, List.set_cons_succ]
              clear hHeld
              refine wpAnyH_ready (rs := [5]) (by kernel_rfl) (by simp) ?_
              refine AllReadyH.cons (o := _) rfl (fun K hK => ?_) AllReadyH.nil
              · go_simp
                go_at_call 32
                refine (rfloor m2 _ _ hm2x24 (by omega)).mono ?_
                rintro e x25 ⟨m3, rfl, hm3x25, m3a, m3b, hbx25⟩
                rw [lo_ref hm2x24] at hm3x25
                go_wp2_with fail
                have kxx25 := kxx24.below hbx25
                have hxx25 := hxx24.below hbx25
                have hqx25 := hqx24.below hbx25
                have hix25 := hix24.below hbx25
                have hm1x25 := hm1x24.below hbx25
                have hm2x25 := hm2x24.below hbx25
                have hwx25 := hwx24.trans (hbx25.mono hwx24.size)
                refine hK.out _ _ ?_ (fun hHeld => ?_)
                · exact ⟨kxx25.facts.c0, kxx25.facts.c1, kxx25.facts.c2⟩
                clear hK K
                try simp only [Act.put, List.getElem_toArray, List.getElem_cons_zero, List.getElem_cons_succ, List.setIfInBounds_toArray, List.set_cons_zero, List.set_cons_succ]
                clear hHeld
                refine wpAnyH_ready (rs := [6]) (by kernel_rfl) (by simp) ?_
                refine AllReadyH.cons (o := _) rfl (fun K hK => ?_) AllReadyH.nil
                · go_simp
                  go_at_call 21
                  refine (rneg m3 _ _ hm3x25).mono ?_
                  rintro e x26 ⟨lo, rfl, hlox26, loa, lob, hbx26⟩
                  rw [lo_neg] at hlox26
                  go_wp2_with fail
                  have kxx26 := kxx25.below hbx26
                  have hxx26 := hxx25.below hbx26
                  have hqx26 := hqx25.below hbx26
                  have hix26 := hix25.below hbx26
                  have hm1x26 := hm1x25.below hbx26
                  have hm2x26 := hm2x25.below hbx26
                  have hm3x26 := hm3x25.below hbx26
                  have hwx26 := hwx25.trans (hbx26.mono hwx25.size)
                  refine hK.out _ _ ?_ (fun hHeld => ?_)
                  · exact ⟨kxx26.facts.c0, kxx26.facts.c1, kxx26.facts.c2⟩
                  clear hK K
                  try simp only [Act.put, List.getElem_toArray, List.getElem_cons_zero, List.getElem_cons_succ, List.setIfInBounds_toArray, List.set_cons_zero, List.set_cons_succ]
                  clear hHeld
                  refine wpAnyH_ready (rs := [8]) (by kernel_rfl) (by simp) ?_
                  refine AllReadyH.cons (o := _) rfl (fun K hK => ?_) AllReadyH.nil
                  obtain ⟨z0, z1, z2, z3, z4, z5, z6⟩ := hqx26.facts
                  go_simp
                  clear z0 z1 z2 z3 z4 z5 z6
                  have hne1 : ga ≠ wd.heap.size := Nat.ne_of_lt (Nat.lt_of_lt_of_le kx16.lt hgehq)
                  have hkx : BlkT _ (put3 x26 (wd.heap.size) (.bool lo.s) (.slice lo.N lo.ns.length lo.nc) (.slice lo.D lo.ds.length lo.dc)) _ _ _ _ := ((((((kxx26).far (p := ⟨wd.heap.size, 0, none⟩) hne1 _)).far (p := ⟨wd.heap.size, 1, none⟩) hne1 _)).far (p := ⟨wd.heap.size, 2, none⟩) hne1 _)
                  have hkz : BlkT _ (put3 x26 (wd.heap.size) (.bool lo.s) (.slice lo.N lo.ns.length lo.nc) (.slice lo.D lo.ds.length lo.dc)) _ _ _ _ := hqx26.put3_ (.bool lo.s) (.slice lo.N lo.ns.length lo.nc) (.slice lo.D lo.ds.length lo.dc)
                  have hls : lo.Ref (put3 x26 (wd.heap.size) (.bool lo.s) (.slice lo.N lo.ns.length lo.nc) (.slice lo.D lo.ds.length lo.dc)) (mkRat (loI p j) 1) := hlox26.put3 hqx26 (.bool lo.s) (.slice lo.N lo.ns.length lo.nc) (.slice lo.D lo.ds.length lo.dc)
                  have hws : Below w16.heap.size w16 (put3 x26 (wd.heap.size) (.bool lo.s) (.slice lo.N lo.ns.length lo.nc) (.slice lo.D lo.ds.length lo.dc)) := below_put3 hwx26 hgehq (.bool lo.s) (.slice lo.N lo.ns.length lo.nc) (.slice lo.D lo.ds.length lo.dc)
                  refine hK.out _ _ ?_ (fun hHeld => ?_)
                  · exact ⟨hkx.facts.c0, hkx.facts.c1, hkx.facts.c2⟩
                  clear hK K hHeld
                  try simp only [Act.put, List.getElem_toArray, List.getElem_cons_zero, List.getElem_cons_succ, List.setIfInBounds_toArray, List.set_cons_zero, List.set_cons_succ]
                  refine wpAnyH_done (by kernel_rfl) ?_ _
                  go_wp2_with fail
                  go_meet
                  exact ⟨_, lo, rfl, hkz, hls, by omega, by omega, hgehq, hws⟩
    obtain ⟨w17, rfl⟩ : ∃ x, x = wc := ⟨_, rfl⟩
    obtain ⟨L, Ll, rfl, kL17, hL17, La, Lb, Lg, hb17⟩ := hcut
    have kx17 := kx16.below hb17
    have ky17 := ky16.below hb17
    have kz17 := kz16.below hb17
    have hx17 := hx16.below hb17
    have hy17 := hy16.below hb17
    have hz17 := hz16.below hb17
    have hw17 := hw16.trans (hb17.mono hw16.size)
    clear kx16 ky16 kz16 hx16 hy16 hz16 hw16 hb17
    go_upto_region 15 with fail
    go_cut [16] (fun s wx => ∃ (gl : Nat) (l : RL), s = .pointer (some ⟨gl, 0, none⟩) ∧ BlkT 30 wx gl (.bool l.s) (.slice l.N l.ns.length l.nc) (.slice l.D l.ds.length l.dc) ∧ l.Ref wx (mkRat (hiI q j) 1) ∧ l.ns.length ≤ 200 ∧ l.ds.length ≤ 200 ∧ w17.heap.size ≤ gl ∧ Below w17.heap.size w17 wx)
    case first =>
      refine wp_region_held_drew (S := fun w' => w'.cell? ⟨gb, 0, none⟩ = some (.bool v.s) ∧ w'.cell? ⟨gb, 1, none⟩ = some (.slice v.N v.ns.length v.nc) ∧ w'.cell? ⟨gb, 2, none⟩ = some (.slice v.D v.ds.length v.dc)) (by kernel_rfl) ?_ (fun hHeld => ?_)
      · first | exact ⟨ky17.facts.c0, ky17.facts.c1, ky17.facts.c2⟩ | exact ⟨‹_›, ‹_›, ‹_›⟩ | go_keep
      refine wpAnyH_take (i := 0) (v := ?v0t3) rfl (by kernel_rfl) (by kernel_rfl) (by kernel_rfl) (fun _ _ _ h => h) (Or.inl ⟨by rfl, ?hy0t3⟩) (by assumption) ?rest0t3
      case hy0t3 =>
        intro w hSw
        (try dsimp only at hSw)
        go_simp
        all_goals with_reducible rfl
      simp only [Act.put, List.getElem_toArray, List.getElem_cons_zero, List.setIfInBounds_toArray, List.set_cons_zero, List.set_cons_succ]
      refine wpAnyH_take (i := 1) (v := ?v1t3) rfl (by kernel_rfl) (by kernel_rfl) (by kernel_rfl) (fun _ _ _ h => h) (Or.inl ⟨by rfl, ?hy1t3⟩) (by assumption) ?rest1t3
      case hy1t3 =>
        intro w hSw
        (try dsimp only at hSw)
        go_simp
        all_goals with_reducible rfl
      simp only [Act.put, List.getElem_toArray, List.getElem_cons_zero, List.getElem_cons_succ, List.setIfInBounds_toArray, List.set_cons_zero, List.set_cons_succ]
      have hbd : Below w17.heap.size w17 w17.drew := below_drew_ (Below.refl _ _) 1
      obtain ⟨wd, hwd⟩ : ∃ x, w17.drew = x := ⟨_, rfl⟩
      rw [hwd] at hbd ⊢
      clear hwd
      have ky_d := ky17.below hbd
      have hy_d := hy17.below hbd
      refine wpAnyH_ready (rs := [2, 5]) (by kernel_rfl) (by simp) ?_
      refine AllReadyH.cons (o := _) rfl (fun K hK => ?_) (AllReadyH.cons (o := _) rfl (fun K hK => ?_) AllReadyH.nil)
      · go_simp
        go_at_call 27
        refine (rint_any (j : Int) (by omega) (by omega) _).mono ?_
        rintro e x1 ⟨i, rfl, hix1, hia, hib, hbx1⟩
        go_wp2_with fail
        have kyx1 := ky_d.below hbx1
        have hyx1 := hy_d.below hbx1
        have hwx1 := hbd.trans (hbx1.mono hbd.size)
        refine hK.out _ _ ?_ (fun hHeld => ?_)
        · exact ⟨kyx1.facts.c0, kyx1.facts.c1, kyx1.facts.c2⟩
        clear hK K
        try simp only [Act.put, List.getElem_toArray, List.getElem_cons_zero, List.getElem_cons_succ, List.setIfInBounds_toArray, List.set_cons_zero, List.set_cons_succ]
        clear hHeld
        refine wpAnyH_ready (rs := [3, 5]) (by kernel_rfl) (by simp) ?_
        refine AllReadyH.cons (o := _) rfl (fun K hK => ?_) (AllReadyH.cons (o := _) rfl (fun K hK => ?_) AllReadyH.nil)
        · go_simp
          go_at_call 20
          refine (rmulq v i _ _ _ hyx1 hix1 (by omega)).mono ?_
          rintro e x2 ⟨m1, rfl, hm1x2, m1a, m1b, hbx2⟩
          go_wp2_with fail
          have kyx2 := kyx1.below hbx2
          have hyx2 := hyx1.below hbx2
          have hix2 := hix1.below hbx2
          have hwx2 := hwx1.trans (hbx2.mono hwx1.size)
          refine hK.out _ _ ?_ (fun hHeld => ?_)
          · exact ⟨kyx2.facts.c0, kyx2.facts.c1, kyx2.facts.c2⟩
          clear hK K
          try simp only [Act.put, List.getElem_toArray, List.getElem_cons_zero, List.getElem_cons_succ, List.setIfInBounds_toArray, List.set_cons_zero, List.set_cons_succ]
          clear hHeld
          refine wpAnyH_ready (rs := [4, 5]) (by kernel_rfl) (by simp) ?_
          refine AllReadyH.cons (o := _) rfl (fun K hK => ?_) (AllReadyH.cons (o := _) rfl (fun K hK => ?_) AllReadyH.nil)
          · go_simp
            go_at_call 32
            refine (rfloor m1 _ _ hm1x2 (by omega)).mono ?_
            rintro e x3 ⟨hi_, rfl, hhi_x3, hia_, hib_, hbx3⟩
            rw [hi_ref hm1x2] at hhi_x3
            go_wp2_with fail
            have kyx3 := kyx2.below hbx3
            have hyx3 := hyx2.below hbx3
            have hix3 := hix2.below hbx3
            have hm1x3 := hm1x2.below hbx3
            have hwx3 := hwx2.trans (hbx3.mono hwx2.size)
            refine hK.out _ _ ?_ (fun hHeld => ?_)
            · exact ⟨kyx3.facts.c0, kyx3.facts.c1, kyx3.facts.c2⟩
            clear hK K
            try simp only [Act.put, List.getElem_toArray, List.getElem_cons_zero, List.getElem_cons_succ, List.setIfInBounds_toArray, List.set_cons_zero, List.set_cons_succ]
            clear hHeld
            refine wpAnyH_ready (rs := [5]) (by kernel_rfl) (by simp) ?_
            refine AllReadyH.cons (o := _) rfl (fun K hK => ?_) AllReadyH.nil
            · go_simp
              refine hK.out _ _ ?_ (fun hHeld => ?_)
              · exact ⟨(kyx3.alloc _).facts.c0, (kyx3.alloc _).facts.c1, (kyx3.alloc _).facts.c2⟩
              clear hK K hHeld
              try simp only [Act.put, List.getElem_toArray, List.getElem_cons_zero, List.getElem_cons_succ, List.setIfInBounds_toArray, List.set_cons_zero, List.set_cons_succ]
              have hbx4 : Below x3.heap.size x3 (x3.alloc (.cells #[.bool false, .slice none 0 0, .slice none 0 0] 30)) := (Below.refl _ _).alloc (Nat.le_refl _) _
              have hqx4 := BlkT.new 30 x3 (.bool false) (.slice none 0 0) (.slice none 0 0)
              obtain ⟨x4, hwe⟩ : ∃ x, x3.alloc (.cells #[.bool false, .slice none 0 0, .slice none 0 0] 30) = x := ⟨_, rfl⟩
              rw [hwe] at hbx4 hqx4 ⊢
              clear hwe
              have kyx4 := kyx3.below hbx4
              have hyx4 := hyx3.below hbx4
              have hix4 := hix3.below hbx4
              have hm1x4 := hm1x3.below hbx4
              have hhi_x4 := hhi_x3.below hbx4
              have hwx4 := hwx3.trans (hbx4.mono hwx3.size)
              have hgehq : w17.heap.size ≤ x3.heap.size := hwx3.size
              refine wpAnyH_ready (rs := [6]) (by kernel_rfl) (by simp) ?_
              refine AllReadyH.cons (o := _) rfl (fun K hK => ?_) AllReadyH.nil
              obtain ⟨z0, z1, z2, z3, z4, z5, z6⟩ := hqx4.facts
              go_simp
              clear z0 z1 z2 z3 z4 z5 z6
              have hne1 : gb ≠ x3.heap.size := Nat.ne_of_lt (Nat.lt_of_lt_of_le ky17.lt hgehq)
              have hkx : BlkT _ (put3 x4 (x3.heap.size) (.bool hi_.s) (.slice hi_.N hi_.ns.length hi_.nc) (.slice hi_.D hi_.ds.length hi_.dc)) _ _ _ _ := ((((((kyx4).far (p := ⟨x3.heap.size, 0, none⟩) hne1 _)).far (p := ⟨x3.heap.size, 1, none⟩) hne1 _)).far (p := ⟨x3.heap.size, 2, none⟩) hne1 _)
              have hkz : BlkT _ (put3 x4 (x3.heap.size) (.bool hi_.s) (.slice hi_.N hi_.ns.length hi_.nc) (.slice hi_.D hi_.ds.length hi_.dc)) _ _ _ _ := hqx4.put3_ (.bool hi_.s) (.slice hi_.N hi_.ns.length hi_.nc) (.slice hi_.D hi_.ds.length hi_.dc)
              have hls : hi_.Ref (put3 x4 (x3.heap.size) (.bool hi_.s) (.slice hi_.N hi_.ns.length hi_.nc) (.slice hi_.D hi_.ds.length hi_.dc)) (mkRat (hiI q j) 1) := hhi_x4.put3 hqx4 (.bool hi_.s) (.slice hi_.N hi_.ns.length hi_.nc) (.slice hi_.D hi_.ds.length hi_.dc)
              have hws : Below w17.heap.size w17 (put3 x4 (x3.heap.size) (.bool hi_.s) (.slice hi_.N hi_.ns.length hi_.nc) (.slice hi_.D hi_.ds.length hi_.dc)) := below_put3 hwx4 hgehq (.bool hi_.s) (.slice hi_.N hi_.ns.length hi_.nc) (.slice hi_.D hi_.ds.length hi_.dc)
              refine hK.out _ _ ?_ (fun hHeld => ?_)
              · exact ⟨hkx.facts.c0, hkx.facts.c1, hkx.facts.c2⟩
              clear hK K hHeld
              try simp only [Act.put, List.getElem_toArray, List.getElem_cons_zero, List.getElem_cons_succ, List.setIfInBounds_toArray, List.set_cons_zero, List.set_cons_succ]
              refine wpAnyH_done (by kernel_rfl) ?_ _
              go_wp2_with fail
              go_meet
              exact ⟨_, hi_, rfl, hkz, hls, by omega, by omega, hgehq, hws⟩
          · go_simp
            refine hK.out _ _ ?_ (fun hHeld => ?_)
            · exact ⟨(kyx2.alloc _).facts.c0, (kyx2.alloc _).facts.c1, (kyx2.alloc _).facts.c2⟩
            clear hK K hHeld
            try simp only [Act.put, List.getElem_toArray, List.getElem_cons_zero, List.getElem_cons_succ, List.setIfInBounds_toArray, List.set_cons_zero, List.set_cons_succ]
            have hbx5 : Below x2.heap.size x2 (x2.alloc (.cells #[.bool false, .slice none 0 0, .slice none 0 0] 30)) := (Below.refl _ _).alloc (Nat.le_refl _) _
            have hqx5 := BlkT.new 30 x2 (.bool false) (.slice none 0 0) (.slice none 0 0)
            obtain ⟨x5, hwe⟩ : ∃ x, x2.alloc (.cells #[.bool false, .slice none 0 0, .slice none 0 0] 30) = x := ⟨_, rfl⟩
            rw [hwe] at hbx5 hqx5 ⊢
            clear hwe
            have kyx5 := kyx2.below hbx5
            have hyx5 := hyx2.below hbx5
            have hix5 := hix2.below hbx5
            have hm1x5 := hm1x2.below hbx5
            have hwx5 := hwx2.trans (hbx5.mono hwx2.size)
            have hgehq : w17.heap.size ≤ x2.heap.size := hwx2.size
            refine wpAnyH_ready (rs := [4]) (by kernel_rfl) (by simp) ?_
            refine AllReadyH.cons (o := _) rfl (fun K hK => ?_) AllReadyH.nil
            · go_simp
              go_at_call 32
              refine (rfloor m1 _ _ hm1x5 (by omega)).mono ?_
              rintro e x6 ⟨hi_, rfl, hhi_x6, hia_, hib_, hbx6⟩
              rw [hi_ref hm1x5] at hhi_x6
              go_wp2_with fail
              have kyx6 := kyx5.below hbx6
              have hyx6 := hyx5.below hbx6
              have hix6 := hix5.below hbx6
              have hm1x6 := hm1x5.below hbx6
              have hqx6 := hqx5.below hbx6
              have hwx6 := hwx5.trans (hbx6.mono hwx5.size)
              refine hK.out _ _ ?_ (fun hHeld => ?_)
              · exact ⟨kyx6.facts.c0, kyx6.facts.c1, kyx6.facts.c2⟩
              clear hK K
              try simp only [Act.put, List.getElem_toArray, List.getElem_cons_zero, List.getElem_cons_succ, List.setIfInBounds_toArray, List.set_cons_zero, List.set_cons_succ]
              clear hHeld
              refine wpAnyH_ready (rs := [6]) (by kernel_rfl) (by simp) ?_
              refine AllReadyH.cons (o := _) rfl (fun K hK => ?_) AllReadyH.nil
              obtain ⟨z0, z1, z2, z3, z4, z5, z6⟩ := hqx6.facts
              go_simp
              clear z0 z1 z2 z3 z4 z5 z6
              have hne1 : gb ≠ x2.heap.size := Nat.ne_of_lt (Nat.lt_of_lt_of_le ky17.lt hgehq)
              have hkx : BlkT _ (put3 x6 (x2.heap.size) (.bool hi_.s) (.slice hi_.N hi_.ns.length hi_.nc) (.slice hi_.D hi_.ds.length hi_.dc)) _ _ _ _ := ((((((kyx6).far (p := ⟨x2.heap.size, 0, none⟩) hne1 _)).far (p := ⟨x2.heap.size, 1, none⟩) hne1 _)).far (p := ⟨x2.heap.size, 2, none⟩) hne1 _)
              have hkz : BlkT _ (put3 x6 (x2.heap.size) (.bool hi_.s) (.slice hi_.N hi_.ns.length hi_.nc) (.slice hi_.D hi_.ds.length hi_.dc)) _ _ _ _ := hqx6.put3_ (.bool hi_.s) (.slice hi_.N hi_.ns.length hi_.nc) (.slice hi_.D hi_.ds.length hi_.dc)
              have hls : hi_.Ref (put3 x6 (x2.heap.size) (.bool hi_.s) (.slice hi_.N hi_.ns.length hi_.nc) (.slice hi_.D hi_.ds.length hi_.dc)) (mkRat (hiI q j) 1) := hhi_x6.put3 hqx6 (.bool hi_.s) (.slice hi_.N hi_.ns.length hi_.nc) (.slice hi_.D hi_.ds.length hi_.dc)
              have hws : Below w17.heap.size w17 (put3 x6 (x2.heap.size) (.bool hi_.s) (.slice hi_.N hi_.ns.length hi_.nc) (.slice hi_.D hi_.ds.length hi_.dc)) := below_put3 hwx6 hgehq (.bool hi_.s) (.slice hi_.N hi_.ns.length hi_.nc) (.slice hi_.D hi_.ds.length hi_.dc)
              refine hK.out _ _ ?_ (fun hHeld => ?_)
              · exact ⟨hkx.facts.c0, hkx.facts.c1, hkx.facts.c2⟩
              clear hK K hHeld
              try simp only [Act.put, List.getElem_toArray, List.getElem_cons_zero, List.getElem_cons_succ, List.setIfInBounds_toArray, List.set_cons_zero, List.set_cons_succ]
              refine wpAnyH_done (by kernel_rfl) ?_ _
              go_wp2_with fail
              go_meet
              exact ⟨_, hi_, rfl, hkz, hls, by omega, by omega, hgehq, hws⟩
        · go_simp
          refine hK.out _ _ ?_ (fun hHeld => ?_)
          · exact ⟨(kyx1.alloc _).facts.c0, (kyx1.alloc _).facts.c1, (kyx1.alloc _).facts.c2⟩
          clear hK K hHeld
          try simp only [Act.put, List.getElem_toArray, List.getElem_cons_zero, List.getElem_cons_succ, List.setIfInBounds_toArray, List.set_cons_zero, List.set_cons_succ]
          have hbx7 : Below x1.heap.size x1 (x1.alloc (.cells #[.bool false, .slice none 0 0, .slice none 0 0] 30)) := (Below.refl _ _).alloc (Nat.le_refl _) _
          have hqx7 := BlkT.new 30 x1 (.bool false) (.slice none 0 0) (.slice none 0 0)
          obtain ⟨x7, hwe⟩ : ∃ x, x1.alloc (.cells #[.bool false, .slice none 0 0, .slice none 0 0] 30) = x := ⟨_, rfl⟩
          rw [hwe] at hbx7 hqx7 ⊢
          clear hwe
          have kyx7 := kyx1.below hbx7
          have hyx7 := hyx1.below hbx7
          have hix7 := hix1.below hbx7
          have hwx7 := hwx1.trans (hbx7.mono hwx1.size)
          have hgehq : w17.heap.size ≤ x1.heap.size := hwx1.size
          refine wpAnyH_ready (rs := [3]) (by kernel_rfl) (by simp) ?_
          refine AllReadyH.cons (o := _) rfl (fun K hK => ?_) AllReadyH.nil
          · go_simp
            go_at_call 20
            refine (rmulq v i _ _ _ hyx7 hix7 (by omega)).mono ?_
            rintro e x8 ⟨m1, rfl, hm1x8, m1a, m1b, hbx8⟩
            go_wp2_with fail
            have kyx8 := kyx7.below hbx8
            have hyx8 := hyx7.below hbx8
            have hix8 := hix7.below hbx8
            have hqx8 := hqx7.below hbx8
            have hwx8 := hwx7.trans (hbx8.mono hwx7.size)
            refine hK.out _ _ ?_ (fun hHeld => ?_)
            · exact ⟨kyx8.facts.c0, kyx8.facts.c1, kyx8.facts.c2⟩
            clear hK K
            try simp only [Act.put, List.getElem_toArray, List.getElem_cons_zero, List.getElem_cons_succ, List.setIfInBounds_toArray, List.set_cons_zero, List.set_cons_succ]
            clear hHeld
            refine wpAnyH_ready (rs := [4]) (by kernel_rfl) (by simp) ?_
            refine AllReadyH.cons (o := _) rfl (fun K hK => ?_) AllReadyH.nil
            · go_simp
              go_at_call 32
              refine (rfloor m1 _ _ hm1x8 (by omega)).mono ?_
              rintro e x9 ⟨hi_, rfl, hhi_x9, hia_, hib_, hbx9⟩
              rw [hi_ref hm1x8] at hhi_x9
              go_wp2_with fail
              have kyx9 := kyx8.below hbx9
              have hyx9 := hyx8.below hbx9
              have hix9 := hix8.below hbx9
              have hqx9 := hqx8.below hbx9
              have hm1x9 := hm1x8.below hbx9
              have hwx9 := hwx8.trans (hbx9.mono hwx8.size)
              refine hK.out _ _ ?_ (fun hHeld => ?_)
              · exact ⟨kyx9.facts.c0, kyx9.facts.c1, kyx9.facts.c2⟩
              clear hK K
              try simp only [Act.put, List.getElem_toArray, List.getElem_cons_zero, List.getElem_cons_succ, List.setIfInBounds_toArray, List.set_cons_zero, List.set_cons_succ]
              clear hHeld
              refine wpAnyH_ready (rs := [6]) (by kernel_rfl) (by simp) ?_
              refine AllReadyH.cons (o := _) rfl (fun K hK => ?_) AllReadyH.nil
              obtain ⟨z0, z1, z2, z3, z4, z5, z6⟩ := hqx9.facts
              go_simp
              clear z0 z1 z2 z3 z4 z5 z6
              have hne1 : gb ≠ x1.heap.size := Nat.ne_of_lt (Nat.lt_of_lt_of_le ky17.lt hgehq)
              have hkx : BlkT _ (put3 x9 (x1.heap.size) (.bool hi_.s) (.slice hi_.N hi_.ns.length hi_.nc) (.slice hi_.D hi_.ds.length hi_.dc)) _ _ _ _ := ((((((kyx9).far (p := ⟨x1.heap.size, 0, none⟩) hne1 _)).far (p := ⟨x1.heap.size, 1, none⟩) hne1 _)).far (p := ⟨x1.heap.size, 2, none⟩) hne1 _)
              have hkz : BlkT _ (put3 x9 (x1.heap.size) (.bool hi_.s) (.slice hi_.N hi_.ns.length hi_.nc) (.slice hi_.D hi_.ds.length hi_.dc)) _ _ _ _ := hqx9.put3_ (.bool hi_.s) (.slice hi_.N hi_.ns.length hi_.nc) (.slice hi_.D hi_.ds.length hi_.dc)
              have hls : hi_.Ref (put3 x9 (x1.heap.size) (.bool hi_.s) (.slice hi_.N hi_.ns.length hi_.nc) (.slice hi_.D hi_.ds.length hi_.dc)) (mkRat (hiI q j) 1) := hhi_x9.put3 hqx9 (.bool hi_.s) (.slice hi_.N hi_.ns.length hi_.nc) (.slice hi_.D hi_.ds.length hi_.dc)
              have hws : Below w17.heap.size w17 (put3 x9 (x1.heap.size) (.bool hi_.s) (.slice hi_.N hi_.ns.length hi_.nc) (.slice hi_.D hi_.ds.length hi_.dc)) := below_put3 hwx9 hgehq (.bool hi_.s) (.slice hi_.N hi_.ns.length hi_.nc) (.slice hi_.D hi_.ds.length hi_.dc)
              refine hK.out _ _ ?_ (fun hHeld => ?_)
              · exact ⟨hkx.facts.c0, hkx.facts.c1, hkx.facts.c2⟩
              clear hK K hHeld
              try simp only [Act.put, List.getElem_toArray, List.getElem_cons_zero, List.getElem_cons_succ, List.setIfInBounds_toArray, List.set_cons_zero, List.set_cons_succ]
              refine wpAnyH_done (by kernel_rfl) ?_ _
              go_wp2_with fail
              go_meet
              exact ⟨_, hi_, rfl, hkz, hls, by omega, by omega, hgehq, hws⟩
      · go_simp
        refine hK.out _ _ ?_ (fun hHeld => ?_)
        · exact ⟨(ky_d.alloc _).facts.c0, (ky_d.alloc _).facts.c1, (ky_d.alloc _).facts.c2⟩
        clear hK K hHeld
        try simp only [Act.put, List.getElem_toArray, List.getElem_cons_zero, List.getElem_cons_succ, List.setIfInBounds_toArray, List.set_cons_zero, List.set_cons_succ]
        have hbx10 : Below wd.heap.size wd (wd.alloc (.cells #[.bool false, .slice none 0 0, .slice none 0 0] 30)) := (Below.refl _ _).alloc (Nat.le_refl _) _
        have hqx10 := BlkT.new 30 wd (.bool false) (.slice none 0 0) (.slice none 0 0)
        obtain ⟨x10, hwe⟩ : ∃ x, wd.alloc (.cells #[.bool false, .slice none 0 0, .slice none 0 0] 30) = x := ⟨_, rfl⟩
        rw [hwe] at hbx10 hqx10 ⊢
        clear hwe
        have kyx10 := ky_d.below hbx10
        have hyx10 := hy_d.below hbx10
        have hwx10 := hbd.trans (hbx10.mono hbd.size)
        have hgehq : w17.heap.size ≤ wd.heap.size := hbd.size
        refine wpAnyH_ready (rs := [2]) (by kernel_rfl) (by simp) ?_
        refine AllReadyH.cons (o := _) rfl (fun K hK => ?_) AllReadyH.nil
        · go_simp
          go_at_call 27
          refine (rint_any (j : Int) (by omega) (by omega) _).mono ?_
          rintro e x11 ⟨i, rfl, hix11, hia, hib, hbx11⟩
          go_wp2_with fail
          have kyx11 := kyx10.below hbx11
          have hyx11 := hyx10.below hbx11
          have hqx11 := hqx10.below hbx11
          have hwx11 := hwx10.trans (hbx11.mono hwx10.size)
          refine hK.out _ _ ?_ (fun hHeld => ?_)
          · exact ⟨kyx11.facts.c0, kyx11.facts.c1, kyx11.facts.c2⟩
          clear hK K
          try simp only [Act.put, List.getElem_toArray, List.getElem_cons_zero, List.getElem_cons_succ, List.setIfInBounds_toArray, List.set_cons_zero, List.set_cons_succ]
          clear hHeld
          refine wpAnyH_ready (rs := [3]) (by kernel_rfl) (by simp) ?_
          refine AllReadyH.cons (o := _) rfl (fun K hK => ?_) AllReadyH.nil
          · go_simp
            go_at_call 20
            refine (rmulq v i _ _ _ hyx11 hix11 (by omega)).mono ?_
            rintro e x12 ⟨m1, rfl, hm1x12, m1a, m1b, hbx12⟩
            go_wp2_with fail
            have kyx12 := kyx11.below hbx12
            have hyx12 := hyx11.below hbx12
            have hqx12 := hqx11.below hbx12
            have hix12 := hix11.below hbx12
            have hwx12 := hwx11.trans (hbx12.mono hwx11.size)
            refine hK.out _ _ ?_ (fun hHeld => ?_)
            · exact ⟨kyx12.facts.c0, kyx12.facts.c1, kyx12.facts.c2⟩
            clear hK K
            try simp only [Act.put, List.getElem_toArray, List.getElem_cons_zero, List.getElem_cons_succ, List.setIfInBounds_toArray, List.set_cons_zero, List.set_cons_succ]
            clear hHeld
            refine wpAnyH_ready (rs := [4]) (by kernel_rfl) (by simp) ?_
            refine AllReadyH.cons (o := _) rfl (fun K hK => ?_) AllReadyH.nil
            · go_simp
              go_at_call 32
              refine (rfloor m1 _ _ hm1x12 (by omega)).mono ?_
              rintro e x13 ⟨hi_, rfl, hhi_x13, hia_, hib_, hbx13⟩
              rw [hi_ref hm1x12] at hhi_x13
              go_wp2_with fail
              have kyx13 := kyx12.below hbx13
              have hyx13 := hyx12.below hbx13
              have hqx13 := hqx12.below hbx13
              have hix13 := hix12.below hbx13
              have hm1x13 := hm1x12.below hbx13
              have hwx13 := hwx12.trans (hbx13.mono hwx12.size)
              refine hK.out _ _ ?_ (fun hHeld => ?_)
              · exact ⟨kyx13.facts.c0, kyx13.facts.c1, kyx13.facts.c2⟩
              clear hK K
              try simp only [Act.put, List.getElem_toArray, List.getElem_cons_zero, List.getElem_cons_succ, List.setIfInBounds_toArray, List.set_cons_zero, List.set_cons_succ]
              clear hHeld
              refine wpAnyH_ready (rs := [6]) (by kernel_rfl) (by simp) ?_
              refine AllReadyH.cons (o := _) rfl (fun K hK => ?_) AllReadyH.nil
              obtain ⟨z0, z1, z2, z3, z4, z5, z6⟩ := hqx13.facts
              go_simp
              clear z0 z1 z2 z3 z4 z5 z6
              have hne1 : gb ≠ wd.heap.size := Nat.ne_of_lt (Nat.lt_of_lt_of_le ky17.lt hgehq)
              have hkx : BlkT _ (put3 x13 (wd.heap.size) (.bool hi_.s) (.slice hi_.N hi_.ns.length hi_.nc) (.slice hi_.D hi_.ds.length hi_.dc)) _ _ _ _ := ((((((kyx13).far (p := ⟨wd.heap.size, 0, none⟩) hne1 _)).far (p := ⟨wd.heap.size, 1, none⟩) hne1 _)).far (p := ⟨wd.heap.size, 2, none⟩) hne1 _)
              have hkz : BlkT _ (put3 x13 (wd.heap.size) (.bool hi_.s) (.slice hi_.N hi_.ns.length hi_.nc) (.slice hi_.D hi_.ds.length hi_.dc)) _ _ _ _ := hqx13.put3_ (.bool hi_.s) (.slice hi_.N hi_.ns.length hi_.nc) (.slice hi_.D hi_.ds.length hi_.dc)
              have hls : hi_.Ref (put3 x13 (wd.heap.size) (.bool hi_.s) (.slice hi_.N hi_.ns.length hi_.nc) (.slice hi_.D hi_.ds.length hi_.dc)) (mkRat (hiI q j) 1) := hhi_x13.put3 hqx13 (.bool hi_.s) (.slice hi_.N hi_.ns.length hi_.nc) (.slice hi_.D hi_.ds.length hi_.dc)
              have hws : Below w17.heap.size w17 (put3 x13 (wd.heap.size) (.bool hi_.s) (.slice hi_.N hi_.ns.length hi_.nc) (.slice hi_.D hi_.ds.length hi_.dc)) := below_put3 hwx13 hgehq (.bool hi_.s) (.slice hi_.N hi_.ns.length hi_.nc) (.slice hi_.D hi_.ds.length hi_.dc)
              refine hK.out _ _ ?_ (fun hHeld => ?_)
              · exact ⟨hkx.facts.c0, hkx.facts.c1, hkx.facts.c2⟩
              clear hK K hHeld
              try simp only [Act.put, List.getElem_toArray, List.getElem_cons_zero, List.getElem_cons_succ, List.setIfInBounds_toArray, List.set_cons_zero, List.set_cons_succ]
              refine wpAnyH_done (by kernel_rfl) ?_ _
              go_wp2_with fail
              go_meet
              exact ⟨_, hi_, rfl, hkz, hls, by omega, by omega, hgehq, hws⟩
    obtain ⟨w18, rfl⟩ : ∃ x, x = wc := ⟨_, rfl⟩
    obtain ⟨H, Hl, rfl, kH18, hH18, Ha, Hb, Hg, hb18⟩ := hcut
    have kx18 := kx17.below hb18
    have ky18 := ky17.below hb18
    have kz18 := kz17.below hb18
    have hx18 := hx17.below hb18
    have hy18 := hy17.below hb18
    have hz18 := hz17.below hb18
    have kL18 := kL17.below hb18
    have hL18 := hL17.below hb18
    have hw18 := hw17.trans (hb18.mono hw17.size)
    clear kx17 ky17 kz17 hx17 hy17 hz17 kL17 hL17 hw17 hb18
    skip
    obtain ⟨a0, a1, a2, a3, a4, a5, a6⟩ := kL18.facts
    obtain ⟨b0, b1, b2, b3, b4, b5, b6⟩ := kH18.facts
    go_wp2_with fail
    refine (rcmpq Ll Hl _ _ _ hL18 hH18 (by omega)).mono ?_
    rintro e w19 ⟨he_, hb19⟩
    rw [cmp_ref hL18 hH18] at he_
    have kx19 := kx18.below hb19
    have ky19 := ky18.below hb19
    have kz19 := kz18.below hb19
    have hx19 := hx18.below hb19
    have hy19 := hy18.below hb19
    have hz19 := hz18.below hb19
    have kL19 := kL18.below hb19
    have hL19 := hL18.below hb19
    have kH19 := kH18.below hb19
    have hH19 := hH18.below hb19
    have hw19 := hw18.trans (hb19.mono hw18.size)
    clear kx18 ky18 kz18 hx18 hy18 hz18 kL18 hL18 kH18 hH18 hw18 hb19
    clear a0 a1 a2 a3 a4 a5 a6
    clear b0 b1 b2 b3 b4 b5 b6
    obtain ⟨lo, hloe⟩ : ∃ l, loI p j = l := ⟨_, rfl⟩
    obtain ⟨hi, hhie⟩ : ∃ l, hiI q j = l := ⟨_, rfl⟩
    rw [hloe, hhie] at he_
    rw [hloe] at hL19
    rw [hhie] at hH19
    have HLO := Lib.hid hloe
    have HHI := Lib.hid hhie
    clear hloe hhie
    by_cases hlt : j < K
    · have hgt : hi < lo := by
        rcases Int.lt_or_le hi lo with h1 | h1
        · exact h1
        · exact absurd ((inR_iff p q j lo).2 ⟨by rw [HLO.out]; exact Int.le_refl _, by rw [HHI.out]; exact h1⟩) (HMIN.out j hj1 hlt lo)
      have hv : cmpOf lo hi = 1 := by unfold cmpOf; rw [if_neg (by omega), if_pos hgt]
      rw [hv] at he_
      clear hv
      subst he_
      go_wp2_with fail
      go_roundw
      case rel => exact ⟨j + 1, by omega, by omega, by go_num, kx19, ky19, kz19, hx19, hy19, hz19, hw19⟩
      case measure => simp [intOf]; omega
    · obtain rfl : j = K := by omega
      have hle : lo ≤ hi := by have h1 := (inR_iff p q j mm).1 HIN.out; rw [HLO.out, HHI.out] at h1; omega
      obtain ⟨c, hc, hc2⟩ : ∃ c : Int, cmpOf lo hi = c ∧ c ≤ 0 := ⟨_, rfl, by unfold cmpOf; split; omega; rw [if_neg (by omega)]; omega⟩
      rw [hc] at he_
      clear hc
      subst he_
      have HNV : Hid (mkRat (nearI lo hi) 1 / mkRat ((j : Nat) : Int) 1 = x) := Lib.hid (by rw [div_int _ _ (by omega), HXE.out]; congr 1; symm; exact near_of (by have h1 := (inR_iff p q j mm).1 HIN.out; rw [HLO.out] at h1; exact h1.1) (by have h1 := (inR_iff p q j mm).1 HIN.out; rw [HHI.out] at h1; exact h1.2) (fun m' h1 h2 => HNEAR.out m' ((inR_iff p q j m').2 ⟨by rw [HLO.out]; exact h1, by rw [HHI.out]; exact h2⟩)))
      clear HMIN
      have hzlt := kz19.lt
      have hHlt := kH19.lt
      have hBlt := hw19.size
      obtain ⟨a0, a1, a2, a3, a4, a5, a6⟩ := kL19.facts
      go_upto_region 18 with fail
      have kB20 := BlkT.new 30 w19 (.bool Ll.s) (.slice Ll.N Ll.ns.length Ll.nc) (.slice Ll.D Ll.ds.length Ll.dc)
      have hb20 : Below w19.heap.size w19 (w19.alloc (.cells #[.bool Ll.s, .slice Ll.N Ll.ns.length Ll.nc, .slice Ll.D Ll.ds.length Ll.dc] 30)) := (Below.refl _ _).alloc (Nat.le_refl _) _
      obtain ⟨w20, hwe⟩ : ∃ x, w19.alloc (.cells #[.bool Ll.s, .slice Ll.N Ll.ns.length Ll.nc, .slice Ll.D Ll.ds.length Ll.dc] 30) = x := ⟨_, rfl⟩
      rw [hwe] at kB20 hb20 ⊢
      clear hwe
      have kx20 := kx19.below hb20
      have ky20 := ky19.below hb20
      have kz20 := kz19.below hb20
      have hx20 := hx19.below hb20
      have hy20 := hy19.below hb20
      have hz20 := hz19.below hb20
      have kL20 := kL19.below hb20
      have hL20 := hL19.below hb20
      have kH20 := kH19.below hb20
      have hH20 := hH19.below hb20
      have hw20 := hw19.trans (hb20.mono hw19.size)
      clear kx19 ky19 kz19 hx19 hy19 hz19 kL19 hL19 kH19 hH19 hw19 hb20
      clear a0 a1 a2 a3 a4 a5 a6
      obtain ⟨gB, hgB_⟩ : ∃ g, w19.heap.size = g := ⟨_, rfl⟩
      rw [hgB_] at kB20 hzlt hHlt hBlt
      rw [hgB_]
      have HGB_ := Lib.hid hgB_
      clear hgB_
      have hne_zB : gz ≠ gB := Nat.ne_of_lt hzlt
      have hne_HB : ¬ gB = H := by omega
      have hgB2 := hBlt
      obtain ⟨b0, b1, b2, b3, b4, b5, b6⟩ := kH20.facts
      go_wp2_with fail
      refine (rsign Hl.s Hl.N Hl.D Hl.ns.length Hl.nc Hl.ds.length Hl.dc _).mono ?_
      rintro e w21 ⟨he_, hb21⟩
      rw [sign_ref hH20] at he_
      have kx21 := kx20.below hb21
      have ky21 := ky20.below hb21
      have kz21 := kz20.below hb21
      have hx21 := hx20.below hb21
      have hy21 := hy20.below hb21
      have hz21 := hz20.below hb21
      have kL21 := kL20.below hb21
      have hL21 := hL20.below hb21
      have kH21 := kH20.below hb21
      have hH21 := hH20.below hb21
      have kB21 := kB20.below hb21
      have hw21 := hw20.trans (hb21.mono hw20.size)
      clear kx20 ky20 kz20 hx20 hy20 hz20 kL20 hL20 kH20 hH20 kB20 hw20 hb21
      clear b0 b1 b2 b3 b4 b5 b6
      rcases Int.lt_or_le hi 0 with hh | hh
      skip
      · have hv : cmpOf hi 0 = -1 := by unfold cmpOf; rw [if_pos hh]
        rw [hv] at he_
        clear hv
        subst he_
        rw [show nearI lo hi = hi from if_pos hh] at HNV
        obtain ⟨b0, b1, b2, b3, b4, b5, b6⟩ := kH21.facts
        obtain ⟨a0, a1, a2, a3, a4, a5, a6⟩ := kB21.facts
        have hnHB : ¬ gB = H := hne_HB
        have hnBH : ¬ H = gB := fun h => hnHB h.symm
        go_upto_region 22 with fail
        clear a0 a1 a2 a3 a4 a5 a6
        clear b0 b1 b2 b3 b4 b5 b6
        have hkB := kB21.put3_ (.bool Hl.s) (.slice Hl.N Hl.ns.length Hl.nc) (.slice Hl.D Hl.ds.length Hl.dc)
        have hkz : BlkT 30 (put3 w21 gB (.bool Hl.s) (.slice Hl.N Hl.ns.length Hl.nc) (.slice Hl.D Hl.ds.length Hl.dc)) gz (.bool y.s) (.slice y.N y.ns.length y.nc) (.slice y.D y.ds.length y.dc) := ((((((kz21).far (p := ⟨gB, 0, none⟩) hne_zB _)).far (p := ⟨gB, 1, none⟩) hne_zB _)).far (p := ⟨gB, 2, none⟩) hne_zB _)
        have hzz := hz21.put3 kB21 (.bool Hl.s) (.slice Hl.N Hl.ns.length Hl.nc) (.slice Hl.D Hl.ds.length Hl.dc)
        have hHH := hH21.put3 kB21 (.bool Hl.s) (.slice Hl.N Hl.ns.length Hl.nc) (.slice Hl.D Hl.ds.length Hl.dc)
        have hww := below_put3 hw21 hgB2 (.bool Hl.s) (.slice Hl.N Hl.ns.length Hl.nc) (.slice Hl.D Hl.ds.length Hl.dc)
        obtain ⟨w22, hwe⟩ : ∃ x, (put3 w21 gB (.bool Hl.s) (.slice Hl.N Hl.ns.length Hl.nc) (.slice Hl.D Hl.ds.length Hl.dc)) = x := ⟨_, rfl⟩
        rw [hwe] at hkB hkz hzz hHH hww
        simp only [put3] at hwe
        rw [hwe]
        clear hwe
        have kB22 := hkB
        have kz22 := hkz
        have hz22 := hzz
        have hH22 := hHH
        have hw22 := hww
        go_upto_region 22 with fail
        obtain ⟨a0, a1, a2, a3, a4, a5, a6⟩ := kz22.facts
        obtain ⟨b0, b1, b2, b3, b4, b5, b6⟩ := kB22.facts
        have HSM : Hid (∀ (t : RL) (w' : World), t.Ref w' x → cmpOf (sgn y.s (VD y.ns) * VD t.ds) (sgn t.s (VD t.ns) * VD y.ds) = 0) := Lib.hid (fun t w' ht => by obtain ⟨e1, e2, e3⟩ := (hz22).q.inj ht.q; rw [e1, e2, e3]; unfold cmpOf; rw [if_neg (by omega), if_neg (by omega)])
        go_region_held3 (fun w' => w'.cell? ⟨gz, 0, none⟩ = some (.bool y.s) ∧ w'.cell? ⟨gz, 1, none⟩ = some (.slice y.N y.ns.length y.nc) ∧ w'.cell? ⟨gz, 2, none⟩ = some (.slice y.D y.ds.length y.dc) ∧ w'.cell? ⟨gB, 0, none⟩ = some (.bool Hl.s) ∧ w'.cell? ⟨gB, 1, none⟩ = some (.slice Hl.N Hl.ns.length Hl.nc) ∧ w'.cell? ⟨gB, 2, none⟩ = some (.slice Hl.D Hl.ds.length Hl.dc)) (first | exact ⟨‹_›, ‹_›, ‹_›, ‹_›, ‹_›, ‹_›⟩ | go_keep)
          (first
          | (go_at_call 27
             refine (rint_any (j : Int) (by omega) (by omega) _).mono ?_
             rintro e v1_ ⟨i2, rfl, hi2, i2a, i2b, hbx⟩
             have hbp0 : Below w22.heap.size w22 v1_ := by first | exact hbx | exact below_of_drew hbx (Nat.le_refl _) | exact ((Below.refl _ _).alloc (Nat.le_refl _) _).trans (hbx.mono (by simp)) | exact ((Below.refl _ _).alloc (Nat.le_refl _) _).trans ((below_of_drew hbx (Nat.le_refl _)).mono (by simp)) | exact below_of_drew (((Below.refl _ _).alloc (Nat.le_refl _) _).trans (hbx.mono (by simp))) (Nat.le_refl _)
             have hz_0 := hz22.below hbp0
             have hH_0 := hH22.below hbp0
             have kz_0 := kz22.below hbp0
             obtain ⟨kz0v1_, kz1v1_, kz2v1_, kz3v1_, kz4v1_, kz5v1_, kz6v1_⟩ := kz_0.facts
             have kB_0 := kB22.below hbp0
             obtain ⟨kB0v1_, kB1v1_, kB2v1_, kB3v1_, kB4v1_, kB5v1_, kB6v1_⟩ := kB_0.facts
             have hwq0 := hw22.trans (hbp0.mono hw22.size))
          | (go_at_call 26
             refine (rdivq Hl i2 _ _ _ (by first | exact hH_0 | exact hH_0.drew | exact hH_0.alloc _ | exact (hH_0.alloc _).drew | exact hH_0.drew.alloc _) (by first | exact hi2 | exact hi2.drew | exact hi2.alloc _ | exact (hi2.alloc _).drew | exact hi2.drew.alloc _) (by omega) (vd_int (show i2.Ref _ (mkRat ((j : Nat) : Int) 1) from (by first | exact hi2 | exact hi2.drew | exact hi2.alloc _ | exact (hi2.alloc _).drew | exact hi2.drew.alloc _)) (by omega))).mono ?_
             rintro e v2_ ⟨t, rfl, ht, hta, htb, hby⟩
             rw [HNV.out] at ht
             have hbp1 : Below v1_.heap.size v1_ v2_ := by first | exact hby | exact below_of_drew hby (Nat.le_refl _) | exact ((Below.refl _ _).alloc (Nat.le_refl _) _).trans (hby.mono (by simp)) | exact ((Below.refl _ _).alloc (Nat.le_refl _) _).trans ((below_of_drew hby (Nat.le_refl _)).mono (by simp)) | exact below_of_drew (((Below.refl _ _).alloc (Nat.le_refl _) _).trans (hby.mono (by simp))) (Nat.le_refl _)
             have hz_1 := hz_0.below hbp1
             have hH_1 := hH_0.below hbp1
             have hi2_1 := hi2.below hbp1
             have kz_1 := kz_0.below hbp1
             obtain ⟨kz0v2_, kz1v2_, kz2v2_, kz3v2_, kz4v2_, kz5v2_, kz6v2_⟩ := kz_1.facts
             have kB_1 := kB_0.below hbp1
             obtain ⟨kB0v2_, kB1v2_, kB2v2_, kB3v2_, kB4v2_, kB5v2_, kB6v2_⟩ := kB_1.facts
             have hwq1 := hwq0.trans (hbp1.mono hwq0.size))
          | (go_at_call 23
             refine (rcmpq y t x x _ (by first | exact hz_1 | exact hz_1.drew | exact hz_1.alloc _ | exact (hz_1.alloc _).drew | exact hz_1.drew.alloc _) (by first | exact ht | exact ht.drew | exact ht.alloc _ | exact (ht.alloc _).drew | exact ht.drew.alloc _) (by omega)).mono ?_
             rintro e v3_ ⟨he_, hbz⟩
             rw [HSM.out t v2_ ht] at he_
             subst he_
             have hbp2 : Below v2_.heap.size v2_ v3_ := by first | exact hbz | exact below_of_drew hbz (Nat.le_refl _) | exact ((Below.refl _ _).alloc (Nat.le_refl _) _).trans (hbz.mono (by simp)) | exact ((Below.refl _ _).alloc (Nat.le_refl _) _).trans ((below_of_drew hbz (Nat.le_refl _)).mono (by simp)) | exact below_of_drew (((Below.refl _ _).alloc (Nat.le_refl _) _).trans (hbz.mono (by simp))) (Nat.le_refl _)
             have hz_2 := hz_1.below hbp2
             have hH_2 := hH_1.below hbp2
             have hi2_2 := hi2_1.below hbp2
             have ht_2 := ht.below hbp2
             have kz_2 := kz_1.below hbp2
             obtain ⟨kz0v3_, kz1v3_, kz2v3_, kz3v3_, kz4v3_, kz5v3_, kz6v3_⟩ := kz_2.facts
             have kB_2 := kB_1.below hbp2
             obtain ⟨kB0v3_, kB1v3_, kB2v3_, kB3v3_, kB4v3_, kB5v3_, kB6v3_⟩ := kB_2.facts
             have hwq2 := hwq1.trans (hbp2.mono hwq1.size)))
        all_goals
          go_wp2_with fail
          go_ret
          exact ⟨rfl, hwL.trans (hwq2.mono hwL.size)⟩
      skip
      · have hh2 : ¬ hi < 0 := by omega
        obtain ⟨s0, hv, hv2⟩ : ∃ s0 : Int, cmpOf hi 0 = s0 ∧ 0 ≤ s0 := ⟨_, rfl, by unfold cmpOf; rw [if_neg hh2]; split <;> omega⟩
        rw [hv] at he_
        clear hv
        subst he_
        obtain ⟨a0, a1, a2, a3, a4, a5, a6⟩ := kL21.facts
        go_wp2_with fail
        refine (rsign Ll.s Ll.N Ll.D Ll.ns.length Ll.nc Ll.ds.length Ll.dc _).mono ?_
        rintro e w22 ⟨he_, hb22⟩
        rw [sign_ref hL21] at he_
        have kx22 := kx21.below hb22
        have ky22 := ky21.below hb22
        have kz22 := kz21.below hb22
        have hx22 := hx21.below hb22
        have hy22 := hy21.below hb22
        have hz22 := hz21.below hb22
        have kL22 := kL21.below hb22
        have hL22 := hL21.below hb22
        have kH22 := kH21.below hb22
        have hH22 := hH21.below hb22
        have kB22 := kB21.below hb22
        have hw22 := hw21.trans (hb22.mono hw21.size)
        clear kx21 ky21 kz21 hx21 hy21 hz21 kL21 hL21 kH21 hH21 kB21 hw21 hb22
        clear a0 a1 a2 a3 a4 a5 a6
        rcases Int.lt_or_le 0 lo with hl | hl
        skip
        · have hv : cmpOf lo 0 = 1 := by unfold cmpOf; rw [if_neg (by omega), if_pos (by omega)]
          rw [hv] at he_
          clear hv
          subst he_
          rw [show nearI lo hi = lo by unfold nearI; rw [if_neg (show ¬ hi < 0 by omega), if_neg (show ¬ lo ≤ 0 by omega)]] at HNV
          go_upto_region 22 with fail
          obtain ⟨a0, a1, a2, a3, a4, a5, a6⟩ := kz22.facts
          obtain ⟨b0, b1, b2, b3, b4, b5, b6⟩ := kB22.facts
          have HSM : Hid (∀ (t : RL) (w' : World), t.Ref w' x → cmpOf (sgn y.s (VD y.ns) * VD t.ds) (sgn t.s (VD t.ns) * VD y.ds) = 0) := Lib.hid (fun t w' ht => by obtain ⟨e1, e2, e3⟩ := (hz22).q.inj ht.q; rw [e1, e2, e3]; unfold cmpOf; rw [if_neg (by omega), if_neg (by omega)])
          go_region_held3 (fun w' => w'.cell? ⟨gz, 0, none⟩ = some (.bool y.s) ∧ w'.cell? ⟨gz, 1, none⟩ = some (.slice y.N y.ns.length y.nc) ∧ w'.cell? ⟨gz, 2, none⟩ = some (.slice y.D y.ds.length y.dc) ∧ w'.cell? ⟨gB, 0, none⟩ = some (.bool Ll.s) ∧ w'.cell? ⟨gB, 1, none⟩ = some (.slice Ll.N Ll.ns.length Ll.nc) ∧ w'.cell? ⟨gB, 2, none⟩ = some (.slice Ll.D Ll.ds.length Ll.dc)) (first | exact ⟨‹_›, ‹_›, ‹_›, ‹_›, ‹_›, ‹_›⟩ | go_keep)
            (first
            | (go_at_call 27
               refine (rint_any (j : Int) (by omega) (by omega) _).mono ?_
               rintro e v1_ ⟨i2, rfl, hi2, i2a, i2b, hbx⟩
               have hbp0 : Below w22.heap.size w22 v1_ := by first | exact hbx | exact below_of_drew hbx (Nat.le_refl _) | exact ((Below.refl _ _).alloc (Nat.le_refl _) _).trans (hbx.mono (by simp)) | exact ((Below.refl _ _).alloc (Nat.le_refl _) _).trans ((below_of_drew hbx (Nat.le_refl _)).mono (by simp)) | exact below_of_drew (((Below.refl _ _).alloc (Nat.le_refl _) _).trans (hbx.mono (by simp))) (Nat.le_refl _)
               have hz_0 := hz22.below hbp0
               have hL_0 := hL22.below hbp0
               have kz_0 := kz22.below hbp0
               obtain ⟨kz0v1_, kz1v1_, kz2v1_, kz3v1_, kz4v1_, kz5v1_, kz6v1_⟩ := kz_0.facts
               have kB_0 := kB22.below hbp0
               obtain ⟨kB0v1_, kB1v1_, kB2v1_, kB3v1_, kB4v1_, kB5v1_, kB6v1_⟩ := kB_0.facts
               have hwq0 := hw22.trans (hbp0.mono hw22.size))
            | (go_at_call 26
               refine (rdivq Ll i2 _ _ _ (by first | exact hL_0 | exact hL_0.drew | exact hL_0.alloc _ | exact (hL_0.alloc _).drew | exact hL_0.drew.alloc _) (by first | exact hi2 | exact hi2.drew | exact hi2.alloc _ | exact (hi2.alloc _).drew | exact hi2.drew.alloc _) (by omega) (vd_int (show i2.Ref _ (mkRat ((j : Nat) : Int) 1) from (by first | exact hi2 | exact hi2.drew | exact hi2.alloc _ | exact (hi2.alloc _).drew | exact hi2.drew.alloc _)) (by omega))).mono ?_
               rintro e v2_ ⟨t, rfl, ht, hta, htb, hby⟩
               rw [HNV.out] at ht
               have hbp1 : Below v1_.heap.size v1_ v2_ := by first | exact hby | exact below_of_drew hby (Nat.le_refl _) | exact ((Below.refl _ _).alloc (Nat.le_refl _) _).trans (hby.mono (by simp)) | exact ((Below.refl _ _).alloc (Nat.le_refl _) _).trans ((below_of_drew hby (Nat.le_refl _)).mono (by simp)) | exact below_of_drew (((Below.refl _ _).alloc (Nat.le_refl _) _).trans (hby.mono (by simp))) (Nat.le_refl _)
               have hz_1 := hz_0.below hbp1
               have hL_1 := hL_0.below hbp1
               have hi2_1 := hi2.below hbp1
               have kz_1 := kz_0.below hbp1
               obtain ⟨kz0v2_, kz1v2_, kz2v2_, kz3v2_, kz4v2_, kz5v2_, kz6v2_⟩ := kz_1.facts
               have kB_1 := kB_0.below hbp1
               obtain ⟨kB0v2_, kB1v2_, kB2v2_, kB3v2_, kB4v2_, kB5v2_, kB6v2_⟩ := kB_1.facts
               have hwq1 := hwq0.trans (hbp1.mono hwq0.size))
            | (go_at_call 23
               refine (rcmpq y t x x _ (by first | exact hz_1 | exact hz_1.drew | exact hz_1.alloc _ | exact (hz_1.alloc _).drew | exact hz_1.drew.alloc _) (by first | exact ht | exact ht.drew | exact ht.alloc _ | exact (ht.alloc _).drew | exact ht.drew.alloc _) (by omega)).mono ?_
               rintro e v3_ ⟨he_, hbz⟩
               rw [HSM.out t v2_ ht] at he_
               subst he_
               have hbp2 : Below v2_.heap.size v2_ v3_ := by first | exact hbz | exact below_of_drew hbz (Nat.le_refl _) | exact ((Below.refl _ _).alloc (Nat.le_refl _) _).trans (hbz.mono (by simp)) | exact ((Below.refl _ _).alloc (Nat.le_refl _) _).trans ((below_of_drew hbz (Nat.le_refl _)).mono (by simp)) | exact below_of_drew (((Below.refl _ _).alloc (Nat.le_refl _) _).trans (hbz.mono (by simp))) (Nat.le_refl _)
               have hz_2 := hz_1.below hbp2
               have hL_2 := hL_1.below hbp2
               have hi2_2 := hi2_1.below hbp2
               have ht_2 := ht.below hbp2
               have kz_2 := kz_1.below hbp2
               obtain ⟨kz0v3_, kz1v3_, kz2v3_, kz3v3_, kz4v3_, kz5v3_, kz6v3_⟩ := kz_2.facts
               have kB_2 := kB_1.below hbp2
               obtain ⟨kB0v3_, kB1v3_, kB2v3_, kB3v3_, kB4v3_, kB5v3_, kB6v3_⟩ := kB_2.facts
               have hwq2 := hwq1.trans (hbp2.mono hwq1.size)))
          all_goals
            go_wp2_with fail
            go_ret
            exact ⟨rfl, hwL.trans (hwq2.mono hwL.size)⟩
        skip
        · obtain ⟨s1, hv, hv3⟩ : ∃ s1 : Int, cmpOf lo 0 = s1 ∧ s1 ≤ 0 := ⟨_, rfl, by unfold cmpOf; split; omega; rw [if_neg (by omega)]; omega⟩
          rw [hv] at he_
          clear hv
          subst he_
          rw [show nearI lo hi = 0 by unfold nearI; rw [if_neg (show ¬ hi < 0 by omega), if_pos (show lo ≤ 0 by omega)]] at HNV
          go_wp2_with fail
          refine (qzero 0 qof0 _).mono ?_
          rintro e w23 ⟨o, rfl, ho23, hoa, hob, hb23⟩
          have kx23 := kx22.below hb23
          have ky23 := ky22.below hb23
          have kz23 := kz22.below hb23
          have hx23 := hx22.below hb23
          have hy23 := hy22.below hb23
          have hz23 := hz22.below hb23
          have kL23 := kL22.below hb23
          have hL23 := hL22.below hb23
          have kH23 := kH22.below hb23
          have hH23 := hH22.below hb23
          have kB23 := kB22.below hb23
          have hw23 := hw22.trans (hb23.mono hw22.size)
          clear kx22 ky22 kz22 hx22 hy22 hz22 kL22 hL22 kH22 hH22 kB22 hw22 hb23
          rw [show (0 : Rat) = mkRat 0 1 from zero_rat.symm] at ho23
          obtain ⟨a0, a1, a2, a3, a4, a5, a6⟩ := kB23.facts
          go_upto_region 22 with fail
          clear a0 a1 a2 a3 a4 a5 a6
          have hkB := kB23.put3_ (.bool o.s) (.slice o.N o.ns.length o.nc) (.slice o.D o.ds.length o.dc)
          have hkz : BlkT 30 (put3 w23 gB (.bool o.s) (.slice o.N o.ns.length o.nc) (.slice o.D o.ds.length o.dc)) gz (.bool y.s) (.slice y.N y.ns.length y.nc) (.slice y.D y.ds.length y.dc) := ((((((kz23).far (p := ⟨gB, 0, none⟩) hne_zB _)).far (p := ⟨gB, 1, none⟩) hne_zB _)).far (p := ⟨gB, 2, none⟩) hne_zB _)
          have hzz := hz23.put3 kB23 (.bool o.s) (.slice o.N o.ns.length o.nc) (.slice o.D o.ds.length o.dc)
          have hoo := ho23.put3 kB23 (.bool o.s) (.slice o.N o.ns.length o.nc) (.slice o.D o.ds.length o.dc)
          have hww := below_put3 hw23 hgB2 (.bool o.s) (.slice o.N o.ns.length o.nc) (.slice o.D o.ds.length o.dc)
          obtain ⟨w24, hwe⟩ : ∃ x, (put3 w23 gB (.bool o.s) (.slice o.N o.ns.length o.nc) (.slice o.D o.ds.length o.dc)) = x := ⟨_, rfl⟩
          rw [hwe] at hkB hkz hzz hoo hww
          simp only [put3] at hwe
          rw [hwe]
          clear hwe
          have kB24 := hkB
          have kz24 := hkz
          have hz24 := hzz
          have ho24 := hoo
          have hw24 := hww
          go_upto_region 22 with fail
          obtain ⟨a0, a1, a2, a3, a4, a5, a6⟩ := kz24.facts
          obtain ⟨b0, b1, b2, b3, b4, b5, b6⟩ := kB24.facts
          have HSM : Hid (∀ (t : RL) (w' : World), t.Ref w' x → cmpOf (sgn y.s (VD y.ns) * VD t.ds) (sgn t.s (VD t.ns) * VD y.ds) = 0) := Lib.hid (fun t w' ht => by obtain ⟨e1, e2, e3⟩ := (hz24).q.inj ht.q; rw [e1, e2, e3]; unfold cmpOf; rw [if_neg (by omega), if_neg (by omega)])
          go_region_held3 (fun w' => w'.cell? ⟨gz, 0, none⟩ = some (.bool y.s) ∧ w'.cell? ⟨gz, 1, none⟩ = some (.slice y.N y.ns.length y.nc) ∧ w'.cell? ⟨gz, 2, none⟩ = some (.slice y.D y.ds.length y.dc) ∧ w'.cell? ⟨gB, 0, none⟩ = some (.bool o.s) ∧ w'.cell? ⟨gB, 1, none⟩ = some (.slice o.N o.ns.length o.nc) ∧ w'.cell? ⟨gB, 2, none⟩ = some (.slice o.D o.ds.length o.dc)) (first | exact ⟨‹_›, ‹_›, ‹_›, ‹_›, ‹_›, ‹_›⟩ | go_keep)
            (first
            | (go_at_call 27
               refine (rint_any (j : Int) (by omega) (by omega) _).mono ?_
               rintro e v1_ ⟨i2, rfl, hi2, i2a, i2b, hbx⟩
               have hbp0 : Below w24.heap.size w24 v1_ := by first | exact hbx | exact below_of_drew hbx (Nat.le_refl _) | exact ((Below.refl _ _).alloc (Nat.le_refl _) _).trans (hbx.mono (by simp)) | exact ((Below.refl _ _).alloc (Nat.le_refl _) _).trans ((below_of_drew hbx (Nat.le_refl _)).mono (by simp)) | exact below_of_drew (((Below.refl _ _).alloc (Nat.le_refl _) _).trans (hbx.mono (by simp))) (Nat.le_refl _)
               have hz_0 := hz24.below hbp0
               have ho_0 := ho24.below hbp0
               have kz_0 := kz24.below hbp0
               obtain ⟨kz0v1_, kz1v1_, kz2v1_, kz3v1_, kz4v1_, kz5v1_, kz6v1_⟩ := kz_0.facts
               have kB_0 := kB24.below hbp0
               obtain ⟨kB0v1_, kB1v1_, kB2v1_, kB3v1_, kB4v1_, kB5v1_, kB6v1_⟩ := kB_0.facts
               have hwq0 := hw24.trans (hbp0.mono hw24.size))
            | (go_at_call 26
               refine (rdivq o i2 _ _ _ (by first | exact ho_0 | exact ho_0.drew | exact ho_0.alloc _ | exact (ho_0.alloc _).drew | exact ho_0.drew.alloc _) (by first | exact hi2 | exact hi2.drew | exact hi2.alloc _ | exact (hi2.alloc _).drew | exact hi2.drew.alloc _) (by omega) (vd_int (show i2.Ref _ (mkRat ((j : Nat) : Int) 1) from (by first | exact hi2 | exact hi2.drew | exact hi2.alloc _ | exact (hi2.alloc _).drew | exact hi2.drew.alloc _)) (by omega))).mono ?_
               rintro e v2_ ⟨t, rfl, ht, hta, htb, hby⟩
               rw [HNV.out] at ht
               have hbp1 : Below v1_.heap.size v1_ v2_ := by first | exact hby | exact below_of_drew hby (Nat.le_refl _) | exact ((Below.refl _ _).alloc (Nat.le_refl _) _).trans (hby.mono (by simp)) | exact ((Below.refl _ _).alloc (Nat.le_refl _) _).trans ((below_of_drew hby (Nat.le_refl _)).mono (by simp)) | exact below_of_drew (((Below.refl _ _).alloc (Nat.le_refl _) _).trans (hby.mono (by simp))) (Nat.le_refl _)
               have hz_1 := hz_0.below hbp1
               have ho_1 := ho_0.below hbp1
               have hi2_1 := hi2.below hbp1
               have kz_1 := kz_0.below hbp1
               obtain ⟨kz0v2_, kz1v2_, kz2v2_, kz3v2_, kz4v2_, kz5v2_, kz6v2_⟩ := kz_1.facts
               have kB_1 := kB_0.below hbp1
               obtain ⟨kB0v2_, kB1v2_, kB2v2_, kB3v2_, kB4v2_, kB5v2_, kB6v2_⟩ := kB_1.facts
               have hwq1 := hwq0.trans (hbp1.mono hwq0.size))
            | (go_at_call 23
               refine (rcmpq y t x x _ (by first | exact hz_1 | exact hz_1.drew | exact hz_1.alloc _ | exact (hz_1.alloc _).drew | exact hz_1.drew.alloc _) (by first | exact ht | exact ht.drew | exact ht.alloc _ | exact (ht.alloc _).drew | exact ht.drew.alloc _) (by omega)).mono ?_
               rintro e v3_ ⟨he_, hbz⟩
               rw [HSM.out t v2_ ht] at he_
               subst he_
               have hbp2 : Below v2_.heap.size v2_ v3_ := by first | exact hbz | exact below_of_drew hbz (Nat.le_refl _) | exact ((Below.refl _ _).alloc (Nat.le_refl _) _).trans (hbz.mono (by simp)) | exact ((Below.refl _ _).alloc (Nat.le_refl _) _).trans ((below_of_drew hbz (Nat.le_refl _)).mono (by simp)) | exact below_of_drew (((Below.refl _ _).alloc (Nat.le_refl _) _).trans (hbz.mono (by simp))) (Nat.le_refl _)
               have hz_2 := hz_1.below hbp2
               have ho_2 := ho_1.below hbp2
               have hi2_2 := hi2_1.below hbp2
               have ht_2 := ht.below hbp2
               have kz_2 := kz_1.below hbp2
               obtain ⟨kz0v3_, kz1v3_, kz2v3_, kz3v3_, kz4v3_, kz5v3_, kz6v3_⟩ := kz_2.facts
               have kB_2 := kB_1.below hbp2
               obtain ⟨kB0v3_, kB1v3_, kB2v3_, kB3v3_, kB4v3_, kB5v3_, kB6v3_⟩ := kB_2.facts
               have hwq2 := hwq1.trans (hbp2.mono hwq1.size)))
          all_goals
            go_wp2_with fail
            go_ret
            exact ⟨rfl, hwL.trans (hwq2.mono hwL.size)⟩
end Go.Proofs.YtopppmlkddajjaaGreatDoor

