/- isochronelaw02.RatSimplest answers true: the walk. -/
import Derived.Test.YtopppmlkddajjaaGreatDoorQSR27
namespace Go.Proofs.YtopppmlkddajjaaGreatDoor
open Go.RowKit V
set_option maxRecDepth 100000 in
set_option maxHeartbeats 20000000 in
theorem rs_gt (n m : Int) (d e : Nat) (hn1 : -2147483648 ≤ n) (hn2 : n ≤ 2147483647) (hm1 : -2147483648 ≤ m) (hm2 : m ≤ 2147483647) (hd : d < 65536) (he : e < 65536) (D1 D2 : Nat) (HD1 : Hid ((d : Int) % 400 + 1 = (D1 : Int))) (HD2 : Hid ((e : Int) % 400 + 1 = (D2 : Int))) (h1 : 1 ≤ D1) (h2 : D1 ≤ 400) (h3 : 1 ≤ D2) (h4 : D2 ≤ 400) (p q : Rat) (HP : Hid (mkRat n 1 / mkRat (D1 : Int) 1 = p)) (HQ : Hid (mkRat m 1 / mkRat (D2 : Int) 1 = q)) (HPN : Hid (p.num.natAbs ≤ 4294967296 ∧ p.den ≤ 400)) (HQN : Hid (q.num.natAbs ≤ 4294967296 ∧ q.den ≤ 400)) (HC : Hid (q.num * p.den < p.num * q.den)) (c0 : Int) (hc0 : 0 < c0) (HCM0 : Hid (cmpOf (p.num * q.den) (q.num * p.den) = c0)) (w : World) (htab : Lib.TabBelow Tryz.prog w.heap.size w "internal/strconv.uint64pow10" .u64 Lib.pow10Tab) :
    Calls Tryz.prog 4 #[.int .i32 n, .int .i32 m, .int .u16 d, .int .u16 e] w (Yes w) := by
  have HT := Lib.hid htab
  clear htab
  go_enter Tryz.func4, Tryz.ntmps4
  go_wp2_with fail
  refine (qawake_yes _ HT.out).mono ?_
  rintro e w1 ⟨rfl, hb1⟩
  have hw1 := hb1
  clear hb1
  go_wp2_with fail
  refine (rint_any n (by omega) (by omega) _).mono ?_
  rintro e w2 ⟨y1, rfl, hy12, y1a, y1b, hb2⟩
  have hw2 := hw1.trans (hb2.mono hw1.size)
  clear hw1 hb2
  go_wp2_with fail
  rw [HD1.out]
  refine (rint_any (D1 : Int) (by omega) (by omega) _).mono ?_
  rintro e w3 ⟨y2, rfl, hy23, y2a, y2b, hb3⟩
  have hy13 := hy12.below hb3
  have hw3 := hw2.trans (hb3.mono hw2.size)
  clear hy12 hw2 hb3
  go_wp2_with fail
  refine (rdivq y1 y2 _ _ _ hy13 hy23 (by omega) (vd_int hy23 (by omega))).mono ?_
  rintro e w4 ⟨u, rfl, hx4, hxa, hxb, hb4⟩
  have hy14 := hy13.below hb4
  have hy24 := hy23.below hb4
  have hw4 := hw3.trans (hb4.mono hw3.size)
  clear hy13 hy23 hw3 hb4
  rw [HP.out] at hx4
  clear hy14 hy24
  go_upto_region 4 with fail
  have kx5 := BlkT.new 30 w4 (.bool u.s) (.slice u.N u.ns.length u.nc) (.slice u.D u.ds.length u.dc)
  have hb5 : Below w4.heap.size w4 (w4.alloc (.cells #[.bool u.s, .slice u.N u.ns.length u.nc, .slice u.D u.ds.length u.dc] 30)) := (Below.refl _ _).alloc (Nat.le_refl _) _
  obtain ⟨w5, hwe⟩ : ∃ x, w4.alloc (.cells #[.bool u.s, .slice u.N u.ns.length u.nc, .slice u.D u.ds.length u.dc] 30) = x := ⟨_, rfl⟩
  rw [hwe] at kx5 hb5 ⊢
  clear hwe
  have hx5 := hx4.below hb5
  have hw5 := hw4.trans (hb5.mono hw4.size)
  clear hx4 hw4 hb5
  go_wp2_with fail
  refine (rint_any m (by omega) (by omega) _).mono ?_
  rintro e w6 ⟨y3, rfl, hy36, y3a, y3b, hb6⟩
  have hx6 := hx5.below hb6
  have kx6 := kx5.below hb6
  have hw6 := hw5.trans (hb6.mono hw5.size)
  clear hx5 kx5 hw5 hb6
  go_wp2_with fail
  rw [HD2.out]
  refine (rint_any (D2 : Int) (by omega) (by omega) _).mono ?_
  rintro e w7 ⟨y4, rfl, hy47, y4a, y4b, hb7⟩
  have hx7 := hx6.below hb7
  have kx7 := kx6.below hb7
  have hy37 := hy36.below hb7
  have hw7 := hw6.trans (hb7.mono hw6.size)
  clear hx6 kx6 hy36 hw6 hb7
  go_wp2_with fail
  refine (rdivq y3 y4 _ _ _ hy37 hy47 (by omega) (vd_int hy47 (by omega))).mono ?_
  rintro e w8 ⟨v, rfl, hy8, hya, hyb, hb8⟩
  have hx8 := hx7.below hb8
  have kx8 := kx7.below hb8
  have hy38 := hy37.below hb8
  have hy48 := hy47.below hb8
  have hw8 := hw7.trans (hb8.mono hw7.size)
  clear hx7 kx7 hy37 hy47 hw7 hb8
  rw [HQ.out] at hy8
  clear hy38 hy48
  go_upto_region 5 with fail
  have ky9 := BlkT.new 30 w8 (.bool v.s) (.slice v.N v.ns.length v.nc) (.slice v.D v.ds.length v.dc)
  have hb9 : Below w8.heap.size w8 (w8.alloc (.cells #[.bool v.s, .slice v.N v.ns.length v.nc, .slice v.D v.ds.length v.dc] 30)) := (Below.refl _ _).alloc (Nat.le_refl _) _
  obtain ⟨w9, hwe⟩ : ∃ x, w8.alloc (.cells #[.bool v.s, .slice v.N v.ns.length v.nc, .slice v.D v.ds.length v.dc] 30) = x := ⟨_, rfl⟩
  rw [hwe] at ky9 hb9 ⊢
  clear hwe
  have hx9 := hx8.below hb9
  have kx9 := kx8.below hb9
  have hy9 := hy8.below hb9
  have hw9 := hw8.trans (hb9.mono hw8.size)
  clear hx8 kx8 hy8 hw8 hb9
  have hgx : w4.heap.size < w9.heap.size := kx9.lt
  have hgy : w8.heap.size < w9.heap.size := ky9.lt
  skip
  obtain ⟨ga, hga⟩ : ∃ g, w4.heap.size = g := ⟨_, rfl⟩
  obtain ⟨gb, hgb⟩ : ∃ g, w8.heap.size = g := ⟨_, rfl⟩
  rw [hga] at kx9 hgx
  rw [hgb] at ky9 hgy
  rw [hga, hgb]
  have HGA := Lib.hid hga
  have HGB := Lib.hid hgb
  clear hga hgb
  go_cut [11, 12] (fun s11 s12 wx => ∃ g3, s11 = .pointer (some ⟨g3, 0, none⟩) ∧ s12 = .int .i64 1 ∧ Blk3 wx g3 (.bool false) (.slice none 0 0) (.slice none 0 0) ∧ BlkT 30 wx ga (.bool u.s) (.slice u.N u.ns.length u.nc) (.slice u.D u.ds.length u.dc) ∧ BlkT 30 wx gb (.bool v.s) (.slice v.N v.ns.length v.nc) (.slice v.D v.ds.length v.dc) ∧ u.Ref wx p ∧ v.Ref wx q ∧ Below w9.heap.size w9 wx)
  case first =>
    refine wp_region_held_drew (S := fun w' => w'.cell? ⟨ga, 0, none⟩ = some (.bool u.s) ∧ w'.cell? ⟨ga, 1, none⟩ = some (.slice u.N u.ns.length u.nc) ∧ w'.cell? ⟨ga, 2, none⟩ = some (.slice u.D u.ds.length u.dc) ∧ w'.cell? ⟨gb, 0, none⟩ = some (.bool v.s) ∧ w'.cell? ⟨gb, 1, none⟩ = some (.slice v.N v.ns.length v.nc) ∧ w'.cell? ⟨gb, 2, none⟩ = some (.slice v.D v.ds.length v.dc)) (by kernel_rfl) ?_ (fun hHeld => ?_)
    · first | exact ⟨kx9.facts.c0, kx9.facts.c1, kx9.facts.c2, ky9.facts.c0, ky9.facts.c1, ky9.facts.c2⟩ | exact ⟨‹_›, ‹_›, ‹_›, ‹_›, ‹_›, ‹_›⟩ | go_keep
    refine wpAnyH_take (i := 0) (v := ?v0) rfl (by kernel_rfl) (by kernel_rfl) (by kernel_rfl) (fun _ _ _ h => h) (Or.inl ⟨by rfl, ?hy0⟩) (by assumption) ?rest0
    case hy0 =>
      intro w hSw
      (try dsimp only at hSw)
      go_simp
      all_goals with_reducible rfl
    simp only [Act.put, List.getElem_toArray, List.getElem_cons_zero, List.setIfInBounds_toArray, List.set_cons_zero, List.set_cons_succ]
    refine wpAnyH_take (i := 2) (v := ?v2) rfl (by kernel_rfl) (by kernel_rfl) (by kernel_rfl) (fun _ _ _ h => h) (Or.inl ⟨by rfl, ?hy2⟩) (by assumption) ?rest2
    case hy2 =>
      intro w hSw
      (try dsimp only at hSw)
      go_simp
      all_goals with_reducible rfl
    simp only [Act.put, List.getElem_toArray, List.getElem_cons_zero, List.getElem_cons_succ, List.setIfInBounds_toArray, List.set_cons_zero, List.set_cons_succ]
    have hbd : Below w9.heap.size w9 w9.drew := below_drew_ (Below.refl _ _) 1
    obtain ⟨wd, hwd⟩ : ∃ x, w9.drew = x := ⟨_, rfl⟩
    rw [hwd] at hbd ⊢
    clear hwd
    have kx_d := kx9.below hbd
    have ky_d := ky9.below hbd
    have hx_d := hx9.below hbd
    have hy_d := hy9.below hbd
    refine wpAnyH_ready (rs := [1, 8]) (by kernel_rfl) (by simp) ?_
    refine AllReadyH.cons (o := _) rfl (fun K hK => ?_) (AllReadyH.cons (o := _) rfl (fun K hK => ?_) AllReadyH.nil)
    · go_simp
      go_at_call 29
      refine (qto u p _ hx_d (by omega) (by omega)).mono ?_
      rintro e x1 ⟨a, rfl, hax1, a1_, a2_, hbx1⟩
      obtain ⟨la1, la2⟩ := is_small hax1 HPN.out.1 HPN.out.2
      go_wp2_with fail
      have kxx1 := kx_d.below hbx1
      have kyx1 := ky_d.below hbx1
      have hxx1 := hx_d.below hbx1
      have hyx1 := hy_d.below hbx1
      have hwx1 := hbd.trans (hbx1.mono hbd.size)
      refine hK.out _ _ ?_ (fun hHeld => ?_)
      · exact ⟨kxx1.facts.c0, kxx1.facts.c1, kxx1.facts.c2, kyx1.facts.c0, kyx1.facts.c1, kyx1.facts.c2⟩
      clear hK K
      try simp only [Act.put, List.getElem_toArray, List.getElem_cons_zero, List.getElem_cons_succ, List.setIfInBounds_toArray, List.set_cons_zero, List.set_cons_succ]
      clear hHeld
      refine wpAnyH_ready (rs := [3, 8]) (by kernel_rfl) (by simp) ?_
      refine AllReadyH.cons (o := _) rfl (fun K hK => ?_) (AllReadyH.cons (o := _) rfl (fun K hK => ?_) AllReadyH.nil)
      · go_simp
        go_at_call 29
        refine (qto v q _ hyx1 (by omega) (by omega)).mono ?_
        rintro e x2 ⟨b, rfl, hbqx2, b1_, b2_, hbx2⟩
        obtain ⟨lb1, lb2⟩ := is_small hbqx2 HQN.out.1 HQN.out.2
        go_wp2_with fail
        have kxx2 := kxx1.below hbx2
        have kyx2 := kyx1.below hbx2
        have hxx2 := hxx1.below hbx2
        have hyx2 := hyx1.below hbx2
        have hax2 := hax1.below hbx2
        have hwx2 := hwx1.trans (hbx2.mono hwx1.size)
        refine hK.out _ _ ?_ (fun hHeld => ?_)
        · exact ⟨kxx2.facts.c0, kxx2.facts.c1, kxx2.facts.c2, kyx2.facts.c0, kyx2.facts.c1, kyx2.facts.c2⟩
        clear hK K
        try simp only [Act.put, List.getElem_toArray, List.getElem_cons_zero, List.getElem_cons_succ, List.setIfInBounds_toArray, List.set_cons_zero, List.set_cons_succ]
        clear hHeld
        refine wpAnyH_ready (rs := [4, 8]) (by kernel_rfl) (by simp) ?_
        refine AllReadyH.cons (o := _) rfl (fun K hK => ?_) (AllReadyH.cons (o := _) rfl (fun K hK => ?_) AllReadyH.nil)
        · go_simp
          go_at_call 28
          refine (simplest_gt a b p q _ hax2 hbqx2 la1 la2 lb1 lb2 HC.out).mono ?_
          rintro e x3 ⟨rfl, hbx3⟩
          go_wp2_with fail
          have kxx3 := kxx2.below hbx3
          have kyx3 := kyx2.below hbx3
          have hxx3 := hxx2.below hbx3
          have hyx3 := hyx2.below hbx3
          have hax3 := hax2.below hbx3
          have hbqx3 := hbqx2.below hbx3
          have hwx3 := hwx2.trans (hbx3.mono hwx2.size)
          refine hK.out _ _ ?_ (fun hHeld => ?_)
          · exact ⟨kxx3.facts.c0, kxx3.facts.c1, kxx3.facts.c2, kyx3.facts.c0, kyx3.facts.c1, kyx3.facts.c2⟩
          clear hK K
          try simp only [Act.put, List.getElem_toArray, List.getElem_cons_zero, List.getElem_cons_succ, List.setIfInBounds_toArray, List.set_cons_zero, List.set_cons_succ]
          refine wpAnyH_take (i := 5) (v := ?v5x3) rfl (by kernel_rfl) (by kernel_rfl) (by kernel_rfl) (fun _ _ _ h => h) (Or.inl ⟨by rfl, ?hy5x3⟩) (by assumption) ?rest5x3
          case hy5x3 =>
            intro w hSw
            (try dsimp only at hSw)
            go_simp
            all_goals with_reducible rfl
          simp only [Act.put, List.getElem_toArray, List.getElem_cons_zero, List.getElem_cons_succ, List.setIfInBounds_toArray, List.set_cons_zero, List.set_cons_succ]
          refine wpAnyH_take (i := 6) (v := ?v6x3) rfl (by kernel_rfl) (by kernel_rfl) (by kernel_rfl) (fun _ _ _ h => h) (Or.inl ⟨by rfl, ?hy6x3⟩) (by assumption) ?rest6x3
          case hy6x3 =>
            intro w hSw
            (try dsimp only at hSw)
            go_simp
            all_goals with_reducible rfl
          simp only [Act.put, List.getElem_toArray, List.getElem_cons_zero, List.getElem_cons_succ, List.setIfInBounds_toArray, List.set_cons_zero, List.set_cons_succ]
          refine wpAnyH_take (i := 7) (v := ?v7x3) rfl (by kernel_rfl) (by kernel_rfl) (by kernel_rfl) (fun _ _ _ h => h) (Or.inl ⟨by rfl, ?hy7x3⟩) (by assumption) ?rest7x3
          case hy7x3 =>
            intro w hSw
            (try dsimp only at hSw)
            go_simp
            all_goals with_reducible rfl
          simp only [Act.put, List.getElem_toArray, List.getElem_cons_zero, List.getElem_cons_succ, List.setIfInBounds_toArray, List.set_cons_zero, List.set_cons_succ]
          clear hHeld
          refine wpAnyH_ready (rs := [8]) (by kernel_rfl) (by simp) ?_
          refine AllReadyH.cons (o := _) rfl (fun K hK => ?_) AllReadyH.nil
          · go_simp
            refine hK.out _ _ ?_ (fun hHeld => ?_)
            · exact ⟨(kxx3.alloc _).facts.c0, (kxx3.alloc _).facts.c1, (kxx3.alloc _).facts.c2, (kyx3.alloc _).facts.c0, (kyx3.alloc _).facts.c1, (kyx3.alloc _).facts.c2⟩
            clear hK K hHeld
            try simp only [Act.put, List.getElem_toArray, List.getElem_cons_zero, List.getElem_cons_succ, List.setIfInBounds_toArray, List.set_cons_zero, List.set_cons_succ]
            have hbx4 : Below x3.heap.size x3 (x3.alloc (.cells #[.bool false, .slice none 0 0, .slice none 0 0] 24)) := (Below.refl _ _).alloc (Nat.le_refl _) _
            have hzx4 := Blk3.new x3 (.bool false) (.slice none 0 0) (.slice none 0 0)
            obtain ⟨x4, hwe⟩ : ∃ x, x3.alloc (.cells #[.bool false, .slice none 0 0, .slice none 0 0] 24) = x := ⟨_, rfl⟩
            rw [hwe] at hbx4 hzx4 ⊢
            clear hwe
            have kxx4 := kxx3.below hbx4
            have kyx4 := kyx3.below hbx4
            have hxx4 := hxx3.below hbx4
            have hyx4 := hyx3.below hbx4
            have hax4 := hax3.below hbx4
            have hbqx4 := hbqx3.below hbx4
            have hwx4 := hwx3.trans (hbx4.mono hwx3.size)
            have hgehz : w9.heap.size ≤ x3.heap.size := hwx3.size
            refine wpAnyH_ready (rs := [9]) (by kernel_rfl) (by simp) ?_
            refine AllReadyH.cons (o := _) rfl (fun K hK => ?_) AllReadyH.nil
            obtain ⟨z0, z1, z2, z3, z4, z5, z6⟩ := hzx4.facts
            go_simp
            clear z0 z1 z2 z3 z4 z5 z6
            have hne1 : ga ≠ x3.heap.size := Nat.ne_of_lt (Nat.lt_of_lt_of_le hgx hgehz)
            have hne2 : gb ≠ x3.heap.size := Nat.ne_of_lt (Nat.lt_of_lt_of_le hgy hgehz)
            have hkx : BlkT _ (put3 x4 (x3.heap.size) (.bool false) (.slice none 0 0) (.slice none 0 0)) _ _ _ _ := ((((((kxx4).far (p := ⟨x3.heap.size, 0, none⟩) hne1 _)).far (p := ⟨x3.heap.size, 1, none⟩) hne1 _)).far (p := ⟨x3.heap.size, 2, none⟩) hne1 _)
            have hky : BlkT _ (put3 x4 (x3.heap.size) (.bool false) (.slice none 0 0) (.slice none 0 0)) _ _ _ _ := ((((((kyx4).far (p := ⟨x3.heap.size, 0, none⟩) hne2 _)).far (p := ⟨x3.heap.size, 1, none⟩) hne2 _)).far (p := ⟨x3.heap.size, 2, none⟩) hne2 _)
            have hkz : Blk3 (put3 x4 (x3.heap.size) (.bool false) (.slice none 0 0) (.slice none 0 0)) (x3.heap.size) (.bool false) (.slice none 0 0) (.slice none 0 0) := hzx4.put3_ (.bool false) (.slice none 0 0) (.slice none 0 0)
            have hxs : u.Ref (put3 x4 (x3.heap.size) (.bool false) (.slice none 0 0) (.slice none 0 0)) p := hxx4.put3 hzx4 (.bool false) (.slice none 0 0) (.slice none 0 0)
            have hys : v.Ref (put3 x4 (x3.heap.size) (.bool false) (.slice none 0 0) (.slice none 0 0)) q := hyx4.put3 hzx4 (.bool false) (.slice none 0 0) (.slice none 0 0)
            have hws : Below w9.heap.size w9 (put3 x4 (x3.heap.size) (.bool false) (.slice none 0 0) (.slice none 0 0)) := below_put3 hwx4 hgehz (.bool false) (.slice none 0 0) (.slice none 0 0)
            refine hK.out _ _ ?_ (fun hHeld => ?_)
            · exact ⟨hkx.facts.c0, hkx.facts.c1, hkx.facts.c2, hky.facts.c0, hky.facts.c1, hky.facts.c2⟩
            clear hK K
            try simp only [Act.put, List.getElem_toArray, List.getElem_cons_zero, List.getElem_cons_succ, List.setIfInBounds_toArray, List.set_cons_zero, List.set_cons_succ]
            refine wpAnyH_take (i := 10) (v := ?v10x4) rfl (by kernel_rfl) (by kernel_rfl) (by kernel_rfl) (fun _ _ _ h => h) (Or.inl ⟨by rfl, ?hy10x4⟩) (by assumption) ?rest10x4
            case hy10x4 =>
              intro w hSw
              (try dsimp only at hSw)
              go_simp
              all_goals with_reducible rfl
            simp only [Act.put, List.getElem_toArray, List.getElem_cons_zero, List.getElem_cons_succ, List.setIfInBounds_toArray, List.set_cons_zero, List.set_cons_succ]
            clear hHeld
            refine wpAnyH_done (by kernel_rfl) ?_ _
            go_wp2_with fail
            go_meet
            exact ⟨_, rfl, rfl, hkz, hkx, hky, hxs, hys, hws⟩
        · go_simp
          refine hK.out _ _ ?_ (fun hHeld => ?_)
          · exact ⟨(kxx2.alloc _).facts.c0, (kxx2.alloc _).facts.c1, (kxx2.alloc _).facts.c2, (kyx2.alloc _).facts.c0, (kyx2.alloc _).facts.c1, (kyx2.alloc _).facts.c2⟩
          clear hK K hHeld
          try simp only [Act.put, List.getElem_toArray, List.getElem_cons_zero, List.getElem_cons_succ, List.setIfInBounds_toArray, List.set_cons_zero, List.set_cons_succ]
          have hbx5 : Below x2.heap.size x2 (x2.alloc (.cells #[.bool false, .slice none 0 0, .slice none 0 0] 24)) := (Below.refl _ _).alloc (Nat.le_refl _) _
          have hzx5 := Blk3.new x2 (.bool false) (.slice none 0 0) (.slice none 0 0)
          obtain ⟨x5, hwe⟩ : ∃ x, x2.alloc (.cells #[.bool false, .slice none 0 0, .slice none 0 0] 24) = x := ⟨_, rfl⟩
          rw [hwe] at hbx5 hzx5 ⊢
          clear hwe
          have kxx5 := kxx2.below hbx5
          have kyx5 := kyx2.below hbx5
          have hxx5 := hxx2.below hbx5
          have hyx5 := hyx2.below hbx5
          have hax5 := hax2.below hbx5
          have hbqx5 := hbqx2.below hbx5
          have hwx5 := hwx2.trans (hbx5.mono hwx2.size)
          have hgehz : w9.heap.size ≤ x2.heap.size := hwx2.size
          refine wpAnyH_ready (rs := [4]) (by kernel_rfl) (by simp) ?_
          refine AllReadyH.cons (o := _) rfl (fun K hK => ?_) AllReadyH.nil
          · go_simp
            go_at_call 28
            refine (simplest_gt a b p q _ hax5 hbqx5 la1 la2 lb1 lb2 HC.out).mono ?_
            rintro e x6 ⟨rfl, hbx6⟩
            go_wp2_with fail
            have kxx6 := kxx5.below hbx6
            have kyx6 := kyx5.below hbx6
            have hxx6 := hxx5.below hbx6
            have hyx6 := hyx5.below hbx6
            have hax6 := hax5.below hbx6
            have hbqx6 := hbqx5.below hbx6
            have hzx6 := hzx5.below hbx6
            have hwx6 := hwx5.trans (hbx6.mono hwx5.size)
            refine hK.out _ _ ?_ (fun hHeld => ?_)
            · exact ⟨kxx6.facts.c0, kxx6.facts.c1, kxx6.facts.c2, kyx6.facts.c0, kyx6.facts.c1, kyx6.facts.c2⟩
            clear hK K
            try simp only [Act.put, List.getElem_toArray, List.getElem_cons_zero, List.getElem_cons_succ, List.setIfInBounds_toArray, List.set_cons_zero, List.set_cons_succ]
            refine wpAnyH_take (i := 5) (v := ?v5x6) rfl (by kernel_rfl) (by kernel_rfl) (by kernel_rfl) (fun _ _ _ h => h) (Or.inl ⟨by rfl, ?hy5x6⟩) (by assumption) ?rest5x6
            case hy5x6 =>
              intro w hSw
              (try dsimp only at hSw)
              go_simp
              all_goals with_reducible rfl
            simp only [Act.put, List.getElem_toArray, List.getElem_cons_zero, List.getElem_cons_succ, List.setIfInBounds_toArray, List.set_cons_zero, List.set_cons_succ]
            refine wpAnyH_take (i := 6) (v := ?v6x6) rfl (by kernel_rfl) (by kernel_rfl) (by kernel_rfl) (fun _ _ _ h => h) (Or.inl ⟨by rfl, ?hy6x6⟩) (by assumption) ?rest6x6
            case hy6x6 =>
              intro w hSw
              (try dsimp only at hSw)
              go_simp
              all_goals with_reducible rfl
            simp only [Act.put, List.getElem_toArray, List.getElem_cons_zero, List.getElem_cons_succ, List.setIfInBounds_toArray, List.set_cons_zero, List.set_cons_succ]
            refine wpAnyH_take (i := 7) (v := ?v7x6) rfl (by kernel_rfl) (by kernel_rfl) (by kernel_rfl) (fun _ _ _ h => h) (Or.inl ⟨by rfl, ?hy7x6⟩) (by assumption) ?rest7x6
            case hy7x6 =>
              intro w hSw
              (try dsimp only at hSw)
              go_simp
              all_goals with_reducible rfl
            simp only [Act.put, List.getElem_toArray, List.getElem_cons_zero, List.getElem_cons_succ, List.setIfInBounds_toArray, List.set_cons_zero, List.set_cons_succ]
            clear hHeld
            refine wpAnyH_ready (rs := [9]) (by kernel_rfl) (by simp) ?_
            refine AllReadyH.cons (o := _) rfl (fun K hK => ?_) AllReadyH.nil
            obtain ⟨z0, z1, z2, z3, z4, z5, z6⟩ := hzx6.facts
            go_simp
            clear z0 z1 z2 z3 z4 z5 z6
            have hne1 : ga ≠ x2.heap.size := Nat.ne_of_lt (Nat.lt_of_lt_of_le hgx hgehz)
            have hne2 : gb ≠ x2.heap.size := Nat.ne_of_lt (Nat.lt_of_lt_of_le hgy hgehz)
            have hkx : BlkT _ (put3 x6 (x2.heap.size) (.bool false) (.slice none 0 0) (.slice none 0 0)) _ _ _ _ := ((((((kxx6).far (p := ⟨x2.heap.size, 0, none⟩) hne1 _)).far (p := ⟨x2.heap.size, 1, none⟩) hne1 _)).far (p := ⟨x2.heap.size, 2, none⟩) hne1 _)
            have hky : BlkT _ (put3 x6 (x2.heap.size) (.bool false) (.slice none 0 0) (.slice none 0 0)) _ _ _ _ := ((((((kyx6).far (p := ⟨x2.heap.size, 0, none⟩) hne2 _)).far (p := ⟨x2.heap.size, 1, none⟩) hne2 _)).far (p := ⟨x2.heap.size, 2, none⟩) hne2 _)
            have hkz : Blk3 (put3 x6 (x2.heap.size) (.bool false) (.slice none 0 0) (.slice none 0 0)) (x2.heap.size) (.bool false) (.slice none 0 0) (.slice none 0 0) := hzx6.put3_ (.bool false) (.slice none 0 0) (.slice none 0 0)
            have hxs : u.Ref (put3 x6 (x2.heap.size) (.bool false) (.slice none 0 0) (.slice none 0 0)) p := hxx6.put3 hzx6 (.bool false) (.slice none 0 0) (.slice none 0 0)
            have hys : v.Ref (put3 x6 (x2.heap.size) (.bool false) (.slice none 0 0) (.slice none 0 0)) q := hyx6.put3 hzx6 (.bool false) (.slice none 0 0) (.slice none 0 0)
            have hws : Below w9.heap.size w9 (put3 x6 (x2.heap.size) (.bool false) (.slice none 0 0) (.slice none 0 0)) := below_put3 hwx6 hgehz (.bool false) (.slice none 0 0) (.slice none 0 0)
            refine hK.out _ _ ?_ (fun hHeld => ?_)
            · exact ⟨hkx.facts.c0, hkx.facts.c1, hkx.facts.c2, hky.facts.c0, hky.facts.c1, hky.facts.c2⟩
            clear hK K
            try simp only [Act.put, List.getElem_toArray, List.getElem_cons_zero, List.getElem_cons_succ, List.setIfInBounds_toArray, List.set_cons_zero, List.set_cons_succ]
            refine wpAnyH_take (i := 10) (v := ?v10x6) rfl (by kernel_rfl) (by kernel_rfl) (by kernel_rfl) (fun _ _ _ h => h) (Or.inl ⟨by rfl, ?hy10x6⟩) (by assumption) ?rest10x6
            case hy10x6 =>
              intro w hSw
              (try dsimp only at hSw)
              go_simp
              all_goals with_reducible rfl
            simp only [Act.put, List.getElem_toArray, List.getElem_cons_zero, List.getElem_cons_succ, List.setIfInBounds_toArray, List.set_cons_zero, List.set_cons_succ]
            clear hHeld
            refine wpAnyH_done (by kernel_rfl) ?_ _
            go_wp2_with fail
            go_meet
            exact ⟨_, rfl, rfl, hkz, hkx, hky, hxs, hys, hws⟩
      · go_simp
        refine hK.out _ _ ?_ (fun hHeld => ?_)
        · exact ⟨(kxx1.alloc _).facts.c0, (kxx1.alloc _).facts.c1, (kxx1.alloc _).facts.c2, (kyx1.alloc _).facts.c0, (kyx1.alloc _).facts.c1, (kyx1.alloc _).facts.c2⟩
        clear hK K hHeld
        try simp only [Act.put, List.getElem_toArray, List.getElem_cons_zero, List.getElem_cons_succ, List.setIfInBounds_toArray, List.set_cons_zero, List.set_cons_succ]
        have hbx7 : Below x1.heap.size x1 (x1.alloc (.cells #[.bool false, .slice none 0 0, .slice none 0 0] 24)) := (Below.refl _ _).alloc (Nat.le_refl _) _
        have hzx7 := Blk3.new x1 (.bool false) (.slice none 0 0) (.slice none 0 0)
        obtain ⟨x7, hwe⟩ : ∃ x, x1.alloc (.cells #[.bool false, .slice none 0 0, .slice none 0 0] 24) = x := ⟨_, rfl⟩
        rw [hwe] at hbx7 hzx7 ⊢
        clear hwe
        have kxx7 := kxx1.below hbx7
        have kyx7 := kyx1.below hbx7
        have hxx7 := hxx1.below hbx7
        have hyx7 := hyx1.below hbx7
        have hax7 := hax1.below hbx7
        have hwx7 := hwx1.trans (hbx7.mono hwx1.size)
        have hgehz : w9.heap.size ≤ x1.heap.size := hwx1.size
        refine wpAnyH_ready (rs := [3]) (by kernel_rfl) (by simp) ?_
        refine AllReadyH.cons (o := _) rfl (fun K hK => ?_) AllReadyH.nil
        · go_simp
          go_at_call 29
          refine (qto v q _ hyx7 (by omega) (by omega)).mono ?_
          rintro e x8 ⟨b, rfl, hbqx8, b1_, b2_, hbx8⟩
          obtain ⟨lb1, lb2⟩ := is_small hbqx8 HQN.out.1 HQN.out.2
          go_wp2_with fail
          have kxx8 := kxx7.below hbx8
          have kyx8 := kyx7.below hbx8
          have hxx8 := hxx7.below hbx8
          have hyx8 := hyx7.below hbx8
          have hax8 := hax7.below hbx8
          have hzx8 := hzx7.below hbx8
          have hwx8 := hwx7.trans (hbx8.mono hwx7.size)
          refine hK.out _ _ ?_ (fun hHeld => ?_)
          · exact ⟨kxx8.facts.c0, kxx8.facts.c1, kxx8.facts.c2, kyx8.facts.c0, kyx8.facts.c1, kyx8.facts.c2⟩
          clear hK K
          try simp only [Act.put, List.getElem_toArray, List.getElem_cons_zero, List.getElem_cons_succ, List.setIfInBounds_toArray, List.set_cons_zero, List.set_cons_succ]
          clear hHeld
          refine wpAnyH_ready (rs := [4]) (by kernel_rfl) (by simp) ?_
          refine AllReadyH.cons (o := _) rfl (fun K hK => ?_) AllReadyH.nil
          · go_simp
            go_at_call 28
            refine (simplest_gt a b p q _ hax8 hbqx8 la1 la2 lb1 lb2 HC.out).mono ?_
            rintro e x9 ⟨rfl, hbx9⟩
            go_wp2_with fail
            have kxx9 := kxx8.below hbx9
            have kyx9 := kyx8.below hbx9
            have hxx9 := hxx8.below hbx9
            have hyx9 := hyx8.below hbx9
            have hax9 := hax8.below hbx9
            have hzx9 := hzx8.below hbx9
            have hbqx9 := hbqx8.below hbx9
            have hwx9 := hwx8.trans (hbx9.mono hwx8.size)
            refine hK.out _ _ ?_ (fun hHeld => ?_)
            · exact ⟨kxx9.facts.c0, kxx9.facts.c1, kxx9.facts.c2, kyx9.facts.c0, kyx9.facts.c1, kyx9.facts.c2⟩
            clear hK K
            try simp only [Act.put, List.getElem_toArray, List.getElem_cons_zero, List.getElem_cons_succ, List.setIfInBounds_toArray, List.set_cons_zero, List.set_cons_succ]
            refine wpAnyH_take (i := 5) (v := ?v5x9) rfl (by kernel_rfl) (by kernel_rfl) (by kernel_rfl) (fun _ _ _ h => h) (Or.inl ⟨by rfl, ?hy5x9⟩) (by assumption) ?rest5x9
            case hy5x9 =>
              intro w hSw
              (try dsimp only at hSw)
              go_simp
              all_goals with_reducible rfl
            simp only [Act.put, List.getElem_toArray, List.getElem_cons_zero, List.getElem_cons_succ, List.setIfInBounds_toArray, List.set_cons_zero, List.set_cons_succ]
            refine wpAnyH_take (i := 6) (v := ?v6x9) rfl (by kernel_rfl) (by kernel_rfl) (by kernel_rfl) (fun _ _ _ h => h) (Or.inl ⟨by rfl, ?hy6x9⟩) (by assumption) ?rest6x9
            case hy6x9 =>
              intro w hSw
              (try dsimp only at hSw)
              go_simp
              all_goals with_reducible rfl
            simp only [Act.put, List.getElem_toArray, List.getElem_cons_zero, List.getElem_cons_succ, List.setIfInBounds_toArray, List.set_cons_zero, List.set_cons_succ]
            refine wpAnyH_take (i := 7) (v := ?v7x9) rfl (by kernel_rfl) (by kernel_rfl) (by kernel_rfl) (fun _ _ _ h => h) (Or.inl ⟨by rfl, ?hy7x9⟩) (by assumption) ?rest7x9
            case hy7x9 =>
              intro w hSw
              (try dsimp only at hSw)
              go_simp
              all_goals with_reducible rfl
            simp only [Act.put, List.getElem_toArray, List.getElem_cons_zero, List.getElem_cons_succ, List.setIfInBounds_toArray, List.set_cons_zero, List.set_cons_succ]
            clear hHeld
            refine wpAnyH_ready (rs := [9]) (by kernel_rfl) (by simp) ?_
            refine AllReadyH.cons (o := _) rfl (fun K hK => ?_) AllReadyH.nil
            obtain ⟨z0, z1, z2, z3, z4, z5, z6⟩ := hzx9.facts
            go_simp
            clear z0 z1 z2 z3 z4 z5 z6
            have hne1 : ga ≠ x1.heap.size := Nat.ne_of_lt (Nat.lt_of_lt_of_le hgx hgehz)
            have hne2 : gb ≠ x1.heap.size := Nat.ne_of_lt (Nat.lt_of_lt_of_le hgy hgehz)
            have hkx : BlkT _ (put3 x9 (x1.heap.size) (.bool false) (.slice none 0 0) (.slice none 0 0)) _ _ _ _ := ((((((kxx9).far (p := ⟨x1.heap.size, 0, none⟩) hne1 _)).far (p := ⟨x1.heap.size, 1, none⟩) hne1 _)).far (p := ⟨x1.heap.size, 2, none⟩) hne1 _)
            have hky : BlkT _ (put3 x9 (x1.heap.size) (.bool false) (.slice none 0 0) (.slice none 0 0)) _ _ _ _ := ((((((kyx9).far (p := ⟨x1.heap.size, 0, none⟩) hne2 _)).far (p := ⟨x1.heap.size, 1, none⟩) hne2 _)).far (p := ⟨x1.heap.size, 2, none⟩) hne2 _)
            have hkz : Blk3 (put3 x9 (x1.heap.size) (.bool false) (.slice none 0 0) (.slice none 0 0)) (x1.heap.size) (.bool false) (.slice none 0 0) (.slice none 0 0) := hzx9.put3_ (.bool false) (.slice none 0 0) (.slice none 0 0)
            have hxs : u.Ref (put3 x9 (x1.heap.size) (.bool false) (.slice none 0 0) (.slice none 0 0)) p := hxx9.put3 hzx9 (.bool false) (.slice none 0 0) (.slice none 0 0)
            have hys : v.Ref (put3 x9 (x1.heap.size) (.bool false) (.slice none 0 0) (.slice none 0 0)) q := hyx9.put3 hzx9 (.bool false) (.slice none 0 0) (.slice none 0 0)
            have hws : Below w9.heap.size w9 (put3 x9 (x1.heap.size) (.bool false) (.slice none 0 0) (.slice none 0 0)) := below_put3 hwx9 hgehz (.bool false) (.slice none 0 0) (.slice none 0 0)
            refine hK.out _ _ ?_ (fun hHeld => ?_)
            · exact ⟨hkx.facts.c0, hkx.facts.c1, hkx.facts.c2, hky.facts.c0, hky.facts.c1, hky.facts.c2⟩
            clear hK K
            try simp only [Act.put, List.getElem_toArray, List.getElem_cons_zero, List.getElem_cons_succ, List.setIfInBounds_toArray, List.set_cons_zero, List.set_cons_succ]
            refine wpAnyH_take (i := 10) (v := ?v10x9) rfl (by kernel_rfl) (by kernel_rfl) (by kernel_rfl) (fun _ _ _ h => h) (Or.inl ⟨by rfl, ?hy10x9⟩) (by assumption) ?rest10x9
            case hy10x9 =>
              intro w hSw
              (try dsimp only at hSw)
              go_simp
              all_goals with_reducible rfl
            simp only [Act.put, List.getElem_toArray, List.getElem_cons_zero, List.getElem_cons_succ, List.setIfInBounds_toArray, List.set_cons_zero, List.set_cons_succ]
            clear hHeld
            refine wpAnyH_done (by kernel_rfl) ?_ _
            go_wp2_with fail
            go_meet
            exact ⟨_, rfl, rfl, hkz, hkx, hky, hxs, hys, hws⟩
    · go_simp
      refine hK.out _ _ ?_ (fun hHeld => ?_)
      · exact ⟨(kx_d.alloc _).facts.c0, (kx_d.alloc _).facts.c1, (kx_d.alloc _).facts.c2, (ky_d.alloc _).facts.c0, (ky_d.alloc _).facts.c1, (ky_d.alloc _).facts.c2⟩
      clear hK K hHeld
      try simp only [Act.put, List.getElem_toArray, List.getElem_cons_zero, List.getElem_cons_succ, List.setIfInBounds_toArray, List.set_cons_zero, List.set_cons_succ]
      have hbx10 : Below wd.heap.size wd (wd.alloc (.cells #[.bool false, .slice none 0 0, .slice none 0 0] 24)) := (Below.refl _ _).alloc (Nat.le_refl _) _
      have hzx10 := Blk3.new wd (.bool false) (.slice none 0 0) (.slice none 0 0)
      obtain ⟨x10, hwe⟩ : ∃ x, wd.alloc (.cells #[.bool false, .slice none 0 0, .slice none 0 0] 24) = x := ⟨_, rfl⟩
      rw [hwe] at hbx10 hzx10 ⊢
      clear hwe
      have kxx10 := kx_d.below hbx10
      have kyx10 := ky_d.below hbx10
      have hxx10 := hx_d.below hbx10
      have hyx10 := hy_d.below hbx10
      have hwx10 := hbd.trans (hbx10.mono hbd.size)
      have hgehz : w9.heap.size ≤ wd.heap.size := hbd.size
      refine wpAnyH_ready (rs := [1]) (by kernel_rfl) (by simp) ?_
      refine AllReadyH.cons (o := _) rfl (fun K hK => ?_) AllReadyH.nil
      · go_simp
        go_at_call 29
        refine (qto u p _ hxx10 (by omega) (by omega)).mono ?_
        rintro e x11 ⟨a, rfl, hax11, a1_, a2_, hbx11⟩
        obtain ⟨la1, la2⟩ := is_small hax11 HPN.out.1 HPN.out.2
        go_wp2_with fail
        have kxx11 := kxx10.below hbx11
        have kyx11 := kyx10.below hbx11
        have hxx11 := hxx10.below hbx11
        have hyx11 := hyx10.below hbx11
        have hzx11 := hzx10.below hbx11
        have hwx11 := hwx10.trans (hbx11.mono hwx10.size)
        refine hK.out _ _ ?_ (fun hHeld => ?_)
        · exact ⟨kxx11.facts.c0, kxx11.facts.c1, kxx11.facts.c2, kyx11.facts.c0, kyx11.facts.c1, kyx11.facts.c2⟩
        clear hK K
        try simp only [Act.put, List.getElem_toArray, List.getElem_cons_zero, List.getElem_cons_succ, List.setIfInBounds_toArray, List.set_cons_zero, List.set_cons_succ]
        clear hHeld
        refine wpAnyH_ready (rs := [3]) (by kernel_rfl) (by simp) ?_
        refine AllReadyH.cons (o := _) rfl (fun K hK => ?_) AllReadyH.nil
        · go_simp
          go_at_call 29
          refine (qto v q _ hyx11 (by omega) (by omega)).mono ?_
          rintro e x12 ⟨b, rfl, hbqx12, b1_, b2_, hbx12⟩
          obtain ⟨lb1, lb2⟩ := is_small hbqx12 HQN.out.1 HQN.out.2
          go_wp2_with fail
          have kxx12 := kxx11.below hbx12
          have kyx12 := kyx11.below hbx12
          have hxx12 := hxx11.below hbx12
          have hyx12 := hyx11.below hbx12
          have hzx12 := hzx11.below hbx12
          have hax12 := hax11.below hbx12
          have hwx12 := hwx11.trans (hbx12.mono hwx11.size)
          refine hK.out _ _ ?_ (fun hHeld => ?_)
          · exact ⟨kxx12.facts.c0, kxx12.facts.c1, kxx12.facts.c2, kyx12.facts.c0, kyx12.facts.c1, kyx12.facts.c2⟩
          clear hK K
          try simp only [Act.put, List.getElem_toArray, List.getElem_cons_zero, List.getElem_cons_succ, List.setIfInBounds_toArray, List.set_cons_zero, List.set_cons_succ]
          clear hHeld
          refine wpAnyH_ready (rs := [4]) (by kernel_rfl) (by simp) ?_
          refine AllReadyH.cons (o := _) rfl (fun K hK => ?_) AllReadyH.nil
          · go_simp
            go_at_call 28
            refine (simplest_gt a b p q _ hax12 hbqx12 la1 la2 lb1 lb2 HC.out).mono ?_
            rintro e x13 ⟨rfl, hbx13⟩
            go_wp2_with fail
            have kxx13 := kxx12.below hbx13
            have kyx13 := kyx12.below hbx13
            have hxx13 := hxx12.below hbx13
            have hyx13 := hyx12.below hbx13
            have hzx13 := hzx12.below hbx13
            have hax13 := hax12.below hbx13
            have hbqx13 := hbqx12.below hbx13
            have hwx13 := hwx12.trans (hbx13.mono hwx12.size)
            refine hK.out _ _ ?_ (fun hHeld => ?_)
            · exact ⟨kxx13.facts.c0, kxx13.facts.c1, kxx13.facts.c2, kyx13.facts.c0, kyx13.facts.c1, kyx13.facts.c2⟩
            clear hK K
            try simp only [Act.put, List.getElem_toArray, List.getElem_cons_zero, List.getElem_cons_succ, List.setIfInBounds_toArray, List.set_cons_zero, List.set_cons_succ]
            refine wpAnyH_take (i := 5) (v := ?v5x13) rfl (by kernel_rfl) (by kernel_rfl) (by kernel_rfl) (fun _ _ _ h => h) (Or.inl ⟨by rfl, ?hy5x13⟩) (by assumption) ?rest5x13
            case hy5x13 =>
              intro w hSw
              (try dsimp only at hSw)
              go_simp
              all_goals with_reducible rfl
            simp only [Act.put, List.getElem_toArray, List.getElem_cons_zero, List.getElem_cons_succ, List.setIfInBounds_toArray, List.set_cons_zero, List.set_cons_succ]
            refine wpAnyH_take (i := 6) (v := ?v6x13) rfl (by kernel_rfl) (by kernel_rfl) (by kernel_rfl) (fun _ _ _ h => h) (Or.inl ⟨by rfl, ?hy6x13⟩) (by assumption) ?rest6x13
            case hy6x13 =>
              intro w hSw
              (try dsimp only at hSw)
              go_simp
              all_goals with_reducible rfl
            simp only [Act.put, List.getElem_toArray, List.getElem_cons_zero, List.getElem_cons_succ, List.setIfInBounds_toArray, List.set_cons_zero, List.set_cons_succ]
            refine wpAnyH_take (i := 7) (v := ?v7x13) rfl (by kernel_rfl) (by kernel_rfl) (by kernel_rfl) (fun _ _ _ h => h) (Or.inl ⟨by rfl, ?hy7x13⟩) (by assumption) ?rest7x13
            case hy7x13 =>
              intro w hSw
              (try dsimp only at hSw)
              go_simp
              all_goals with_reducible rfl
            simp only [Act.put, List.getElem_toArray, List.getElem_cons_zero, List.getElem_cons_succ, List.setIfInBounds_toArray, List.set_cons_zero, List.set_cons_succ]
            clear hHeld
            refine wpAnyH_ready (rs := [9]) (by kernel_rfl) (by simp) ?_
            refine AllReadyH.cons (o := _) rfl (fun K hK => ?_) AllReadyH.nil
            obtain ⟨z0, z1, z2, z3, z4, z5, z6⟩ := hzx13.facts
            go_simp
            clear z0 z1 z2 z3 z4 z5 z6
            have hne1 : ga ≠ wd.heap.size := Nat.ne_of_lt (Nat.lt_of_lt_of_le hgx hgehz)
            have hne2 : gb ≠ wd.heap.size := Nat.ne_of_lt (Nat.lt_of_lt_of_le hgy hgehz)
            have hkx : BlkT _ (put3 x13 (wd.heap.size) (.bool false) (.slice none 0 0) (.slice none 0 0)) _ _ _ _ := ((((((kxx13).far (p := ⟨wd.heap.size, 0, none⟩) hne1 _)).far (p := ⟨wd.heap.size, 1, none⟩) hne1 _)).far (p := ⟨wd.heap.size, 2, none⟩) hne1 _)
            have hky : BlkT _ (put3 x13 (wd.heap.size) (.bool false) (.slice none 0 0) (.slice none 0 0)) _ _ _ _ := ((((((kyx13).far (p := ⟨wd.heap.size, 0, none⟩) hne2 _)).far (p := ⟨wd.heap.size, 1, none⟩) hne2 _)).far (p := ⟨wd.heap.size, 2, none⟩) hne2 _)
            have hkz : Blk3 (put3 x13 (wd.heap.size) (.bool false) (.slice none 0 0) (.slice none 0 0)) (wd.heap.size) (.bool false) (.slice none 0 0) (.slice none 0 0) := hzx13.put3_ (.bool false) (.slice none 0 0) (.slice none 0 0)
            have hxs : u.Ref (put3 x13 (wd.heap.size) (.bool false) (.slice none 0 0) (.slice none 0 0)) p := hxx13.put3 hzx13 (.bool false) (.slice none 0 0) (.slice none 0 0)
            have hys : v.Ref (put3 x13 (wd.heap.size) (.bool false) (.slice none 0 0) (.slice none 0 0)) q := hyx13.put3 hzx13 (.bool false) (.slice none 0 0) (.slice none 0 0)
            have hws : Below w9.heap.size w9 (put3 x13 (wd.heap.size) (.bool false) (.slice none 0 0) (.slice none 0 0)) := below_put3 hwx13 hgehz (.bool false) (.slice none 0 0) (.slice none 0 0)
            refine hK.out _ _ ?_ (fun hHeld => ?_)
            · exact ⟨hkx.facts.c0, hkx.facts.c1, hkx.facts.c2, hky.facts.c0, hky.facts.c1, hky.facts.c2⟩
            clear hK K
            try simp only [Act.put, List.getElem_toArray, List.getElem_cons_zero, List.getElem_cons_succ, List.setIfInBounds_toArray, List.set_cons_zero, List.set_cons_succ]
            refine wpAnyH_take (i := 10) (v := ?v10x13) rfl (by kernel_rfl) (by kernel_rfl) (by kernel_rfl) (fun _ _ _ h => h) (Or.inl ⟨by rfl, ?hy10x13⟩) (by assumption) ?rest10x13
            case hy10x13 =>
              intro w hSw
              (try dsimp only at hSw)
              go_simp
              all_goals with_reducible rfl
            simp only [Act.put, List.getElem_toArray, List.getElem_cons_zero, List.getElem_cons_succ, List.setIfInBounds_toArray, List.set_cons_zero, List.set_cons_succ]
            clear hHeld
            refine wpAnyH_done (by kernel_rfl) ?_ _
            go_wp2_with fail
            go_meet
            exact ⟨_, rfl, rfl, hkz, hkx, hky, hxs, hys, hws⟩
  obtain ⟨w10, rfl⟩ : ∃ x, x = wc := ⟨_, rfl⟩
  obtain ⟨g3, rfl, rfl, kr10, kx10, ky10, hx10, hy10, hb10⟩ := hcut
  have hw10 := hw9.trans (hb10.mono hw9.size)
  obtain ⟨a0, a1, a2, a3, a4, a5, a6⟩ := kx10.facts
  obtain ⟨b0, b1, b2, b3, b4, b5, b6⟩ := ky10.facts
  go_wp2_with fail
  have HCM : Hid (cmpOf (sgn u.s (VD u.ns) * VD v.ds) (sgn v.s (VD v.ns) * VD u.ds) = c0) := Lib.hid ((cmp_pq hx10 hy10).trans HCM0.out)
  refine (rcmpq u v p q _ hx10 hy10 (by omega)).mono ?_
  rintro e w11 ⟨he_, hb11⟩
  rw [HCM.out] at he_
  subst he_
  have kr11 := kr10.below hb11
  have kx11 := kx10.below hb11
  have ky11 := ky10.below hb11
  have hx11 := hx10.below hb11
  have hy11 := hy10.below hb11
  have hw11 := hw10.trans (hb11.mono hw10.size)
  clear kr10 kx10 ky10 hx10 hy10 hw10 hb11
  clear a0 a1 a2 a3 a4 a5 a6
  clear b0 b1 b2 b3 b4 b5 b6
  obtain ⟨a0, a1, a2, a3, a4, a5, a6⟩ := kr11.facts
  go_wp2_with fail
  refine (qnone_yes _).mono ?_
  rintro e w12 ⟨rfl, hb12⟩
  have kr12 := kr11.below hb12
  have kx12 := kx11.below hb12
  have ky12 := ky11.below hb12
  have hx12 := hx11.below hb12
  have hy12 := hy11.below hb12
  have hw12 := hw11.trans (hb12.mono hw11.size)
  clear kr11 kx11 ky11 hx11 hy11 hw11 hb12
  clear a0 a1 a2 a3 a4 a5 a6
  go_wp2_with fail
  go_ret
  exact ⟨rfl, hw12⟩
end Go.Proofs.YtopppmlkddajjaaGreatDoor

