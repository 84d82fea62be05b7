/- isochroneref01.DivMod: the long division, and the whole contract; numbers of at most 20000 digits. -/
import Derived.Test.YtllcegiaojchdaaDoorDigit
import Derived.Test.YtllcegiaojchdaaDoorLittle
import Derived.Test.YtllcegiaojchdaaDoorLimits
import Derived.Test.YtllcegiaojchdaaDoorFresh
namespace Go.Proofs.YtllcegiaojchdaaDoor
open Go.RowKit V

/-- A round that leaves its digit zero. -/
theorem split_step0 (B j k x r r' : Nat) (cur xs : List Nat) (hc : j < cur.length) (hx : j < xs.length) (ex : xs.getD j 0 = x) (e0 : cur.getD j 0 = 0) (e : r' = r * B + x)
    (hv : val B (xs.drop (j + 1)) = val B (cur.drop (j + 1)) * k + r) : val B (xs.drop j) = val B (cur.drop j) * k + r' := by
  rw [val_drop B xs j hx, val_drop B cur j hc, ex, e0, hv, e, Nat.mul_add, Nat.zero_add, Nat.mul_assoc, Nat.mul_comm B r]
  omega
theorem rem_next (r y x : Nat) (h : r < y) (hx : x < 10000) : r * 10000 + x < y * 10000 := by omega

theorem getD_zeros (n i : Nat) : (List.replicate n 0).getD i 0 = 0 := by
  rcases Nat.lt_or_ge i n with h | h
  · exact getD_rep n 0 i h
  · exact getD_beyond _ _ (by rw [List.length_replicate]; exact h)

set_option maxRecDepth 100000 in
set_option maxHeartbeats 2000000 in
theorem rdiv_long (A B : Option Addr) (ca cb : Nat) (xs ys : List Nat) (w : World) (hx : Rd .i64 w A xs) (hy : Rd .i64 w B ys) (bx : 4 < xs.length) (bx2 : xs.length ≤ 20000) (nx : Nm xs) (ny : Nm ys) (hl : 2 ≤ ys.length) (hge : VD ys ≤ VD xs) :
    Calls Tryd.prog 13 #[.slice A xs.length ca, .slice B ys.length cb] w (RDivP xs ys w) := by
  obtain ⟨c, hc, hcp⟩ : ∃ c : Int, Hid (cmpOf (VD xs) (VD ys) = c) ∧ 0 ≤ c := ⟨_, rfl, by unfold cmpOf; split <;> (try split) <;> omega⟩
  have dx : Dig 10000 xs := nx.1
  have dy : Dig 10000 ys := ny.1
  have hlen : ys.length ≤ xs.length := nx.len_le ny hge
  have hpos : 0 < ys.length := by omega
  have hb1 : ((ys.length : Int) == 1) = false := beq_eq_false_iff_ne.2 (by omega)
  have hyp := VD_pos ny hpos
  have hmk := fun W => make_nat xs.length xs.length rfl (by omega) W
  clear hl hge
  go_enter Tryd.func13, Tryd.ntmps13
  go_wp2_with fail
  refine (rcmp_any A B ca cb xs ys _ hx hy (by omega) nx ny).mono ?_
  rintro e w1 ⟨he, n1, hwe⟩
  rw [hc.out] at he
  subst he
  have hw1 : Below w.heap.size w w1 := by rw [hwe]; exact below_drew_ (Below.refl _ _) n1
  have hx1 := hx.below hw1
  have hy1 := hy.below hw1
  clear hwe hc hx hy
  go_wp2_with fail
  refine (little_no A ca xs _ bx).mono ?_
  rintro e w2 ⟨rfl, rfl⟩
  go_wp2_with fail
  clear hmk
  go_loopw [13, 14] (fun v i wr => ∃ j : Int, ∃ O oc r cur, -1 ≤ j ∧ j < xs.length ∧ i = .int .i64 j ∧ v = .slice O (r : List Nat).length oc ∧ Rd .i64 wr O r ∧ Nm r ∧ VD r < VD ys ∧ cur.length = xs.length ∧ Dig 10000 cur ∧
      (∀ i : Nat, (i : Int) ≤ j → cur.getD i 0 = 0) ∧ val 10000 (xs.drop (j + 1).toNat) = val 10000 (cur.drop (j + 1).toNat) * VD ys + VD r ∧ Row .i64 3 wr w1.heap.size cur ∧ Below w1.heap.size w1 wr) (fun _ i _ => (intOf i + 1).toNat)
  case atStart => exact ⟨_, _, 0, [], _, by omega, by omega, rfl, rfl, Rd.nil_, nm_nil, by show VD [] < _; exact hyp, List.length_replicate, Dig.zeros (by omega) _, fun i hi => getD_zeros _ _, by rw [show ((xs.length : Int) - 1 + 1).toNat = xs.length by omega, List.drop_length, List.drop_of_length_le (by rw [List.length_replicate]; omega)]; simp [val, VD], (Row.new _ _).alloc _, ((Below.refl _ _).alloc (Nat.le_refl _) _).alloc (by simp) _⟩
  case round =>
    obtain ⟨j, O, oc, r, cur, hj, hjl, rfl, rfl, hr, hnr, hlt, hcl, hdc, hz, hv, hrow, hbw⟩ := hrel
    have HV := Lib.hid hv
    have HCL := Lib.hid hcl
    have HLT := Lib.hid hlt
    have HZ := Lib.hid hz
    have hrl : r.length ≤ ys.length := ny.len_le hnr (Nat.le_of_lt hlt)
    clear hv hcl hlt hz
    by_cases h0 : j < 0
    · have hrd := hrow.rd
      go_wp2_with fail
      refine (trim_i64n _ _ _ cur _ HCL.out hrd (Nat.le_refl _) (by omega)).mono ?_
      rintro e w2 ⟨m, hm, rfl, hv3, hn3, rfl⟩
      have HV3 := Lib.hid hv3
      clear hv3
      go_wp2
      go_ret2
      have hfl := HCL.out
      have hml : (cur.take m).length = m := by rw [List.length_take, Nat.min_eq_left hm]
      refine ⟨some ⟨w1.heap.size, 0, none⟩, xs.length, cur.take m, O, oc, r, by rw [hml]; rfl, hrd.take hm, hr, ⟨hdc.take m, hn3⟩, hnr, ?_, HLT.out, hw1.trans (hbw.mono hw1.size)⟩
      have h1 := HV.out
      rw [show (j + 1).toNat = 0 by omega, List.drop_zero, List.drop_zero] at h1
      show VD xs = val 10000 (cur.take m) * VD ys + VD r
      rw [HV3.out]; exact h1
    · obtain ⟨i, rfl⟩ := Int.eq_ofNat_of_zero_le (show 0 ≤ j by omega)
      have hix : i < xs.length := by omega
      obtain ⟨ad, x, rfl, hbx, ex, cx⟩ := (hx1.below hbw).ask hix
      have hxl : x < 10000 := by rw [← ex.out]; exact dig_getD dx (by omega) i
      have dr : Dig 10000 r := hnr.1
      have hy2 := hy1.below hbw
      go_wp2_with fail
      refine (smallf_z O oc _ r 10000 x _ _ _ rfl (by omega) (by omega) hr (by omega) dr (by omega) (by omega)).mono ?_
      rintro e w2 ⟨O1, oc1, r1, rfl, hoc1, hr1, hb2, ⟨hv1, hn1, hl1⟩, hfr1⟩
      have HF : Hid (0 < r1.length → ∀ ad, O1 = some ad → w1.heap.size < ad.block) := fun h ad e => Nat.lt_of_lt_of_le hrow.lt (hfr1 h ad e)
      clear hfr1
      have HV1 := Lib.hid hv1
      have hbw2 := hbw.trans (hb2.mono hbw.size)
      have hrow2 := hrow.below hb2 hrow.lt
      have hy3 := hy2.below hb2
      clear hv1 cx hy2 hrow hbw hb2 hr
      go_wp2_with fail
      refine (rcmp_any O1 B oc1 cb r1 ys _ hr1 hy3 (by omega) hn1 ny).mono ?_
      rintro e w3 ⟨he, n3, hwe⟩
      have hb3 : Below w2.heap.size w2 w3 := by rw [hwe]; exact below_drew_ (Below.refl _ _) n3
      have hbw3 := hbw2.trans (hb3.mono hbw2.size)
      have hrow3 := hrow2.below hb3 hrow2.lt
      have hy4 := hy3.below hb3
      have hr2 := hr1.below hb3
      clear hwe hb3 hbw2 hrow2 hy3 hr1
      have hic : i < cur.length := by have := HCL.out; omega
      by_cases hless : VD r1 < VD ys
      · obtain ⟨c2, hc2, hcp2⟩ : ∃ c : Int, cmpOf (VD r1) (VD ys) = c ∧ c < 0 := ⟨_, rfl, by rw [cmpOf_lt (by omega)]; omega⟩
        rw [hc2] at he
        subst he
        have HL := Lib.hid hless
        clear hless hc2
        go_wp2
        go_roundw
        case rel => exact ⟨_, O1, oc1, r1, cur, by omega, by omega, rfl, rfl, hr2, hn1, HL.out, HCL.out, hdc, fun q hq => HZ.out q (by omega), by
          rw [show ((i : Int) - 1 + 1).toNat = i by omega]
          exact split_step0 10000 i (VD ys) x (VD r) (VD r1) cur xs hic hix ex.out (HZ.out i (by omega)) HV1.out HV.out, hrow3, hbw3⟩
        case measure => simp [intOf]
      · obtain ⟨c2, hc2, hcp2⟩ : ∃ c : Int, cmpOf (VD r1) (VD ys) = c ∧ 0 ≤ c := ⟨_, rfl, by unfold cmpOf; split <;> (try split) <;> omega⟩
        rw [hc2] at he
        subst he
        have hlt1 : Hid (VD r1 < VD ys * 10000) := by
          show VD r1 < VD ys * 10000
          rw [HV1.out]; exact rem_next _ _ _ HLT.out hxl
        clear hless hc2
        go_wp2_with fail
        refine (digit_any O1 B oc1 cb r1 ys _ hr2 hy4 (by omega) (by omega) hn1 ny hpos hlt1.out).mono ?_
        rintro e w4 ⟨d, rfl, hd, hdle, hdlt, hb4⟩
        have HDL := Lib.hid hdle
        have HDT := Lib.hid hdlt
        clear hdle hdlt
        have hbw4 := hbw3.trans (hb4.mono hbw3.size)
        have hrow4 := hrow3.below hb4 hrow3.lt
        have hy5 := hy4.below hb4
        have hr3 := hr2.below hb4
        clear hb4 hbw3 hrow3 hy4 hr2
        have hcell := hrow4.cell hic
        have hfr := hrow4.frozen i
        have hrow5 := hrow4.set_ i d
        have hset : (cur.set i d).getD i 0 = d := by rw [getD_set _ _ _ _ hic, if_pos rfl]
        have hcell5 := hrow5.cell (i := i) (by rw [List.length_set]; exact hic)
        rw [hset] at hcell5
        have hbw5 := hbw4.setCell (p := ⟨w1.heap.size, i, none⟩) (Nat.le_refl _) (.int .i64 (d : Nat))
        have hy6 : Rd .i64 (w4.setCell ⟨w1.heap.size, i, none⟩ (.int .i64 (d : Nat))) B ys := hy1.below hbw5
        go_wp2_with fail
        refine (small_z B cb _ ys d 0 _ _ _ rfl rfl rfl hy6 (by omega) dy (by omega) (by omega)).mono ?_
        rintro e w5 ⟨Z, zc, zs, rfl, hzc, hz5, hb5, hv5, hn5, hl5⟩
        have HV5 := Lib.hid hv5
        have hbw6 := hbw5.trans (hb5.mono hbw5.size)
        have hrow6 := hrow5.below hb5 hrow5.lt
        have hr4 : Rd .i64 (w4.setCell ⟨w1.heap.size, i, none⟩ (.int .i64 (d : Nat))) O1 r1 := by
          intro hp
          obtain ⟨ad1, e1, hb1', hc1⟩ := hr3 hp
          have hne := HF.out hp ad1 e1
          refine ⟨ad1, e1, by simpa [World.setCell] using hb1', fun k hk => ?_⟩
          rw [World.cell?_of_block (Below.heap_setCell w4 ⟨w1.heap.size, i, none⟩ _ (ad1.add k).block (by rw [block_of_add]; show ad1.block ≠ w1.heap.size; omega))]
          exact hc1 k hk
        have hr5 := hr4.below hb5
        clear hv5 hcell hfr hrow4 hrow5 hcell5 hbw4 hbw5 hy6 hb5 hr4 hr3 hy5
        go_wp2_with fail
        refine (rsub_any O1 Z oc1 zc r1 zs _ hr5 hz5 (by omega) hn1 hn5 (by rw [HV5.out, Nat.add_zero]; exact HDL.out)).mono ?_
        rintro e w6 ⟨T, tc, ts, rfl, htc, ht6, hb6, hv6, hn6, hl6⟩
        have HV6 := Lib.hid hv6
        have hbw7 := hbw6.trans (hb6.mono hbw6.size)
        have hrow7 := hrow6.below hb6 hrow6.lt
        clear hv6 hrow6 hbw6 hb6 hr5 hz5
        go_wp2
        go_roundw
        case rel =>
          have q1 := HV5.out
          have q2 := HV6.out
          have q3 := HDT.out
          have q4 := HV1.out
          rw [Nat.mul_add, Nat.mul_one] at q3
          exact ⟨_, T, tc, ts, cur.set i d, by omega, by omega, rfl, rfl, ht6, hn6, by omega, by rw [List.length_set]; exact HCL.out, hdc.set _ hd, fun q hq => by rw [getD_set _ _ _ _ hic, if_neg (by omega)]; exact HZ.out q (by omega), by
            rw [show ((i : Int) - 1 + 1).toNat = i by omega]
            exact split_step 10000 i (VD ys) x (VD r) d (VD ts) cur xs hic hix ex.out (by rw [Nat.mul_comm d]; omega) HV.out, hrow7, hbw7⟩
        case measure => simp [intOf]

theorem rdiv_any (A B : Option Addr) (ca cb : Nat) (xs ys : List Nat) (w : World) (hx : Rd .i64 w A xs) (hy : Rd .i64 w B ys) (bx : xs.length ≤ 20000) (nx : Nm xs) (ny : Nm ys) (hpos : 0 < ys.length) :
    Calls Tryd.prog 13 #[.slice A xs.length ca, .slice B ys.length cb] w (RDivP xs ys w) := by
  rcases Nat.lt_or_ge (VD xs) (VD ys) with h | h
  · exact rdiv_less A B ca cb xs ys w hx hy bx nx ny h
  · rcases Nat.lt_or_ge 4 xs.length with h4 | h4
    · rcases Nat.lt_or_ge 1 ys.length with h1 | h1
      · exact rdiv_long A B ca cb xs ys w hx hy h4 bx nx ny h1 h
      · exact rdiv_one A B ca cb xs ys w hx hy h4 bx nx ny (by omega) h
    · exact rdiv_little A B ca cb xs ys w hx hy h4 nx ny hpos h
end Go.Proofs.YtllcegiaojchdaaDoor

