/- The reference's DivMod with the type of the quotient's block. -/
import Derived.Test.YtlbfoclhkdlafaaGreatDoorPMR18
namespace Go.Proofs.YtlbfoclhkdlafaaGreatDoor
open Go.RowKit V

/-- Quotient and remainder; the quotient's digits lie in a block of ints. -/
def RDivT (xs ys : List Nat) (w : World) (e : Ending) (w' : World) : Prop :=
  ∃ Q qc q R rc r, e = .returned (.tuple #[.slice Q (q : List Nat).length qc, .slice R (r : List Nat).length rc]) ∧ RT .i64 3 w' Q q ∧ Rd .i64 w' R r ∧ Nm q ∧ Nm r ∧
    Hid (VD xs = VD q * VD ys + VD r) ∧ Hid (VD r < VD ys) ∧ Below w.heap.size w w'
set_option maxHeartbeats 1000000 in
theorem rdiv_lessT (A B : Option Addr) (ca cb : Nat) (xs ys : List Nat) (w : World) (hx : Rd .i64 w A xs) (hy : Rd .i64 w B ys) (bx : xs.length ≤ 20000) (nx : Nm xs) (ny : Nm ys) (hlt : VD xs < VD ys) :
    Calls Tryz.prog 144 #[.slice A xs.length ca, .slice B ys.length cb] w (RDivT xs ys w) := by
  obtain ⟨c, hc, hcp⟩ : ∃ c : Int, Hid (cmpOf (VD xs) (VD ys) = c) ∧ c < 0 := ⟨_, rfl, by rw [cmpOf_lt (by omega)]; omega⟩
  have HLT := Lib.hid hlt
  clear hlt
  go_enter Tryz.func144, Tryz.ntmps144
  go_wp2_with fail
  refine (rcmp_any A B ca cb xs ys _ hx hy (by omega) nx ny).mono ?_
  rintro e w1 ⟨he, n1, hwe⟩
  rw [hc.out] at he
  subst he
  have hb1 : Below w.heap.size w w1 := by rw [hwe]; exact below_drew_ (Below.refl _ _) n1
  have hx1 := hx.below hb1
  clear hwe
  go_wp2
  go_ret2
  exact ⟨_, 0, [], A, ca, xs, rfl, RT.nil_, hx1.alloc _, nm_nil, nx, by show _ = _; simp [VD, val], HLT.out, hb1.alloc hb1.size _⟩

set_option maxRecDepth 100000 in
set_option maxHeartbeats 1000000 in
theorem rdiv_littleT (A B : Option Addr) (ca cb : Nat) (xs ys : List Nat) (w : World) (hx : Rd .i64 w A xs) (hy : Rd .i64 w B ys) (bx : xs.length ≤ 4) (nx : Nm xs) (ny : Nm ys) (hpos : 0 < ys.length) (hge : VD ys ≤ VD xs) :
    Calls Tryz.prog 144 #[.slice A xs.length ca, .slice B ys.length cb] w (RDivT xs ys w) := by
  obtain ⟨c, hc, hcp⟩ : ∃ c : Int, Hid (cmpOf (VD xs) (VD ys) = c) ∧ 0 ≤ c := ⟨_, rfl, by unfold cmpOf; split <;> (try split) <;> omega⟩
  have hly : ys.length ≤ 4 := Nat.le_trans (nx.len_le ny hge) bx
  have hb := VD_pos ny hpos
  have hxb : VD xs < 10000000000000000 := by
    have h1 := val_lt 10000 xs nx.1
    have h2 : 10000 ^ xs.length ≤ 10000 ^ 4 := Nat.pow_le_pow_right (by omega) bx
    unfold VD; omega
  have dx : Dig 10000 xs := nx.1
  have dy : Dig 10000 ys := ny.1
  obtain ⟨x, ex⟩ : ∃ x, Hid (VD xs = x) := ⟨_, rfl⟩
  obtain ⟨y, ey⟩ : ∃ y, Hid (VD ys = y) := ⟨_, rfl⟩
  rw [ex.out] at hxb hge
  rw [ey.out] at hb hge
  have hq0 : x / y ≤ x := Nat.div_le_self _ _
  have hr0 : x % y < y := Nat.mod_lt _ hb
  obtain ⟨q, eq⟩ : ∃ q, Hid (x / y = q) := ⟨_, rfl⟩
  obtain ⟨r, er⟩ : ∃ r, Hid (x % y = r) := ⟨_, rfl⟩
  rw [eq.out] at hq0
  rw [er.out] at hr0
  have hqi : (x : Int) / y = q := by rw [← eq.out]; simp
  have hri : (x : Int).tmod y = r := by rw [Int.tmod_eq_emod_of_nonneg (by omega), ← er.out]; simp
  go_enter Tryz.func144, Tryz.ntmps144
  go_wp2_with fail
  refine (rcmp_any A B ca cb xs ys _ hx hy (by omega) nx ny).mono ?_
  rintro e w1 ⟨he, n1, hwe⟩
  rw [hc.out] at he
  subst he
  have hb1 : Below w.heap.size w w1 := by rw [hwe]; exact below_drew_ (Below.refl _ _) n1
  have hx1 := hx.below hb1
  have hy1 := hy.below hb1
  clear hwe hc
  go_wp2_with fail
  refine (little_yes A ca xs _ hx1 bx dx).mono ?_
  rintro e w2 ⟨he, rfl⟩
  rw [ex.out] at he
  subst he
  go_wp2_with fail
  refine (little_yes B cb ys _ hy1 hly dy).mono ?_
  rintro e w2 ⟨he, rfl⟩
  rw [ey.out] at he
  subst he
  go_wp2_with fail
  have hwq : IntKind.i64.wrap (q : Int) = q := by rw [IntKind.wrap_i64]; omega
  go_region_with (first
    | (go_at_call_of 89 (Value.int IntKind.i64 (q : Nat)); refine (int_anyT q _ (by omega)).mono ?_; rintro e wq ⟨Q, qc, lq, rfl, hqc, hQ, hbq, hvq, hnq, hlq⟩; have HVQ := Lib.hid hvq; clear hvq)
    | (go_at_call_of 89 (Value.int IntKind.i64 (r : Nat)); refine (int_any r _ (by omega)).mono ?_; rintro e wr ⟨R, rc, lr, rfl, hrc, hR, hbr, hvr, hnr, hlr⟩; have HVR := Lib.hid hvr; clear hvr))
  all_goals
    have hdm : VD xs = VD lq * VD ys + VD lr := by
      rw [HVQ.out, HVR.out, ex.out, ey.out, ← eq.out, ← er.out, Nat.mul_comm]
      exact (Nat.div_add_mod x y).symm
    have hlt : VD lr < VD ys := by rw [HVR.out, ey.out]; exact hr0
    go_wp2
    go_ret2
    first
      | exact ⟨Q, qc, lq, R, rc, lr, rfl, hQ.below hbr, hR, hnq, hnr, hdm, hlt, (hb1.trans (below_of_drew hbq hb1.size)).trans (hbr.mono (Nat.le_trans hb1.size hbq.size))⟩
      | exact ⟨Q, qc, lq, R, rc, lr, rfl, hQ, hR.below hbq, hnq, hnr, hdm, hlt, (hb1.trans (below_of_drew hbr hb1.size)).trans (hbq.mono (Nat.le_trans hb1.size hbr.size))⟩

set_option maxRecDepth 100000 in
set_option maxHeartbeats 1000000 in
theorem rdiv_oneT (A B : Option Addr) (ca cb : Nat) (xs ys : List Nat) (w : World) (hx : Rd .i64 w A xs) (hy : Rd .i64 w B ys) (bx : 4 < xs.length) (bx2 : xs.length ≤ 20000) (nx : Nm xs) (ny : Nm ys) (hl : ys.length = 1) (hge : VD ys ≤ VD xs) :
    Calls Tryz.prog 144 #[.slice A xs.length ca, .slice B ys.length cb] w (RDivT xs ys w) := by
  obtain ⟨c, hc, hcp⟩ : ∃ c : Int, Hid (cmpOf (VD xs) (VD ys) = c) ∧ 0 ≤ c := ⟨_, rfl, by unfold cmpOf; split <;> (try split) <;> omega⟩
  have dx : Dig 10000 xs := nx.1
  obtain ⟨bd, y, rfl, hby, ey, cy⟩ := hy.ask (i := 0) (by omega)
  rw [add_zero_] at cy
  have hyv : Hid (VD ys = y) := by show VD ys = y; rw [one_of_len hl, ey.out]; unfold VD; simp [val]
  have hyl : y < 10000 := by rw [← ey.out]; exact dig_getD ny.1 (by omega) 0
  have hy1 : 1 ≤ y := by rw [← hyv.out]; exact VD_pos ny (by omega)
  have hb1 : ((ys.length : Int) == 1) = true := by simp [hl]
  have hpos : 0 < ys.length := by omega
  have hl4 : ys.length ≤ 4 := by omega
  have dy : Dig 10000 ys := ny.1
  clear hl hge
  go_enter Tryz.func144, Tryz.ntmps144
  go_wp2_with fail
  refine (rcmp_any A (some bd) ca cb xs ys _ hx hy (by omega) nx ny).mono ?_
  rintro e w1 ⟨he, n1, hwe⟩
  rw [hc.out] at he
  subst he
  have hw1 : Below w.heap.size w w1 := by rw [hwe]; exact below_drew_ (Below.refl _ _) n1
  have hx1 := hx.below hw1
  have cy1 : w1.cell? bd = some (.int .i64 y) := (hw1.cell (p := bd) hby).trans cy
  clear hwe hc
  go_wp2_with fail
  refine (little_no A ca xs _ bx).mono ?_
  rintro e w2 ⟨rfl, rfl⟩
  go_wp2_with fail
  refine (split_anyT A ca y xs _ hx1 (by omega) dx hy1 (by omega)).mono ?_
  rintro e w3 ⟨Q, qc, q, r, rfl, hqc, hQ, hb3, hsp, hr, hnq, hql, hfr⟩
  go_wp2_with fail
  refine (int_any r _ (by omega)).mono ?_
  rintro e w4 ⟨R, rc, lr, rfl, hrc, hR, hb4, hvr, hnr, hlr⟩
  have HVR := Lib.hid hvr
  clear hvr
  go_wp2
  go_ret2
  refine ⟨Q, qc, q, R, rc, lr, rfl, hQ.below hb4, hR, hnq, hnr, ?_, ?_, (hw1.trans (hb3.mono hw1.size)).trans (hb4.mono (Nat.le_trans hw1.size hb3.size))⟩
  · show VD xs = _
    rw [hyv.out, HVR.out]; exact hsp.out
  · show VD lr < VD ys
    rw [hyv.out, HVR.out]; exact hr
set_option maxRecDepth 100000 in
set_option maxHeartbeats 2000000 in
theorem rdiv_longT (A B : Option Addr) (ca cb : Nat) (xs ys : List Nat) (w : World) (hx : Rd .i64 w A xs) (hy : Rd .i64 w B ys) (bx : 4 < xs.length) (bx2 : xs.length ≤ 20000) (nx : Nm xs) (ny : Nm ys) (hl : 2 ≤ ys.length) (hge : VD ys ≤ VD xs) :
    Calls Tryz.prog 144 #[.slice A xs.length ca, .slice B ys.length cb] w (RDivT xs ys w) := by
  obtain ⟨c, hc, hcp⟩ : ∃ c : Int, Hid (cmpOf (VD xs) (VD ys) = c) ∧ 0 ≤ c := ⟨_, rfl, by unfold cmpOf; split <;> (try split) <;> omega⟩
  have dx : Dig 10000 xs := nx.1
  have dy : Dig 10000 ys := ny.1
  have hlen : ys.length ≤ xs.length := nx.len_le ny hge
  have hpos : 0 < ys.length := by omega
  have hb1 : ((ys.length : Int) == 1) = false := beq_eq_false_iff_ne.2 (by omega)
  have hyp := VD_pos ny hpos
  have hmk := fun W => make_nat xs.length xs.length rfl (by omega) W
  clear hl hge
  go_enter Tryz.func144, Tryz.ntmps144
  go_wp2_with fail
  refine (rcmp_any A B ca cb xs ys _ hx hy (by omega) nx ny).mono ?_
  rintro e w1 ⟨he, n1, hwe⟩
  rw [hc.out] at he
  subst he
  have hw1 : Below w.heap.size w w1 := by rw [hwe]; exact below_drew_ (Below.refl _ _) n1
  have hx1 := hx.below hw1
  have hy1 := hy.below hw1
  clear hwe hc hx hy
  go_wp2_with fail
  refine (little_no A ca xs _ bx).mono ?_
  rintro e w2 ⟨rfl, rfl⟩
  go_wp2_with fail
  clear hmk
  go_loopw [13, 14] (fun v i wr => ∃ j : Int, ∃ O oc r cur, -1 ≤ j ∧ j < xs.length ∧ i = .int .i64 j ∧ v = .slice O (r : List Nat).length oc ∧ Rd .i64 wr O r ∧ Nm r ∧ VD r < VD ys ∧ cur.length = xs.length ∧ Dig 10000 cur ∧
      (∀ i : Nat, (i : Int) ≤ j → cur.getD i 0 = 0) ∧ val 10000 (xs.drop (j + 1).toNat) = val 10000 (cur.drop (j + 1).toNat) * VD ys + VD r ∧ Row .i64 3 wr w1.heap.size cur ∧ Below w1.heap.size w1 wr) (fun _ i _ => (intOf i + 1).toNat)
  case atStart => exact ⟨_, _, 0, [], _, by omega, by omega, rfl, rfl, Rd.nil_, nm_nil, by show VD [] < _; exact hyp, List.length_replicate, Dig.zeros (by omega) _, fun i hi => getD_zeros _ _, by rw [show ((xs.length : Int) - 1 + 1).toNat = xs.length by omega, List.drop_length, List.drop_of_length_le (by rw [List.length_replicate]; omega)]; simp [val, VD], (Row.new _ _).alloc _, ((Below.refl _ _).alloc (Nat.le_refl _) _).alloc (by simp) _⟩
  case round =>
    obtain ⟨j, O, oc, r, cur, hj, hjl, rfl, rfl, hr, hnr, hlt, hcl, hdc, hz, hv, hrow, hbw⟩ := hrel
    have HV := Lib.hid hv
    have HCL := Lib.hid hcl
    have HLT := Lib.hid hlt
    have HZ := Lib.hid hz
    have hrl : r.length ≤ ys.length := ny.len_le hnr (Nat.le_of_lt hlt)
    clear hv hcl hlt hz
    by_cases h0 : j < 0
    · have hrd := hrow.rd
      go_wp2_with fail
      refine (trim_i64n _ _ _ cur _ HCL.out hrd (Nat.le_refl _) (by omega)).mono ?_
      rintro e w2 ⟨m, hm, rfl, hv3, hn3, rfl⟩
      have HV3 := Lib.hid hv3
      clear hv3
      go_wp2
      go_ret2
      have hfl := HCL.out
      have hml : (cur.take m).length = m := by rw [List.length_take, Nat.min_eq_left hm]
      refine ⟨some ⟨w1.heap.size, 0, none⟩, xs.length, cur.take m, O, oc, r, by rw [hml]; rfl, hrow.rt.take hm, hr, ⟨hdc.take m, hn3⟩, hnr, ?_, HLT.out, hw1.trans (hbw.mono hw1.size)⟩
      have h1 := HV.out
      rw [show (j + 1).toNat = 0 by omega, List.drop_zero, List.drop_zero] at h1
      show VD xs = val 10000 (cur.take m) * VD ys + VD r
      rw [HV3.out]; exact h1
    · obtain ⟨i, rfl⟩ := Int.eq_ofNat_of_zero_le (show 0 ≤ j by omega)
      have hix : i < xs.length := by omega
      obtain ⟨ad, x, rfl, hbx, ex, cx⟩ := (hx1.below hbw).ask hix
      have hxl : x < 10000 := by rw [← ex.out]; exact dig_getD dx (by omega) i
      have dr : Dig 10000 r := hnr.1
      have hy2 := hy1.below hbw
      go_wp2_with fail
      refine (smallf_z O oc _ r 10000 x _ _ _ rfl (by omega) (by omega) hr (by omega) dr (by omega) (by omega)).mono ?_
      rintro e w2 ⟨O1, oc1, r1, rfl, hoc1, hr1, hb2, ⟨hv1, hn1, hl1⟩, hfr1⟩
      have HF : Hid (0 < r1.length → ∀ ad, O1 = some ad → w1.heap.size < ad.block) := fun h ad e => Nat.lt_of_lt_of_le hrow.lt (hfr1 h ad e)
      clear hfr1
      have HV1 := Lib.hid hv1
      have hbw2 := hbw.trans (hb2.mono hbw.size)
      have hrow2 := hrow.below hb2 hrow.lt
      have hy3 := hy2.below hb2
      clear hv1 cx hy2 hrow hbw hb2 hr
      go_wp2_with fail
      refine (rcmp_any O1 B oc1 cb r1 ys _ hr1 hy3 (by omega) hn1 ny).mono ?_
      rintro e w3 ⟨he, n3, hwe⟩
      have hb3 : Below w2.heap.size w2 w3 := by rw [hwe]; exact below_drew_ (Below.refl _ _) n3
      have hbw3 := hbw2.trans (hb3.mono hbw2.size)
      have hrow3 := hrow2.below hb3 hrow2.lt
      have hy4 := hy3.below hb3
      have hr2 := hr1.below hb3
      clear hwe hb3 hbw2 hrow2 hy3 hr1
      have hic : i < cur.length := by have := HCL.out; omega
      by_cases hless : VD r1 < VD ys
      · obtain ⟨c2, hc2, hcp2⟩ : ∃ c : Int, cmpOf (VD r1) (VD ys) = c ∧ c < 0 := ⟨_, rfl, by rw [cmpOf_lt (by omega)]; omega⟩
        rw [hc2] at he
        subst he
        have HL := Lib.hid hless
        clear hless hc2
        go_wp2
        go_roundw
        case rel => exact ⟨_, O1, oc1, r1, cur, by omega, by omega, rfl, rfl, hr2, hn1, HL.out, HCL.out, hdc, fun q hq => HZ.out q (by omega), by
          rw [show ((i : Int) - 1 + 1).toNat = i by omega]
          exact split_step0 10000 i (VD ys) x (VD r) (VD r1) cur xs hic hix ex.out (HZ.out i (by omega)) HV1.out HV.out, hrow3, hbw3⟩
        case measure => simp [intOf]
      · obtain ⟨c2, hc2, hcp2⟩ : ∃ c : Int, cmpOf (VD r1) (VD ys) = c ∧ 0 ≤ c := ⟨_, rfl, by unfold cmpOf; split <;> (try split) <;> omega⟩
        rw [hc2] at he
        subst he
        have hlt1 : Hid (VD r1 < VD ys * 10000) := by
          show VD r1 < VD ys * 10000
          rw [HV1.out]; exact rem_next _ _ _ HLT.out hxl
        clear hless hc2
        go_wp2_with fail
        refine (digit_any O1 B oc1 cb r1 ys _ hr2 hy4 (by omega) (by omega) hn1 ny hpos hlt1.out).mono ?_
        rintro e w4 ⟨d, rfl, hd, hdle, hdlt, hb4⟩
        have HDL := Lib.hid hdle
        have HDT := Lib.hid hdlt
        clear hdle hdlt
        have hbw4 := hbw3.trans (hb4.mono hbw3.size)
        have hrow4 := hrow3.below hb4 hrow3.lt
        have hy5 := hy4.below hb4
        have hr3 := hr2.below hb4
        clear hb4 hbw3 hrow3 hy4 hr2
        have hcell := hrow4.cell hic
        have hfr := hrow4.frozen i
        have hrow5 := hrow4.set_ i d
        have hset : (cur.set i d).getD i 0 = d := by rw [getD_set _ _ _ _ hic, if_pos rfl]
        have hcell5 := hrow5.cell (i := i) (by rw [List.length_set]; exact hic)
        rw [hset] at hcell5
        have hbw5 := hbw4.setCell (p := ⟨w1.heap.size, i, none⟩) (Nat.le_refl _) (.int .i64 (d : Nat))
        have hy6 : Rd .i64 (w4.setCell ⟨w1.heap.size, i, none⟩ (.int .i64 (d : Nat))) B ys := hy1.below hbw5
        go_wp2_with fail
        refine (small_z B cb _ ys d 0 _ _ _ rfl rfl rfl hy6 (by omega) dy (by omega) (by omega)).mono ?_
        rintro e w5 ⟨Z, zc, zs, rfl, hzc, hz5, hb5, hv5, hn5, hl5⟩
        have HV5 := Lib.hid hv5
        have hbw6 := hbw5.trans (hb5.mono hbw5.size)
        have hrow6 := hrow5.below hb5 hrow5.lt
        have hr4 : Rd .i64 (w4.setCell ⟨w1.heap.size, i, none⟩ (.int .i64 (d : Nat))) O1 r1 := by
          intro hp
          obtain ⟨ad1, e1, hb1', hc1⟩ := hr3 hp
          have hne := HF.out hp ad1 e1
          refine ⟨ad1, e1, by simpa [World.setCell] using hb1', fun k hk => ?_⟩
          rw [World.cell?_of_block (Below.heap_setCell w4 ⟨w1.heap.size, i, none⟩ _ (ad1.add k).block (by rw [block_of_add]; show ad1.block ≠ w1.heap.size; omega))]
          exact hc1 k hk
        have hr5 := hr4.below hb5
        clear hv5 hcell hfr hrow4 hrow5 hcell5 hbw4 hbw5 hy6 hb5 hr4 hr3 hy5
        go_wp2_with fail
        refine (rsub_any O1 Z oc1 zc r1 zs _ hr5 hz5 (by omega) hn1 hn5 (by rw [HV5.out, Nat.add_zero]; exact HDL.out)).mono ?_
        rintro e w6 ⟨T, tc, ts, rfl, htc, ht6, hb6, hv6, hn6, hl6⟩
        have HV6 := Lib.hid hv6
        have hbw7 := hbw6.trans (hb6.mono hbw6.size)
        have hrow7 := hrow6.below hb6 hrow6.lt
        clear hv6 hrow6 hbw6 hb6 hr5 hz5
        go_wp2
        go_roundw
        case rel =>
          have q1 := HV5.out
          have q2 := HV6.out
          have q3 := HDT.out
          have q4 := HV1.out
          rw [Nat.mul_add, Nat.mul_one] at q3
          exact ⟨_, T, tc, ts, cur.set i d, by omega, by omega, rfl, rfl, ht6, hn6, by omega, by rw [List.length_set]; exact HCL.out, hdc.set _ hd, fun q hq => by rw [getD_set _ _ _ _ hic, if_neg (by omega)]; exact HZ.out q (by omega), by
            rw [show ((i : Int) - 1 + 1).toNat = i by omega]
            exact split_step 10000 i (VD ys) x (VD r) d (VD ts) cur xs hic hix ex.out (by rw [Nat.mul_comm d]; omega) HV.out, hrow7, hbw7⟩
        case measure => simp [intOf]

theorem rdiv_anyT (A B : Option Addr) (ca cb : Nat) (xs ys : List Nat) (w : World) (hx : Rd .i64 w A xs) (hy : Rd .i64 w B ys) (bx : xs.length ≤ 20000) (nx : Nm xs) (ny : Nm ys) (hpos : 0 < ys.length) :
    Calls Tryz.prog 144 #[.slice A xs.length ca, .slice B ys.length cb] w (RDivT xs ys w) := by
  rcases Nat.lt_or_ge (VD xs) (VD ys) with h | h
  · exact rdiv_lessT A B ca cb xs ys w hx hy bx nx ny h
  · rcases Nat.lt_or_ge 4 xs.length with h4 | h4
    · rcases Nat.lt_or_ge 1 ys.length with h1 | h1
      · exact rdiv_longT A B ca cb xs ys w hx hy h4 bx nx ny h1 h
      · exact rdiv_oneT A B ca cb xs ys w hx hy h4 bx nx ny (by omega) h
    · exact rdiv_littleT A B ca cb xs ys w hx hy h4 nx ny hpos h
end Go.Proofs.YtlbfoclhkdlafaaGreatDoor


/- The reference's Zero, One, Int and Make with the type of the blocks. -/
namespace Go.Proofs.YtlbfoclhkdlafaaGreatDoor
open Go.RowKit V

theorem nat1_rt (w : World) (k : Nat) (h : w.heap.size = k) : RT .i64 3 (w.alloc (.cells #[.int .i64 1] 3)) (some ⟨k, 0, none⟩) [1] := by
  subst h
  exact ⟨nat1_rd w _ rfl, fun _ => ⟨_, _, _, rfl, heap_alloc_new w _⟩⟩
set_option maxHeartbeats 400000 in
theorem qzeroT (q : Rat) (hq : QOf false 0 1 q) (w : World) : Calls Tryz.prog 156 #[] w (RefT q 0 1 w) := by
  go_enter Tryz.func156, Tryz.ntmps156
  go_wp2
  exact bodyPost_ret (v := .agg #[.bool false, .slice (some ⟨w.heap.size + 1, 0, none⟩) 0 0, .slice (some ⟨w.heap.size + 1 + 1, 0, none⟩) 1 1]) (by simp [results, Tryz.results156, go_sem]) rfl
    ⟨⟨false, some ⟨w.heap.size + 1, 0, none⟩, 0, [], some ⟨w.heap.size + 1 + 1, 0, none⟩, 1, [1]⟩, rfl, ⟨Rd.nil_, nat1_rd _ _ (by simp), nm_nil, nm_one, by simpa [VD, val] using hq⟩, ⟨RT.nil_, nat1_rt _ _ (by simp)⟩, Nat.le_refl _, Nat.le_refl _, (((Below.refl _ _).alloc (Nat.le_refl _) _).alloc (by simp) _).alloc (by simp; omega) _⟩

set_option maxHeartbeats 400000 in
theorem roneT (w : World) : Calls Tryz.prog 47 #[] w (RefT 1 1 1 w) := by
  have hq : QOf false 1 1 (1 : Rat) := by have := QOf.mk_ (neg := false) (n := 1) (d := 1) (by omega) (by decide) (fun h => by omega); exact this
  go_enter Tryz.func47, Tryz.ntmps47
  go_wp2
  exact bodyPost_ret (v := .agg #[.bool false, .slice (some ⟨w.heap.size + 1, 0, none⟩) 1 1, .slice (some ⟨w.heap.size + 1 + 1, 0, none⟩) 1 1]) (by simp [results, Tryz.results47, go_sem]) rfl
    ⟨⟨false, some ⟨w.heap.size + 1, 0, none⟩, 1, [1], some ⟨w.heap.size + 1 + 1, 0, none⟩, 1, [1]⟩, rfl, ⟨(nat1_rd _ _ (by simp)).alloc _, nat1_rd _ _ (by simp), nm_one, nm_one, by simpa [VD, val] using hq⟩, ⟨(nat1_rt _ _ (by simp)).alloc _, nat1_rt _ _ (by simp)⟩, Nat.le_refl _, Nat.le_refl _, (((Below.refl _ _).alloc (Nat.le_refl _) _).alloc (by simp) _).alloc (by simp; omega) _⟩
set_option maxRecDepth 100000 in
set_option maxHeartbeats 3200000 in
theorem rmakeT (s : Bool) (N D : Option Addr) (nc dc : Nat) (ns ds : List Nat) (w : World) (hnT : RT .i64 3 w N ns) (hdT : RT .i64 3 w D ds) (mn : Nm ns) (md : Nm ds) (l1 : ns.length ≤ 10000) (l2 : ds.length ≤ 10000) (hpos : 0 < ds.length) :
    Calls Tryz.prog 119 #[.bool s, .slice N ns.length nc, .slice D ds.length dc] w (RefT (mkRat (sgn s (VD ns)) (VD ds)) ns.length (max 1 ds.length) w) := by
  have hn := hnT.rd
  have hd := hdT.rd
  have hdp := VD_pos md hpos
  by_cases h0 : ns.length = 0
  · obtain rfl : ns = [] := List.eq_nil_of_length_eq_zero h0
    have kr := BlkT.new 46 w (.bool false) (.slice none 0 0) (.slice none 0 0)
    have hq : QOf false 0 1 (mkRat (sgn s (VD [])) (VD ds)) := by have := qof_zero s (VD ds); simpa [VD, val] using this
    go_enter Tryz.func119, Tryz.ntmps119
    go_wp2_with fail
    refine (qzeroT _ hq _).mono ?_
    rintro e w1 ⟨r, rfl, hr, hrt, hl1, hl2, hb1⟩
    have kr1 := kr.below hb1
    have hw1 : Below w.heap.size w w1 := ((Below.refl _ _).alloc (Nat.le_refl _) _).trans (hb1.mono (by simp))
    obtain ⟨c0, c1, c2, c3, c4, c5, c6⟩ := kr1.facts
    go_wp2_with fail
    refine bodyPost_ret (v := .agg #[.bool r.s, .slice r.N r.ns.length r.nc, .slice r.D r.ds.length r.dc]) (by simp [results, Tryz.results119, go_sem, c0, c1, c2]) rfl ?_
    exact RefT.put r hr hrt kr1 (Nat.le_refl _) hw1 (by simpa using hl1) (by omega)
  · have hne : ((ns.length : Int) == 0) = false := beq_eq_false_iff_ne.2 (by omega)
    have hnp := VD_pos mn (by omega)
    have hn1 : Rd .i64 (w.alloc (.cells #[.bool false, .slice none 0 0, .slice none 0 0] 46)) N ns := hn.alloc _
    have hd1 : Rd .i64 (w.alloc (.cells #[.bool false, .slice none 0 0, .slice none 0 0] 46)) D ds := hd.alloc _
    have hw1 : Below w.heap.size w (w.alloc (.cells #[.bool false, .slice none 0 0, .slice none 0 0] 46)) := (Below.refl _ _).alloc (Nat.le_refl _) _
    have kr1 := BlkT.new 46 w (.bool false) (.slice none 0 0) (.slice none 0 0)
    obtain ⟨p, hp, hp1⟩ := oneQ hd1
    have HP1 := Lib.hid hp1
    clear hp1
    have hsame : ∀ w', Below w.heap.size w w' → VD ds = 1 ∨ Nat.gcd (VD ns) (VD ds) = 1 → RL.Ref w' ⟨s, N, nc, ns, D, dc, ds⟩ (mkRat (sgn s (VD ns)) (VD ds)) ∧ RL.TyI w' ⟨s, N, nc, ns, D, dc, ds⟩ := fun w' hb h => by
      refine ⟨?_, hnT.below hb, hdT.below hb⟩
      refine ⟨hn.below hb, hd.below hb, mn, md, QOf.mk_ hdp ?_ (fun h => by dsimp only at h; omega)⟩
      rcases h with h | h
      · dsimp only; rw [h]; exact Nat.gcd_one_right _
      · exact h
    have HSAME := Lib.hid hsame
    clear hsame
    cases p
    · rcases hp with ⟨_, hp⟩ | ⟨ad, x, rfl, hp1, hp2, hp, hp3⟩
      all_goals
        first
          | have hpl : ((ds.length : Int) == 1) = true := by simp [hp1]
          | skip
        first
          | (have HPQ := Lib.hid hp1
             clear hp1 hp2)
          | skip
        go_enter Tryz.func119, Tryz.ntmps119
        go_wp2_with fail
        refine (rgcd_any N _ nc dc ns ds _ hn1 hd1 (by omega) (by omega) mn md).mono ?_
        rintro e w2 ⟨G, gc, gl, rfl, hG, hng, hlg, hvg, hb2⟩
        have kr2 := kr1.below hb2
        have hn2 := hn1.below hb2
        have hd2 := hd1.below hb2
        have hw2 := hw1.trans (hb2.mono hw1.size)
        have hgp : 0 < VD gl := by rw [hvg.out]; exact Nat.gcd_pos_of_pos_left _ hnp
        have hgl : 0 < gl.length := by
          rcases Nat.eq_zero_or_pos gl.length with h | h
          · rw [List.eq_nil_of_length_eq_zero h] at hgp; simp [VD, val] at hgp
          · exact h
        have HGP := Lib.hid hgp
        obtain ⟨p2, hq, hq1⟩ := oneQ hG
        have HQ1 := Lib.hid hq1
        clear hq1 hb2 kr1 hn1 hd1 hw1 hgp hnp hdp hp
        cases p2
        · rcases hq with ⟨_, hq⟩ | ⟨gd, y, rfl, hq1, hq2, hq, hq3⟩
          all_goals
            first
              | have hql : ((gl.length : Int) == 1) = true := by simp [hq1]
              | skip
            first
              | (have HQQ := Lib.hid hq1
                 clear hq1 hq2)
              | skip
            go_wp2_with (go_quiet (fail))
            refine (rdiv_anyT N _ nc gc ns gl _ hn2 hG (by omega) mn hng hgl).mono ?_
            rintro e w3 ⟨X, xc, xs, X2, xc2, xs2, rfl, hX, hX2, mx, mx2, hdm, hlt, hb3⟩
            have kr3 := kr2.below hb3
            have hd3 := hd2.below hb3
            have hG3 := hG.below hb3
            have hw3 := hw2.trans (hb3.mono hw2.size)
            have hxv : Hid (VD xs = VD ns / VD gl) := (div_uniq hdm.out hlt.out).1
            have hxl : xs.length ≤ ns.length := mn.len_le mx (by rw [hxv.out]; exact Nat.div_le_self _ _)
            clear hb3 hX2 mx2 hdm hlt kr2 hw2 hd2 hq
            go_wp2_with fail
            refine (rdiv_anyT _ _ dc gc ds gl _ hd3 hG3 (by omega) md hng hgl).mono ?_
            rintro e w4 ⟨Y, yc, ys, Y2, yc2, ys2, rfl, hY, hY2, my, my2, hdm, hlt, hb4⟩
            have kr4 := kr3.below hb4
            have hX4 := hX.below hb4
            have hw4 := hw3.trans (hb4.mono hw3.size)
            have hyv : Hid (VD ys = VD ds / VD gl) := (div_uniq hdm.out hlt.out).1
            have hyl : ys.length ≤ ds.length := md.len_le my (by rw [hyv.out]; exact Nat.div_le_self _ _)
            clear hb4 hY2 my2 hdm hlt kr3 hw3 hd3 hX hG3
            obtain ⟨c0, c1, c2, c3, c4, c5, c6⟩ := kr4.facts
            go_wp2_with fail
            refine bodyPost_ret (v := .agg #[.bool s, .slice X xs.length xc, .slice Y ys.length yc]) (by simp [results, Tryz.results119, go_sem, c0, c1, c2]) rfl ?_
            refine RefT.put ⟨s, X, xc, xs, Y, yc, ys⟩ ⟨hX4.rd, hY.rd, mx, my, ?_⟩ ⟨hX4, hY⟩ kr4 (Nat.le_refl _) hw4 hxl (Nat.le_trans hyl (Nat.le_max_right _ _))
            have hqr := QOf.red (neg := s) (n := VD ns) (d := VD ds) (VD_pos md hpos)
            have hqp : 0 < VD ns / Nat.gcd (VD ns) (VD ds) := Nat.div_pos (Nat.gcd_le_left _ (VD_pos mn (by omega))) (Nat.gcd_pos_of_pos_right _ (VD_pos md hpos))
            rw [decide_eq_true hqp, Bool.and_true, ← hvg.out, ← hxv.out, ← hyv.out] at hqr
            exact hqr
        · rcases hq with ⟨hqf, _⟩ | ⟨gd, y, rfl, hq1, hq2, hq, hq3⟩
          · cases hqf
          · have hql : ((gl.length : Int) == 1) = true := by simp [hq1]
            have HQQ := Lib.hid hq1
            clear hq1 hq2
            obtain ⟨c0, c1, c2, c3, c4, c5, c6⟩ := kr2.facts
            go_wp2_with (go_quiet (fail))
            have hres := RefT.put ⟨s, N, nc, ns, _, dc, ds⟩ (HSAME.out _ hw2 (.inr (by rw [← hvg.out]; exact HQ1.out trivial))).1 (HSAME.out _ hw2 (.inr (by rw [← hvg.out]; exact HQ1.out trivial))).2 kr2 (Nat.le_refl _) hw2 (Nat.le_refl _) (Nat.le_max_right 1 _)
            first
              | exact bodyPost_ret (v := .agg #[.bool s, .slice N ns.length nc, .slice D ds.length dc]) (by simp [results, Tryz.results119, go_sem, c0, c1, c2]) rfl hres
              | exact bodyPost_ret (v := .agg #[.bool s, .slice N ns.length nc, .slice (some ad) ds.length dc]) (by simp [results, Tryz.results119, go_sem, c0, c1, c2]) rfl hres
    · rcases hp with ⟨hpf, _⟩ | ⟨ad, x, rfl, hp1, hp2, hp, hp3⟩
      · cases hpf
      · have hpl : ((ds.length : Int) == 1) = true := by simp [hp1]
        have HP := Lib.hid hp1
        clear hp1 hp2
        go_enter Tryz.func119, Tryz.ntmps119
        go_wp2_with (go_quiet (fail))
        refine bodyPost_ret (v := .agg #[.bool s, .slice N ns.length nc, .slice (some ad) ds.length dc]) (by simp [results, Tryz.results119, go_sem]) rfl ?_
        refine ⟨⟨s, N, nc, ns, some ad, dc, ds⟩, rfl, (HSAME.out _ ((Below.refl _ _).alloc (Nat.le_refl _) _) (.inl (HP1.out trivial))).1, (HSAME.out _ ((Below.refl _ _).alloc (Nat.le_refl _) _) (.inl (HP1.out trivial))).2, Nat.le_refl _, Nat.le_max_right _ _, (Below.refl _ _).alloc (Nat.le_refl _) _⟩
end Go.Proofs.YtlbfoclhkdlafaaGreatDoor


/- The reference's rational Mul with the type of the blocks. -/
namespace Go.Proofs.YtlbfoclhkdlafaaGreatDoor
open Go.RowKit V

set_option maxRecDepth 100000 in
set_option maxHeartbeats 3200000 in
theorem rmulqT (a b : RL) (p q : Rat) (w : World) (ha : a.Ref w p) (hb_ : b.Ref w q) (bl : a.ns.length + a.ds.length + b.ns.length + b.ds.length ≤ 9000) :
    Calls Tryz.prog 65 #[.agg #[.bool a.s, .slice a.N a.ns.length a.nc, .slice a.D a.ds.length a.dc], .agg #[.bool b.s, .slice b.N b.ns.length b.nc, .slice b.D b.ds.length b.dc]] w (RefT (p * q) (a.ns.length + b.ns.length + 1) (a.ds.length + b.ds.length + 1) w) := by
  go_enter Tryz.func65, Tryz.ntmps65
  go_wp2_with fail
  have hbox := boxes3 46 w (.bool a.s) (.slice a.N a.ns.length a.nc) (.slice a.D a.ds.length a.dc) (.bool b.s) (.slice b.N b.ns.length b.nc) (.slice b.D b.ds.length b.dc) (.bool false) (.slice none 0 0) (.slice none 0 0)
  obtain ⟨w1, hwe⟩ : ∃ x, ((w.alloc (.cells #[.bool a.s, .slice a.N a.ns.length a.nc, .slice a.D a.ds.length a.dc] 46)).alloc (.cells #[.bool b.s, .slice b.N b.ns.length b.nc, .slice b.D b.ds.length b.dc] 46)).alloc (.cells #[.bool false, .slice none 0 0, .slice none 0 0] 46) = x := ⟨_, rfl⟩
  rw [hwe] at hbox ⊢
  obtain ⟨ka1, kb1, kr1, hb1⟩ := hbox
  have HWE := Lib.hid hwe
  clear hwe HWE
  have ha1 := ha.below hb1
  have hb_1 := hb_.below hb1
  have hw1 := hb1
  clear ha hb_ hb1
  have hna1 := ha1.rn
  have hda1 := ha1.rd
  have hnb1 := hb_1.rn
  have hdb1 := hb_1.rd
  have mna := ha1.mn
  have mda := ha1.md
  have mnb := hb_1.mn
  have mdb := hb_1.md
  have HQ := Lib.hid (mul_q ha1.q hb_1.q)
  have HDP : Hid (0 < VD a.ds * VD b.ds) := Nat.mul_pos ha1.q.pos hb_1.q.pos
  have e1 : ¬ (w.heap.size = w.heap.size + 1 + 1) := by omega
  have e2 : ¬ (w.heap.size + 1 + 1 = w.heap.size) := by omega
  obtain ⟨a0, a1, a2, a3, a4, a5, a6⟩ := ka1.facts
  obtain ⟨b0, b1, b2, b3, b4, b5, b6⟩ := kb1.facts
  go_upto_region 1 with fail
  go_region_held3 (fun w' => w'.cell? ⟨w.heap.size, 0, none⟩ = some (.bool a.s) ∧ w'.cell? ⟨w.heap.size, 1, none⟩ = some (.slice a.N a.ns.length a.nc) ∧ w'.cell? ⟨w.heap.size, 2, none⟩ = some (.slice a.D a.ds.length a.dc) ∧ w'.cell? ⟨w.heap.size + 1, 0, none⟩ = some (.bool b.s) ∧ w'.cell? ⟨w.heap.size + 1, 1, none⟩ = some (.slice b.N b.ns.length b.nc) ∧ w'.cell? ⟨w.heap.size + 1, 2, none⟩ = some (.slice b.D b.ds.length b.dc)) (first | exact ⟨‹_›, ‹_›, ‹_›, ‹_›, ‹_›, ‹_›⟩ | go_keep)
    (first
    | (go_at_call_of 120 (Value.slice a.N a.ns.length a.nc)
       refine (rmul_anyT a.N b.N a.nc b.nc a.ns b.ns _ (by first | exact hna1 | exact hna1.drew | exact hna1.alloc _ | exact (hna1.alloc _).drew | exact hna1.drew.alloc _) (by first | exact hnb1 | exact hnb1.drew | exact hnb1.alloc _ | exact (hnb1.alloc _).drew | exact hnb1.drew.alloc _) (by omega) mna mnb).mono ?_
       rintro e wx_ ⟨X, xc, xs, rfl, hxc, hX, hbx, hvx, mx_, hxl⟩
       have HVX := Lib.hid hvx
       clear hvx
       have hbp0 : Below w1.heap.size w1 wx_ := by first | exact hbx | exact below_of_drew hbx (Nat.le_refl _) | exact ((Below.refl _ _).alloc (Nat.le_refl _) _).trans (hbx.mono (by simp)) | exact ((Below.refl _ _).alloc (Nat.le_refl _) _).trans ((below_of_drew hbx (Nat.le_refl _)).mono (by simp)) | exact below_of_drew (((Below.refl _ _).alloc (Nat.le_refl _) _).trans (hbx.mono (by simp))) (Nat.le_refl _)
       have hna_0 := hna1.below hbp0
       have hda_0 := hda1.below hbp0
       have hnb_0 := hnb1.below hbp0
       have hdb_0 := hdb1.below hbp0
       have ka_0 := ka1.below hbp0
       obtain ⟨ka0wx_, ka1wx_, ka2wx_, ka3wx_, ka4wx_, ka5wx_, ka6wx_⟩ := ka_0.facts
       have kb_0 := kb1.below hbp0
       obtain ⟨kb0wx_, kb1wx_, kb2wx_, kb3wx_, kb4wx_, kb5wx_, kb6wx_⟩ := kb_0.facts
       have kr_0 := kr1.below hbp0
       obtain ⟨kr0wx_, kr1wx_, kr2wx_, kr3wx_, kr4wx_, kr5wx_, kr6wx_⟩ := kr_0.facts
       have hwq0 := hw1.trans (hbp0.mono hw1.size))
    | (go_at_call_of 120 (Value.slice a.D a.ds.length a.dc)
       refine (rmul_anyT a.D b.D a.dc b.dc a.ds b.ds _ (by first | exact hda_0 | exact hda_0.drew | exact hda_0.alloc _ | exact (hda_0.alloc _).drew | exact hda_0.drew.alloc _) (by first | exact hdb_0 | exact hdb_0.drew | exact hdb_0.alloc _ | exact (hdb_0.alloc _).drew | exact hdb_0.drew.alloc _) (by omega) mda mdb).mono ?_
       rintro e wy_ ⟨Y, yc, ys, rfl, hyc, hY, hby, hvy, my_, hyl⟩
       have HVY := Lib.hid hvy
       clear hvy
       have hyp : 0 < ys.length := len_of_VD (by rw [HVY.out]; exact HDP.out)
       have hbp1 : Below wx_.heap.size wx_ wy_ := by first | exact hby | exact below_of_drew hby (Nat.le_refl _) | exact ((Below.refl _ _).alloc (Nat.le_refl _) _).trans (hby.mono (by simp)) | exact ((Below.refl _ _).alloc (Nat.le_refl _) _).trans ((below_of_drew hby (Nat.le_refl _)).mono (by simp)) | exact below_of_drew (((Below.refl _ _).alloc (Nat.le_refl _) _).trans (hby.mono (by simp))) (Nat.le_refl _)
       have hna_1 := hna_0.below hbp1
       have hda_1 := hda_0.below hbp1
       have hnb_1 := hnb_0.below hbp1
       have hdb_1 := hdb_0.below hbp1
       have hX_1 := hX.below hbp1
       have ka_1 := ka_0.below hbp1
       obtain ⟨ka0wy_, ka1wy_, ka2wy_, ka3wy_, ka4wy_, ka5wy_, ka6wy_⟩ := ka_1.facts
       have kb_1 := kb_0.below hbp1
       obtain ⟨kb0wy_, kb1wy_, kb2wy_, kb3wy_, kb4wy_, kb5wy_, kb6wy_⟩ := kb_1.facts
       have kr_1 := kr_0.below hbp1
       obtain ⟨kr0wy_, kr1wy_, kr2wy_, kr3wy_, kr4wy_, kr5wy_, kr6wy_⟩ := kr_1.facts
       have hwq1 := hwq0.trans (hbp1.mono hwq0.size))
    | (go_at_call 119
       refine (rmakeT (a.s != b.s) X Y xc yc xs ys _ (by first | exact hX_1 | exact hX_1.drew | exact hX_1.alloc _ | exact (hX_1.alloc _).drew | exact hX_1.drew.alloc _) (by first | exact hY | exact hY.drew | exact hY.alloc _ | exact (hY.alloc _).drew | exact hY.drew.alloc _) mx_ my_ (by omega) (by omega) hyp).mono ?_
       rintro e wm_ ⟨g, rfl, hg, hgt, hg1, hg2, hbm⟩
       rw [HVX.out, HVY.out, HQ.out] at hg
       have hbp2 : Below wy_.heap.size wy_ wm_ := by first | exact hbm | exact below_of_drew hbm (Nat.le_refl _) | exact ((Below.refl _ _).alloc (Nat.le_refl _) _).trans (hbm.mono (by simp)) | exact ((Below.refl _ _).alloc (Nat.le_refl _) _).trans ((below_of_drew hbm (Nat.le_refl _)).mono (by simp)) | exact below_of_drew (((Below.refl _ _).alloc (Nat.le_refl _) _).trans (hbm.mono (by simp))) (Nat.le_refl _)
       have hna_2 := hna_1.below hbp2
       have hda_2 := hda_1.below hbp2
       have hnb_2 := hnb_1.below hbp2
       have hdb_2 := hdb_1.below hbp2
       have hX_2 := hX_1.below hbp2
       have hY_2 := hY.below hbp2
       have ka_2 := ka_1.below hbp2
       obtain ⟨ka0wm_, ka1wm_, ka2wm_, ka3wm_, ka4wm_, ka5wm_, ka6wm_⟩ := ka_2.facts
       have kb_2 := kb_1.below hbp2
       obtain ⟨kb0wm_, kb1wm_, kb2wm_, kb3wm_, kb4wm_, kb5wm_, kb6wm_⟩ := kb_2.facts
       have kr_2 := kr_1.below hbp2
       obtain ⟨kr0wm_, kr1wm_, kr2wm_, kr3wm_, kr4wm_, kr5wm_, kr6wm_⟩ := kr_2.facts
       have hwq2 := hwq1.trans (hbp2.mono hwq1.size)))
  all_goals
    go_wp2_with fail
    refine bodyPost_ret (v := .agg #[.bool g.s, .slice g.N g.ns.length g.nc, .slice g.D g.ds.length g.dc]) (by simp [results, Tryz.results65, go_sem, kr0wm_, kr1wm_, kr2wm_]) rfl ?_
    exact RefT.put g hg hgt kr_2 (by omega) hwq2 (by omega) (by omega)
end Go.Proofs.YtlbfoclhkdlafaaGreatDoor

