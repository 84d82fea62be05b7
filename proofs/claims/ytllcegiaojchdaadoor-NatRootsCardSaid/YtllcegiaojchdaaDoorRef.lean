/- isochroneref01.Cmp, Add, Clone, Sub, Mul: comparison, sum, difference and product of numbers; at most 100000 digits. -/
import Derived.Test.YtllcegiaojchdaaDoorCmp
import Derived.Test.YtllcegiaojchdaaDoorClone
import Derived.Test.YtllcegiaojchdaaDoorOps
import Derived.Test.YtllcegiaojchdaaDoorSmall
namespace Go.Proofs.YtllcegiaojchdaaDoor
open Go.RowKit V

theorem Nm.len_le {xs ys : List Nat} (hx : Nm xs) (hy : Nm ys) (h : VD ys ≤ VD xs) : ys.length ≤ xs.length := by
  rcases Nat.lt_or_ge xs.length ys.length with h1 | h1
  · have := val_lt_of_len (B := 10000) (by omega) hx.1 hy.2 h1
    unfold VD at h; omega
  · exact h1
theorem Nm.eq {xs ys : List Nat} (hx : Nm xs) (hy : Nm ys) (h : VD xs = VD ys) : xs = ys := val_inj hx.1 hy.1 hx.2 hy.2 h

set_option maxHeartbeats 400000 in
theorem rcmp_any (A B : Option Addr) (c d : Nat) (xs ys : List Nat) (w : World) (hx : Rd .i64 w A xs) (hy : Rd .i64 w B ys) (bx : xs.length ≤ 100000)
    (nmx : Nm xs) (nmy : Nm ys) :
    Calls Tryd.prog 18 #[.slice A xs.length c, .slice B ys.length d] w (Says (.int .i64 (cmpOf (VD xs) (VD ys))) w) := by
  obtain ⟨dx, nx⟩ := nmx
  obtain ⟨dy, ny⟩ := nmy
  by_cases hl : xs.length = ys.length
  · have hb : ((xs.length : Int) != (ys.length : Int)) = false := by simp [hl]
    have HL := Lib.hid hl
    clear hl
    go_enter Tryd.func18, Tryd.ntmps18
    go_wp2
    go_loopw [5] (fun i wr => ∃ j : Int, ∃ n : Nat, -1 ≤ j ∧ j < xs.length ∧ i = .int .i64 j ∧ xs.drop (j + 1).toNat = ys.drop (j + 1).toNat ∧ wr = w.drewN n) (fun i _ => (intOf i + 1).toNat)
    case atStart => exact ⟨_, 0, by omega, by omega, rfl, by rw [show ((xs.length : Int) - 1 + 1).toNat = xs.length by omega, List.drop_length, HL.out, List.drop_length], rfl⟩
    case round =>
      obtain ⟨j, n, hj, hjl, rfl, he, rfl⟩ := hrel
      have HE := Lib.hid he
      clear he
      by_cases h0 : j < 0
      · go_wp2
        go_ret
        exact ⟨ret_int (cmpOf_eq (by have := HE.out; rw [show (j + 1).toNat = 0 by omega] at this; simp only [List.drop_zero] at this; rw [this])).symm, n, rfl⟩
      · obtain ⟨k, rfl⟩ := Int.eq_ofNat_of_zero_le (show 0 ≤ j by omega)
        have hkx : k < xs.length := by omega
        have hky : k < ys.length := by have := HL.out; omega
        obtain ⟨ad, x, rfl, hbx, ex, cx⟩ := hx.ask hkx
        obtain ⟨bd, y, rfl, hby, ey, cy⟩ := hy.ask hky
        have ek : ((k : Int) + 1).toNat = k + 1 := by omega
        by_cases hxy : x = y
        · subst hxy
          have HS : Hid (xs.drop k = ys.drop k) := by
            have := HE.out
            rw [ek] at this
            show xs.drop k = ys.drop k
            rw [drop_eq xs k hkx, drop_eq ys k hky, ex.out, ey.out, this]
          go_wp2_with (go_quiet (fail))
          go_roundw
          case rel => exact ⟨_, _, by omega, by omega, rfl, by rw [show ((k : Int) - 1 + 1).toNat = k by omega]; exact HS.out, rfl⟩
          case measure => simp [intOf]
        · have HT : Hid (cmpOf (x : Int) (y : Int) = cmpOf (VD xs) (VD ys)) := cmp_top dx dy HL.out hkx (by have := HE.out; rwa [ek] at this) ex.out ey.out hxy
          by_cases hlt : x < y
          · go_wp2_with (go_quiet (fail))
            go_ret
            exact ⟨ret_int (by rw [← HT.out, cmpOf_lt (by omega)]), _, rfl⟩
          · go_wp2_with (go_quiet (fail))
            go_ret
            exact ⟨ret_int (by rw [← HT.out, cmpOf_gt (by omega)]), _, rfl⟩
  · have HE : Hid (cmpOf (xs.length : Int) (ys.length : Int) = cmpOf (VD xs) (VD ys)) := cmp_len (by omega) dx dy nx ny hl
    by_cases hlt : xs.length < ys.length
    · go_enter Tryd.func18, Tryd.ntmps18
      go_wp2
      go_ret
      exact ⟨ret_int (by rw [← HE.out, cmpOf_lt (by omega)]), 0, rfl⟩
    · go_enter Tryd.func18, Tryd.ntmps18
      go_wp2
      go_ret
      exact ⟨ret_int (by rw [← HE.out, cmpOf_gt (by omega)]), 0, rfl⟩

set_option maxHeartbeats 1000000 in
theorem radd_any (A B : Option Addr) (ca cb : Nat) (xs ys : List Nat) (w : World) (hx : Rd .i64 w A xs) (hy : Rd .i64 w B ys) (bx : xs.length ≤ 100000) (by_ : ys.length ≤ 100000)
    (nmx : Nm xs) (nmy : Nm ys) :
    Calls Tryd.prog 16 #[.slice A xs.length ca, .slice B ys.length cb] w
      (OutP .i64 (fun zs => VD zs = VD xs + VD ys ∧ Nm zs ∧ zs.length ≤ max xs.length ys.length + 1) w) := by
  obtain ⟨dx, nx⟩ := nmx
  obtain ⟨dy, ny⟩ := nmy
  go_enter Tryd.func16, Tryd.ntmps16
  go_wp2
  go_loopw [5, 6, 7] (fun v cv i wr => ∃ k c : Nat, ∃ out : List Nat, i = .int .i64 k ∧ cv = .int .i64 c ∧ c ≤ 1 ∧ out.length = k ∧ Dig 10000 out ∧
      val 10000 out + 10000 ^ k * c = val 10000 (xs.take k) + val 10000 (ys.take k) ∧ k ≤ max xs.length ys.length + 1 ∧ (max xs.length ys.length < k → c = 0 ∧ 10000 ^ max xs.length ys.length ≤ VD xs + VD ys) ∧
      Own .i64 3 w.heap.size wr v out ∧ Below w.heap.size w wr) (fun _ _ i _ => max xs.length ys.length + 1 - (intOf i).toNat)
  case atStart => exact ⟨0, 0, [], rfl, rfl, by omega, rfl, fun _ h => by simp at h, by simp [val], by omega, fun h => absurd h (by omega), Own.nil_, Below.refl _ _⟩
  case round =>
    obtain ⟨k, c, out, rfl, rfl, hc, hol, hdo, hv, hk, hend, hown, hbw⟩ := hrel
    have HV := Lib.hid hv
    have HOL := Lib.hid hol
    have HE := Lib.hid hend
    clear hv hol hend
    by_cases hkx : k < xs.length
    · by_cases hky : k < ys.length
      · obtain ⟨ad, x, rfl, hbx, ex, cx⟩ := (hx.below hbw).ask hkx
        have hxl : x < 10000 := by rw [← ex.out]; exact dig_getD dx (by omega) k
        obtain ⟨bd, y, rfl, hby, ey, cy⟩ := (hy.below hbw).ask hky
        have hyl : y < 10000 := by rw [← ey.out]; exact dig_getD dy (by omega) k
        obtain ⟨s, c2, hs, hc2, hsc, es, ec⟩ : ∃ s c2 : Nat, s < 10000 ∧ c2 ≤ 1 ∧ Hid (s + 10000 * c2 = c + x + y) ∧ Hid (((c : Int) + x + y) % 10000 = s) ∧ Hid (((c : Int) + x + y) / 10000 = c2) :=
          ⟨(c + x + y) % 10000, (c + x + y) / 10000, Nat.mod_lt _ (by omega), by omega, Nat.mod_add_div _ _, by show _ = _; omega, by show _ = _; omega⟩
        have hmx : k < max xs.length ys.length := by omega
        go_wp2_with (at_builtin; refine wpList_app1 rfl (.tmp 44) (.tmp 47) 26 3 rfl .i64 8 info_i64 Tryd.underlying26 (by omega) _ _ out _ s es.out rfl hown rfl hbw (Nat.le_refl _) (by have := HOL.out; omega) ?_; intro v' w' hown' hbw')
        go_roundw
        case rel => exact ⟨k + 1, c2, out ++ [s], by go_num, by rw [ec.out], hc2, by rw [List.length_append, HOL.out]; rfl, hdo.snoc hs, addr_step 10000 k s c c2 _ _ out xs ys HOL.out ex.out ey.out hsc.out HV.out, by omega, fun h => by omega, hown', hbw'⟩
        case measure => simp [intOf]; omega
      · have hkyI : (ys.length : Int) ≤ k := by omega
        obtain ⟨ad, x, rfl, hbx, ex, cx⟩ := (hx.below hbw).ask hkx
        have hxl : x < 10000 := by rw [← ex.out]; exact dig_getD dx (by omega) k
        have ey : Hid (ys.getD k 0 = 0) := getD_beyond ys k (by omega)
        obtain ⟨s, c2, hs, hc2, hsc, es, ec⟩ : ∃ s c2 : Nat, s < 10000 ∧ c2 ≤ 1 ∧ Hid (s + 10000 * c2 = c + x + 0) ∧ Hid (((c : Int) + x) % 10000 = s) ∧ Hid (((c : Int) + x) / 10000 = c2) :=
          ⟨(c + x + 0) % 10000, (c + x + 0) / 10000, Nat.mod_lt _ (by omega), by omega, Nat.mod_add_div _ _, by show _ = _; omega, by show _ = _; omega⟩
        have hmx : k < max xs.length ys.length := by omega
        go_wp2_with (at_builtin; refine wpList_app1 rfl (.tmp 44) (.tmp 47) 26 3 rfl .i64 8 info_i64 Tryd.underlying26 (by omega) _ _ out _ s es.out rfl hown rfl hbw (Nat.le_refl _) (by have := HOL.out; omega) ?_; intro v' w' hown' hbw')
        go_roundw
        case rel => exact ⟨k + 1, c2, out ++ [s], by go_num, by rw [ec.out], hc2, by rw [List.length_append, HOL.out]; rfl, hdo.snoc hs, addr_step 10000 k s c c2 _ _ out xs ys HOL.out ex.out ey.out hsc.out HV.out, by omega, fun h => by omega, hown', hbw'⟩
        case measure => simp [intOf]; omega
    · by_cases hky : k < ys.length
      · have ex : Hid (xs.getD k 0 = 0) := getD_beyond xs k (by omega)
        obtain ⟨bd, y, rfl, hby, ey, cy⟩ := (hy.below hbw).ask hky
        have hyl : y < 10000 := by rw [← ey.out]; exact dig_getD dy (by omega) k
        obtain ⟨s, c2, hs, hc2, hsc, es, ec⟩ : ∃ s c2 : Nat, s < 10000 ∧ c2 ≤ 1 ∧ Hid (s + 10000 * c2 = c + 0 + y) ∧ Hid (((c : Int) + y) % 10000 = s) ∧ Hid (((c : Int) + y) / 10000 = c2) :=
          ⟨(c + 0 + y) % 10000, (c + 0 + y) / 10000, Nat.mod_lt _ (by omega), by omega, Nat.mod_add_div _ _, by show _ = _; omega, by show _ = _; omega⟩
        have hmx : k < max xs.length ys.length := by omega
        go_wp2_with (at_builtin; refine wpList_app1 rfl (.tmp 44) (.tmp 47) 26 3 rfl .i64 8 info_i64 Tryd.underlying26 (by omega) _ _ out _ s es.out rfl hown rfl hbw (Nat.le_refl _) (by have := HOL.out; omega) ?_; intro v' w' hown' hbw')
        go_roundw
        case rel => exact ⟨k + 1, c2, out ++ [s], by go_num, by rw [ec.out], hc2, by rw [List.length_append, HOL.out]; rfl, hdo.snoc hs, addr_step 10000 k s c c2 _ _ out xs ys HOL.out ex.out ey.out hsc.out HV.out, by omega, fun h => by omega, hown', hbw'⟩
        case measure => simp [intOf]; omega
      · by_cases h0 : c = 0
        · subst h0
          obtain ⟨O, oc, rfl, hoc, hro⟩ := hown.form
          clear hown
          go_wp2
          go_ret
          have hval : VD out = VD xs + VD ys := by
            have h1 := HV.out
            rw [List.take_of_length_le (by omega), List.take_of_length_le (by omega)] at h1
            unfold VD; omega
          have hol := HOL.out
          refine ⟨O, oc, out, rfl, hoc, hro, hbw, hval, ⟨hdo, nrm_of_ge hdo fun hz => ?_⟩, by omega⟩
          show 10000 ^ (out.length - 1) ≤ VD out
          rw [hval, hol]
          rcases Nat.lt_or_ge (max xs.length ys.length) k with h | h
          · have := (HE.out h).2
            rw [show k - 1 = max xs.length ys.length by omega]; exact this
          · rcases Nat.lt_or_ge (k - 1) xs.length with h1 | h1
            · have := val_ge (B := 10000) nx (by omega)
              rw [show xs.length - 1 = k - 1 by omega] at this
              unfold VD; omega
            · have := val_ge (B := 10000) ny (by omega)
              rw [show ys.length - 1 = k - 1 by omega] at this
              unfold VD; omega
        · have hmk : ¬ max xs.length ys.length < k := fun h => h0 (HE.out h).1
          have ex : Hid (xs.getD k 0 = 0) := getD_beyond xs k (by omega)
          have ey : Hid (ys.getD k 0 = 0) := getD_beyond ys k (by omega)
          obtain ⟨s, c2, hs, hc2, hsc, es, ec⟩ : ∃ s c2 : Nat, s < 10000 ∧ c2 ≤ 1 ∧ Hid (s + 10000 * c2 = c + 0 + 0) ∧ Hid (((c : Int)) % 10000 = s) ∧ Hid (((c : Int)) / 10000 = c2) :=
            ⟨(c + 0 + 0) % 10000, (c + 0 + 0) / 10000, Nat.mod_lt _ (by omega), by omega, Nat.mod_add_div _ _, by show _ = _; omega, by show _ = _; omega⟩
          have hmx : k = max xs.length ys.length := by omega
          have HB : Hid (10000 ^ max xs.length ys.length ≤ VD xs + VD ys) := by
            have h1 := HV.out
            rw [show c = 1 by omega, List.take_of_length_le (by omega), List.take_of_length_le (by omega)] at h1
            show 10000 ^ max xs.length ys.length ≤ VD xs + VD ys
            unfold VD; rw [← hmx]; omega
          have HM := Lib.hid hmx
          clear hmx
          go_wp2_with (at_builtin; refine wpList_app1 rfl (.tmp 44) (.tmp 47) 26 3 rfl .i64 8 info_i64 Tryd.underlying26 (by omega) _ _ out _ s es.out rfl hown rfl hbw (Nat.le_refl _) (by have := HOL.out; omega) ?_; intro v' w' hown' hbw')
          go_roundw
          case rel => exact ⟨k + 1, c2, out ++ [s], by go_num, by rw [ec.out], hc2, by rw [List.length_append, HOL.out]; rfl, hdo.snoc hs, addr_step 10000 k s c c2 _ _ out xs ys HOL.out ex.out ey.out hsc.out HV.out, by have := HM.out; omega, fun _ => ⟨by have := hsc.out; omega, HB.out⟩, hown', hbw'⟩
          case measure => simp [intOf]; omega

set_option maxHeartbeats 1000000 in
theorem rsub_any (A B : Option Addr) (ca cb : Nat) (xs ys : List Nat) (w : World) (hx : Rd .i64 w A xs) (hy : Rd .i64 w B ys) (bx : xs.length ≤ 100000)
    (nmx : Nm xs) (nmy : Nm ys) (hge : VD ys ≤ VD xs) :
    Calls Tryd.prog 24 #[.slice A xs.length ca, .slice B ys.length cb] w
      (OutP .i64 (fun zs => VD zs + VD ys = VD xs ∧ Nm zs ∧ zs.length ≤ xs.length) w) := by
  have hll := nmx.len_le nmy hge
  obtain ⟨dx, nx⟩ := nmx
  obtain ⟨dy, ny⟩ := nmy
  go_enter Tryd.func24, Tryd.ntmps24
  go_wp2_with (go_at_call 46; refine (clone_nat A ca xs _ hx (by omega)).mono ?_; rintro e w1 ⟨v, rfl, hown1, hb1⟩; obtain ⟨O, oc, rfl, hoc, hro1, hsh⟩ := hown1.shape)
  go_loopw [6, 7, 8, 13] (fun cv _ _ i wr => ∃ k c : Nat, ∃ cur : List Nat, k ≤ xs.length ∧ i = .int .i64 k ∧ cv = .int .i64 c ∧ c ≤ 1 ∧ cur.length = xs.length ∧ Dig 10000 cur ∧
      val 10000 (cur.take k) + val 10000 (ys.take k) = val 10000 (xs.take k) + 10000 ^ k * c ∧ (∀ j, k ≤ j → cur.getD j 0 = xs.getD j 0) ∧
      Own .i64 3 w.heap.size wr (.slice O xs.length oc) cur ∧ Below w.heap.size w wr) (fun _ _ _ i _ => xs.length - (intOf i).toNat)
  case atStart => exact ⟨0, 0, xs, Nat.zero_le _, rfl, rfl, by omega, rfl, dx, by simp [val], fun _ _ => rfl, hown1, hb1⟩
  case round =>
    obtain ⟨k, c, cur, hk, rfl, rfl, hc, hcl, hdc, hv, hout, hown, hbw⟩ := hrel
    have HV := Lib.hid hv
    have HCL := Lib.hid hcl
    have HO := Lib.hid hout
    clear hv hcl hout
    by_cases hkx : k < xs.length
    · obtain ⟨g, rfl, hgB⟩ := hsh (by omega)
      have hkc : k < cur.length := by have := HCL.out; omega
      obtain ⟨x, ex⟩ : ∃ x, Hid (cur.getD k 0 = x) := ⟨_, rfl⟩
      have hxl : x < 10000 := by rw [← ex.out]; exact dig_getD hdc (by omega) k
      have hcell : wr.cell? ⟨g, k, none⟩ = some (.int .i64 x) := by have := hown.cell HCL.out hkx; rwa [ex.out] at this
      have hfr := hown.frz (i := k) HCL.out
      by_cases hky : k < ys.length
      · obtain ⟨bd, y, rfl, hby, ey, cy⟩ := (hy.below hbw).ask hky
        have hyl : y < 10000 := by rw [← ey.out]; exact dig_getD dy (by omega) k
        by_cases hneg : (x : Int) - c - y < 0
        · obtain ⟨s, hs, es, hsc⟩ : ∃ s : Nat, s < 10000 ∧ Hid ((x : Int) - c - y + 10000 = s) ∧ Hid (s + y + c = x + 10000 * 1) := ⟨((x : Int) - c - y + 10000).toNat, by omega, by show _ = _; omega, by show _ = _; omega⟩
          go_wp2
          go_roundw
          case rel => exact ⟨k + 1, 1, cur.set k s, by omega, by go_num, rfl, by omega, by rw [List.length_set]; exact HCL.out, hdc.set _ hs, sub_step 10000 k s c 1 x y cur xs ys hkc hkx (by omega) (by rw [← HO.out k (Nat.le_refl _)]; exact ex.out) ey.out hsc.out HV.out, fun j hj => by rw [getD_set _ _ _ _ hkc, if_neg (by omega)]; exact HO.out j (by omega), by rw [es.out]; exact hown.set_ HCL.out, hbw.setCell hgB _⟩
          case measure => simp [intOf]; omega
        · obtain ⟨s, hs, es, hsc⟩ : ∃ s : Nat, s < 10000 ∧ Hid ((x : Int) - c - y = s) ∧ Hid (s + y + c = x + 10000 * 0) := ⟨((x : Int) - c - y).toNat, by omega, by show _ = _; omega, by show _ = _; omega⟩
          go_wp2
          go_roundw
          case rel => exact ⟨k + 1, 0, cur.set k s, by omega, by go_num, rfl, by omega, by rw [List.length_set]; exact HCL.out, hdc.set _ hs, sub_step 10000 k s c 0 x y cur xs ys hkc hkx (by omega) (by rw [← HO.out k (Nat.le_refl _)]; exact ex.out) ey.out hsc.out HV.out, fun j hj => by rw [getD_set _ _ _ _ hkc, if_neg (by omega)]; exact HO.out j (by omega), by rw [es.out]; exact hown.set_ HCL.out, hbw.setCell hgB _⟩
          case measure => simp [intOf]; omega
      · by_cases hneg : (x : Int) - c < 0
        · obtain ⟨s, hs, es, hsc⟩ : ∃ s : Nat, s < 10000 ∧ Hid ((x : Int) - c + 10000 = s) ∧ Hid (s + 0 + c = x + 10000 * 1) := ⟨((x : Int) - c + 10000).toNat, by omega, by show _ = _; omega, by show _ = _; omega⟩
          go_wp2
          go_roundw
          case rel => exact ⟨k + 1, 1, cur.set k s, by omega, by go_num, rfl, by omega, by rw [List.length_set]; exact HCL.out, hdc.set _ hs, by rw [List.take_of_length_le (l := ys) (by omega)]; exact sub_step1 10000 k s c 1 x _ cur xs hkc hkx (by rw [← HO.out k (Nat.le_refl _)]; exact ex.out) (by have := hsc.out; omega) (by have := HV.out; rwa [List.take_of_length_le (l := ys) (by omega)] at this), fun j hj => by rw [getD_set _ _ _ _ hkc, if_neg (by omega)]; exact HO.out j (by omega), by rw [es.out]; exact hown.set_ HCL.out, hbw.setCell hgB _⟩
          case measure => simp [intOf]; omega
        · obtain ⟨s, hs, es, hsc⟩ : ∃ s : Nat, s < 10000 ∧ Hid ((x : Int) - c = s) ∧ Hid (s + 0 + c = x + 10000 * 0) := ⟨((x : Int) - c).toNat, by omega, by show _ = _; omega, by show _ = _; omega⟩
          go_wp2
          go_roundw
          case rel => exact ⟨k + 1, 0, cur.set k s, by omega, by go_num, rfl, by omega, by rw [List.length_set]; exact HCL.out, hdc.set _ hs, by rw [List.take_of_length_le (l := ys) (by omega)]; exact sub_step1 10000 k s c 0 x _ cur xs hkc hkx (by rw [← HO.out k (Nat.le_refl _)]; exact ex.out) (by have := hsc.out; omega) (by have := HV.out; rwa [List.take_of_length_le (l := ys) (by omega)] at this), fun j hj => by rw [getD_set _ _ _ _ hkc, if_neg (by omega)]; exact HO.out j (by omega), by rw [es.out]; exact hown.set_ HCL.out, hbw.setCell hgB _⟩
          case measure => simp [intOf]; omega
    · obtain rfl : k = xs.length := by omega
      have hrd : Rd .i64 wr O cur := by
        obtain ⟨A', c', h1, _, h2⟩ := hown.form
        injection h1 with h1
        subst h1
        exact h2
      have HF : Hid (val 10000 cur + val 10000 ys = val 10000 xs) := by
        have h1 := HV.out
        rw [List.take_length, List.take_of_length_le (by have := HCL.out; omega), List.take_of_length_le (by omega)] at h1
        exact sub_end hdc HCL.out hge h1 hc
      go_wp2_with (go_at_call 39; refine (trim_i64n O oc _ cur _ HCL.out hrd hoc (by omega)).mono ?_; rintro e w2 ⟨m, hm, rfl, hv3, hn3, rfl⟩; have HV3 := Lib.hid hv3; clear hv3)
      go_ret
      have hfl := HCL.out
      exact OutP.of_take hm (by omega) hrd hbw ⟨by show val 10000 (cur.take m) + _ = _; rw [HV3.out]; exact HF.out, ⟨hdc.take m, hn3⟩, by rw [List.length_take]; omega⟩
end Go.Proofs.YtllcegiaojchdaaDoor

