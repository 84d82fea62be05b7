/- isochroneref01.Mul: the product of two numbers; at most 100000 digits together. -/
import Derived.Test.YtopppmlkddajjaaGreatDoorQSR6
import Derived.Lib.LazyBuf
namespace Go.Proofs.YtopppmlkddajjaaGreatDoor
open Go.RowKit V

theorem digit_le (x y : Nat) (hx : x < 10000) (hy : y < 10000) : (x : Int) * y ≤ 99980001 := by
  have h : x * y ≤ 9999 * 9999 := Nat.mul_le_mul (by omega) (by omega)
  have : ((x * y : Nat) : Int) ≤ 99980001 := by omega
  rwa [Int.natCast_mul] at this

set_option maxHeartbeats 2000000 in
theorem rmul_any (A B : Option Addr) (ca cb : Nat) (xs ys : List Nat) (w : World) (hx : Rd .i64 w A xs) (hy : Rd .i64 w B ys) (bl : xs.length + ys.length ≤ 100000)
    (nmx : Nm xs) (nmy : Nm ys) :
    Calls Tryz.prog 50 #[.slice A xs.length ca, .slice B ys.length cb] w
      (OutP .i64 (fun zs => VD zs = VD xs * VD ys ∧ Nm zs ∧ zs.length ≤ xs.length + ys.length + 1) w) := by
  obtain ⟨dx, nx⟩ := nmx
  obtain ⟨dy, ny⟩ := nmy
  have hmk := fun W => make_nat (xs.length + ys.length + 1) ((xs.length : Int) + ys.length + 1) (by omega) (by omega) W
  go_enter Tryz.func50, Tryz.ntmps50
  go_wp2
  clear hmk
  go_loopw [6, 7, 8, 9, 10, 11, 21] (fun _ _ _ _ _ _ n wr => ∃ i : Nat, ∃ cur : List Nat, i ≤ xs.length ∧ n = .int .i64 i ∧ cur.length = xs.length + ys.length + 1 ∧ Dig 10000 cur ∧
      val 10000 cur = val 10000 (xs.take i) * VD ys ∧ (∀ j, i + ys.length ≤ j → cur.getD j 0 = 0) ∧ Row .i64 3 wr w.heap.size cur ∧ Below w.heap.size w wr) (fun _ _ _ _ _ _ n _ => xs.length - (intOf n).toNat)
  case atStart => exact ⟨0, _, Nat.zero_le _, rfl, List.length_replicate, Dig.zeros (by omega) _, by simp [val, val_zeros], fun j _ => by simp [List.getD_eq_getElem?_getD, List.getElem?_replicate]; split <;> rfl, Row.new _ _, (Below.refl _ _).alloc (Nat.le_refl _) _⟩
  case round =>
    obtain ⟨i, cur, hi, rfl, hcl, hdc, hv, hout, hrow, hbw⟩ := hrel
    have HV := Lib.hid hv
    have HCL := Lib.hid hcl
    have HO := Lib.hid hout
    clear hv hcl hout
    by_cases hix : i < xs.length
    · obtain ⟨ad, x, rfl, hbx, ex, cx⟩ := (hx.below hbw).ask hix
      have hxl : x < 10000 := by rw [← ex.out]; exact dig_getD dx (by omega) i
      go_wp2
      go_loopw [8, 9, 10, 28] (fun cv _ _ n wq => ∃ k c : Nat, ∃ cur' : List Nat, k ≤ ys.length ∧ n = .int .i64 k ∧ cv = .int .i64 c ∧ c ≤ 9999 ∧ cur'.length = xs.length + ys.length + 1 ∧ Dig 10000 cur' ∧
          val 10000 cur' + 10000 ^ (i + k) * c = val 10000 cur + 10000 ^ i * (x * val 10000 (ys.take k)) ∧ (∀ j, i + k ≤ j → cur'.getD j 0 = cur.getD j 0) ∧ Row .i64 3 wq w.heap.size cur' ∧ Below w.heap.size w wq) (fun _ _ _ n _ => ys.length - (intOf n).toNat)
      case atStart => exact ⟨0, 0, cur, Nat.zero_le _, rfl, rfl, by omega, HCL.out, hdc, by simp [val], fun _ _ => rfl, hrow, hbw⟩
      case round =>
        clear hrow hdc hbw cx hbx
        obtain ⟨k, c, cur', hk, rfl, rfl, hc, hcl', hdc', hv', hout', hrow', hbw'⟩ := hrel
        have HV' := Lib.hid hv'
        have HCL' := Lib.hid hcl'
        have HO' := Lib.hid hout'
        clear hv' hcl' hout'
        by_cases hky : k < ys.length
        · obtain ⟨bd, y, rfl, hby, ey, cy⟩ := (hy.below hbw').ask hky
          have hyl : y < 10000 := by rw [← ey.out]; exact dig_getD dy (by omega) k
          have hkc : i + k < cur'.length := by have := HCL'.out; omega
          obtain ⟨o, ho⟩ : ∃ o, Hid (cur'.getD (i + k) 0 = o) := ⟨_, rfl⟩
          have hol : o < 10000 := by rw [← ho.out]; exact dig_getD hdc' (by omega) _
          have hcell : wr.cell? ⟨w.heap.size, i + k, none⟩ = some (.int .i64 o) := by have := hrow'.cell hkc; rwa [ho.out] at this
          have hfr := hrow'.frozen (i + k)
          have hm := digit_le x y hxl hyl
          have hm0 : (0 : Int) ≤ (x : Int) * y := Int.mul_nonneg (by omega) (by omega)
          obtain ⟨s, c', hs, hc', hsc, es, ec⟩ : ∃ s c' : Nat, s < 10000 ∧ c' ≤ 9999 ∧ Hid (s + 10000 * c' = y * x + o + c) ∧
              Hid (((c : Int) + (o + (x : Int) * y)) % 10000 = s) ∧ Hid (((c : Int) + (o + (x : Int) * y)) / 10000 = c') := by
            have e : ((y * x + o + c : Nat) : Int) = (c : Int) + (o + (x : Int) * y) := by rw [Nat.mul_comm]; simp; omega
            have e2 : y * x + o + c ≤ 99999999 := by omega
            refine ⟨(y * x + o + c) % 10000, (y * x + o + c) / 10000, Nat.mod_lt _ (by omega), by omega, Nat.mod_add_div _ _, ?_, ?_⟩
            · show _ = _
              rw [← e]; omega
            · show _ = _
              rw [← e]; omega
          go_wp2
          go_roundw
          case rel =>
            exact ⟨k + 1, c', cur'.set (i + k) s, by omega, by go_num, by rw [ec.out], hc', by rw [List.length_set]; exact HCL'.out, hdc'.set _ hs,
              times_step _ i k s c c' x y o cur' ys _ hkc hky ey.out ho.out hsc.out HV'.out, fun j hj => by rw [getD_set _ _ _ _ hkc, if_neg (by omega)]; exact HO'.out j (by omega),
              by rw [es.out]; exact hrow'.set_ (i + k) s, hbw'.setCell (Nat.le_refl _) _⟩
          case measure => simp [intOf]; omega
        · obtain rfl : k = ys.length := by omega
          go_wp2
          have HT : Hid (val 10000 cur' + 10000 ^ (i + ys.length) * c = val 10000 (xs.take (i + 1)) * VD ys) := by
            have h1 := HV'.out
            rw [HV.out, List.take_length] at h1
            show _ = _
            rw [h1, val_take_succ _ xs i hix, ex.out, Nat.add_mul, Nat.mul_assoc]
            rfl
          have HZ : Hid (∀ j, i + ys.length ≤ j → cur'.getD j 0 = 0) := fun j hj => (HO'.out j hj).trans (HO.out j hj)
          clear HV' HV HO' HO
          go_loopw [8, 11] (fun cv n wq => ∃ k c : Nat, ∃ cur2 : List Nat, n = .int .i64 k ∧ cv = .int .i64 c ∧ c ≤ 9999 ∧ i + ys.length ≤ k ∧ k ≤ i + ys.length + 1 ∧ (c = 0 ∨ k = i + ys.length) ∧
              cur2.length = xs.length + ys.length + 1 ∧ Dig 10000 cur2 ∧ val 10000 cur2 + 10000 ^ k * c = val 10000 (xs.take (i + 1)) * VD ys ∧ (∀ j, k ≤ j → cur2.getD j 0 = 0) ∧
              Row .i64 3 wq w.heap.size cur2 ∧ Below w.heap.size w wq) (fun cv _ _ => (intOf cv).toNat)
          case atStart => exact ⟨i + ys.length, c, cur', by go_num, rfl, hc, Nat.le_refl _, by omega, .inr rfl, HCL'.out, hdc', HT.out, HZ.out, hrow', hbw'⟩
          case round =>
            clear hrow' hdc' hbw' HT HZ hc hk HCL' hky
            obtain ⟨k, c, cur2, rfl, rfl, hc, hk1, hk2, hor, hcl2, hdc2, hv2, hz2, hrow2, hbw2⟩ := hrel
            have HV2 := Lib.hid hv2
            have HCL2 := Lib.hid hcl2
            have HZ2 := Lib.hid hz2
            have HOR := Lib.hid hor
            clear hv2 hcl2 hz2 hor
            by_cases h0 : c = 0
            · subst h0
              go_wp2
              go_roundw
              case rel => exact ⟨i + 1, cur2, by omega, by go_num, HCL2.out, hdc2, by simpa using HV2.out, fun j hj => HZ2.out j (by omega), hrow2, hbw2⟩
              case measure => simp [intOf]; omega
            · have hkk : k = i + ys.length := by rcases HOR.out with h | h; exact absurd h h0; exact h
              have HK := Lib.hid hkk
              have hkc : k < cur2.length := by have := HCL2.out; omega
              have hkl : k < xs.length + ys.length + 1 := by omega
              clear hkk HOR
              have hcell : wr.cell? ⟨w.heap.size, k, none⟩ = some (.int .i64 0) := by
                have := hrow2.cell hkc
                rw [HZ2.out k (Nat.le_refl _)] at this
                exact this
              have hfr := hrow2.frozen k
              have h1 : 1 ≤ c := by omega
              have em : Hid ((c : Int) % 10000 = c) := by show _ = _; omega
              have ed : Hid ((c : Int) / 10000 = (0 : Nat)) := by show _ = _; omega
              go_wp2
              go_roundw
              case rel =>
                exact ⟨k + 1, 0, cur2.set k c, by go_num, by rw [ed.out], by omega, by omega, by have := HK.out; omega, .inl rfl, by rw [List.length_set]; exact HCL2.out, hdc2.set _ (by omega),
                  by have h2 := val_set 10000 cur2 k c hkc; rw [HZ2.out k (Nat.le_refl _)] at h2; have := HV2.out; omega, fun j hj => by rw [getD_set _ _ _ _ hkc, if_neg (by omega)]; exact HZ2.out j (by omega),
                  by rw [em.out]; exact hrow2.set_ k c, hbw2.setCell (Nat.le_refl _) _⟩
              case measure => simp [intOf]; omega
    · obtain rfl : i = xs.length := by omega
      go_wp2_with (go_at_call 84; refine (trim_i64n _ _ _ cur _ HCL.out hrow.rd (Nat.le_refl _) (by omega)).mono ?_; rintro e w1 ⟨m, hm, rfl, hv3, hn3, rfl⟩; have HV3 := Lib.hid hv3; clear hv3)
      go_ret
      have hfl := HCL.out
      exact OutP.of_take hm (by omega) hrow.rd hbw ⟨by show val 10000 (cur.take m) = _; rw [HV3.out, HV.out, List.take_length]; rfl, ⟨hdc.take m, hn3⟩, by rw [List.length_take]; omega⟩
end Go.Proofs.YtopppmlkddajjaaGreatDoor

