/- isochroneref01.Of: the number of a magnitude of at most 5000 words. -/
import Derived.Test.YtopppmlkddajjaaGreatDoorQSR4
namespace Go.Proofs.YtopppmlkddajjaaGreatDoor
open Go.RowKit V

theorem nm_nil : Nm [] := ⟨fun _ h => by simp at h, nrm_nil⟩

set_option maxHeartbeats 800000 in
theorem of_any (A : Option Addr) (c : Nat) (xs : List Nat) (w : World) (hx : Rd .u32 w A xs) (bl : xs.length ≤ 5000) (dx : Dig 4294967296 xs) :
    Calls Tryz.prog 39 #[.slice A xs.length c] w
      (OutP .i64 (fun zs => VD zs = V32 xs ∧ Nm zs ∧ zs.length ≤ 4 * xs.length) w) := by
  go_enter Tryz.func39, Tryz.ntmps39
  go_wp2
  go_loopw [3, 4] (fun v i wr => ∃ j : Int, ∃ O oc out, -1 ≤ j ∧ j < xs.length ∧ i = .int .i64 j ∧ v = .slice O out.length oc ∧ out.length ≤ oc ∧ Rd .i64 wr O out ∧ Nm out ∧
      VD out = V32 (xs.drop (j + 1).toNat) ∧ (out.length : Int) + 4 * (j + 1) ≤ 4 * xs.length ∧ Below w.heap.size w wr) (fun _ i _ => (intOf i + 1).toNat)
  case atStart => exact ⟨_, some ⟨w.heap.size, 0, none⟩, 0, [], by omega, by omega, rfl, rfl, Nat.le_refl _, Rd.nil_, nm_nil, by rw [show ((xs.length : Int) - 1 + 1).toNat = xs.length by omega, List.drop_length]; rfl, by simp, (Below.refl _ _).alloc (Nat.le_refl _) _⟩
  case round =>
    obtain ⟨j, O, oc, out, hj, hjl, rfl, rfl, hoc, hro, hno, hv, hol, hbw⟩ := hrel
    have HV := Lib.hid hv
    clear hv
    by_cases h0 : j < 0
    · go_wp2
      go_ret
      exact ⟨O, oc, out, rfl, hoc, hro, hbw, by rw [HV.out, show (j + 1).toNat = 0 by omega, List.drop_zero], hno, by omega⟩
    · obtain ⟨k, rfl⟩ := Int.eq_ofNat_of_zero_le (show 0 ≤ j by omega)
      have hkx : k < xs.length := by omega
      obtain ⟨ad, x, rfl, hbx, ex, cx⟩ := (hx.below hbw).ask hkx
      have hxl : x < 4294967296 := by rw [← ex.out]; exact dig_getD dx (by omega) k
      have h1 : Hid ((x : Int) / 65536 = (x / 65536 : Nat)) := by show _ = _; omega
      have h2 : Hid (bits BinOp.and IntKind.u32 (x : Int) 65535 = (x % 65536 : Nat)) := by
        show _ = _
        have := u32_and_nat x 65535 hxl (by omega)
        rw [nat_mask16] at this
        exact this
      have h2a : 0 ≤ bits BinOp.and IntKind.u32 (x : Int) 65535 := by rw [h2.out]; omega
      have h2b : bits BinOp.and IntKind.u32 (x : Int) 65535 ≤ 65535 := by rw [h2.out]; omega
      have hnd : Dig 10000 out := hno.1
      go_wp2_with (first
        | (go_at_call 72; (with_reducible refine (small_z O oc _ out 65536 (x / 65536) _ _ _ rfl (by omega) h1.out hro (by omega) hnd (by omega) (by omega)).mono ?_); rintro e w1 ⟨O1, oc1, out1, rfl, hoc1, hro1, hb1, hv1, ⟨hd1, hn1⟩, hl1⟩; have HV1 := Lib.hid hv1; clear hv1; have hcell1 := (hb1.cell (p := ad.add k) (by rw [block_of_add]; exact hbx)).trans cx)
        | (go_at_call 72; (with_reducible refine (small_z O1 oc1 _ out1 65536 (x % 65536) _ _ _ rfl (by omega) h2.out hro1 (by omega) hd1 (by omega) (by omega)).mono ?_); rintro e w2 ⟨O2, oc2, out2, rfl, hoc2, hro2, hb2, hv2, ⟨hd2, hn2⟩, hl2⟩; have HV2 := Lib.hid hv2; clear hv2))
      go_roundw
      case rel =>
        refine ⟨_, O2, oc2, out2, by omega, by omega, rfl, rfl, hoc2, hro2, ⟨hd2, hn2⟩, ?_, by omega, (hbw.trans (hb1.mono hbw.size)).trans (hb2.mono (Nat.le_trans hbw.size hb1.size))⟩
        rw [HV2.out, HV1.out, HV.out, show ((k : Int) - 1 + 1).toNat = k by omega, show ((k : Int) + 1).toNat = k + 1 by omega]
        unfold V32
        rw [val_drop _ xs k hkx, ex.out]
        omega
      case measure => simp [intOf]
end Go.Proofs.YtopppmlkddajjaaGreatDoor


/- isochroneref01.Small once more: what it returns lies in a new block. -/
namespace Go.Proofs.YtopppmlkddajjaaGreatDoor
open Go.RowKit V

/-- A list that comes back, in a new block. -/
def OutF (k : IntKind) (Q : List Nat → Prop) (w : World) (e : Ending) (w' : World) : Prop :=
  ∃ A c ys, e = .returned (.slice A (ys : List Nat).length c) ∧ ys.length ≤ c ∧ Rd k w' A ys ∧ Below w.heap.size w w' ∧ Q ys ∧ (0 < ys.length → ∀ ad, A = some ad → w.heap.size ≤ ad.block)
theorem OutF.of_take {k : IntKind} {Q : List Nat → Prop} {w w' : World} {A : Option Addr} {c m : Nat} {fin : List Nat} (hm : m ≤ fin.length) (hc : m ≤ c) (hr : Rd k w' A fin) (hb : Below w.heap.size w w')
    (hf : 0 < fin.length → ∀ ad, A = some ad → w.heap.size ≤ ad.block) (hq : Q (fin.take m)) : OutF k Q w (.returned (.slice A m c)) w' := by
  have hl : (fin.take m).length = m := by rw [List.length_take, Nat.min_eq_left hm]
  exact ⟨A, c, fin.take m, by rw [hl], by rw [hl]; exact hc, hr.take hm, hb, hq, fun h => hf (by omega)⟩

set_option maxHeartbeats 800000 in
theorem smallf_any (A : Option Addr) (ca : Nat) (xs : List Nat) (k c : Nat) (w : World) (hx : Rd .i64 w A xs) (bl : xs.length ≤ 100000) (dx : Dig 10000 xs) (hk : k ≤ 65536) (hc : c ≤ 65536) :
    Calls Tryz.prog 72 #[.slice A xs.length ca, .int .i64 k, .int .i64 c] w
      (OutF .i64 (fun zs => VD zs = VD xs * k + c ∧ Nm zs ∧ zs.length ≤ xs.length + 2) w) := by
  have hmk := fun W => make_cap (xs.length + 2) ((xs.length : Int) + 2) (by omega) (by omega) W
  go_enter Tryz.func72, Tryz.ntmps72
  go_wp2
  clear hmk
  go_loopw [2, 7, 9, 16] (fun cv v _ i wr => ∃ n c' : Nat, ∃ out : List Nat, n ≤ xs.length ∧ i = .int .i64 n ∧ cv = .int .i64 c' ∧ c' ≤ 65536 ∧ out.length = n ∧ Dig 10000 out ∧
      val 10000 out + 10000 ^ n * c' = val 10000 (xs.take n) * k + c ∧ Own .i64 3 w.heap.size wr v out ∧ Below w.heap.size w wr) (fun _ _ _ i _ => xs.length - (intOf i).toNat)
  case atStart => exact ⟨0, c, [], Nat.zero_le _, rfl, rfl, hc, rfl, fun _ h => by simp at h, by simp [val], Own.made (Nat.le_refl _) _ (by omega), (Below.refl _ _).alloc (Nat.le_refl _) _⟩
  case round =>
    obtain ⟨n, c', out, hn, rfl, rfl, hc', hol, hdo, hv, hown, hbw⟩ := hrel
    have HV := Lib.hid hv
    have HOL := Lib.hid hol
    clear hv hol
    by_cases hlt : n < xs.length
    · obtain ⟨ad, x, rfl, hbx, ex, cx⟩ := (hx.below hbw).ask hlt
      have hxl : x < 10000 := by rw [← ex.out]; exact dig_getD dx (by omega) n
      have hm := digit_mul x k hxl hk
      have hm0 : (0 : Int) ≤ (x : Int) * k := Int.mul_nonneg (by omega) (by omega)
      obtain ⟨s, c2, hs, hc2, hsc, es, ec⟩ : ∃ s c2 : Nat, s < 10000 ∧ c2 ≤ 65536 ∧ Hid (s + 10000 * c2 = c' + x * k) ∧ Hid (((c' : Int) + (x : Int) * k) % 10000 = s) ∧ Hid (((c' : Int) + (x : Int) * k) / 10000 = c2) := by
        have e : ((c' + x * k : Nat) : Int) = (c' : Int) + (x : Int) * k := by simp
        have e2 : c' + x * k ≤ 655360000 := by omega
        refine ⟨(c' + x * k) % 10000, (c' + x * k) / 10000, Nat.mod_lt _ (by omega), by omega, Nat.mod_add_div _ _, ?_, ?_⟩
        · show _ = _
          rw [← e]; omega
        · show _ = _
          rw [← e]; omega
      go_wp2_with (at_builtin; refine wpList_app1 rfl (.tmp 25) (.tmp 28) 28 3 rfl .i64 8 info_i64 Tryz.underlying28 (by omega) _ _ out _ s es.out rfl hown rfl hbw (Nat.le_refl _) (by have := HOL.out; omega) ?_; intro v' w' hown' hbw')
      go_roundw
      case rel => exact ⟨n + 1, c2, out ++ [s], by omega, by go_num, by rw [ec.out], hc2, by rw [List.length_append, HOL.out]; rfl, hdo.snoc hs, small_step 10000 n s c' c2 x k c out xs HOL.out hlt ex.out hsc.out HV.out, hown', hbw'⟩
      case measure => simp [intOf]; omega
    · obtain rfl : n = xs.length := by omega
      go_wp2
      go_loopw [2, 7] (fun cv v wr => ∃ c' : Nat, ∃ out : List Nat, cv = .int .i64 c' ∧ c' ≤ 65536 ∧ out.length + c' ≤ xs.length + 65536 ∧ Dig 10000 out ∧
          val 10000 out + 10000 ^ out.length * c' = VD xs * k + c ∧ Own .i64 3 w.heap.size wr v out ∧ Below w.heap.size w wr) (fun cv _ _ => (intOf cv).toNat)
      case atStart => exact ⟨c', out, rfl, hc', by have := HOL.out; omega, hdo, by have := HV.out; rw [List.take_length] at this; rw [HOL.out]; exact this, hown, hbw⟩
      case round =>
        clear hc' hdo hown hbw HV HOL hn hlt
        obtain ⟨c', out, rfl, hc', hol, hdo, hv, hown, hbw⟩ := hrel
        have HV := Lib.hid hv
        clear hv
        by_cases h0 : c' = 0
        · subst h0
          obtain ⟨O, oc, rfl, hoc, hro, hfresh⟩ := hown.shape
          have HVt := HV.out
          clear hown
          have hlen : out.length ≤ 200000 := by omega
          go_wp2_with (go_at_call 84; refine (trim_i64 O oc out _ hro hoc hlen).mono ?_; rintro e w1 ⟨m, hm, rfl, hv3, hn3, rfl⟩; have HV3 := Lib.hid hv3; clear hv3)
          go_ret
          have hval : VD (out.take m) = VD xs * k + c := by
            show val 10000 (out.take m) = _
            rw [HV3.out]; simpa using HV.out
          refine OutF.of_take hm (by omega) hro hbw (fun h ad ha => by obtain ⟨g, hg, hge⟩ := hfresh h; rw [ha] at hg; injection hg with hg; rw [hg]; exact hge) ⟨hval, ⟨hdo.take m, hn3⟩, ?_⟩
          refine len_of_lt (B := 10000) (by omega) hn3 ?_
          show VD (out.take m) < _
          rw [hval]
          have h1 := val_lt 10000 xs dx
          have h2 : (VD xs + 1) * 65537 ≤ 10000 ^ xs.length * 65537 := Nat.mul_le_mul_right _ h1
          have h3 : VD xs * k ≤ VD xs * 65536 := Nat.mul_le_mul_left _ hk
          rw [Nat.pow_add]
          omega
        · obtain ⟨s, c2, hs, hc2, hlt2, hsc, es, ec⟩ : ∃ s c2 : Nat, s < 10000 ∧ c2 ≤ 65536 ∧ c2 < c' ∧ Hid (s + 10000 * c2 = c') ∧ Hid ((c' : Int) % 10000 = s) ∧ Hid ((c' : Int) / 10000 = c2) :=
            ⟨c' % 10000, c' / 10000, Nat.mod_lt _ (by omega), by omega, by omega, Nat.mod_add_div _ _, by show _ = _; omega, by show _ = _; omega⟩
          go_wp2_with (at_builtin; refine wpList_app1 rfl (.tmp 35) (.tmp 38) 28 3 rfl .i64 8 info_i64 Tryz.underlying28 (by omega) _ _ out _ s es.out rfl hown rfl hbw (Nat.le_refl _) (by omega) ?_; intro v' w' hown' hbw')
          go_roundw
          case rel => exact ⟨c2, out ++ [s], by rw [ec.out], hc2, by rw [List.length_append, List.length_singleton]; omega, hdo.snoc hs, flush_step 10000 s c' c2 _ out hsc.out HV.out, hown', hbw'⟩
          case measure => simp [intOf]; omega
theorem smallf_z (A : Option Addr) (ca n : Nat) (xs : List Nat) (k c : Nat) (K C : Int) (w : World) (hn : xs.length = n) (hK : K = k) (hC : C = c) (hx : Rd .i64 w A xs) (bl : n ≤ 100000) (dx : Dig 10000 xs) (hk : k ≤ 65536) (hc : c ≤ 65536) :
    Calls Tryz.prog 72 #[.slice A n ca, .int .i64 K, .int .i64 C] w
      (OutF .i64 (fun zs => VD zs = VD xs * k + c ∧ Nm zs ∧ zs.length ≤ xs.length + 2) w) := by
  subst hK; subst hC; subst hn
  exact smallf_any A ca xs k c w hx bl dx hk hc
end Go.Proofs.YtopppmlkddajjaaGreatDoor

