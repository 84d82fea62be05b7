/- isochroneref01.Small: a*k + c for k and c up to 65536; numbers of at most 100000 digits. -/
import Derived.Test.YtllcegiaojchdaaDoorAdd
import Derived.Test.YtllcegiaojchdaaDoorApp
namespace Go.Proofs.YtllcegiaojchdaaDoor
open Go.RowKit V

/-- A number of the document: digits below 10000, the last one not zero. -/
def Nm (xs : List Nat) : Prop := Dig 10000 xs ∧ Nrm xs
def VD (xs : List Nat) : Nat := val 10000 xs

theorem digit_mul (x k : Nat) (hx : x < 10000) (hk : k ≤ 65536) : (x : Int) * k ≤ 655294464 := by
  have h : x * k ≤ 9999 * 65536 := Nat.mul_le_mul (by omega) hk
  have : ((x * k : Nat) : Int) ≤ 655294464 := by omega
  rwa [Int.natCast_mul] at this

set_option maxHeartbeats 800000 in
theorem small_any (A : Option Addr) (ca : Nat) (xs : List Nat) (k c : Nat) (w : World) (hx : Rd .i64 w A xs) (bl : xs.length ≤ 100000) (dx : Dig 10000 xs) (hk : k ≤ 65536) (hc : c ≤ 65536) :
    Calls Tryd.prog 31 #[.slice A xs.length ca, .int .i64 k, .int .i64 c] w
      (OutP .i64 (fun zs => VD zs = VD xs * k + c ∧ Nm zs ∧ zs.length ≤ xs.length + 2) w) := by
  have hmk := fun W => make_cap (xs.length + 2) ((xs.length : Int) + 2) (by omega) (by omega) W
  go_enter Tryd.func31, Tryd.ntmps31
  go_wp2
  clear hmk
  go_loopw [2, 7, 9, 16] (fun cv v _ i wr => ∃ n c' : Nat, ∃ out : List Nat, n ≤ xs.length ∧ i = .int .i64 n ∧ cv = .int .i64 c' ∧ c' ≤ 65536 ∧ out.length = n ∧ Dig 10000 out ∧
      val 10000 out + 10000 ^ n * c' = val 10000 (xs.take n) * k + c ∧ Own .i64 3 w.heap.size wr v out ∧ Below w.heap.size w wr) (fun _ _ _ i _ => xs.length - (intOf i).toNat)
  case atStart => exact ⟨0, c, [], Nat.zero_le _, rfl, rfl, hc, rfl, fun _ h => by simp at h, by simp [val], Own.made (Nat.le_refl _) _ (by omega), (Below.refl _ _).alloc (Nat.le_refl _) _⟩
  case round =>
    obtain ⟨n, c', out, hn, rfl, rfl, hc', hol, hdo, hv, hown, hbw⟩ := hrel
    have HV := Lib.hid hv
    have HOL := Lib.hid hol
    clear hv hol
    by_cases hlt : n < xs.length
    · obtain ⟨ad, x, rfl, hbx, ex, cx⟩ := (hx.below hbw).ask hlt
      have hxl : x < 10000 := by rw [← ex.out]; exact dig_getD dx (by omega) n
      have hm := digit_mul x k hxl hk
      have hm0 : (0 : Int) ≤ (x : Int) * k := Int.mul_nonneg (by omega) (by omega)
      obtain ⟨s, c2, hs, hc2, hsc, es, ec⟩ : ∃ s c2 : Nat, s < 10000 ∧ c2 ≤ 65536 ∧ Hid (s + 10000 * c2 = c' + x * k) ∧ Hid (((c' : Int) + (x : Int) * k) % 10000 = s) ∧ Hid (((c' : Int) + (x : Int) * k) / 10000 = c2) := by
        have e : ((c' + x * k : Nat) : Int) = (c' : Int) + (x : Int) * k := by simp
        have e2 : c' + x * k ≤ 655360000 := by omega
        refine ⟨(c' + x * k) % 10000, (c' + x * k) / 10000, Nat.mod_lt _ (by omega), by omega, Nat.mod_add_div _ _, ?_, ?_⟩
        · show _ = _
          rw [← e]; omega
        · show _ = _
          rw [← e]; omega
      go_wp2_with (at_builtin; refine wpList_app1 rfl (.tmp 25) (.tmp 28) 26 3 rfl .i64 8 info_i64 Tryd.underlying26 (by omega) _ _ out _ s es.out rfl hown rfl hbw (Nat.le_refl _) (by have := HOL.out; omega) ?_; intro v' w' hown' hbw')
      go_roundw
      case rel => exact ⟨n + 1, c2, out ++ [s], by omega, by go_num, by rw [ec.out], hc2, by rw [List.length_append, HOL.out]; rfl, hdo.snoc hs, small_step 10000 n s c' c2 x k c out xs HOL.out hlt ex.out hsc.out HV.out, hown', hbw'⟩
      case measure => simp [intOf]; omega
    · obtain rfl : n = xs.length := by omega
      go_wp2
      go_loopw [2, 7] (fun cv v wr => ∃ c' : Nat, ∃ out : List Nat, cv = .int .i64 c' ∧ c' ≤ 65536 ∧ out.length + c' ≤ xs.length + 65536 ∧ Dig 10000 out ∧
          val 10000 out + 10000 ^ out.length * c' = VD xs * k + c ∧ Own .i64 3 w.heap.size wr v out ∧ Below w.heap.size w wr) (fun cv _ _ => (intOf cv).toNat)
      case atStart => exact ⟨c', out, rfl, hc', by have := HOL.out; omega, hdo, by have := HV.out; rw [List.take_length] at this; rw [HOL.out]; exact this, hown, hbw⟩
      case round =>
        clear hc' hdo hown hbw HV HOL hn hlt
        obtain ⟨c', out, rfl, hc', hol, hdo, hv, hown, hbw⟩ := hrel
        have HV := Lib.hid hv
        clear hv
        by_cases h0 : c' = 0
        · subst h0
          obtain ⟨O, oc, rfl, hoc, hro⟩ := hown.form
          have HVt := HV.out
          clear hown
          have hlen : out.length ≤ 200000 := by omega
          go_wp2_with (go_at_call 39; refine (trim_i64 O oc out _ hro hoc hlen).mono ?_; rintro e w1 ⟨m, hm, rfl, hv3, hn3, rfl⟩; have HV3 := Lib.hid hv3; clear hv3)
          go_ret
          have hval : VD (out.take m) = VD xs * k + c := by
            show val 10000 (out.take m) = _
            rw [HV3.out]; simpa using HV.out
          refine OutP.of_take hm (by omega) hro hbw ⟨hval, ⟨hdo.take m, hn3⟩, ?_⟩
          refine len_of_lt (B := 10000) (by omega) hn3 ?_
          show VD (out.take m) < _
          rw [hval]
          have h1 := val_lt 10000 xs dx
          have h2 : (VD xs + 1) * 65537 ≤ 10000 ^ xs.length * 65537 := Nat.mul_le_mul_right _ h1
          have h3 : VD xs * k ≤ VD xs * 65536 := Nat.mul_le_mul_left _ hk
          rw [Nat.pow_add]
          omega
        · obtain ⟨s, c2, hs, hc2, hlt2, hsc, es, ec⟩ : ∃ s c2 : Nat, s < 10000 ∧ c2 ≤ 65536 ∧ c2 < c' ∧ Hid (s + 10000 * c2 = c') ∧ Hid ((c' : Int) % 10000 = s) ∧ Hid ((c' : Int) / 10000 = c2) :=
            ⟨c' % 10000, c' / 10000, Nat.mod_lt _ (by omega), by omega, by omega, Nat.mod_add_div _ _, by show _ = _; omega, by show _ = _; omega⟩
          go_wp2_with (at_builtin; refine wpList_app1 rfl (.tmp 35) (.tmp 38) 26 3 rfl .i64 8 info_i64 Tryd.underlying26 (by omega) _ _ out _ s es.out rfl hown rfl hbw (Nat.le_refl _) (by omega) ?_; intro v' w' hown' hbw')
          go_roundw
          case rel => exact ⟨c2, out ++ [s], by rw [ec.out], hc2, by rw [List.length_append, List.length_singleton]; omega, hdo.snoc hs, flush_step 10000 s c' c2 _ out hsc.out HV.out, hown', hbw'⟩
          case measure => simp [intOf]; omega
theorem small_z (A : Option Addr) (ca n : Nat) (xs : List Nat) (k c : Nat) (K C : Int) (w : World) (hn : xs.length = n) (hK : K = k) (hC : C = c) (hx : Rd .i64 w A xs) (bl : n ≤ 100000) (dx : Dig 10000 xs) (hk : k ≤ 65536) (hc : c ≤ 65536) :
    Calls Tryd.prog 31 #[.slice A n ca, .int .i64 K, .int .i64 C] w
      (OutP .i64 (fun zs => VD zs = VD xs * k + c ∧ Nm zs ∧ zs.length ≤ xs.length + 2) w) := by
  subst hK; subst hC; subst hn
  exact small_any A ca xs k c w hx bl dx hk hc
end Go.Proofs.YtllcegiaojchdaaDoor

