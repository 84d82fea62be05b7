/- isochroneref01.Split: quotient and remainder by a number from 1 to 65536; at most 100000 digits. -/
import Derived.Test.YtllcegiaojchdaaDoorSmall
import Derived.Lib.LazyBuf
namespace Go.Proofs.YtllcegiaojchdaaDoor
open Go.RowKit V

def SplitP (xs : List Nat) (k : Nat) (w : World) (e : Ending) (w' : World) : Prop :=
  ∃ A c q r, e = .returned (.tuple #[.slice A q.length c, .int .i64 (r : Nat)]) ∧ q.length ≤ c ∧ Rd .i64 w' A q ∧ Below w.heap.size w w' ∧ Hid (VD xs = VD q * k + r) ∧ r < k ∧ Nm q ∧ q.length ≤ xs.length ∧ ∀ ad, A = some ad → w.heap.size ≤ ad.block

set_option maxHeartbeats 1000000 in
theorem split_any (A : Option Addr) (ca k : Nat) (xs : List Nat) (w : World) (hx : Rd .i64 w A xs) (bl : xs.length ≤ 100000) (dx : Dig 10000 xs) (hk1 : 1 ≤ k) (hk : k ≤ 65536) :
    Calls Tryd.prog 37 #[.slice A xs.length ca, .int .i64 k] w (SplitP xs k w) := by
  have hmk := fun W => make_nat xs.length xs.length rfl (by omega) W
  go_enter Tryd.func37, Tryd.ntmps37
  go_wp2
  clear hmk
  go_loopw [7, 8] (fun rv i wr => ∃ j : Int, ∃ r : Nat, ∃ cur : List Nat, -1 ≤ j ∧ j < xs.length ∧ i = .int .i64 j ∧ rv = .int .i64 r ∧ r < k ∧ cur.length = xs.length ∧ Dig 10000 cur ∧
      val 10000 (xs.drop (j + 1).toNat) = val 10000 (cur.drop (j + 1).toNat) * k + r ∧ Row .i64 3 wr w.heap.size cur ∧ Below w.heap.size w wr) (fun _ i _ => (intOf i + 1).toNat)
  case atStart => exact ⟨_, 0, _, by omega, by omega, rfl, rfl, by omega, List.length_replicate, Dig.zeros (by omega) _, by rw [show ((xs.length : Int) - 1 + 1).toNat = xs.length by omega, List.drop_length, List.drop_of_length_le (by rw [List.length_replicate]; omega)]; simp [val], Row.new _ _, (Below.refl _ _).alloc (Nat.le_refl _) _⟩
  case round =>
    obtain ⟨j, r, cur, hj, hjl, rfl, rfl, hr, hcl, hdc, hv, hrow, hbw⟩ := hrel
    have HV := Lib.hid hv
    have HCL := Lib.hid hcl
    clear hv hcl
    by_cases h0 : j < 0
    · go_wp2_with (go_at_call 39; refine (trim_i64n _ _ _ cur _ HCL.out hrow.rd (Nat.le_refl _) (by omega)).mono ?_; rintro e w1 ⟨m, hm, rfl, hv3, hn3, rfl⟩; have HV3 := Lib.hid hv3; clear hv3)
      go_ret2
      have hfl := HCL.out
      have hl : (cur.take m).length = m := by rw [List.length_take, Nat.min_eq_left hm]
      refine ⟨some ⟨w.heap.size, 0, none⟩, xs.length, cur.take m, r, by rw [hl]; rfl, by omega, hrow.rd.take hm, hbw, ?_, hr, ⟨hdc.take m, hn3⟩, by omega, fun ad h => by injection h with h; subst h; exact Nat.le_refl _⟩
      have h1 := HV.out
      rw [show (j + 1).toNat = 0 by omega, List.drop_zero, List.drop_zero] at h1
      show val 10000 xs = val 10000 (cur.take m) * k + r
      rw [HV3.out]; exact h1
    · obtain ⟨i, rfl⟩ := Int.eq_ofNat_of_zero_le (show 0 ≤ j by omega)
      have hix : i < xs.length := by omega
      obtain ⟨ad, x, rfl, hbx, ex, cx⟩ := (hx.below hbw).ask hix
      have hxl : x < 10000 := by rw [← ex.out]; exact dig_getD dx (by omega) i
      have hkc : i < cur.length := by have := HCL.out; omega
      have hcell := hrow.cell hkc
      have hfr := hrow.frozen i
      have hq : (r * 10000 + x) / k < 10000 := Nat.div_lt_of_lt_mul (by have : (r + 1) * 10000 ≤ k * 10000 := Nat.mul_le_mul_right _ hr; omega)
      obtain ⟨s, r', hs, hr', hsc, es, er⟩ : ∃ s r' : Nat, s < 10000 ∧ r' < k ∧ Hid (s * k + r' = r * 10000 + x) ∧ Hid (((r : Int) * 10000 + x) / k = s) ∧ Hid (((r : Int) * 10000 + x) % k = r') := by
        have e : ((r * 10000 + x : Nat) : Int) = (r : Int) * 10000 + x := by simp
        refine ⟨(r * 10000 + x) / k, (r * 10000 + x) % k, hq, Nat.mod_lt _ (by omega), by show _ = _; rw [Nat.mul_comm]; exact Nat.div_add_mod _ _, ?_, ?_⟩
        · show _ = _
          rw [← e]; rfl
        · show _ = _
          rw [← e]; rfl
      clear hq
      go_wp2
      go_roundw
      case rel =>
        exact ⟨_, r', cur.set i s, by omega, by omega, rfl, by rw [er.out], hr', by rw [List.length_set]; exact HCL.out, hdc.set _ hs,
          by rw [show ((i : Int) - 1 + 1).toNat = i by omega]; exact split_step 10000 i k x r s r' cur xs hkc hix ex.out hsc.out HV.out, by rw [es.out]; exact hrow.set_ i s, hbw.setCell (Nat.le_refl _) _⟩
      case measure => simp [intOf]
end Go.Proofs.YtllcegiaojchdaaDoor

