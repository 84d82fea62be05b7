/- nat.timesAdd: a number times a word and a word more, in place where it can. -/
import Derived.Test.YtgfojfiopcooeaaDoorPowers
namespace Go.Proofs.YtgfojfiopcooeaaDoor
open Go.RowKit V

/-- One step of a product by a word. -/
theorem wordmul_step (B k s c c' x f t : Nat) (cur xs : List Nat) (hk : k < cur.length) (hx : k < xs.length) (ex : xs.getD k 0 = x) (e : s + B * c' = x * f + c)
    (hv : val B (cur.take k) + B ^ k * c = val B (xs.take k) * f + t) : val B ((cur.set k s).take (k + 1)) + B ^ (k + 1) * c' = val B (xs.take (k + 1)) * f + t := by
  rw [val_set_take B cur k s hk, val_take_succ B xs k hx, ex, Nat.pow_succ, Nat.mul_assoc, Nat.add_mul, Nat.mul_assoc]
  have h := congrArg (B ^ k * ·) e
  simp only [Nat.mul_add] at h
  omega
theorem carry_facts (x f c : Nat) (hx : x < 4294967296) (hf : f < 4294967296) (hc : c < 4294967296) : ∃ s c2 : Nat, s < 4294967296 ∧ c2 < 4294967296 ∧ x * f + c < 18446744073709551616 ∧ Hid (((x : Int) * f + c) % 4294967296 = s) ∧ Hid (((x : Int) * f + c) / 4294967296 = c2) ∧ Hid (s + 4294967296 * c2 = x * f + c) := by
  have h1 : x * f ≤ 4294967295 * 4294967295 := Nat.mul_le_mul (by omega) (by omega)
  have e : ((x * f + c : Nat) : Int) = (x : Int) * f + c := by simp
  refine ⟨(x * f + c) % 4294967296, (x * f + c) / 4294967296, Nat.mod_lt _ (by omega), by omega, by omega, ?_, ?_, by show _ = _; omega⟩
  · show _ = _
    rw [← e]; omega
  · show _ = _
    rw [← e]; omega

/-- The product and a word more, owned. -/
def TimesAP (B : Nat) (xs : List Nat) (f s : Nat) (w : World) (e : Ending) (w' : World) : Prop :=
  ∃ v zs, e = .returned v ∧ Own .u32 42 B w' v zs ∧ V32 zs = V32 xs * f + s ∧ Mag zs ∧ zs.length ≤ xs.length + 1 ∧ Below B w w'

set_option maxHeartbeats 1000000 in
theorem times_any (v : Value) (B f s : Nat) (xs : List Nat) (w : World) (hown0 : Own .u32 42 B w v xs) (hB : B ≤ w.heap.size) (bl : xs.length ≤ 10000) (mx : Mag xs) (hf : f < 4294967296) (hf1 : 1 ≤ f) (hs : s < 4294967296) :
    Calls Tryd.prog 66 #[v, .int .u32 f, .int .u32 s] w (TimesAP B xs f s w) := by
  obtain ⟨A, ca, rfl, hca, hr0, hsh⟩ := hown0.shape
  go_enter Tryd.func66, Tryd.ntmps66
  go_wp2
  go_loopw [7, 8, 9, 10, 15] (fun cy _ _ _ i wr => ∃ k c : Nat, ∃ cur : List Nat, k ≤ xs.length ∧ i = .int .i64 k ∧ cy = .int .u64 c ∧ c < 4294967296 ∧ cur.length = xs.length ∧ Dig 4294967296 cur ∧
      val 4294967296 (cur.take k) + 4294967296 ^ k * c = val 4294967296 (xs.take k) * f + s ∧ (∀ j, k ≤ j → cur.getD j 0 = xs.getD j 0) ∧ Own .u32 42 B wr (.slice A xs.length ca) cur ∧ Below B w wr) (fun _ _ _ _ i _ => xs.length - (intOf i).toNat)
  case atStart => exact ⟨0, s, xs, Nat.zero_le _, rfl, rfl, hs, rfl, mx.1, by simp [val], fun _ _ => rfl, hown0, Below.refl _ _⟩
  case round =>
    obtain ⟨k, c, cur, hk, rfl, rfl, hc, hcl, hdc, hv, hout, hown, hbw⟩ := hrel
    have HV := Lib.hid hv
    have HCL := Lib.hid hcl
    have HO := Lib.hid hout
    clear hv hcl hout
    by_cases hlt : k < xs.length
    · obtain ⟨g, rfl, hgB⟩ := hsh (by omega)
      have hkc : k < cur.length := by have := HCL.out; omega
      obtain ⟨x, ex⟩ : ∃ x, Hid (xs.getD k 0 = x) := ⟨_, rfl⟩
      have hxl : x < 4294967296 := by rw [← ex.out]; exact dig_getD mx.1 (by omega) k
      have hcell : wr.cell? ⟨g, k, none⟩ = some (.int .u32 x) := by have := hown.cell HCL.out hlt; rwa [HO.out k (Nat.le_refl _), ex.out] at this
      have hfr := hown.frz (i := k) HCL.out
      obtain ⟨t, c2, ht, hc2, hlim, et, ec, hsc⟩ := carry_facts x f c hxl hf hc
      have hlimI : (x : Int) * f + c < 18446744073709551616 := by have e : ((x * f + c : Nat) : Int) = (x : Int) * f + c := by simp
                                                                  rw [← e]; omega
      have hm0 : (0 : Int) ≤ (x : Int) * f := Int.mul_nonneg (by omega) (by omega)
      clear hlim
      go_wp2
      go_roundw
      case rel => exact ⟨k + 1, c2, cur.set k t, by omega, by go_num, by rw [ec.out], hc2, by rw [List.length_set]; exact HCL.out, hdc.set _ ht, wordmul_step _ k t c c2 x f s cur xs hkc hlt ex.out hsc.out HV.out, fun j hj => by rw [getD_set _ _ _ _ hkc, if_neg (by omega)]; exact HO.out j (by omega), by rw [et.out]; exact hown.set_ HCL.out, hbw.setCell hgB _⟩
      case measure => simp [intOf]; omega
    · obtain rfl : k = xs.length := by omega
      have HF : Hid (val 4294967296 cur + 4294967296 ^ cur.length * c = V32 xs * f + s) := by
        have h1 := HV.out
        have hl := HCL.out
        rw [List.take_length, List.take_of_length_le (by omega)] at h1
        show _ = val 4294967296 xs * f + s
        rw [hl]; exact h1
      have hge : V32 xs ≤ V32 xs * f + s := by
        have := Nat.mul_le_mul_left (V32 xs) hf1
        omega
      have HGE := Lib.hid hge
      clear hge
      by_cases h0 : c = 0
      · have hb0 : ((c : Int) == 0) = true := by simp [h0]
        have hval : Hid (V32 cur = V32 xs * f + s) := by have := HF.out; rw [h0] at this; show V32 cur = _; simpa [V32] using this
        clear h0
        go_wp2
        go_ret
        refine ⟨_, cur, by rfl, by have := HCL.out; exact hown, hval.out, ⟨hdc, nrm_of_ge hdc fun hp => ?_⟩, by have := HCL.out; omega, hbw⟩
        have h1 := val_ge (B := 4294967296) mx.2 (by have := HCL.out; omega)
        have h2 := hval.out
        have h3 := HGE.out
        rw [HCL.out]
        unfold V32 at *
        omega
      · have hb0 : ((c : Int) == 0) = false := beq_eq_false_iff_ne.2 (by omega)
        have hcl2 : cur.length ≤ 10000 := by have := HCL.out; omega
        have hsz := hbw.size
        go_wp2_with (at_builtin; refine wpList_app1 rfl (.tmp 38) (.tmp 41) 22 42 rfl .u32 4 info_u32 Tryd.underlying22 (by omega) B _ cur _ c (by omega) rfl hown rfl (Below.refl _ _) (by omega) (by omega) ?_; intro v' w' hown' hbw')
        go_ret
        refine ⟨v', cur ++ [c], rfl, hown', ?_, ⟨hdc.snoc hc, nrm_snoc h0⟩, by have := HCL.out; rw [List.length_append, List.length_singleton]; omega, hbw.trans hbw'⟩
        show val 4294967296 (cur ++ [c]) = _
        rw [val_snoc]; exact HF.out
end Go.Proofs.YtgfojfiopcooeaaDoor
