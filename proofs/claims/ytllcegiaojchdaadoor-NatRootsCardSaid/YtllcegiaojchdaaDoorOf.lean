/- isochroneref01.Of: the number of a magnitude of at most 5000 words. -/
import Derived.Test.YtllcegiaojchdaaDoorOps
import Derived.Test.YtllcegiaojchdaaDoorSmall
namespace Go.Proofs.YtllcegiaojchdaaDoor
open Go.RowKit V

theorem nm_nil : Nm [] := ⟨fun _ h => by simp at h, nrm_nil⟩

set_option maxHeartbeats 800000 in
theorem of_any (A : Option Addr) (c : Nat) (xs : List Nat) (w : World) (hx : Rd .u32 w A xs) (bl : xs.length ≤ 5000) (dx : Dig 4294967296 xs) :
    Calls Tryd.prog 8 #[.slice A xs.length c] w
      (OutP .i64 (fun zs => VD zs = V32 xs ∧ Nm zs ∧ zs.length ≤ 4 * xs.length) w) := by
  go_enter Tryd.func8, Tryd.ntmps8
  go_wp2
  go_loopw [3, 4] (fun v i wr => ∃ j : Int, ∃ O oc out, -1 ≤ j ∧ j < xs.length ∧ i = .int .i64 j ∧ v = .slice O out.length oc ∧ out.length ≤ oc ∧ Rd .i64 wr O out ∧ Nm out ∧
      VD out = V32 (xs.drop (j + 1).toNat) ∧ (out.length : Int) + 4 * (j + 1) ≤ 4 * xs.length ∧ Below w.heap.size w wr) (fun _ i _ => (intOf i + 1).toNat)
  case atStart => exact ⟨_, some ⟨w.heap.size, 0, none⟩, 0, [], by omega, by omega, rfl, rfl, Nat.le_refl _, Rd.nil_, nm_nil, by rw [show ((xs.length : Int) - 1 + 1).toNat = xs.length by omega, List.drop_length]; rfl, by simp, (Below.refl _ _).alloc (Nat.le_refl _) _⟩
  case round =>
    obtain ⟨j, O, oc, out, hj, hjl, rfl, rfl, hoc, hro, hno, hv, hol, hbw⟩ := hrel
    have HV := Lib.hid hv
    clear hv
    by_cases h0 : j < 0
    · go_wp2
      go_ret
      exact ⟨O, oc, out, rfl, hoc, hro, hbw, by rw [HV.out, show (j + 1).toNat = 0 by omega, List.drop_zero], hno, by omega⟩
    · obtain ⟨k, rfl⟩ := Int.eq_ofNat_of_zero_le (show 0 ≤ j by omega)
      have hkx : k < xs.length := by omega
      obtain ⟨ad, x, rfl, hbx, ex, cx⟩ := (hx.below hbw).ask hkx
      have hxl : x < 4294967296 := by rw [← ex.out]; exact dig_getD dx (by omega) k
      have h1 : Hid ((x : Int) / 65536 = (x / 65536 : Nat)) := by show _ = _; omega
      have h2 : Hid (bits BinOp.and IntKind.u32 (x : Int) 65535 = (x % 65536 : Nat)) := by
        show _ = _
        have := u32_and_nat x 65535 hxl (by omega)
        rw [nat_mask16] at this
        exact this
      have h2a : 0 ≤ bits BinOp.and IntKind.u32 (x : Int) 65535 := by rw [h2.out]; omega
      have h2b : bits BinOp.and IntKind.u32 (x : Int) 65535 ≤ 65535 := by rw [h2.out]; omega
      have hnd : Dig 10000 out := hno.1
      go_wp2_with (first
        | (go_at_call 31; (with_reducible refine (small_z O oc _ out 65536 (x / 65536) _ _ _ rfl (by omega) h1.out hro (by omega) hnd (by omega) (by omega)).mono ?_); rintro e w1 ⟨O1, oc1, out1, rfl, hoc1, hro1, hb1, hv1, ⟨hd1, hn1⟩, hl1⟩; have HV1 := Lib.hid hv1; clear hv1; have hcell1 := (hb1.cell (p := ad.add k) (by rw [block_of_add]; exact hbx)).trans cx)
        | (go_at_call 31; (with_reducible refine (small_z O1 oc1 _ out1 65536 (x % 65536) _ _ _ rfl (by omega) h2.out hro1 (by omega) hd1 (by omega) (by omega)).mono ?_); rintro e w2 ⟨O2, oc2, out2, rfl, hoc2, hro2, hb2, hv2, ⟨hd2, hn2⟩, hl2⟩; have HV2 := Lib.hid hv2; clear hv2))
      go_roundw
      case rel =>
        refine ⟨_, O2, oc2, out2, by omega, by omega, rfl, rfl, hoc2, hro2, ⟨hd2, hn2⟩, ?_, by omega, (hbw.trans (hb1.mono hbw.size)).trans (hb2.mono (Nat.le_trans hbw.size hb1.size))⟩
        rw [HV2.out, HV1.out, HV.out, show ((k : Int) - 1 + 1).toNat = k by omega, show ((k : Int) + 1).toNat = k + 1 by omega]
        unfold V32
        rw [val_drop _ xs k hkx, ex.out]
        omega
      case measure => simp [intOf]
end Go.Proofs.YtllcegiaojchdaaDoor

