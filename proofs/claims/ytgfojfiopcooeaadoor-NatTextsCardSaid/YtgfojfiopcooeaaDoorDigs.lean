/- isochroneref01.Digits: the number of a string of decimal digits. -/
import Derived.Test.YtgfojfiopcooeaaDoorDecim
namespace Go.Proofs.YtgfojfiopcooeaaDoor
open Go.RowKit V

theorem dnum_take (s : ByteArray) (k : Nat) (h : k < s.size) : dnum (s.data.toList.take (k + 1)) = dnum (s.data.toList.take k) * 10 + (s[k].toNat - 48) := by
  rw [bytes_snoc s k h, dnum_snoc]
theorem chunk_step (d p t n x : Nat) (e : d + 10 ^ p * t = n) : d * 10 + x + 10 ^ (p + 1) * t = n * 10 + x := by
  rw [Nat.pow_succ, ← e, Nat.add_mul, Nat.mul_right_comm]
  omega

set_option maxRecDepth 100000 in
set_option maxHeartbeats 1000000 in
theorem digits_any (s : ByteArray) (w : World) (hs : s.size ≤ 100000) (h : AllD s.data.toList) :
    Calls Tryd.prog 41 #[.string s] w (OutP .i64 (fun zs => VD zs = dnum s.data.toList ∧ Nm zs ∧ zs.length ≤ s.size + 3) w) := by
  have HH := Lib.hid h
  clear h
  go_enter Tryd.func41, Tryd.ntmps41
  go_wp2
  go_loopw [3, 4, 5, 6] (fun v mv _ _ wr => ∃ m : Int, ∃ out, mv = .int .i64 m ∧ -3 ≤ m ∧ m ≤ s.size ∧ Own .i64 3 w.heap.size wr v out ∧ Dig 10000 out ∧ val 10000 out + 10000 ^ out.length * dnum (s.data.toList.take m.toNat) = dnum s.data.toList ∧
      (out.length : Int) + m ≤ s.size ∧ Below w.heap.size w wr) (fun _ mv _ _ _ => (intOf mv).toNat)
  case atStart => exact ⟨s.size, [], rfl, by omega, by omega, Own.made (Nat.le_refl _) 0 (by omega), fun _ h => by simp at h, by rw [Int.toNat_natCast, bytes_all]; simp [val], by simp, (Below.refl _ _).alloc (Nat.le_refl _) _⟩
  case round =>
    obtain ⟨m, out, rfl, hm, hms, hown, hdo, hv, hol, hbw⟩ := hrel
    have HV := Lib.hid hv
    clear hv
    by_cases h0 : 0 < m
    · obtain ⟨e, rfl⟩ := Int.eq_ofNat_of_zero_le (show 0 ≤ m by omega)
      obtain ⟨st, hst⟩ : ∃ st : Nat, Hid (max (0 : Int) ((e : Int) - 4) = st) := ⟨(max (0 : Int) ((e : Int) - 4)).toNat, by show _ = _; omega⟩
      have hst1 : st ≤ e := by have := hst.out; omega
      have hst2 : e ≤ st + 4 := by have := hst.out; omega
      have hst3 : Hid (st = 0 ∨ e = st + 4) := by have := hst.out; show _ ∨ _; omega
      have hse : e ≤ s.size := by omega
      have he0 : 0 < e := by omega
      go_wp2
      go_loop [5, 6] (fun dv iv => ∃ i d : Nat, st ≤ i ∧ i ≤ e ∧ dv = .int .i64 d ∧ iv = .int .i64 i ∧ d + 10 ^ (i - st) * dnum (s.data.toList.take st) = dnum (s.data.toList.take i) ∧ d < 10 ^ (i - st)) (fun _ iv => e - (intOf iv).toNat)
      case atStart => exact ⟨st, 0, Nat.le_refl _, hst1, rfl, by rw [hst.out], by simp, by simp⟩
      case round =>
        obtain ⟨i, d, hi, hie, rfl, rfl, hd, hdl⟩ := hrel
        have HD := Lib.hid hd
        have hd4 : d ≤ 9999 := by
          have h2 : 10 ^ (i - st) ≤ 10 ^ 4 := Nat.pow_le_pow_right (by omega) (by omega)
          omega
        have HDL := Lib.hid hdl
        clear hd hdl
        by_cases hlt : i < e
        · have his : i < s.size := by omega
          obtain ⟨c1, c2⟩ := HH.out _ (mem_bytes s i his)
          have HDT := Lib.hid (dnum_take s i his)
          go_wp2
          go_round
          case rel => exact ⟨i + 1, d * 10 + (s[i].toNat - 48), by omega, by omega, by go_num, by go_num, by
            rw [HDT.out, show i + 1 - st = (i - st) + 1 by omega]
            exact chunk_step _ _ _ _ _ HD.out, by
            have h1 := HDL.out
            rw [show i + 1 - st = (i - st) + 1 by omega, Nat.pow_succ]
            omega⟩
          case measure => simp [intOf]; omega
        · obtain rfl : i = e := by omega
          have holen : out.length ≤ 100000 := by omega
          go_wp2_with (at_builtin; refine wpList_app1 rfl (.tmp 30) (.tmp 32) 26 3 rfl .i64 8 info_i64 Tryd.underlying26 (by omega) _ _ out _ d rfl rfl hown rfl hbw (Nat.le_refl _) (by omega) ?_; intro v' w' hown' hbw')
          go_roundw
          case rel =>
            refine ⟨_, out ++ [d], rfl, by omega, by omega, hown', hdo.snoc (by omega), ?_, by rw [List.length_append, List.length_singleton]; omega, hbw'⟩
            have h1 := HV.out
            have h2 := HD.out
            rw [Int.toNat_natCast] at h1
            rw [val_snoc, List.length_append, List.length_singleton, ← h1, Nat.pow_succ, Nat.mul_assoc, ← h2]
            rcases hst3.out with h3 | h3
            · rw [show ((i : Int) - 4).toNat = 0 by omega, h3]
              simp [dnum_nil]
            · rw [show ((i : Int) - 4).toNat = st by omega, show i - st = 4 by omega]
              simp only [Nat.mul_add, show (10 : Nat) ^ 4 = 10000 from rfl]
              omega
          case measure => simp [intOf]; omega
    · obtain ⟨O, oc, rfl, hoc, hro⟩ := hown.form
      clear hown
      have hol2 : out.length ≤ 100010 := by omega
      have HF : Hid (val 10000 out = dnum s.data.toList) := by
        have h1 := HV.out
        rw [show m.toNat = 0 by omega] at h1
        show _ = _
        simpa [dnum_nil] using h1
      go_wp2_with fail
      refine (trim_i64 O oc out _ hro hoc (by omega)).mono ?_
      rintro e w1 ⟨k, hk, rfl, hv3, hn3, rfl⟩
      have HV3 := Lib.hid hv3
      clear hv3
      go_wp2
      go_ret
      exact OutP.of_take hk (by omega) hro hbw ⟨by show val 10000 (out.take k) = _; rw [HV3.out]; exact HF.out, ⟨hdo.take k, hn3⟩, by rw [List.length_take]; omega⟩
end Go.Proofs.YtgfojfiopcooeaaDoor
