/- nat.sub: the difference of the numbers, where it is not negative; at most 100000 words. -/
import Derived.Test.YtgfojfiopcooeaaDoorAdd
namespace Go.Proofs.YtgfojfiopcooeaaDoor
open Go.RowKit V

set_option maxHeartbeats 800000 in
theorem sub_any (L S : Option Addr) (lc sc : Nat) (ls ss : List Nat) (w : World) (hL : Rd .u32 w L ls) (hS : Rd .u32 w S ss) (bl : ls.length ≤ 100000) (hle : ss.length ≤ ls.length)
    (dl : Dig 4294967296 ls) (ds : Dig 4294967296 ss) (hge : val 4294967296 ss ≤ val 4294967296 ls) :
    Calls Tryd.prog 50 #[.slice L ls.length lc, .slice S ss.length sc] w
      (OutP .u32 (fun ys => val 4294967296 ys + val 4294967296 ss = val 4294967296 ls ∧ Nrm ys ∧ Dig 4294967296 ys ∧ ys.length ≤ ls.length) w) := by
  have hmk := fun W => make_u32 ls.length ls.length rfl (by omega) W
  go_enter Tryd.func50, Tryd.ntmps50
  go_wp2
  clear hmk
  go_loopw [6, 7, 8, 15] (fun cy _ _ i wr => ∃ k c : Nat, ∃ cur : List Nat, k ≤ ss.length ∧ i = .int .i64 k ∧ cy = .int .u32 c ∧ c ≤ 1 ∧ cur.length = ls.length ∧ Dig 4294967296 cur ∧
      val 4294967296 (cur.take k) + val 4294967296 (ss.take k) = val 4294967296 (ls.take k) + 4294967296 ^ k * c ∧ Row .u32 42 wr w.heap.size cur ∧ Below w.heap.size w wr) (fun _ _ _ i _ => ss.length - (intOf i).toNat)
  case atStart => exact ⟨0, 0, _, Nat.zero_le _, rfl, rfl, by omega, List.length_replicate, Dig.zeros (by omega) _, by simp [val], Row.new _ _, (Below.refl _ _).alloc (Nat.le_refl _) _⟩
  case round =>
    obtain ⟨k, c, cur, hk, rfl, rfl, hc1, hcl, hdc, hv, hrow, hbw⟩ := hrel
    have HV := Lib.hid hv
    have HCL := Lib.hid hcl
    clear hv hcl
    by_cases hlt : k < ss.length
    · obtain ⟨ad, x, rfl, hbx, ex, cx⟩ := (hL.below hbw).ask (i := k) (by omega)
      obtain ⟨bd, y, rfl, hby, ey, cy⟩ := (hS.below hbw).ask hlt
      have hkc : k < cur.length := by have := HCL.out; omega
      have hcell := hrow.cell hkc
      have hfr := hrow.frozen k
      have hxl : x < 4294967296 := by rw [← ex.out]; exact dig_getD dl (by omega) k
      have hyl : y < 4294967296 := by rw [← ey.out]; exact dig_getD ds (by omega) k
      go_wp2_with (go_at_call 72; refine (sub32_ _ _ _ _ hxl hyl (by omega)).mono ?_; rintro e w1 ⟨s, d, hs, hd, hsd, rfl, rfl⟩)
      go_roundw
      case rel => exact ⟨k + 1, d, _, by omega, by go_num, rfl, hd, by rw [List.length_set]; exact HCL.out, hdc.set k hs, sub_step _ k s c d x y cur ls ss hkc (by omega) hlt ex.out ey.out hsd.out HV.out, hrow.set_ k _, hbw.setCell (Nat.le_refl _) _⟩
      case measure => simp [intOf]; omega
    · obtain rfl : k = ss.length := by omega
      go_wp2
      go_loopw [6, 9] (fun cy i wr => ∃ k c : Nat, ∃ cur : List Nat, k ≤ ls.length ∧ i = .int .i64 k ∧ cy = .int .u32 c ∧ c ≤ 1 ∧ cur.length = ls.length ∧ Dig 4294967296 cur ∧
          val 4294967296 (cur.take k) + val 4294967296 ss = val 4294967296 (ls.take k) + 4294967296 ^ k * c ∧ Row .u32 42 wr w.heap.size cur ∧ Below w.heap.size w wr) (fun _ i _ => ls.length - (intOf i).toNat)
      case atStart => exact ⟨ss.length, c, cur, hle, rfl, rfl, hc1, HCL.out, hdc, by have := HV.out; rwa [List.take_length (l := ss)] at this, hrow, hbw⟩
      case round =>
        clear hdc hrow hbw HV HCL hk hlt hc1
        obtain ⟨k, c, cur, hk, rfl, rfl, hc1, hcl, hdc, hv, hrow, hbw⟩ := hrel
        have HV := Lib.hid hv
        have HCL := Lib.hid hcl
        clear hv hcl
        by_cases hlt : k < ls.length
        · obtain ⟨ad, x, rfl, hbx, ex, cx⟩ := (hL.below hbw).ask hlt
          have hkc : k < cur.length := by have := HCL.out; omega
          have hcell := hrow.cell hkc
          have hfr := hrow.frozen k
          have hxl : x < 4294967296 := by rw [← ex.out]; exact dig_getD dl (by omega) k
          go_wp2_with (go_at_call 72; refine (sub32_ x 0 c _ hxl (by omega) hc1).mono ?_; rintro e w1 ⟨s, d, hs, hd, hsd, rfl, rfl⟩)
          go_roundw
          case rel => exact ⟨k + 1, d, _, by omega, by go_num, rfl, hd, by rw [List.length_set]; exact HCL.out, hdc.set k hs, sub_step1 _ k s c d x _ cur ls hkc hlt ex.out (by have := hsd.out; omega) HV.out, hrow.set_ k _, hbw.setCell (Nat.le_refl _) _⟩
          case measure => simp [intOf]; omega
        · obtain rfl : k = ls.length := by omega
          have HV2 : Hid (val 4294967296 cur + val 4294967296 ss = val 4294967296 ls) := by
            have h1 := HV.out
            rw [List.take_length, List.take_of_length_le (by have := HCL.out; omega)] at h1
            exact sub_end hdc HCL.out hge h1 hc1
          clear HV
          go_wp2_with (go_at_call 67; refine (trim_u32n _ _ _ cur _ HCL.out hrow.rd (Nat.le_refl _) (by omega)).mono ?_; rintro e w1 ⟨m, hm, rfl, hv3, hn3, rfl⟩; have HV3 := Lib.hid hv3; clear hv3)
          go_ret
          have hfl := HCL.out
          exact OutP.of_take hm (by omega) hrow.rd hbw ⟨by rw [HV3.out]; exact HV2.out, hn3, hdc.take m, by rw [List.length_take]; omega⟩

end Go.Proofs.YtgfojfiopcooeaaDoor
