/- nat.addTimes and nat.mul: the product of the numbers; at most 100000 words together. -/
import Derived.Test.YtgfojfiopcooeaaDoorAdd
namespace Go.Proofs.YtgfojfiopcooeaaDoor
open Go.RowKit V

theorem addr_at (g i : Nat) : (⟨g, 0, none⟩ : Addr).add i = ⟨g, i, none⟩ := by unfold Addr.add; split <;> simp_all

/-- What addTimes leaves in the row. -/
def TimesP (g i x : Nat) (cur ys : List Nat) (w : World) (e : Ending) (w' : World) : Prop :=
  ∃ c : Nat, ∃ cur' : List Nat, e = .returned (.int .u32 c) ∧ c < 4294967296 ∧ Hid (cur'.length = cur.length) ∧ Dig 4294967296 cur' ∧
    Hid (val 4294967296 cur' + 4294967296 ^ (i + ys.length) * c = val 4294967296 cur + 4294967296 ^ i * (x * val 4294967296 ys)) ∧
    Hid (∀ j, i + ys.length ≤ j → cur'.getD j 0 = cur.getD j 0) ∧ Row .u32 42 w' g cur' ∧ Below g w w'

theorem mul_le (x y : Nat) (hx : x < 4294967296) (hy : y < 4294967296) : (y : Int) * x ≤ 18446744065119617025 := by
  have h : y * x ≤ 4294967295 * 4294967295 := Nat.mul_le_mul (by omega) (by omega)
  have : ((y * x : Nat) : Int) ≤ 4294967295 * 4294967295 := by omega
  rw [Int.natCast_mul] at this
  omega

set_option maxHeartbeats 800000 in
theorem addTimes_any (g i x c d : Nat) (B : Option Addr) (cur ys : List Nat) (w : World) (hrow : Row .u32 42 w g cur) (hy : Rd .u32 w B ys) (hB : ∀ b, B = some b → 0 < ys.length → b.block < g)
    (hl : i + ys.length ≤ cur.length) (bl : cur.length ≤ 200000) (hx : x < 4294967296) (dc : Dig 4294967296 cur) (dy : Dig 4294967296 ys) :
    Calls Tryd.prog 71 #[.slice (some ⟨g, i, none⟩) ys.length c, .slice B ys.length d, .int .u32 x] w (TimesP g i x cur ys w) := by
  go_enter Tryd.func71, Tryd.ntmps71
  go_wp2
  go_loopw [7, 8, 9, 10, 13] (fun cy _ _ _ n wr => ∃ k c : Nat, ∃ cur' : List Nat, k ≤ ys.length ∧ n = .int .i64 k ∧ cy = .int .u64 c ∧ c < 4294967296 ∧ cur'.length = cur.length ∧ Dig 4294967296 cur' ∧
      val 4294967296 cur' + 4294967296 ^ (i + k) * c = val 4294967296 cur + 4294967296 ^ i * (x * val 4294967296 (ys.take k)) ∧ (∀ j, i + k ≤ j → cur'.getD j 0 = cur.getD j 0) ∧ Row .u32 42 wr g cur' ∧ Below g w wr) (fun _ _ _ _ n _ => ys.length - (intOf n).toNat)
  case atStart => exact ⟨0, 0, cur, Nat.zero_le _, rfl, rfl, by omega, rfl, dc, by simp [val], fun _ _ => rfl, hrow, Below.refl _ _⟩
  case round =>
    obtain ⟨k, c, cur', hk, rfl, rfl, hc1, hcl, hdc, hv, hout, hrow', hbw⟩ := hrel
    have HV := Lib.hid hv
    have HCL := Lib.hid hcl
    have HO := Lib.hid hout
    clear hv hcl hout
    by_cases hlt : k < ys.length
    · obtain ⟨bd, y, rfl, hby, ey, cy⟩ := hy.ask hlt
      have hbg : bd.block < g := hB bd rfl (by omega)
      have cy' : wr.cell? (bd.add k) = some (.int .u32 y) := (hbw.cell (by rw [block_of_add]; exact hbg)).trans cy
      have hkc : i + k < cur'.length := by have := HCL.out; omega
      obtain ⟨o, ho⟩ : ∃ o, Hid (cur'.getD (i + k) 0 = o) := ⟨_, rfl⟩
      have hol : o < 4294967296 := by rw [← ho.out]; exact dig_getD hdc (by omega) _
      have hcell : wr.cell? ⟨g, i + k, none⟩ = some (.int .u32 o) := by have := hrow'.cell hkc; rwa [ho.out] at this
      have hfr := hrow'.frozen (i + k)
      have hyl : y < 4294967296 := by rw [← ey.out]; exact dig_getD dy (by omega) k
      have hm := mul_le x y hx hyl
      have hm0 : (0 : Int) ≤ (y : Int) * x := Int.mul_nonneg (by omega) (by omega)
      obtain ⟨s, c', hs, hc', hsc, es, ec⟩ : ∃ s c' : Nat, s < 4294967296 ∧ c' < 4294967296 ∧ Hid (s + 4294967296 * c' = y * x + o + c) ∧
          Hid (((y : Int) * x + o + c) % 4294967296 = s) ∧ Hid (((y : Int) * x + o + c) / 4294967296 = c') := by
        have e : ((y * x + o + c : Nat) : Int) = (y : Int) * x + o + c := by simp
        refine ⟨(y * x + o + c) % 4294967296, (y * x + o + c) / 4294967296, Nat.mod_lt _ (by omega), by omega, Nat.mod_add_div _ _, ?_, ?_⟩
        · show _ = _
          rw [← e]; omega
        · show _ = _
          rw [← e]; omega
      go_wp2
      go_roundw
      case rel =>
        exact ⟨k + 1, c', cur'.set (i + k) s, by omega, by go_num, by rw [ec.out], hc', by rw [List.length_set]; exact HCL.out, hdc.set _ hs,
          times_step _ i k s c c' x y o cur' ys _ hkc hlt ey.out ho.out hsc.out HV.out, fun j hj => by rw [getD_set _ _ _ _ hkc, if_neg (by omega)]; exact HO.out j (by omega),
          by rw [es.out]; exact hrow'.set_ (i + k) s, hbw.setCell (Nat.le_refl _) _⟩
      case measure => simp [intOf]; omega
    · obtain rfl : k = ys.length := by omega
      go_wp2
      go_ret
      exact ⟨c, cur', rfl, hc1, HCL.out, hdc, by have := HV.out; rwa [List.take_length] at this, HO.out, hrow', hbw⟩

set_option maxHeartbeats 800000 in
theorem mul_any (A B : Option Addr) (c d : Nat) (xs ys : List Nat) (w : World) (hx : Rd .u32 w A xs) (hy : Rd .u32 w B ys) (bl : xs.length + ys.length ≤ 200000)
    (dx : Dig 4294967296 xs) (dy : Dig 4294967296 ys) :
    Calls Tryd.prog 49 #[.slice A xs.length c, .slice B ys.length d] w
      (OutP .u32 (fun zs => val 4294967296 zs = val 4294967296 xs * val 4294967296 ys ∧ Nrm zs ∧ Dig 4294967296 zs ∧ zs.length ≤ xs.length + ys.length) w) := by
  have hmk := fun W => make_u32 (xs.length + ys.length) ((xs.length : Int) + ys.length) (by omega) (by omega) W
  go_enter Tryd.func49, Tryd.ntmps49
  go_wp2
  clear hmk
  go_loopw [6, 7, 16] (fun _ _ n wr => ∃ k : Nat, ∃ cur : List Nat, k ≤ xs.length ∧ n = .int .i64 k ∧ cur.length = xs.length + ys.length ∧ Dig 4294967296 cur ∧
      val 4294967296 cur = val 4294967296 (xs.take k) * val 4294967296 ys ∧ (∀ j, k + ys.length ≤ j → cur.getD j 0 = 0) ∧ Row .u32 42 wr w.heap.size cur ∧ Below w.heap.size w wr) (fun _ _ n _ => xs.length - (intOf n).toNat)
  case atStart => exact ⟨0, _, Nat.zero_le _, rfl, List.length_replicate, Dig.zeros (by omega) _, by simp [val, val_zeros], fun j _ => by simp [List.getD_eq_getElem?_getD, List.getElem?_replicate]; split <;> rfl, Row.new _ _, (Below.refl _ _).alloc (Nat.le_refl _) _⟩
  case round =>
    obtain ⟨k, cur, hk, rfl, hcl, hdc, hv, hout, hrow, hbw⟩ := hrel
    have HV := Lib.hid hv
    have HCL := Lib.hid hcl
    have HO := Lib.hid hout
    clear hv hcl hout
    by_cases hlt : k < xs.length
    · obtain ⟨ad, x, rfl, hbx, ex, cx⟩ := (hx.below hbw).ask hlt
      have hxl : x < 4294967296 := by rw [← ex.out]; exact dig_getD dx (by omega) k
      have hcll : k + ys.length < cur.length := by have := HCL.out; omega
      have hyb : ∀ b, B = some b → 0 < ys.length → b.block < w.heap.size := fun b e hp => by
        obtain ⟨b', e', h', _⟩ := hy hp
        rw [e] at e'; injection e' with e'; subst e'; exact h'
      go_wp2_with (go_at_call 71; refine (addTimes_any _ k x _ _ B cur ys _ hrow (hy.below hbw) hyb (by omega) (by have := HCL.out; omega) hxl hdc dy).mono ?_; rintro e w1 ⟨cc, cur', rfl, hcc, hlen, hdc', hval, hout', hrow', hbw'⟩; have hin : k + ys.length < cur'.length := (by have := hlen.out; omega); have hcell := hrow'.cell hin; have hfr := hrow'.frozen (k + ys.length))
      go_roundw
      case rel =>
        refine ⟨k + 1, cur'.set (k + ys.length) cc, by omega, by go_num, by rw [List.length_set, hlen.out]; exact HCL.out, hdc'.set _ hcc, ?_, ?_, hrow'.set_ _ _, (hbw.trans hbw').setCell (Nat.le_refl _) _⟩
        · have h1 := val_set 4294967296 cur' (k + ys.length) cc hin
          rw [hout'.out _ (Nat.le_refl _), HO.out _ (Nat.le_refl _), hval.out, HV.out] at h1
          rw [val_take_succ _ xs k hlt, ex.out, Nat.add_mul, Nat.mul_assoc]
          omega
        · intro j hj
          rw [getD_set _ _ _ _ hin, if_neg (by omega), hout'.out j (by omega)]
          exact HO.out j (by omega)
      case measure => simp [intOf]; omega
    · obtain rfl : k = xs.length := by omega
      go_wp2_with (go_at_call 67; refine (trim_u32n _ _ _ cur _ HCL.out hrow.rd (Nat.le_refl _) (by omega)).mono ?_; rintro e w1 ⟨m, hm, rfl, hv3, hn3, rfl⟩; have HV3 := Lib.hid hv3; clear hv3)
      go_ret
      have hfl := HCL.out
      exact OutP.of_take hm (by omega) hrow.rd hbw ⟨by rw [HV3.out, HV.out, List.take_length], hn3, hdc.take m, by rw [List.length_take]; omega⟩
end Go.Proofs.YtgfojfiopcooeaaDoor
