/- nat.low and nat.rootShort. -/
import Derived.Test.YtllcegiaojchdaaDoorAwake
import Derived.Test.YtllcegiaojchdaaDoorBad
import Derived.Deep.RegionWith
import Derived.BigRegion
import Derived.IntWalk
import Derived.Laws.CopyOwn
namespace Go.Proofs.YtllcegiaojchdaaDoor
open Go.RowKit V

theorem sq_mono {a b : Nat} (h : a ≤ b) : a * a ≤ b * b := Nat.mul_le_mul h h

set_option maxRecDepth 100000 in
set_option maxHeartbeats 400000 in
theorem rootshort_any (n : Nat) (w : World) (hn : n < 18446744073709551616) :
    Calls Tryd.prog 63 #[.int .u64 n] w (fun e w' => (∃ r : Nat, e = .returned (.int .u64 r) ∧ r < 4294967296 ∧ Hid (r * r ≤ n) ∧ Hid (n < (r + 1) * (r + 1))) ∧ w = w') := by
  have HNL := Lib.hid hn
  clear hn
  go_enter Tryd.func63, Tryd.ntmps63
  go_wp2
  go_loop [3, 4, 5] (fun fv dv _ => ∃ t f d : Nat, t ≤ 32 ∧ fv = .int .u64 f ∧ dv = .int .u64 d ∧ d = 2 ^ t / 2 ∧ f * f ≤ n ∧ n < (f + 2 ^ t) * (f + 2 ^ t) ∧ f + 2 ^ t ≤ 4294967296) (fun _ dv _ => (intOf dv).toNat)
  case atStart => exact ⟨32, 0, 2147483648, by omega, rfl, rfl, by decide, by omega, by have := HNL.out; simpa using this, by decide⟩
  case round =>
    obtain ⟨t, f, d, ht, rfl, rfl, hd, hlo, hhi, hft⟩ := hrel
    have HLO := Lib.hid hlo
    have HHI := Lib.hid hhi
    rcases Nat.eq_zero_or_pos t with h0 | h0
    · subst h0
      have hd0 : d = 0 := by rw [hd]
      have hf1 : f < 4294967296 := by rw [Nat.pow_zero] at hft; omega
      subst hd0
      clear hd hlo hhi hft
      go_wp2
      go_ret
      exact ⟨⟨f, rfl, hf1, HLO.out, by have := HHI.out; rw [Nat.pow_zero] at this; exact this⟩, rfl⟩
    · obtain ⟨s, rfl⟩ : ∃ s, t = s + 1 := ⟨t - 1, by omega⟩
      have hds : d = 2 ^ s := by rw [hd, Nat.pow_succ]; omega
      have hp1 : 1 ≤ 2 ^ s := Nat.pow_pos (by omega)
      have hfd : f + d + d ≤ 4294967296 := by rw [Nat.pow_succ] at hft; omega
      have hd1 : 1 ≤ d := by omega
      obtain ⟨m, hm⟩ : ∃ m, (f + d) * (f + d) = m := ⟨_, rfl⟩
      have hml : m ≤ 4294967295 * 4294967295 := by rw [← hm]; exact Nat.mul_le_mul (by omega) (by omega)
      have hmi : ((f : Int) + d) * ((f : Int) + d) = m := by rw [← hm]; simp
      have HM := Lib.hid hm
      have HDS := Lib.hid hds
      clear hm hd hlo hhi hft hp1 hds
      by_cases hle : m ≤ n
      · go_wp2
        go_round
        case rel =>
          have h1 := HHI.out
          have h2 := HDS.out
          rw [Nat.pow_succ] at h1
          exact ⟨s, f + d, d / 2, by omega, by go_num, by go_num, by rw [h2], by rw [HM.out]; exact hle, by rw [← h2]; rw [← h2] at h1; rw [show f + d + d = f + d * 2 by omega]; exact h1, by rw [← h2]; omega⟩
        case measure => simp [intOf]; omega
      · have hgt := Nat.lt_of_not_le hle
        have HGT := Lib.hid hgt
        clear hle
        go_wp2
        go_round
        case rel =>
          have h2 := HDS.out
          exact ⟨s, f, d / 2, by omega, rfl, by go_num, by rw [h2], HLO.out, by rw [← h2, HM.out]; exact HGT.out, by rw [← h2]; omega⟩
        case measure => simp [intOf]; omega

set_option maxRecDepth 100000 in
set_option maxHeartbeats 400000 in
theorem low_any (A : Option Addr) (ca : Nat) (xs : List Nat) (w : World) (hx : Rd .u32 w A xs) (dx : Dig 4294967296 xs) (hl : xs.length ≤ 2) :
    Calls Tryd.prog 62 #[.slice A xs.length ca] w (Plain (.int .u64 (V32 xs)) w) := by
  match xs, hl with
  | [], _ =>
    go_enter Tryd.func62, Tryd.ntmps62
    go_wp2
    go_ret
    exact ⟨rfl, rfl⟩
  | [a], _ =>
    obtain ⟨ad, x, rfl, hb, ex, cx⟩ := hx.ask (i := 0) (by simp)
    rw [add_zero_] at cx
    obtain rfl : a = x := ex.out
    have hal : a < 4294967296 := dx a (by simp)
    have hv : Hid (V32 [a] = a) := V32_one a
    go_enter Tryd.func62, Tryd.ntmps62
    go_wp2
    go_ret
    exact ⟨by rw [hv.out]; rfl, rfl⟩
  | [a, b], _ =>
    obtain ⟨ad, x, rfl, hb, ex, cx⟩ := hx.ask (i := 0) (by simp)
    rw [add_zero_] at cx
    obtain rfl : a = x := ex.out
    obtain ⟨ad', y, had, _, ey, cy⟩ := hx.ask (i := 1) (by simp)
    injection had with had
    subst had
    obtain rfl : b = y := ey.out
    have cy2 := cy
    unfold Addr.add at cy2
    rw [if_neg (by omega)] at cy2
    have hal : a < 4294967296 := dx a (by simp)
    have hbl : b < 4294967296 := dx b (by simp)
    have hv : Hid (V32 [a, b] = a + 4294967296 * b) := V32_two a b
    have hor : bits BinOp.or IntKind.u64 (a : Int) ((b : Int) * 4294967296) = ((a + 4294967296 * b : Nat) : Int) := by
      have h1 := or_join b a hbl hal
      have h2 : bits BinOp.or IntKind.u64 (a : Int) ((b : Int) * 4294967296) = bits BinOp.or IntKind.u64 ((b : Int) * 4294967296) (a : Int) := by simp only [bits, BitVec.or_comm]
      rw [h2, h1]
      omega
    go_enter Tryd.func62, Tryd.ntmps62
    go_wp2
    go_ret
    exact ⟨by rw [hv.out]; simp, rfl⟩
end Go.Proofs.YtllcegiaojchdaaDoor

