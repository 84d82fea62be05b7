/- nat.bitLen, nat.Bits and isochroneref01.Bits: the number of binary digits. -/
import Derived.Test.YtllcegiaojchdaaDoorRef
import Derived.Deep.LoopGhost
import Derived.Lib.ItoaNum
import Derived.Test.YtllcegiaojchdaaDoorShelf
import Derived.Lib.AppendIntMem
import Derived.Laws.IdiomCopy
import Derived.Lib.SmallJoins
import Derived.Laws.IdiomStrings
import Derived.Deep.RegionWith
import Derived.BigRegion
namespace Go.Proofs.YtllcegiaojchdaaDoor
open Go.RowKit V

/-- b is the number of binary digits of v. -/
def IsBits (v b : Nat) : Prop := v < 2 ^ b ∧ (0 < b → 2 ^ (b - 1) ≤ v)
theorem IsBits.eq {v b c : Nat} (h : IsBits v b) (k : IsBits v c) : b = c := by
  have key : ∀ b c : Nat, IsBits v b → IsBits v c → b ≤ c := fun b c h k => by
    rcases Nat.lt_or_ge c b with h1 | h1
    · have h2 := h.2 (by omega)
      have h3 : 2 ^ c ≤ 2 ^ (b - 1) := Nat.pow_le_pow_right (by omega) (by omega)
      have := k.1
      omega
    · exact h1
  exact Nat.le_antisymm (key b c h k) (key c b k h)
theorem bits_zero : IsBits 0 0 := ⟨by simp, fun h => absurd h (by omega)⟩
theorem len_bits (x : Nat) (h : x < 4294967296) (h0 : x ≠ 0) : IsBits x (Lib.bitLen x) ∧ 1 ≤ Lib.bitLen x ∧ Lib.bitLen x ≤ 32 := by
  have h1 := Lib.bitLenAux_bounds 64 x (by omega) h0
  exact ⟨⟨h1.2.2, fun _ => h1.2.1⟩, h1.1, Lib.bitLen_le x 32 (by omega) (by omega)⟩
/-- The binary digits of a magnitude from those of its highest word. -/
theorem bits_top {xs : List Nat} (hd : Dig 4294967296 xs) (h : 0 < xs.length) {x l : Nat} (ex : xs.getD (xs.length - 1) 0 = x) (hl : IsBits x l) (hl1 : 1 ≤ l) : IsBits (V32 xs) (32 * (xs.length - 1) + l) := by
  have h1 := val_take_succ 4294967296 xs (xs.length - 1) (by omega)
  rw [Nat.sub_add_cancel (by omega), List.take_length, ex] at h1
  have h2 := val_lt 4294967296 (xs.take (xs.length - 1)) (hd.take _)
  rw [List.length_take, Nat.min_eq_left (by omega)] at h2
  have e : (4294967296 : Nat) ^ (xs.length - 1) = 2 ^ (32 * (xs.length - 1)) := by rw [Nat.pow_mul]
  rw [e] at h1 h2
  unfold V32
  rw [h1]
  refine ⟨?_, fun _ => ?_⟩
  · have h3 : 2 ^ (32 * (xs.length - 1)) * (x + 1) ≤ 2 ^ (32 * (xs.length - 1)) * 2 ^ l := Nat.mul_le_mul_left _ hl.1
    rw [Nat.pow_add]
    rw [Nat.mul_add] at h3
    omega
  · have h3 : 2 ^ (32 * (xs.length - 1)) * 2 ^ (l - 1) ≤ 2 ^ (32 * (xs.length - 1)) * x := Nat.mul_le_mul_left _ (hl.2 hl1)
    rw [show 32 * (xs.length - 1) + l - 1 = 32 * (xs.length - 1) + (l - 1) by omega, Nat.pow_add]
    omega

/-- The answer is the number of binary digits; the world is as it was. -/
def BitsP (v : Nat) (w : World) (e : Ending) (w' : World) : Prop := ∃ b : Nat, e = .returned (.int .i64 b) ∧ IsBits v b ∧ w = w'

set_option maxRecDepth 100000 in
set_option maxHeartbeats 400000 in
theorem bitlen_any (A : Option Addr) (ca : Nat) (xs : List Nat) (w : World) (hx : Rd .u32 w A xs) (bx : xs.length ≤ 200000) (mx : Mag xs) :
    Calls Tryd.prog 64 #[.slice A xs.length ca] w (BitsP (V32 xs) w) := by
  by_cases h0 : xs.length = 0
  · have hb : ((xs.length : Int) == 0) = true := by simp [h0]
    obtain rfl : xs = [] := List.eq_nil_of_length_eq_zero h0
    go_enter Tryd.func64, Tryd.ntmps64
    go_wp2
    go_ret
    exact ⟨0, rfl, bits_zero, rfl⟩
  · have hb : ((xs.length : Int) == 0) = false := beq_eq_false_iff_ne.2 (by omega)
    obtain ⟨ad, x, rfl, hbx, ex, cx⟩ := hx.ask (i := xs.length - 1) (by omega)
    have hxl : x < 4294967296 := by rw [← ex.out]; exact dig_getD mx.1 (by omega) _
    have hx0 : x ≠ 0 := by rw [← ex.out]; exact mx.2 (by omega)
    obtain ⟨h1, h2, h3⟩ := len_bits x hxl hx0
    have HB : Hid (IsBits (V32 xs) (32 * (xs.length - 1) + Lib.bitLen x)) := bits_top mx.1 (by omega) ex.out h1 h2
    obtain ⟨l, hl⟩ : ∃ l, Lib.bitLen x = l := ⟨_, rfl⟩
    have hcall := Tryd.bits_Len32 (x : Int) w (by omega) (by omega)
    rw [Int.toNat_natCast, hl] at hcall
    rw [hl] at HB h2 h3
    have HCALL := Lib.hid hcall
    clear hcall h1 hl
    go_enter Tryd.func64, Tryd.ntmps64
    go_wp2_with fail
    refine HCALL.out.mono ?_
    rintro e w2 ⟨rfl, rfl⟩
    go_wp2
    go_ret
    exact ⟨32 * (xs.length - 1) + l, by go_num, HB.out, rfl⟩

/-- v is what is left of V without its lowest n binary digits. -/
def Half (V n v : Nat) : Prop := v * 2 ^ n ≤ V ∧ V < (v + 1) * 2 ^ n
theorem Half.zero (V : Nat) : Half V 0 V := by unfold Half; simp
theorem Half.step {V n v q r k : Nat} (h : Half V n v) (e : v = q * 2 ^ k + r) (hr : r < 2 ^ k) : Half V (n + k) q := by
  have h1 : q * (2 ^ k * 2 ^ n) ≤ v * 2 ^ n := by rw [← Nat.mul_assoc]; exact Nat.mul_le_mul_right _ (by omega)
  have h2 : (v + 1) * 2 ^ n ≤ (q + 1) * (2 ^ k * 2 ^ n) := by rw [← Nat.mul_assoc]; exact Nat.mul_le_mul_right _ (by rw [Nat.add_mul]; omega)
  unfold Half at h ⊢
  rw [Nat.pow_add, Nat.mul_comm (2 ^ n)]
  omega
end Go.Proofs.YtllcegiaojchdaaDoor

