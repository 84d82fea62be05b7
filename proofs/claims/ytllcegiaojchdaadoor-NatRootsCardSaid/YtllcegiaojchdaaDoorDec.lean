/- Decimal numerals: a number in base 1000000000 is written block by block. -/
import Derived.Test.YtllcegiaojchdaaDoorVal
import Derived.Lib.ItoaNum
namespace Go.Proofs.YtllcegiaojchdaaDoor
namespace V
open Lib

/-- r in k digits, zeros ahead. -/
def pad : Nat → Nat → List UInt8
  | 0, _ => []
  | k + 1, r => pad k (r / 10) ++ [UInt8.ofNat (48 + r % 10)]
theorem pad_length (k r : Nat) : (pad k r).length = k := by
  induction k generalizing r with
  | zero => rfl
  | succ k ih => simp [pad, ih]
theorem pad_zero (k : Nat) : pad k 0 = List.replicate k 48 := by
  induction k with
  | zero => rfl
  | succ k ih => rw [pad, ih, List.replicate_succ']; rfl
theorem dec_step (q d : Nat) (hq : 1 ≤ q) (hd : d < 10) : decDigits (q * 10 + d) = decDigits q ++ [UInt8.ofNat (48 + d)] := by
  rw [decDigits, dif_neg (by omega), show (q * 10 + d) / 10 = q by omega, show (q * 10 + d) % 10 = d by omega]
theorem dec_pad (k q r : Nat) (hq : 1 ≤ q) (hr : r < 10 ^ k) : decDigits (q * 10 ^ k + r) = decDigits q ++ pad k r := by
  induction k generalizing r with
  | zero => simp at hr; subst hr; simp [pad]
  | succ k ih =>
    rw [Nat.pow_succ] at hr
    have h1 : r / 10 < 10 ^ k := by omega
    have e : q * 10 ^ (k + 1) + r = (q * 10 ^ k + r / 10) * 10 + r % 10 := by rw [Nat.pow_succ, Nat.add_mul, Nat.mul_assoc]; omega
    have h2 : 1 ≤ q * 10 ^ k := Nat.mul_pos hq (Nat.pow_pos (by omega))
    rw [e, dec_step _ _ (by omega) (by omega), ih (r / 10) h1, pad, List.append_assoc]
theorem pad_eq (k r : Nat) (h1 : 1 ≤ k) (hr : r < 10 ^ k) : (decDigits r).length ≤ k ∧ pad k r = List.replicate (k - (decDigits r).length) 48 ++ decDigits r := by
  induction k generalizing r with
  | zero => omega
  | succ k ih =>
    by_cases h : r < 10
    · rw [decDigits, dif_pos h]
      refine ⟨by simp, ?_⟩
      rw [pad, show r / 10 = 0 by omega, pad_zero, show r % 10 = r by omega]
      simp
    · rw [Nat.pow_succ] at hr
      have hk : 1 ≤ k := by
        rcases Nat.eq_zero_or_pos k with h0 | h0
        · subst h0; simp at hr; omega
        · exact h0
      obtain ⟨i1, i2⟩ := ih (r / 10) hk (by omega)
      rw [decDigits, dif_neg h, List.length_append, List.length_singleton]
      refine ⟨by omega, ?_⟩
      rw [pad, i2, show k + 1 - ((decDigits (r / 10)).length + 1) = k - (decDigits (r / 10)).length by omega, List.append_assoc]

/-- What the blocks below place i add. -/
theorem blocks_text (bs : List Nat) (hd : Dig 1000000000 bs) (i : Nat) (hi : i < bs.length) (hpos : 1 ≤ val 1000000000 (bs.drop (i + 1))) :
    decDigits (val 1000000000 (bs.drop i)) = decDigits (val 1000000000 (bs.drop (i + 1))) ++ pad 9 (bs.getD i 0) := by
  rw [val_drop _ bs i hi]
  have h := dec_pad 9 (val 1000000000 (bs.drop (i + 1))) (bs.getD i 0) hpos (dig_getD hd (by omega) i)
  rw [← h]
  congr 1
  omega
theorem drop_pos {bs : List Nat} (hn : Nrm bs) (i : Nat) (hi : i < bs.length) : 1 ≤ val 1000000000 (bs.drop i) := by
  have h := hn (by omega)
  have e : val 1000000000 (bs.drop i) = val 1000000000 ((bs.drop i).take (bs.length - 1 - i)) + 1000000000 ^ (bs.length - 1 - i) * val 1000000000 (bs.drop (bs.length - 1)) := by
    rw [val_split 1000000000 (bs.drop i) (bs.length - 1 - i) (by rw [List.length_drop]; omega), List.drop_drop, show i + (bs.length - 1 - i) = bs.length - 1 by omega]
  rw [e, val_drop _ bs (bs.length - 1) (by omega)]
  have h3 : 1 ≤ 1000000000 ^ (bs.length - 1 - i) * (bs.getD (bs.length - 1) 0 + 1000000000 * val 1000000000 (bs.drop (bs.length - 1 + 1))) := Nat.mul_pos (Nat.pow_pos (by omega)) (by omega)
  omega
end V
end Go.Proofs.YtllcegiaojchdaaDoor

