/- nat.pow, nat.Pow and isochroneref01.Pow. -/
import Derived.Test.YtllcegiaojchdaaDoorRing
import Derived.Test.YtllcegiaojchdaaDoorBits
import Derived.Test.YtllcegiaojchdaaDoorShifts
namespace Go.Proofs.YtllcegiaojchdaaDoor
open Go.RowKit V

theorem bits_le {v b k : Nat} (h : IsBits v b) (hv : v < 2 ^ k) : b ≤ k := by
  rcases Nat.lt_or_ge k b with h1 | h1
  · have h2 := h.2 (by omega)
    have h3 : 2 ^ k ≤ 2 ^ (b - 1) := Nat.pow_le_pow_right (by omega) (by omega)
    omega
  · exact h1
theorem bits_words {xs : List Nat} {b k : Nat} (mx : Mag xs) (hl : xs.length ≤ k) (h : IsBits (V32 xs) b) : b ≤ 32 * k :=
  bits_le h (by have := V32_lt mx hl; rw [pow_words] at this; exact this)
end Go.Proofs.YtllcegiaojchdaaDoor

