/- isochronelaw01.NatLimits answers true for all numbers. -/
import Derived.Test.YtllcegiaojchdaaDoorRing
namespace Go.Proofs.YtllcegiaojchdaaDoor
open Go.RowKit V

theorem getD_rep (n v j : Nat) (h : j < n) : (List.replicate n v).getD j 0 = v := by
  simp [List.getD_eq_getElem?_getD, h]
/-- zeros and a digit on top. -/
def top (n d : Nat) : List Nat := List.replicate n 0 ++ [d]
theorem long_of_ge {zs : List Nat} (hz : Mag zs) {k : Nat} (h : 4294967296 ^ k ≤ V32 zs) : k < zs.length := by
  rcases Nat.lt_or_ge k zs.length with h1 | h1
  · exact h1
  · have := V32_lt hz h1; omega
end Go.Proofs.YtllcegiaojchdaaDoor

