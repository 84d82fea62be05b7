/- isochroneref01.Text: the decimal digits of a number of at most 1000 digits of the document. -/
import Derived.Test.YtllcegiaojchdaaDoorBits
namespace Go.Proofs.YtllcegiaojchdaaDoor
open Go.RowKit V

/-- The places of the digits of x below T. -/
def Place (T x k v : Nat) : Prop := (k = 1000 ∧ v = T) ∨ (k = 100 ∧ v = T * 10 + x / 1000) ∨ (k = 10 ∧ v = T * 100 + x / 100) ∨ (k = 1 ∧ v = T * 1000 + x / 10) ∨ (k = 0 ∧ v = T * 10000 + x)
theorem Place.step {T x k v : Nat} (h : Place T x k v) (hx : x < 10000) (hk : k ≠ 0) : Place T x (k / 10) (v * 10 + x / k % 10) := by
  unfold Place at h ⊢
  rcases h with ⟨rfl, rfl⟩ | ⟨rfl, rfl⟩ | ⟨rfl, rfl⟩ | ⟨rfl, rfl⟩ | ⟨rfl, rfl⟩ <;> omega
theorem Place.le {T x k v : Nat} (h : Place T x k v) : k ≤ 1000 := by unfold Place at h; omega

end Go.Proofs.YtllcegiaojchdaaDoor

