/- slices.Clone at the two slice types: a new row of the call's own; at most 200000 elements. -/
import Derived.Test.YtllcegiaojchdaaDoorAdd
import Derived.Test.YtllcegiaojchdaaDoorApp
import Derived.Lib.LazyBuf
namespace Go.Proofs.YtllcegiaojchdaaDoor
open Go.RowKit V

/-- A slice of the call's own that holds the list. -/
def OwnP (k : IntKind) (e : TypeId) (xs : List Nat) (w : World) (en : Ending) (w' : World) : Prop :=
  ∃ v, en = .returned v ∧ Own k e w.heap.size w' v xs ∧ Below w.heap.size w w'

set_option maxHeartbeats 400000 in
theorem clone_nat (A : Option Addr) (c : Nat) (xs : List Nat) (w : World) (hx : Rd .i64 w A xs) (bl : xs.length ≤ 200000) :
    Calls Tryd.prog 46 #[.slice A xs.length c] w (OwnP .i64 3 xs w) := by
  have hnil := fun W => Lib.run_eql_slice_nil (P := Tryd.prog) W 26 3 A xs.length c 0 0 Tryd.underlying26
  rcases A with _ | ad
  · have h0 : xs = [] := by
      rcases Nat.eq_zero_or_pos xs.length with h | h
      · exact List.eq_nil_of_length_eq_zero h
      · obtain ⟨ad, h, _⟩ := hx h
        cases h
    subst h0
    simp only [Option.isNone_none, List.length_nil] at hnil
    go_enter Tryd.func46, Tryd.ntmps46
    go_wp2
    go_ret
    exact ⟨_, rfl, Own.nil_, Below.refl _ _⟩
  · simp only [Option.isNone_some] at hnil
    have hown : Own .i64 3 w.heap.size (w.alloc (.cells #[] 3)) (.slice (some ⟨w.heap.size, 0, none⟩) 0 0) [] := Own.made (Nat.le_refl _) 0 (by omega)
    go_enter Tryd.func46, Tryd.ntmps46
    go_wp2_with (at_builtin; refine wpList_appN rfl (.tmp 5) (.tmp 6) 26 3 rfl .i64 8 info_i64 Tryd.underlying26 (by omega) _ _ [] xs rfl hown ad _ c rfl rfl (hx.alloc _) ((Below.refl _ _).alloc (Nat.le_refl _) _) (Nat.le_refl _) (by simp; omega) ?_; intro v' w' hown' hbw')
    go_ret
    exact ⟨v', rfl, hown', hbw'⟩

set_option maxHeartbeats 400000 in
theorem clone_u32 (A : Option Addr) (c : Nat) (xs : List Nat) (w : World) (hx : Rd .u32 w A xs) (bl : xs.length ≤ 200000) :
    Calls Tryd.prog 55 #[.slice A xs.length c] w (OwnP .u32 55 xs w) := by
  have hnil := fun W => Lib.run_eql_slice_nil (P := Tryd.prog) W 22 55 A xs.length c 0 0 Tryd.underlying22
  rcases A with _ | ad
  · have h0 : xs = [] := by
      rcases Nat.eq_zero_or_pos xs.length with h | h
      · exact List.eq_nil_of_length_eq_zero h
      · obtain ⟨ad, h, _⟩ := hx h
        cases h
    subst h0
    simp only [Option.isNone_none, List.length_nil] at hnil
    go_enter Tryd.func55, Tryd.ntmps55
    go_wp2
    go_ret
    exact ⟨_, rfl, Own.nil_, Below.refl _ _⟩
  · simp only [Option.isNone_some] at hnil
    have hown : Own .u32 55 w.heap.size (w.alloc (.cells #[] 55)) (.slice (some ⟨w.heap.size, 0, none⟩) 0 0) [] := Own.made (Nat.le_refl _) 0 (by omega)
    go_enter Tryd.func55, Tryd.ntmps55
    go_wp2_with (at_builtin; refine wpList_appN rfl (.tmp 5) (.tmp 6) 22 55 rfl .u32 4 info_u32 Tryd.underlying22 (by omega) _ _ [] xs rfl hown ad _ c rfl rfl (hx.alloc _) ((Below.refl _ _).alloc (Nat.le_refl _) _) (Nat.le_refl _) (by simp; omega) ?_; intro v' w' hown' hbw')
    go_ret
    exact ⟨v', rfl, hown', hbw'⟩
end Go.Proofs.YtllcegiaojchdaaDoor

