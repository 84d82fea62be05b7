/- nat.Shift and isochroneref01.Two. -/
import Derived.Test.YtllcegiaojchdaaDoorDiv1
import Derived.Test.YtllcegiaojchdaaDoorBad
import Derived.Test.YtllcegiaojchdaaDoorShiftUp
import Derived.Deep.RegionWith
import Derived.BigRegion
namespace Go.Proofs.YtllcegiaojchdaaDoor
open Go.RowKit V

set_option maxHeartbeats 400000 in
theorem shiftup_nil (A : Option Addr) (ca n : Nat) (w : World) :
    Calls Tryd.prog 66 #[.slice A 0 ca, .int .i64 n] w (Plain (.slice none 0 0) w) := by
  go_enter Tryd.func66, Tryd.ntmps66
  go_wp2
  go_ret
  exact ⟨rfl, rfl⟩
theorem shiftup_all (A : Option Addr) (ca n : Nat) (xs : List Nat) (w : World) (hx : Rd .u32 w A xs) (bx : xs.length ≤ 100000) (bn : n ≤ 400000) (mx : Mag xs) :
    Calls Tryd.prog 66 #[.slice A xs.length ca, .int .i64 n] w (OutP .u32 (fun zs => V32 zs = V32 xs * 2 ^ n ∧ Mag zs ∧ zs.length ≤ xs.length + n / 32 + 1) w) := by
  rcases Nat.eq_zero_or_pos xs.length with h | h
  · obtain rfl : xs = [] := List.eq_nil_of_length_eq_zero h
    exact (shiftup_nil A ca n w).mono fun e w' ⟨h1, h2⟩ => ⟨none, 0, [], h1, Nat.le_refl _, Rd.nil_, by rw [h2]; exact Below.refl _ _, by simp [V32, val], mag_nil, by omega⟩
  · exact shiftup_any A ca n xs w hx bx bn mx h

end Go.Proofs.YtllcegiaojchdaaDoor

