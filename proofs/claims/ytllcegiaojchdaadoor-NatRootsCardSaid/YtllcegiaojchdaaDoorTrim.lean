/- nat.trim and isochroneref01.trim leave out the leading zero digits; slices of at most 200000 numbers. -/
import Derived.Test.YtllcegiaojchdaaDoorMem
import Derived.Test.YtllcegiaojchdaaDoorRows
import Derived.WalkKit
import Derived.WalkSpells
import Derived.WalkLawsBesides
namespace Go.Proofs.YtllcegiaojchdaaDoor
open Go.RowKit V

/-- The cut of the list that trim leaves. -/
def TrimP (A : Option Addr) (c : Nat) (xs : List Nat) (w : World) (e : Ending) (w' : World) : Prop :=
  ∃ m : Nat, m ≤ xs.length ∧ e = .returned (.slice A m c) ∧ (∀ B, val B (xs.take m) = val B xs) ∧ Nrm (xs.take m) ∧ w = w'

set_option maxHeartbeats 400000 in
theorem trim_u32 (A : Option Addr) (c : Nat) (xs : List Nat) (w : World) (h : Rd .u32 w A xs) (hl : xs.length ≤ c) (hb : xs.length ≤ 200000) :
    Calls Tryd.prog 57 #[.slice A xs.length c] w (TrimP A c xs w) := by
  go_enter Tryd.func57, Tryd.ntmps57
  go_wp2
  go_loop [3] (fun n => ∃ m : Nat, m ≤ xs.length ∧ n = .int .i64 m ∧ ∀ B, val B (xs.take m) = val B xs) (fun n => (intOf n).toNat)
  case atStart => exact ⟨xs.length, Nat.le_refl _, rfl, fun B => by rw [List.take_length]⟩
  case round =>
    obtain ⟨m, hm, rfl, hv⟩ := hrel
    have HV := Lib.hid hv
    clear hv
    by_cases h0 : m = 0
    · subst h0
      go_wp2
      go_ret
      exact ⟨0, by omega, rfl, HV.out, nrm_take _ _ (by omega) (by omega), rfl⟩
    · obtain ⟨ad, x, rfl, hbl, hx, hcell⟩ := h.ask (i := m - 1) (by omega)
      have hm1 : m - 1 < xs.length := by omega
      by_cases hz : x = 0
      · subst hz
        go_wp2
        go_round
        case rel => exact ⟨m - 1, by omega, by go_num, fun B => val_cut B xs (m - 1) hm1 hx.out (by rw [Nat.sub_add_cancel (by omega)]; exact HV.out B)⟩
        case measure => simp [intOf]; omega
      · go_wp2
        go_ret
        exact ⟨m, hm, rfl, HV.out, nrm_take _ _ hm (fun _ => by rw [hx.out]; exact hz), rfl⟩

set_option maxHeartbeats 400000 in
theorem trim_i64 (A : Option Addr) (c : Nat) (xs : List Nat) (w : World) (h : Rd .i64 w A xs) (hl : xs.length ≤ c) (hb : xs.length ≤ 200000) :
    Calls Tryd.prog 39 #[.slice A xs.length c] w (TrimP A c xs w) := by
  go_enter Tryd.func39, Tryd.ntmps39
  go_wp2
  go_loop [3] (fun n => ∃ m : Nat, m ≤ xs.length ∧ n = .int .i64 m ∧ ∀ B, val B (xs.take m) = val B xs) (fun n => (intOf n).toNat)
  case atStart => exact ⟨xs.length, Nat.le_refl _, rfl, fun B => by rw [List.take_length]⟩
  case round =>
    obtain ⟨m, hm, rfl, hv⟩ := hrel
    have HV := Lib.hid hv
    clear hv
    by_cases h0 : m = 0
    · subst h0
      go_wp2
      go_ret
      exact ⟨0, by omega, rfl, HV.out, nrm_take _ _ (by omega) (by omega), rfl⟩
    · obtain ⟨ad, x, rfl, hbl, hx, hcell⟩ := h.ask (i := m - 1) (by omega)
      have hm1 : m - 1 < xs.length := by omega
      by_cases hz : x = 0
      · subst hz
        go_wp2
        go_round
        case rel => exact ⟨m - 1, by omega, by go_num, fun B => val_cut B xs (m - 1) hm1 hx.out (by rw [Nat.sub_add_cancel (by omega)]; exact HV.out B)⟩
        case measure => simp [intOf]; omega
      · go_wp2
        go_ret
        exact ⟨m, hm, rfl, HV.out, nrm_take _ _ hm (fun _ => by rw [hx.out]; exact hz), rfl⟩
theorem trim_u32n (A : Option Addr) (c n : Nat) (xs : List Nat) (w : World) (hn : xs.length = n) (h : Rd .u32 w A xs) (hl : n ≤ c) (hb : n ≤ 200000) :
    Calls Tryd.prog 57 #[.slice A n c] w (TrimP A c xs w) := by subst hn; exact trim_u32 A c xs w h hl hb
theorem trim_i64n (A : Option Addr) (c n : Nat) (xs : List Nat) (w : World) (hn : xs.length = n) (h : Rd .i64 w A xs) (hl : n ≤ c) (hb : n ≤ 200000) :
    Calls Tryd.prog 39 #[.slice A n c] w (TrimP A c xs w) := by subst hn; exact trim_i64 A c xs w h hl hb
end Go.Proofs.YtllcegiaojchdaaDoor

