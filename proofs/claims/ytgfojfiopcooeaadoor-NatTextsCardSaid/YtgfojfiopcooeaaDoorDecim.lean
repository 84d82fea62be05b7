/- Strings of decimal digits: isochroneref01.Decimal and Digits. -/
import Derived.Test.YtgfojfiopcooeaaDoorTimes
namespace Go.Proofs.YtgfojfiopcooeaaDoor
open Go.RowKit V

/-- A decimal digit. -/
def isD (c : UInt8) : Prop := 48 ≤ c.toNat ∧ c.toNat ≤ 57
def AllD (l : List UInt8) : Prop := ∀ c ∈ l, isD c
/-- The number that digits stand for. -/
def dnum (l : List UInt8) : Nat := l.foldl (fun n c => n * 10 + (c.toNat - 48)) 0
theorem dnum_nil : dnum [] = 0 := rfl
theorem dnum_snoc (l : List UInt8) (c : UInt8) : dnum (l ++ [c]) = dnum l * 10 + (c.toNat - 48) := by simp [dnum, List.foldl_append]
theorem bytes_snoc (s : ByteArray) (k : Nat) (h : k < s.size) : s.data.toList.take (k + 1) = s.data.toList.take k ++ [s[k]] := by
  rw [List.take_succ_eq_append_getElem (by simpa using h)]; rfl
theorem bytes_all (s : ByteArray) : s.data.toList.take s.size = s.data.toList := List.take_of_length_le (by simp)
theorem mem_bytes (s : ByteArray) (k : Nat) (h : k < s.size) : s[k] ∈ s.data.toList := by
  have : s[k] = s.data.toList[k]'(by simpa using h) := rfl
  rw [this]; exact List.getElem_mem _

theorem not_empty {s : ByteArray} (h : 0 < s.size) : s.toList.isEmpty = false := by
  rw [ByteArray.toList_eq]
  cases hl : s.data.toList with
  | nil => have : s.data.toList.length = 0 := by rw [hl]; rfl
           have h2 : s.data.toList.length = s.size := by simp
           omega
  | cons _ _ => rfl
theorem is_empty {s : ByteArray} (h : s.size = 0) : s.toList.isEmpty = true := by
  rw [ByteArray.toList_eq]
  cases hl : s.data.toList with
  | nil => rfl
  | cons a r => have : s.data.toList.length = s.size := by simp
                rw [hl] at this; simp at this; omega

set_option maxHeartbeats 400000 in
theorem decimal_yes (s : ByteArray) (w : World) (hs : s.size ≤ 100000) (h : AllD s.data.toList) (hpos : 0 < s.size) :
    Calls Tryd.prog 40 #[.string s] w (Plain (.bool true) w) := by
  have HH := Lib.hid h
  have hne := not_empty hpos
  have hne2 : (!s.toList.isEmpty) = true := by rw [hne]; rfl
  clear h
  go_enter Tryd.func40, Tryd.ntmps40
  go_wp2
  go_loop [3, 6] (fun _ i => ∃ k : Nat, k ≤ s.size ∧ i = .int .i64 k) (fun _ i => s.size - (intOf i).toNat)
  case atStart => exact ⟨0, Nat.zero_le _, rfl⟩
  case round =>
    obtain ⟨k, hk, rfl⟩ := hrel
    by_cases hlt : k < s.size
    · have hd := HH.out _ (mem_bytes s k hlt)
      obtain ⟨h1, h2⟩ := hd
      go_wp2
      go_round
      case rel => exact ⟨k + 1, by omega, by go_num⟩
      case measure => simp [intOf]; omega
    · go_wp2
      go_ret
      exact ⟨rfl, rfl⟩

/-- The first byte that is no digit, or none. -/
theorem find_bad (s : ByteArray) (h : ¬ AllD s.data.toList) : ∃ k, ∃ hk : k < s.size, (∀ j (hj : j < k), isD (s[j]'(by omega))) ∧ ¬ isD s[k] := by
  have key : ∀ n, n ≤ s.size → (∃ k, ∃ hk : k < s.size, (∀ j (hj : j < k), isD (s[j]'(by omega))) ∧ ¬ isD s[k]) ∨ ∀ j (hj : j < s.size), j < n → isD s[j] := by
    intro n
    induction n with
    | zero => intro _; exact .inr fun j _ h => absurd h (by omega)
    | succ n ih =>
      intro hn
      rcases ih (by omega) with h1 | h1
      · exact .inl h1
      · by_cases hd : isD (s[n]'(by omega))
        · refine .inr fun j hj hjn => ?_
          rcases Nat.lt_or_ge j n with h2 | h2
          · exact h1 j hj h2
          · obtain rfl : j = n := by omega
            exact hd
        · exact .inl ⟨n, by omega, fun j hj => h1 j (by omega) hj, hd⟩
  rcases key s.size (Nat.le_refl _) with h1 | h1
  · exact h1
  · refine absurd (fun c hc => ?_) h
    obtain ⟨j, hj, rfl⟩ := List.getElem_of_mem hc
    have hj2 : j < s.size := by simpa using hj
    exact h1 j hj2 hj2

set_option maxHeartbeats 400000 in
theorem decimal_empty (s : ByteArray) (w : World) (h : s.size = 0) :
    Calls Tryd.prog 40 #[.string s] w (Plain (.bool false) w) := by
  have hne := is_empty h
  have hne2 : (!s.toList.isEmpty) = false := by rw [hne]; rfl
  go_enter Tryd.func40, Tryd.ntmps40
  go_wp2
  go_loop [3, 6] (fun _ i => i = .int .i64 0) (fun _ i => (intOf i).toNat)
  case atStart => rfl
  case round =>
    subst hrel
    go_wp2
    go_ret
    exact ⟨rfl, rfl⟩

set_option maxHeartbeats 400000 in
theorem decimal_no (s : ByteArray) (w : World) (hs : s.size ≤ 100000) (h : ¬ AllD s.data.toList) :
    Calls Tryd.prog 40 #[.string s] w (Plain (.bool false) w) := by
  obtain ⟨b, hb, hall, hbad⟩ := find_bad s h
  have HA := Lib.hid hall
  have HB := Lib.hid hbad
  clear h hall hbad
  go_enter Tryd.func40, Tryd.ntmps40
  go_wp2
  go_loop [2, 3, 6] (fun r _ i => ∃ k : Nat, r = .bool false ∧ k ≤ b ∧ i = .int .i64 k) (fun _ _ i => s.size - (intOf i).toNat)
  case atStart => exact ⟨0, rfl, Nat.zero_le _, rfl⟩
  case round =>
    obtain ⟨k, rfl, hk, rfl⟩ := hrel
    have hlt : k < s.size := by omega
    by_cases hkb : k < b
    · obtain ⟨h1, h2⟩ := HA.out k hkb
      go_wp2
      go_round
      case rel => exact ⟨k + 1, rfl, by omega, by go_num⟩
      case measure => simp [intOf]; omega
    · obtain rfl : k = b := by omega
      by_cases h1 : (s[k].toNat : Int) < 48
      · go_wp2
        go_ret
        exact ⟨rfl, rfl⟩
      · have h2 : 57 < (s[k].toNat : Int) := by have := HB.out; unfold isD at this; omega
        go_wp2
        go_ret
        exact ⟨rfl, rfl⟩
end Go.Proofs.YtgfojfiopcooeaaDoor
