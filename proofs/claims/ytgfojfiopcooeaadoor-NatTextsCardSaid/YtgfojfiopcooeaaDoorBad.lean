/- What the functions of nat answer where an argument is no valid magnitude. -/
import Derived.Test.YtgfojfiopcooeaaDoorInt
namespace Go.Proofs.YtgfojfiopcooeaaDoor
open Go.RowKit V

set_option maxHeartbeats 400000 in
theorem valid_no (A : Option Addr) (c : Nat) (xs : List Nat) (w : World) (hx : Rd .u32 w A xs) (ok : ¬ Ok xs) :
    Calls Tryd.prog 45 #[.slice A xs.length c] w fun e w' => e = .returned (.bool false) ∧ w = w' := by
  by_cases hl : xs.length ≤ 4096
  · have ok2 : ¬ Nrm xs := fun h => ok ⟨hl, h⟩
    have h0 : 1 ≤ xs.length := by
      rcases Nat.eq_zero_or_pos xs.length with h | h
      · exact absurd (fun hh => by omega) ok2
      · exact h
    have hb : ((xs.length : Int) == 0) = false := beq_eq_false_iff_ne.2 (by omega)
    obtain ⟨ad, x, rfl, hbx, ex, cx⟩ := hx.ask (i := xs.length - 1) (by omega)
    have hx0 : x = 0 := by
      rcases Nat.eq_zero_or_pos x with h | h
      · exact h
      · exact absurd (fun _ => by rw [ex.out]; omega) ok2
    subst hx0
    clear ok2 ok
    go_enter Tryd.func45, Tryd.ntmps45
    go_wp2
    go_ret
    exact ⟨rfl, rfl⟩
  · have hb : ((xs.length : Int) == 0) = false := beq_eq_false_iff_ne.2 (by omega)
    clear ok
    go_enter Tryd.func45, Tryd.ntmps45
    go_wp2
    go_ret
    exact ⟨rfl, rfl⟩

/-- The answer v; the world is as it was. -/
def Plain (v : Value) (w : World) (e : Ending) (w' : World) : Prop := e = .returned v ∧ w = w'


set_option maxHeartbeats 400000 in
theorem Cmp_bad (A B : Option Addr) (c d : Nat) (xs ys : List Nat) (w : World) (hx : Rd .u32 w A xs) (hy : Rd .u32 w B ys) (h : ¬ (Ok xs ∧ Ok ys)) :
    Calls Tryd.prog 14 #[.slice A xs.length c, .slice B ys.length d] w (Plain (.tuple #[.int .i64 0, .int .i64 3]) w) := by
  by_cases ox : Ok xs
  · have oy : ¬ Ok ys := fun oy => h ⟨ox, oy⟩
    clear h
    go_enter Tryd.func14, Tryd.ntmps14
    go_wp2_with (first
      | (go_at_call 45; (with_reducible refine (valid_yes A c xs _ hx ox).mono ?_); rintro e w1 ⟨rfl, rfl⟩)
      | (go_at_call 45; (with_reducible refine (valid_no B d ys _ hy oy).mono ?_); rintro e w1 ⟨rfl, rfl⟩))
    go_ret2
    exact ⟨rfl, rfl⟩
  · clear h
    go_enter Tryd.func14, Tryd.ntmps14
    go_wp2_with (go_at_call 45; (with_reducible refine (valid_no A c xs _ hx ox).mono ?_); rintro e w1 ⟨rfl, rfl⟩)
    go_ret2
    exact ⟨rfl, rfl⟩

set_option maxHeartbeats 400000 in
theorem Add_bad (A B : Option Addr) (c d : Nat) (xs ys : List Nat) (w : World) (hx : Rd .u32 w A xs) (hy : Rd .u32 w B ys) (h : ¬ (Ok xs ∧ Ok ys)) :
    Calls Tryd.prog 15 #[.slice A xs.length c, .slice B ys.length d] w (Plain (.tuple #[.slice none 0 0, .int .i64 3]) w) := by
  by_cases ox : Ok xs
  · have oy : ¬ Ok ys := fun oy => h ⟨ox, oy⟩
    clear h
    go_enter Tryd.func15, Tryd.ntmps15
    go_wp2_with (first
      | (go_at_call 45; (with_reducible refine (valid_yes A c xs _ hx ox).mono ?_); rintro e w1 ⟨rfl, rfl⟩)
      | (go_at_call 45; (with_reducible refine (valid_no B d ys _ hy oy).mono ?_); rintro e w1 ⟨rfl, rfl⟩))
    go_ret2
    exact ⟨rfl, rfl⟩
  · clear h
    go_enter Tryd.func15, Tryd.ntmps15
    go_wp2_with (go_at_call 45; (with_reducible refine (valid_no A c xs _ hx ox).mono ?_); rintro e w1 ⟨rfl, rfl⟩)
    go_ret2
    exact ⟨rfl, rfl⟩

set_option maxHeartbeats 400000 in
theorem Sub_bad (A B : Option Addr) (c d : Nat) (xs ys : List Nat) (w : World) (hx : Rd .u32 w A xs) (hy : Rd .u32 w B ys) (h : ¬ (Ok xs ∧ Ok ys)) :
    Calls Tryd.prog 17 #[.slice A xs.length c, .slice B ys.length d] w (Plain (.tuple #[.slice none 0 0, .int .i64 3]) w) := by
  by_cases ox : Ok xs
  · have oy : ¬ Ok ys := fun oy => h ⟨ox, oy⟩
    clear h
    go_enter Tryd.func17, Tryd.ntmps17
    go_wp2_with (first
      | (go_at_call 45; (with_reducible refine (valid_yes A c xs _ hx ox).mono ?_); rintro e w1 ⟨rfl, rfl⟩)
      | (go_at_call 45; (with_reducible refine (valid_no B d ys _ hy oy).mono ?_); rintro e w1 ⟨rfl, rfl⟩))
    go_ret2
    exact ⟨rfl, rfl⟩
  · clear h
    go_enter Tryd.func17, Tryd.ntmps17
    go_wp2_with (go_at_call 45; (with_reducible refine (valid_no A c xs _ hx ox).mono ?_); rintro e w1 ⟨rfl, rfl⟩)
    go_ret2
    exact ⟨rfl, rfl⟩

set_option maxHeartbeats 400000 in
theorem Mul_bad (A B : Option Addr) (c d : Nat) (xs ys : List Nat) (w : World) (hx : Rd .u32 w A xs) (hy : Rd .u32 w B ys) (h : ¬ (Ok xs ∧ Ok ys)) :
    Calls Tryd.prog 16 #[.slice A xs.length c, .slice B ys.length d] w (Plain (.tuple #[.slice none 0 0, .int .i64 3]) w) := by
  by_cases ox : Ok xs
  · have oy : ¬ Ok ys := fun oy => h ⟨ox, oy⟩
    clear h
    go_enter Tryd.func16, Tryd.ntmps16
    go_wp2_with (first
      | (go_at_call 45; (with_reducible refine (valid_yes A c xs _ hx ox).mono ?_); rintro e w1 ⟨rfl, rfl⟩)
      | (go_at_call 45; (with_reducible refine (valid_no B d ys _ hy oy).mono ?_); rintro e w1 ⟨rfl, rfl⟩))
    go_ret2
    exact ⟨rfl, rfl⟩
  · clear h
    go_enter Tryd.func16, Tryd.ntmps16
    go_wp2_with (go_at_call 45; (with_reducible refine (valid_no A c xs _ hx ox).mono ?_); rintro e w1 ⟨rfl, rfl⟩)
    go_ret2
    exact ⟨rfl, rfl⟩

set_option maxHeartbeats 400000 in
theorem GCD_bad (A B : Option Addr) (c d : Nat) (xs ys : List Nat) (w : World) (hx : Rd .u32 w A xs) (hy : Rd .u32 w B ys) (h : ¬ (Ok xs ∧ Ok ys)) :
    Calls Tryd.prog 24 #[.slice A xs.length c, .slice B ys.length d] w (Plain (.tuple #[.slice none 0 0, .int .i64 3]) w) := by
  by_cases ox : Ok xs
  · have oy : ¬ Ok ys := fun oy => h ⟨ox, oy⟩
    clear h
    go_enter Tryd.func24, Tryd.ntmps24
    go_wp2_with (first
      | (go_at_call 45; (with_reducible refine (valid_yes A c xs _ hx ox).mono ?_); rintro e w1 ⟨rfl, rfl⟩)
      | (go_at_call 45; (with_reducible refine (valid_no B d ys _ hy oy).mono ?_); rintro e w1 ⟨rfl, rfl⟩))
    go_ret2
    exact ⟨rfl, rfl⟩
  · clear h
    go_enter Tryd.func24, Tryd.ntmps24
    go_wp2_with (go_at_call 45; (with_reducible refine (valid_no A c xs _ hx ox).mono ?_); rintro e w1 ⟨rfl, rfl⟩)
    go_ret2
    exact ⟨rfl, rfl⟩

set_option maxHeartbeats 400000 in
theorem DivMod_bad (A B : Option Addr) (c d : Nat) (xs ys : List Nat) (w : World) (hx : Rd .u32 w A xs) (hy : Rd .u32 w B ys) (h : ¬ (Ok xs ∧ Ok ys)) :
    Calls Tryd.prog 23 #[.slice A xs.length c, .slice B ys.length d] w (Plain (.tuple #[.slice none 0 0, .slice none 0 0, .int .i64 3]) w) := by
  by_cases ox : Ok xs
  · have oy : ¬ Ok ys := fun oy => h ⟨ox, oy⟩
    clear h
    go_enter Tryd.func23, Tryd.ntmps23
    go_wp2_with (first
      | (go_at_call 45; (with_reducible refine (valid_yes A c xs _ hx ox).mono ?_); rintro e w1 ⟨rfl, rfl⟩)
      | (go_at_call 45; (with_reducible refine (valid_no B d ys _ hy oy).mono ?_); rintro e w1 ⟨rfl, rfl⟩))
    go_ret3
    exact ⟨rfl, rfl⟩
  · clear h
    go_enter Tryd.func23, Tryd.ntmps23
    go_wp2_with (go_at_call 45; (with_reducible refine (valid_no A c xs _ hx ox).mono ?_); rintro e w1 ⟨rfl, rfl⟩)
    go_ret3
    exact ⟨rfl, rfl⟩

set_option maxHeartbeats 400000 in
theorem Pow_bad (A : Option Addr) (c : Nat) (xs : List Nat) (n : Int) (w : World) (hx : Rd .u32 w A xs) (ox : ¬ Ok xs) :
    Calls Tryd.prog 27 #[.slice A xs.length c, .int .i64 n] w (Plain (.tuple #[.slice none 0 0, .int .i64 3]) w) := by
  go_enter Tryd.func27, Tryd.ntmps27
  go_wp2_with (go_at_call 45; (with_reducible refine (valid_no A c xs _ hx ox).mono ?_); rintro e w1 ⟨rfl, rfl⟩)
  go_ret2
  exact ⟨rfl, rfl⟩

set_option maxHeartbeats 400000 in
theorem Shift_bad (A : Option Addr) (c : Nat) (xs : List Nat) (n : Int) (w : World) (hx : Rd .u32 w A xs) (ox : ¬ Ok xs) :
    Calls Tryd.prog 30 #[.slice A xs.length c, .int .i64 n] w (Plain (.tuple #[.slice none 0 0, .int .i64 3]) w) := by
  go_enter Tryd.func30, Tryd.ntmps30
  go_wp2_with (go_at_call 45; (with_reducible refine (valid_no A c xs _ hx ox).mono ?_); rintro e w1 ⟨rfl, rfl⟩)
  go_ret2
  exact ⟨rfl, rfl⟩

set_option maxHeartbeats 400000 in
theorem Bits_bad (A : Option Addr) (c : Nat) (xs : List Nat) (w : World) (hx : Rd .u32 w A xs) (ox : ¬ Ok xs) :
    Calls Tryd.prog 31 #[.slice A xs.length c] w (Plain (.tuple #[.int .i64 0, .int .i64 3]) w) := by
  go_enter Tryd.func31, Tryd.ntmps31
  go_wp2_with (go_at_call 45; (with_reducible refine (valid_no A c xs _ hx ox).mono ?_); rintro e w1 ⟨rfl, rfl⟩)
  go_ret2
  exact ⟨rfl, rfl⟩

set_option maxHeartbeats 400000 in
theorem Root_bad (A : Option Addr) (c : Nat) (xs : List Nat) (w : World) (hx : Rd .u32 w A xs) (ox : ¬ Ok xs) :
    Calls Tryd.prog 34 #[.slice A xs.length c] w (Plain (.tuple #[.slice none 0 0, .int .i64 3]) w) := by
  go_enter Tryd.func34, Tryd.ntmps34
  go_wp2_with (go_at_call 45; (with_reducible refine (valid_no A c xs _ hx ox).mono ?_); rintro e w1 ⟨rfl, rfl⟩)
  go_ret2
  exact ⟨rfl, rfl⟩

set_option maxHeartbeats 400000 in
theorem Text_bad (A : Option Addr) (c : Nat) (xs : List Nat) (w : World) (hx : Rd .u32 w A xs) (ox : ¬ Ok xs) :
    Calls Tryd.prog 36 #[.slice A xs.length c] w (Plain (.tuple #[.string ByteArray.empty, .int .i64 3]) w) := by
  go_enter Tryd.func36, Tryd.ntmps36
  go_wp2_with (go_at_call 45; (with_reducible refine (valid_no A c xs _ hx ox).mono ?_); rintro e w1 ⟨rfl, rfl⟩)
  go_ret2
  exact ⟨rfl, rfl⟩
end Go.Proofs.YtgfojfiopcooeaaDoor
