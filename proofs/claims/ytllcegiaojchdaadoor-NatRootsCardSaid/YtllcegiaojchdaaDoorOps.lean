/- nat.Cmp, Add, Sub, Mul on valid magnitudes: the comparison, the sum, the difference, the product, or the error of the document. -/
import Derived.Test.YtllcegiaojchdaaDoorAdd
namespace Go.Proofs.YtllcegiaojchdaaDoor
open Go.RowKit V

/-- The result of fit: the list if it has at most 4096 words, else error 2. -/
def FitP (Q : List Nat → Prop) (w : World) (e : Ending) (w' : World) : Prop :=
  ∃ A c zs, Rd .u32 w' A zs ∧ zs.length ≤ c ∧ Below w.heap.size w w' ∧ Q zs ∧
    ((zs.length ≤ 4096 ∧ e = .returned (.tuple #[.slice A zs.length c, .int .i64 0])) ∨ (4096 < zs.length ∧ e = .returned (.tuple #[.slice none 0 0, .int .i64 2])))
/-- What comes out as a list, with error 0. -/
def OkP (Q : List Nat → Prop) (w : World) (e : Ending) (w' : World) : Prop :=
  ∃ A c zs, Rd .u32 w' A zs ∧ zs.length ≤ c ∧ Below w.heap.size w w' ∧ Q zs ∧ e = .returned (.tuple #[.slice A zs.length c, .int .i64 0])
/-- Nothing and an error. -/
def ErrP (n : Int) (w : World) (e : Ending) (w' : World) : Prop := e = .returned (.tuple #[.slice none 0 0, .int .i64 n]) ∧ Below w.heap.size w w'

/-- The value of a magnitude. -/
def V32 (xs : List Nat) : Nat := val 4294967296 xs
/-- Words below 2^32, the last one not zero. -/
def Mag (xs : List Nat) : Prop := Dig 4294967296 xs ∧ Nrm xs
theorem Mag.eq {xs ys : List Nat} (hx : Mag xs) (hy : Mag ys) (h : V32 xs = V32 ys) : xs = ys := val_inj hx.1 hy.1 hx.2 hy.2 h
theorem Mag.len_le {xs ys : List Nat} (hx : Mag xs) (hy : Mag ys) (h : V32 ys ≤ V32 xs) : ys.length ≤ xs.length := by
  rcases Nat.lt_or_ge xs.length ys.length with h1 | h1
  · have := val_lt_of_len (B := 4294967296) (by omega) hx.1 hy.2 h1
    unfold V32 at h; omega
  · exact h1

set_option maxHeartbeats 400000 in
theorem Add_ok (A B : Option Addr) (c d : Nat) (xs ys : List Nat) (w : World) (hx : Rd .u32 w A xs) (hy : Rd .u32 w B ys) (mx : Mag xs) (my : Mag ys) (lx : xs.length ≤ 4096) (ly : ys.length ≤ 4096) :
    Calls Tryd.prog 28 #[.slice A xs.length c, .slice B ys.length d] w (FitP (fun zs => V32 zs = V32 xs + V32 ys ∧ Mag zs) w) := by
  have ox : Ok xs := ⟨lx, mx.2⟩
  have oy : Ok ys := ⟨ly, my.2⟩
  go_enter Tryd.func28, Tryd.ntmps28
  go_wp2_with (first
    | (go_at_call 32; (with_reducible refine (valid_yes A c xs _ hx ox).mono ?_); rintro e w1 ⟨rfl, rfl⟩)
    | (go_at_call 32; (with_reducible refine (valid_yes B d ys _ hy oy).mono ?_); rintro e w1 ⟨rfl, rfl⟩)
    | (go_at_call 51; refine (add_any A B c d xs ys _ hx hy (by omega) (by omega) mx.1 my.1).mono ?_; rintro e w1 ⟨Z, zc, zs, rfl, hzc, hz, hb, hv, hn, hd, hl⟩; have HV := Lib.hid hv; clear hv)
    | (go_at_call 50; fail))
  by_cases h4 : zs.length ≤ 4096
  · go_wp2_with (go_at_call 50; refine (fit_yes Z zc zs.length _ h4).mono ?_; rintro e w2 ⟨rfl, rfl⟩)
    go_ret2
    exact ⟨Z, zc, zs, hz, hzc, hb, ⟨HV.out, hd, hn⟩, .inl ⟨h4, rfl⟩⟩
  · go_wp2_with (go_at_call 50; refine (fit_no Z zc zs.length _ (by omega)).mono ?_; rintro e w2 ⟨rfl, rfl⟩)
    go_ret2
    exact ⟨Z, zc, zs, hz, hzc, hb, ⟨HV.out, hd, hn⟩, .inr ⟨by omega, rfl⟩⟩

end Go.Proofs.YtllcegiaojchdaaDoor

