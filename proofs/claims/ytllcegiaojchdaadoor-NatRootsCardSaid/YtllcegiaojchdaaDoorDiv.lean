/- nat.divide and nat.DivMod: quotient and remainder; at most 90000 words. -/
import Derived.Test.YtllcegiaojchdaaDoorDivl
namespace Go.Proofs.YtllcegiaojchdaaDoor
open Go.RowKit V

set_option maxHeartbeats 400000 in
theorem div_many (A B : Option Addr) (c d : Nat) (xs ys : List Nat) (w : World) (hx : Rd .u32 w A xs) (hy : Rd .u32 w B ys) (bx : xs.length ≤ 90000) (mx : Mag xs) (my : Mag ys) (hge : V32 ys ≤ V32 xs) (hl : 2 ≤ ys.length) :
    Calls Tryd.prog 33 #[.slice A xs.length c, .slice B ys.length d] w (DivP xs ys w) := by
  obtain ⟨k, hk, hk0⟩ : ∃ k : Int, Hid (cmpOf (V32 xs) (V32 ys) = k) ∧ 0 ≤ k := ⟨_, rfl, by unfold cmpOf; split <;> (try split) <;> omega⟩
  have hb1 : ((ys.length : Int) == 1) = false := beq_eq_false_iff_ne.2 (by omega)
  have hlen := mx.len_le my hge
  clear hge
  go_enter Tryd.func33, Tryd.ntmps33
  go_wp2_with fail
  refine (compare_any A B c d xs ys _ hx hy (by omega) mx.1 my.1 mx.2 my.2).mono ?_
  rintro e w1 ⟨he, n1, hwe⟩
  have he2 : e = .returned (.int .i64 k) := by rw [he, ← hk.out]; rfl
  subst he2
  have hb1' : Below w.heap.size w w1 := by rw [hwe]; exact below_drew_ (Below.refl _ _) n1
  have hx1 := hx.below hb1'
  have hy1 := hy.below hb1'
  clear he hwe hk
  go_wp2_with fail
  refine (divlong_any A B c d xs.length ys.length xs ys _ hx1 hy1 mx my rfl rfl hl hlen bx).mono ?_
  rintro e w2 ⟨Q, qc, q, R, rc, r, rfl, h1, h2, h3, h4, h5, h6, h7, h8, h9⟩
  go_wp2
  go_ret2
  exact ⟨Q, qc, q, R, rc, r, rfl, h1, h2, h3, h4, h5, h6, h7, h8, hb1'.trans (h9.mono hb1'.size)⟩

theorem div_any (A B : Option Addr) (c d : Nat) (xs ys : List Nat) (w : World) (hx : Rd .u32 w A xs) (hy : Rd .u32 w B ys) (bx : xs.length ≤ 90000) (mx : Mag xs) (my : Mag ys) (hpos : 0 < ys.length) :
    Calls Tryd.prog 33 #[.slice A xs.length c, .slice B ys.length d] w (DivP xs ys w) := by
  rcases Nat.lt_or_ge (V32 xs) (V32 ys) with h | h
  · exact div_less A B c d xs ys w hx hy (by omega) mx my h
  · rcases Nat.lt_or_ge 1 ys.length with h1 | h1
    · exact div_many A B c d xs ys w hx hy bx mx my h h1
    · exact div_one A B c d xs ys w hx hy (by omega) mx my h (by omega)

theorem DivMod_any (A B : Option Addr) (c d : Nat) (xs ys : List Nat) (w : World) (hx : Rd .u32 w A xs) (hy : Rd .u32 w B ys) (ox : Ok xs) (oy : Ok ys) (dx : Dig 4294967296 xs) (dy : Dig 4294967296 ys) (hpos : 0 < ys.length) :
    Calls Tryd.prog 9 #[.slice A xs.length c, .slice B ys.length d] w (DivMP xs ys w) :=
  DivMod_ok A B c d xs ys w hx hy ox oy hpos (div_any A B c d xs ys w hx hy (by have := ox.1; omega) ⟨dx, ox.2⟩ ⟨dy, oy.2⟩ hpos)

set_option maxHeartbeats 400000 in
theorem DivMod_zero (A B : Option Addr) (c d : Nat) (xs : List Nat) (w : World) (hx : Rd .u32 w A xs) (ox : Ok xs) :
    Calls Tryd.prog 9 #[.slice A xs.length c, .slice B 0 d] w (Plain (.tuple #[.slice none 0 0, .slice none 0 0, .int .i64 20]) w) := by
  have oy : Ok [] := ⟨by simp, nrm_nil⟩
  go_enter Tryd.func9, Tryd.ntmps9
  go_wp2_with (first
    | (go_at_call 32; (with_reducible refine (valid_yes A c xs _ hx ox).mono ?_); rintro e w1 ⟨rfl, rfl⟩)
    | (go_at_call 32; refine (valid_yes B d [] _ Rd.nil_ oy).mono ?_; rintro e w1 ⟨rfl, rfl⟩))
  go_ret3
  exact ⟨rfl, rfl⟩
end Go.Proofs.YtllcegiaojchdaaDoor

