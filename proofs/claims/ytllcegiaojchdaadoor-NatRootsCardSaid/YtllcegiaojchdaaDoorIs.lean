/- slices.Equal of two slices that read as one list; isochronelaw01.is, isochroneref01.Valid and isochronelaw01.small. -/
import Derived.Test.YtllcegiaojchdaaDoorRef
import Derived.Test.YtllcegiaojchdaaDoorWords
namespace Go.Proofs.YtllcegiaojchdaaDoor
open Go.RowKit V

set_option maxHeartbeats 400000 in
theorem equal_yes (A B : Option Addr) (c d n : Nat) (xs : List Nat) (w : World) (hn : xs.length = n) (hx : Rd .u32 w A xs) (hy : Rd .u32 w B xs) (bx : n ≤ 200000) :
    Calls Tryd.prog 30 #[.slice A n c, .slice B n d] w (Says (.bool true) w) := by
  subst hn
  have hb : ((xs.length : Int) != (xs.length : Int)) = false := by simp
  go_enter Tryd.func30, Tryd.ntmps30
  go_wp2
  go_loopw [5, 13] (fun _ i wr => ∃ k n : Nat, k ≤ xs.length ∧ i = .int .i64 k ∧ wr = w.drewN n) (fun _ i _ => xs.length - (intOf i).toNat)
  case atStart => exact ⟨0, 0, Nat.zero_le _, rfl, rfl⟩
  case round =>
    obtain ⟨k, n, hk, rfl, rfl⟩ := hrel
    by_cases hlt : k < xs.length
    · obtain ⟨ad, x, rfl, hbx, ex, cx⟩ := hx.ask hlt
      obtain ⟨bd, y, rfl, hby, ey, cy⟩ := hy.ask hlt
      obtain rfl : x = y := ex.out.symm.trans ey.out
      go_wp2_with (go_quiet (fail))
      go_roundw
      case rel => exact ⟨k + 1, _, by omega, by go_num, rfl⟩
      case measure => simp [intOf]; omega
    · go_wp2
      go_ret
      exact ⟨rfl, n, rfl⟩

/-- The answer is true; what was there is as it was. -/
def Yes (w : World) (e : Ending) (w' : World) : Prop := e = .returned (.bool true) ∧ Below w.heap.size w w'

set_option maxHeartbeats 400000 in
theorem is_yes (A B : Option Addr) (c d : Nat) (zs ns : List Nat) (w : World) (hz : Rd .u32 w A zs) (hn : Rd .i64 w B ns) (bn : ns.length ≤ 100000) (bz : zs.length ≤ 100000) (mz : Mag zs) (nn : Nm ns) (hv : V32 zs = VD ns) :
    Calls Tryd.prog 11 #[.slice A zs.length c, .slice B ns.length d] w (Yes w) := by
  have HV := Lib.hid hv
  clear hv
  go_enter Tryd.func11, Tryd.ntmps11
  go_wp2_with (first
    | (go_at_call 35; refine (words_any B d ns _ hn bn nn).mono ?_; rintro e w1 ⟨Y, yc, ys, rfl, hyc, hy, hb, hvy, hmy⟩; obtain rfl : ys = zs := Mag.eq hmy mz (hvy.trans HV.out.symm))
    | (go_at_call 30; refine (equal_yes A Y c yc _ ys _ rfl (hz.below hb) hy (by omega)).mono ?_; rintro e w2 ⟨rfl, q, rfl⟩))
  go_ret
  exact ⟨rfl, hb.os, hb.tape, hb.output, hb.size, hb.block⟩

set_option maxHeartbeats 400000 in
theorem rvalid_yes (A : Option Addr) (c : Nat) (xs : List Nat) (w : World) (hx : Rd .u32 w A xs) (ok : Ok xs) :
    Calls Tryd.prog 15 #[.slice A xs.length c] w fun e w' => e = .returned (.bool true) ∧ w = w' := by
  obtain ⟨ok1, ok2⟩ := ok
  by_cases h0 : xs.length = 0
  · have hb : ((xs.length : Int) == 0) = true := by simp [h0]
    clear h0 ok2
    go_enter Tryd.func15, Tryd.ntmps15
    go_wp2
    go_ret
    exact ⟨rfl, rfl⟩
  · have hb : ((xs.length : Int) == 0) = false := beq_eq_false_iff_ne.2 (by omega)
    obtain ⟨ad, x, rfl, hbx, ex, cx⟩ := hx.ask (i := xs.length - 1) (by omega)
    have hn : ((x : Int) != 0) = true := by have := ok2 (by omega); rw [ex.out] at this; simpa using this
    have h1 : 1 ≤ xs.length := by omega
    clear ok2 h0
    go_enter Tryd.func15, Tryd.ntmps15
    go_wp2
    go_ret
    exact ⟨rfl, rfl⟩

set_option maxHeartbeats 400000 in
theorem rvalid_no (A : Option Addr) (c : Nat) (xs : List Nat) (w : World) (hx : Rd .u32 w A xs) (ok : ¬ Ok xs) :
    Calls Tryd.prog 15 #[.slice A xs.length c] w fun e w' => e = .returned (.bool false) ∧ w = w' := by
  by_cases hl : xs.length ≤ 4096
  · have ok2 : ¬ Nrm xs := fun h => ok ⟨hl, h⟩
    have h0 : 1 ≤ xs.length := by
      rcases Nat.eq_zero_or_pos xs.length with h | h
      · exact absurd (fun hh => by omega) ok2
      · exact h
    have hb : ((xs.length : Int) == 0) = false := beq_eq_false_iff_ne.2 (by omega)
    obtain ⟨ad, x, rfl, hbx, ex, cx⟩ := hx.ask (i := xs.length - 1) (by omega)
    have hx0 : x = 0 := by
      rcases Nat.eq_zero_or_pos x with h | h
      · exact h
      · exact absurd (fun _ => by rw [ex.out]; omega) ok2
    subst hx0
    clear ok2 ok
    go_enter Tryd.func15, Tryd.ntmps15
    go_wp2
    go_ret
    exact ⟨rfl, rfl⟩
  · have hb : ((xs.length : Int) == 0) = false := beq_eq_false_iff_ne.2 (by omega)
    clear ok
    go_enter Tryd.func15, Tryd.ntmps15
    go_wp2
    go_ret
    exact ⟨rfl, rfl⟩

/-- What small asks. -/
def SmallOk (xs ys : List Nat) (n : Nat) : Prop := xs.length ≤ n ∧ ys.length ≤ n ∧ Ok xs ∧ Ok ys

set_option maxHeartbeats 400000 in
theorem small_yes (A B : Option Addr) (c d n : Nat) (xs ys : List Nat) (w : World) (hx : Rd .u32 w A xs) (hy : Rd .u32 w B ys) (h : SmallOk xs ys n) :
    Calls Tryd.prog 7 #[.slice A xs.length c, .slice B ys.length d, .int .i64 n] w fun e w' => e = .returned (.bool true) ∧ w = w' := by
  obtain ⟨h1, h2, ox, oy⟩ := h
  go_enter Tryd.func7, Tryd.ntmps7
  go_wp2_with (first
    | (go_at_call 15; (with_reducible refine (rvalid_yes A c xs _ hx ox).mono ?_); rintro e w1 ⟨rfl, rfl⟩)
    | (go_at_call 15; (with_reducible refine (rvalid_yes B d ys _ hy oy).mono ?_); rintro e w1 ⟨rfl, rfl⟩))
  go_ret
  exact ⟨rfl, rfl⟩

set_option maxHeartbeats 800000 in
theorem small_no (A B : Option Addr) (c d n : Nat) (xs ys : List Nat) (w : World) (hx : Rd .u32 w A xs) (hy : Rd .u32 w B ys) (h : ¬ SmallOk xs ys n) :
    Calls Tryd.prog 7 #[.slice A xs.length c, .slice B ys.length d, .int .i64 n] w fun e w' => e = .returned (.bool false) ∧ w = w' := by
  by_cases h1 : xs.length ≤ n
  · by_cases h2 : ys.length ≤ n
    · by_cases ox : Ok xs
      · have oy : ¬ Ok ys := fun oy => h ⟨h1, h2, ox, oy⟩
        clear h
        go_enter Tryd.func7, Tryd.ntmps7
        go_wp2_with (first
          | (go_at_call 15; (with_reducible refine (rvalid_yes A c xs _ hx ox).mono ?_); rintro e w1 ⟨rfl, rfl⟩)
          | (go_at_call 15; (with_reducible refine (rvalid_no B d ys _ hy oy).mono ?_); rintro e w1 ⟨rfl, rfl⟩))
        go_ret
        exact ⟨rfl, rfl⟩
      · clear h
        go_enter Tryd.func7, Tryd.ntmps7
        go_wp2_with (go_at_call 15; (with_reducible refine (rvalid_no A c xs _ hx ox).mono ?_); rintro e w1 ⟨rfl, rfl⟩)
        go_ret
        exact ⟨rfl, rfl⟩
    · clear h
      go_enter Tryd.func7, Tryd.ntmps7
      go_wp2
      go_ret
      exact ⟨rfl, rfl⟩
  · clear h
    go_enter Tryd.func7, Tryd.ntmps7
    go_wp2
    go_ret
    exact ⟨rfl, rfl⟩
end Go.Proofs.YtllcegiaojchdaaDoor

