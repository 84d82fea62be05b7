/- nat.Shift and isochroneref01.Two. -/
import Derived.Test.YtgfojfiopcooeaaDoorBits
namespace Go.Proofs.YtgfojfiopcooeaaDoor
open Go.RowKit V

set_option maxHeartbeats 400000 in
theorem shiftup_nil (A : Option Addr) (ca n : Nat) (w : World) :
    Calls Tryd.prog 62 #[.slice A 0 ca, .int .i64 n] w (Plain (.slice none 0 0) w) := by
  go_enter Tryd.func62, Tryd.ntmps62
  go_wp2
  go_ret
  exact ⟨rfl, rfl⟩
theorem shiftup_all (A : Option Addr) (ca n : Nat) (xs : List Nat) (w : World) (hx : Rd .u32 w A xs) (bx : xs.length ≤ 100000) (bn : n ≤ 400000) (mx : Mag xs) :
    Calls Tryd.prog 62 #[.slice A xs.length ca, .int .i64 n] w (OutP .u32 (fun zs => V32 zs = V32 xs * 2 ^ n ∧ Mag zs ∧ zs.length ≤ xs.length + n / 32 + 1) w) := by
  rcases Nat.eq_zero_or_pos xs.length with h | h
  · obtain rfl : xs = [] := List.eq_nil_of_length_eq_zero h
    exact (shiftup_nil A ca n w).mono fun e w' ⟨h1, h2⟩ => ⟨none, 0, [], h1, Nat.le_refl _, Rd.nil_, by rw [h2]; exact Below.refl _ _, by simp [V32, val], mag_nil, by omega⟩
  · exact shiftup_any A ca n xs w hx bx bn mx h

set_option maxHeartbeats 400000 in
theorem Shift_out (A : Option Addr) (ca : Nat) (n : Int) (xs : List Nat) (w : World) (hx : Rd .u32 w A xs) (ox : Ok xs) (hn : n < -200000 ∨ 200000 < n) :
    Calls Tryd.prog 30 #[.slice A xs.length ca, .int .i64 n] w (ErrP 1 w) := by
  rcases hn with hn | hn
  · go_enter Tryd.func30, Tryd.ntmps30
    go_wp2_with (go_at_call 45; (with_reducible refine (valid_yes A ca xs _ hx ox).mono ?_); rintro e w1 ⟨rfl, rfl⟩)
    go_ret2
    exact ⟨rfl, Below.refl _ _⟩
  · go_enter Tryd.func30, Tryd.ntmps30
    go_wp2_with (go_at_call 45; (with_reducible refine (valid_yes A ca xs _ hx ox).mono ?_); rintro e w1 ⟨rfl, rfl⟩)
    go_ret2
    exact ⟨rfl, Below.refl _ _⟩

set_option maxHeartbeats 400000 in
theorem Shift_dn (A : Option Addr) (ca n : Nat) (N : Int) (xs : List Nat) (w : World) (hN : N = -(n : Int)) (hx : Rd .u32 w A xs) (hca : xs.length ≤ ca) (ox : Ok xs) (dx : Dig 4294967296 xs) (h1 : 1 ≤ n) (h2 : n ≤ 200000) :
    Calls Tryd.prog 30 #[.slice A xs.length ca, .int .i64 N] w (OkP (fun zs => V32 zs = V32 xs / 2 ^ n ∧ Mag zs ∧ zs.length ≤ xs.length) w) := by
  have hl : xs.length ≤ 4096 := ox.1
  have hneg : -N = n := by omega
  have hN0 : N < 0 := by omega
  have hN1 : -200000 ≤ N := by omega
  have hN2 : N ≤ 200000 := by omega
  have hcall := shiftdn_ok A ca n xs w hx hca (by omega) (by omega) dx
  have HC := Lib.hid hcall
  clear hcall hN
  go_enter Tryd.func30, Tryd.ntmps30
  go_wp2_with (first
    | (go_at_call 45; (with_reducible refine (valid_yes A ca xs _ hx ox).mono ?_); rintro e w1 ⟨rfl, rfl⟩)
    | (go_at_call 61; refine HC.out.mono ?_; rintro e w1 ⟨Z, zc, zs, rfl, hzc, hz, hb, hq⟩))
  go_ret2
  exact ⟨Z, zc, zs, hz, hzc, hb, hq, rfl⟩

set_option maxHeartbeats 400000 in
theorem Shift_up (A : Option Addr) (ca n : Nat) (xs : List Nat) (w : World) (hx : Rd .u32 w A xs) (ox : Ok xs) (dx : Dig 4294967296 xs) (h2 : n ≤ 200000) :
    Calls Tryd.prog 30 #[.slice A xs.length ca, .int .i64 n] w (FitP (fun zs => V32 zs = V32 xs * 2 ^ n ∧ Mag zs) w) := by
  have hl : xs.length ≤ 4096 := ox.1
  have mx : Mag xs := ⟨dx, ox.2⟩
  go_enter Tryd.func30, Tryd.ntmps30
  go_wp2_with (first
    | (go_at_call 45; (with_reducible refine (valid_yes A ca xs _ hx ox).mono ?_); rintro e w1 ⟨rfl, rfl⟩)
    | (go_at_call 62; refine (shiftup_all A ca n xs _ hx (by omega) (by omega) mx).mono ?_; rintro e w1 ⟨Z, zc, zs, rfl, hzc, hz, hb, hv, hm, hl⟩; have HV := Lib.hid hv; clear hv)
    | (go_at_call 47; fail))
  by_cases h4 : zs.length ≤ 4096
  · go_wp2_with (go_at_call 47; refine (fit_yes Z zc zs.length _ h4).mono ?_; rintro e w2 ⟨rfl, rfl⟩)
    go_ret2
    exact ⟨Z, zc, zs, hz, hzc, hb, ⟨HV.out, hm⟩, .inl ⟨h4, rfl⟩⟩
  · go_wp2_with (go_at_call 47; refine (fit_no Z zc zs.length _ (by omega)).mono ?_; rintro e w2 ⟨rfl, rfl⟩)
    go_ret2
    exact ⟨Z, zc, zs, hz, hzc, hb, ⟨HV.out, hm⟩, .inr ⟨by omega, rfl⟩⟩

theorem two_round (d m t : Nat) (hm : 16 ≤ m) (h : d * 2 ^ m = t) : (d * 65536 + 0) * 2 ^ (m - 16) = t := by
  have e : 2 ^ m = 65536 * 2 ^ (m - 16) := by
    rw [show (65536 : Nat) = 2 ^ 16 by decide, ← Nat.pow_add]; congr 1; omega
  rw [← h, e, Nat.add_zero, Nat.mul_assoc]
theorem rd_nat1 (w : World) (d : Nat) : Rd .i64 (w.alloc (.cells #[.int .i64 (d : Nat)] 3)) (some ⟨w.heap.size, 0, none⟩) [d] := (Row.new (k := .i64) (t := 3) w [d]).rd
theorem nm_one : Nm [1] := ⟨fun x hx => by simp at hx; omega, fun _ => by simp⟩

set_option maxRecDepth 100000 in
set_option maxHeartbeats 1000000 in
theorem two_any (n : Nat) (w : World) (hn : n ≤ 100000) :
    Calls Tryd.prog 33 #[.int .i64 n] w (OutP .i64 (fun zs => VD zs = 2 ^ n ∧ Nm zs ∧ 8 * zs.length ≤ n + 32) w) := by
  have h1 := rd_nat1 w 1
  obtain ⟨N, hN⟩ : ∃ N, 2 ^ n = N := ⟨_, rfl⟩
  have HN := Lib.hid hN
  clear hN
  go_enter Tryd.func33, Tryd.ntmps33
  go_wp2
  go_loopw [0, 3] (fun nv v wr => ∃ m : Nat, ∃ O oc out, nv = .int .i64 m ∧ v = .slice O (out : List Nat).length oc ∧ Rd .i64 wr O out ∧ Nm out ∧ VD out * 2 ^ m = N ∧ 8 * out.length + m ≤ n + 8 ∧ Below w.heap.size w wr) (fun nv _ _ => (intOf nv).toNat)
  case atStart => exact ⟨n, _, _, [1], rfl, rfl, h1, nm_one, by rw [← HN.out]; simp [VD, val], by simp; omega, (Below.refl _ _).alloc (Nat.le_refl _) _⟩
  case round =>
    obtain ⟨m, O, oc, out, rfl, rfl, hro, hno, hv, hl, hbw⟩ := hrel
    have HV := Lib.hid hv
    have dout : Dig 10000 out := hno.1
    clear hv
    by_cases h16 : 16 ≤ m
    · go_wp2_with fail
      refine (small_z O oc _ out 65536 0 _ _ _ rfl (by omega) (by omega) hro (by omega) dout (by omega) (by omega)).mono ?_
      rintro e w2 ⟨O1, oc1, o1, rfl, hoc1, hr1, hb2, hv1, hn1, hl1⟩
      have HV1 := Lib.hid hv1
      clear hv1
      go_wp2_with fail
      go_roundw
      case rel => exact ⟨m - 16, O1, oc1, o1, by go_num, rfl, hr1, hn1, by rw [HV1.out]; exact two_round _ _ _ h16 HV.out, by omega, hbw.trans (hb2.mono hbw.size)⟩
      case measure => simp [intOf]; omega
    · have hp : (2 : Nat) ^ m ≤ 2 ^ 15 := Nat.pow_le_pow_right (by omega) (by omega)
      have hw : wrap64 ((2 : Int) ^ m) = (2 ^ m : Nat) := by
        have e : ((2 ^ m : Nat) : Int) = (2 : Int) ^ m := by simp
        rw [← e]
        generalize 2 ^ m = P at hp ⊢
        unfold wrap64
        omega
      have HW := Lib.hid hw
      have HP := Lib.hid hp
      clear hw hp
      go_wp2_with fail
      refine (small_z O oc _ out (2 ^ m) 0 _ _ _ rfl HW.out (by omega) hro (by omega) dout (by have := HP.out; omega) (by omega)).mono ?_
      rintro e w2 ⟨O1, oc1, o1, rfl, hoc1, hr1, hb2, hv1, hn1, hl1⟩
      have HV1 := Lib.hid hv1
      clear hv1
      go_wp2
      go_ret
      exact ⟨O1, oc1, o1, rfl, hoc1, hr1, hbw.trans (hb2.mono hbw.size), by rw [HV1.out, Nat.add_zero, HN.out]; exact HV.out, hn1, by omega⟩
end Go.Proofs.YtgfojfiopcooeaaDoor
