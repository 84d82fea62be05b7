/- nat.bitLen, nat.Bits and isochroneref01.Bits: the number of binary digits. -/
import Derived.Test.YtgfojfiopcooeaaDoorRdiv
import Derived.Test.YtgfojfiopcooeaaDoorShiftDn
namespace Go.Proofs.YtgfojfiopcooeaaDoor
open Go.RowKit V

/-- b is the number of binary digits of v. -/
def IsBits (v b : Nat) : Prop := v < 2 ^ b ∧ (0 < b → 2 ^ (b - 1) ≤ v)
theorem IsBits.eq {v b c : Nat} (h : IsBits v b) (k : IsBits v c) : b = c := by
  have key : ∀ b c : Nat, IsBits v b → IsBits v c → b ≤ c := fun b c h k => by
    rcases Nat.lt_or_ge c b with h1 | h1
    · have h2 := h.2 (by omega)
      have h3 : 2 ^ c ≤ 2 ^ (b - 1) := Nat.pow_le_pow_right (by omega) (by omega)
      have := k.1
      omega
    · exact h1
  exact Nat.le_antisymm (key b c h k) (key c b k h)
theorem bits_zero : IsBits 0 0 := ⟨by simp, fun h => absurd h (by omega)⟩
theorem len_bits (x : Nat) (h : x < 4294967296) (h0 : x ≠ 0) : IsBits x (Lib.bitLen x) ∧ 1 ≤ Lib.bitLen x ∧ Lib.bitLen x ≤ 32 := by
  have h1 := Lib.bitLenAux_bounds 64 x (by omega) h0
  exact ⟨⟨h1.2.2, fun _ => h1.2.1⟩, h1.1, Lib.bitLen_le x 32 (by omega) (by omega)⟩
/-- The binary digits of a magnitude from those of its highest word. -/
theorem bits_top {xs : List Nat} (hd : Dig 4294967296 xs) (h : 0 < xs.length) {x l : Nat} (ex : xs.getD (xs.length - 1) 0 = x) (hl : IsBits x l) (hl1 : 1 ≤ l) : IsBits (V32 xs) (32 * (xs.length - 1) + l) := by
  have h1 := val_take_succ 4294967296 xs (xs.length - 1) (by omega)
  rw [Nat.sub_add_cancel (by omega), List.take_length, ex] at h1
  have h2 := val_lt 4294967296 (xs.take (xs.length - 1)) (hd.take _)
  rw [List.length_take, Nat.min_eq_left (by omega)] at h2
  have e : (4294967296 : Nat) ^ (xs.length - 1) = 2 ^ (32 * (xs.length - 1)) := by rw [Nat.pow_mul]
  rw [e] at h1 h2
  unfold V32
  rw [h1]
  refine ⟨?_, fun _ => ?_⟩
  · have h3 : 2 ^ (32 * (xs.length - 1)) * (x + 1) ≤ 2 ^ (32 * (xs.length - 1)) * 2 ^ l := Nat.mul_le_mul_left _ hl.1
    rw [Nat.pow_add]
    rw [Nat.mul_add] at h3
    omega
  · have h3 : 2 ^ (32 * (xs.length - 1)) * 2 ^ (l - 1) ≤ 2 ^ (32 * (xs.length - 1)) * x := Nat.mul_le_mul_left _ (hl.2 hl1)
    rw [show 32 * (xs.length - 1) + l - 1 = 32 * (xs.length - 1) + (l - 1) by omega, Nat.pow_add]
    omega

/-- The answer is the number of binary digits; the world is as it was. -/
def BitsP (v : Nat) (w : World) (e : Ending) (w' : World) : Prop := ∃ b : Nat, e = .returned (.int .i64 b) ∧ IsBits v b ∧ w = w'

set_option maxRecDepth 100000 in
set_option maxHeartbeats 400000 in
theorem bitlen_any (A : Option Addr) (ca : Nat) (xs : List Nat) (w : World) (hx : Rd .u32 w A xs) (bx : xs.length ≤ 200000) (mx : Mag xs) :
    Calls Tryd.prog 58 #[.slice A xs.length ca] w (BitsP (V32 xs) w) := by
  by_cases h0 : xs.length = 0
  · have hb : ((xs.length : Int) == 0) = true := by simp [h0]
    obtain rfl : xs = [] := List.eq_nil_of_length_eq_zero h0
    go_enter Tryd.func58, Tryd.ntmps58
    go_wp2
    go_ret
    exact ⟨0, rfl, bits_zero, rfl⟩
  · have hb : ((xs.length : Int) == 0) = false := beq_eq_false_iff_ne.2 (by omega)
    obtain ⟨ad, x, rfl, hbx, ex, cx⟩ := hx.ask (i := xs.length - 1) (by omega)
    have hxl : x < 4294967296 := by rw [← ex.out]; exact dig_getD mx.1 (by omega) _
    have hx0 : x ≠ 0 := by rw [← ex.out]; exact mx.2 (by omega)
    obtain ⟨h1, h2, h3⟩ := len_bits x hxl hx0
    have HB : Hid (IsBits (V32 xs) (32 * (xs.length - 1) + Lib.bitLen x)) := bits_top mx.1 (by omega) ex.out h1 h2
    obtain ⟨l, hl⟩ : ∃ l, Lib.bitLen x = l := ⟨_, rfl⟩
    have hcall := Tryd.bits_Len32 (x : Int) w (by omega) (by omega)
    rw [Int.toNat_natCast, hl] at hcall
    rw [hl] at HB h2 h3
    have HCALL := Lib.hid hcall
    clear hcall h1 hl
    go_enter Tryd.func58, Tryd.ntmps58
    go_wp2_with fail
    refine HCALL.out.mono ?_
    rintro e w2 ⟨rfl, rfl⟩
    go_wp2
    go_ret
    exact ⟨32 * (xs.length - 1) + l, by go_num, HB.out, rfl⟩

/-- The number of binary digits and error 0. -/
def BitsQ (v : Nat) (w : World) (e : Ending) (w' : World) : Prop := ∃ b : Nat, e = .returned (.tuple #[.int .i64 b, .int .i64 0]) ∧ IsBits v b ∧ w = w'

set_option maxHeartbeats 400000 in
theorem Bits_ok (A : Option Addr) (ca : Nat) (xs : List Nat) (w : World) (hx : Rd .u32 w A xs) (dx : Dig 4294967296 xs) (ox : Ok xs) :
    Calls Tryd.prog 31 #[.slice A xs.length ca] w (BitsQ (V32 xs) w) := by
  have hl : xs.length ≤ 200000 := Nat.le_trans ox.1 (by omega)
  have mx : Mag xs := ⟨dx, ox.2⟩
  go_enter Tryd.func31, Tryd.ntmps31
  go_wp2_with (first
    | (go_at_call 45; (with_reducible refine (valid_yes A ca xs _ hx ox).mono ?_); rintro e w1 ⟨rfl, rfl⟩)
    | (go_at_call 58; (with_reducible refine (bitlen_any A ca xs _ hx hl mx).mono ?_); rintro e w1 ⟨b, rfl, hb, rfl⟩))
  go_ret2
  exact ⟨b, rfl, hb, rfl⟩

/-- v is what is left of V without its lowest n binary digits. -/
def Half (V n v : Nat) : Prop := v * 2 ^ n ≤ V ∧ V < (v + 1) * 2 ^ n
theorem Half.zero (V : Nat) : Half V 0 V := by unfold Half; simp
theorem Half.step {V n v q r k : Nat} (h : Half V n v) (e : v = q * 2 ^ k + r) (hr : r < 2 ^ k) : Half V (n + k) q := by
  have h1 : q * (2 ^ k * 2 ^ n) ≤ v * 2 ^ n := by rw [← Nat.mul_assoc]; exact Nat.mul_le_mul_right _ (by omega)
  have h2 : (v + 1) * 2 ^ n ≤ (q + 1) * (2 ^ k * 2 ^ n) := by rw [← Nat.mul_assoc]; exact Nat.mul_le_mul_right _ (by rw [Nat.add_mul]; omega)
  unfold Half at h ⊢
  rw [Nat.pow_add, Nat.mul_comm (2 ^ n)]
  omega
theorem Half.ge {V n v : Nat} (h : Half V n v) (hv : 1 ≤ v) : 2 ^ n ≤ V := by
  have h1 : 1 * 2 ^ n ≤ v * 2 ^ n := Nat.mul_le_mul_right _ hv
  have := h.1
  omega
theorem pow_bits {n l : Nat} {xs : List Nat} (h : 2 ^ n ≤ VD xs) (hd : Dig 10000 xs) (hl : xs.length ≤ l) : n < 14 * l := by
  have h1 := val_lt 10000 xs hd
  have h2 : 10000 ^ xs.length ≤ 16384 ^ xs.length := Nat.pow_le_pow_left (by omega) _
  have h3 : (16384 : Nat) ^ xs.length = 2 ^ (14 * xs.length) := by rw [Nat.pow_mul]
  rcases Nat.lt_or_ge n (14 * l) with h4 | h4
  · exact h4
  · have h5 : 2 ^ (14 * xs.length) ≤ 2 ^ n := Nat.pow_le_pow_right (by omega) (by omega)
    unfold VD at h; omega

set_option maxRecDepth 100000 in
set_option maxHeartbeats 1000000 in
theorem rbits_any (A : Option Addr) (ca : Nat) (xs : List Nat) (w : World) (hx : Rd .i64 w A xs) (bl : xs.length ≤ 20000) (nmx : Nm xs) :
    Calls Tryd.prog 32 #[.slice A xs.length ca] w (fun e w' => ∃ b : Nat, e = .returned (.int .i64 b) ∧ Hid (IsBits (VD xs) b) ∧ Below w.heap.size w w') := by
  go_enter Tryd.func32, Tryd.ntmps32
  go_wp2
  go_loopg [0, 3, 4, 5] (VD xs) (fun g a nv _ _ wr => ∃ Q qc q, ∃ n : Nat, a = .slice Q (q : List Nat).length qc ∧ VD q = g ∧ Nm q ∧ q.length ≤ xs.length ∧ Rd .i64 wr Q q ∧ nv = .int .i64 n ∧ Half (VD xs) n (VD q) ∧ (0 < n → 0 < q.length) ∧ Below w.heap.size w wr)
  case atStart => exact ⟨A, ca, xs, 0, rfl, rfl, nmx, Nat.le_refl _, hx, rfl, Half.zero _, by omega, Below.refl _ _⟩
  case round =>
    obtain ⟨Q, qc, q, n, rfl, hg, hnq, hql, hrq, rfl, hh, hne, hbw⟩ := hrel
    have HG := Lib.hid hg
    have HH := Lib.hid hh
    clear hg hh
    by_cases h0 : 0 < q.length
    · have hdq : Dig 10000 q := hnq.1
      have hpos := VD_pos hnq h0
      have hn14 : n < 280000 := by have := pow_bits (l := 20000) (HH.out.ge hpos) nmx.1 bl; omega
      have hb0 : decide ((0 : Int) < q.length) = true := by simpa using h0
      clear hne
      go_wp2_with fail
      refine (split_any Q qc 65536 q _ hrq (by omega) hdq (by omega) (by omega)).mono ?_
      rintro e w1 ⟨Q1, qc1, q1, r, rfl, hqc1, hrq1, hb1, hsp, hr, hnq1, hql1, hfr1⟩
      have hbw1 := hbw.trans (hb1.mono hbw.size)
      by_cases h1 : q1.length = 0
      · have hz : ((q1.length : Int) == 0) = true := by simp [h1]
        have hqe : q1 = [] := List.eq_nil_of_length_eq_zero h1
        have hvr : Hid (VD q = r) := by have := hsp.out; rw [hqe] at this; show VD q = r; simpa [VD, val] using this
        have hr1 : 1 ≤ r := by rw [← hvr.out]; exact hpos
        have HS : Hid (Half (VD xs) n r) := by rw [← hvr.out]; exact HH.out
        have HM : Hid (0 < n → 2 ^ (n - 1) ≤ VD xs) := fun hn => by
          have h2 := HS.out.ge hr1
          have h3 : 2 ^ (n - 1) ≤ 2 ^ n := Nat.pow_le_pow_right (by omega) (by omega)
          omega
        clear hfr1 hrq1 hb1 hnq1 hrq hqe h1 HH hvr hsp
        go_wp2_with fail
        go_loop [3, 5] (fun nv rv => ∃ m s : Nat, nv = .int .i64 m ∧ rv = .int .i64 s ∧ s < 65536 ∧ m < 280020 ∧ Half (VD xs) m s ∧ (0 < m → 2 ^ (m - 1) ≤ VD xs)) (fun _ rv => (intOf rv).toNat)
        case atStart => exact ⟨n, r, rfl, rfl, hr, by omega, HS.out, HM.out⟩
        case round =>
          clear HS HM hr hr1 hn14
          obtain ⟨m, s, rfl, rfl, hs, hm, hh, hmin⟩ := hrel
          have HH := Lib.hid hh
          have HM := Lib.hid hmin
          clear hh hmin
          by_cases hs0 : s = 0
          · subst hs0
            go_wp2
            go_ret
            exact ⟨m, rfl, ⟨by have := HH.out.2; simpa using this, HM.out⟩, hbw1⟩
          · have h2 := HH.out.ge (by omega)
            have hm2 : m < 280000 := by have := pow_bits (l := 20000) h2 nmx.1 bl; omega
            have H2 := Lib.hid h2
            clear h2
            go_wp2
            go_round
            case rel => exact ⟨m + 1, s / 2, by go_num, by go_num, by omega, by omega, HH.out.step (k := 1) (q := s / 2) (r := s % 2) (by omega) (by omega), fun _ => by simpa using H2.out⟩
            case measure => simp [intOf]; omega
      · have hz : ((q1.length : Int) == 0) = false := beq_eq_false_iff_ne.2 (by omega)
        have hvq : VD q = VD q1 * 65536 + r := hsp.out
        have HVQ := Lib.hid hvq
        clear hvq hsp
        go_wp2_with fail
        go_roundg (VD q1)
        case measure => have := HG.out; have := HVQ.out; omega
        case rel => exact ⟨Q1, qc1, q1, n + 16, rfl, rfl, hnq1, by omega, hrq1, by go_num, HH.out.step (k := 16) HVQ.out hr, fun _ => by omega, hbw1⟩
    · have hb0 : decide ((0 : Int) < q.length) = false := by simpa using h0
      have hn0 : n = 0 := by
        rcases Nat.eq_zero_or_pos n with h | h
        · exact h
        · exact absurd (hne h) h0
      have hqe : q = [] := List.eq_nil_of_length_eq_zero (by omega)
      have HB : Hid (IsBits (VD xs) n) := by
        have h1 := HH.out.2
        rw [hqe, hn0] at h1
        have h2 : VD xs = 0 := by simpa [VD, val] using h1
        rw [h2, hn0]
        exact bits_zero
      clear hqe hne hn0 hnq hrq HG HH hql
      go_wp2
      go_ret
      exact ⟨n, rfl, HB, hbw⟩
end Go.Proofs.YtgfojfiopcooeaaDoor
