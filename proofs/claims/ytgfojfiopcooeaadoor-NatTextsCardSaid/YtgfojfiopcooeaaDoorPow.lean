/- nat.pow, nat.Pow and isochroneref01.Pow. -/
import Derived.Test.YtgfojfiopcooeaaDoorShiftsB
namespace Go.Proofs.YtgfojfiopcooeaaDoor
open Go.RowKit V

theorem pow_len_le {v s m k : Nat} {zs : List Nat} (hz : Mag zs) (e : V32 zs = v ^ m) (hv : v < 2 ^ s) (h : s * m ≤ 32 * k) (hm : 1 ≤ k) : zs.length ≤ k := by
  refine len_of_lt (B := 4294967296) (by omega) hz.2 ?_
  show V32 zs < _
  rw [e, pow_words]
  rcases Nat.eq_zero_or_pos m with h0 | h0
  · subst h0
    have : 2 ^ 1 ≤ 2 ^ (32 * k) := Nat.pow_le_pow_right (by omega) (by omega)
    rw [Nat.pow_zero]; omega
  · have h1 : v ^ m < (2 ^ s) ^ m := Nat.pow_lt_pow_left hv (by omega)
    have h2 : 2 ^ (s * m) ≤ 2 ^ (32 * k) := Nat.pow_le_pow_right (by omega) h
    rw [Nat.pow_mul] at h2
    omega
theorem bit_step (n i : Nat) : n / 2 ^ i = 2 * (n / 2 ^ (i + 1)) + n / 2 ^ i % 2 := by
  rw [Nat.pow_succ, ← Nat.div_div_eq_div_mul]
  omega

theorem i64_and1 (n : Int) : bits .and .i64 n 1 = n % 2 := by
  have h1 : (BitVec.ofInt 64 1).toNat = 2 ^ 1 - 1 := by decide
  have key : (BitVec.ofInt 64 n &&& BitVec.ofInt 64 1).toNat = (n % ((2 ^ 64 : Nat) : Int)).toNat % 2 ^ 1 := by
    rw [BitVec.toNat_and, BitVec.toNat_ofInt, h1, Nat.and_two_pow_sub_one_eq_mod]
  show IntKind.i64.wrap ((BitVec.ofInt 64 n &&& BitVec.ofInt 64 1).toNat : Nat) = n % 2
  rw [key, IntKind.wrap_i64]
  omega
theorem bit_test (n i : Nat) : (bits .and .i64 ((n : Int) / 2 ^ i) 1 == 1) = decide (n / 2 ^ i % 2 = 1) := by
  rw [i64_and1]
  have e : ((n / 2 ^ i : Nat) : Int) = (n : Int) / 2 ^ i := by simp
  rw [← e]
  generalize n / 2 ^ i = d
  rcases Nat.mod_two_eq_zero_or_one d with h | h
  · rw [h]; simp; omega
  · rw [h]; simp; omega
theorem sq_step {v p q b z y : Nat} (hp : p = v ^ q) (hz : z = p * p) (hy : y = z * v ^ b) : y = v ^ (2 * q + b) := by
  rw [hy, hz, hp, Nat.pow_add, Nat.two_mul, Nat.pow_add]

set_option maxRecDepth 100000 in
set_option maxHeartbeats 1000000 in
theorem pow_any (A : Option Addr) (ca n s : Nat) (xs : List Nat) (w : World) (hx : Rd .u32 w A xs) (bx : xs.length ≤ 4096) (mx : Mag xs) (h1 : 1 ≤ n) (hn : n ≤ 200000) (hs : V32 xs < 2 ^ s) (hsn : s * n ≤ 300000) :
    Calls Tryd.prog 60 #[.slice A xs.length ca, .int .i64 n] w (OutP .u32 (fun zs => V32 zs = V32 xs ^ n ∧ Mag zs) w) := by
  have hlen := fun W => Tryd.bits_Len (n : Int) W (by omega) (by omega)
  obtain ⟨l, hl⟩ : ∃ l, Lib.bitLen n = l := ⟨_, rfl⟩
  have hbb := Lib.bitLenAux_bounds 64 n (by omega) (by omega)
  have hl1 : 1 ≤ l := by rw [← hl]; exact hbb.1
  have hl3 : l ≤ 18 := by rw [← hl]; exact Lib.bitLen_le n 18 (by omega) (by omega)
  have hl2 : n < 2 ^ l := by rw [← hl]; exact hbb.2.2
  have hdiv : Hid (n / 2 ^ l = 0) := Nat.div_eq_of_lt hl2
  simp only [Int.toNat_natCast, hl] at hlen
  have HLEN := Lib.hid hlen
  have HS := Lib.hid hs
  have HSN := Lib.hid hsn
  clear hlen hbb hl2 hl hs hsn
  go_enter Tryd.func60, Tryd.ntmps60
  go_wp2_with fail
  refine (from_any 1 _ (by omega)).mono ?_
  rintro e w1 ⟨P, pc, ps, rfl, hpc, hP, hb1, hvp, hmp, hlp⟩
  have HVP := Lib.hid hvp
  clear hvp
  go_wp2_with fail
  refine (HLEN.out _).mono ?_
  rintro e w2 ⟨rfl, rfl⟩
  go_wp2
  go_loopw [5, 6] (fun v iv wr => ∃ j : Int, ∃ P pc ps, -1 ≤ j ∧ j < l ∧ iv = .int .i64 j ∧ v = .slice P (ps : List Nat).length pc ∧ ps.length ≤ pc ∧ Rd .u32 wr P ps ∧ Mag ps ∧ V32 ps = V32 xs ^ (n / 2 ^ (j + 1).toNat) ∧ Below w.heap.size w wr) (fun _ iv _ => (intOf iv + 1).toNat)
  case atStart => exact ⟨_, P, pc, ps, by omega, by omega, rfl, rfl, hpc, hP, hmp, by rw [HVP.out, show ((l : Int) - 1 + 1).toNat = l by omega, hdiv.out, Nat.pow_zero], hb1⟩
  case round =>
    clear HVP hP hmp hb1 hlp hpc
    obtain ⟨j, P, pc, ps, hj, hjl, rfl, rfl, hpc, hP, hmp, hvp, hbw⟩ := hrel
    have HVP := Lib.hid hvp
    have hpl : ps.length ≤ 10000 := pow_len_le hmp hvp HS.out (by
      have h2 : n / 2 ^ (j + 1).toNat ≤ n := Nat.div_le_self _ _
      have h3 : s * (n / 2 ^ (j + 1).toNat) ≤ s * n := Nat.mul_le_mul_left _ h2
      have h4 := HSN.out
      omega) (by omega)
    clear hvp
    by_cases h0 : j < 0
    · go_wp2
      go_ret
      exact ⟨P, pc, ps, rfl, hpc, hP, hbw, by rw [HVP.out, show (j + 1).toNat = 0 by omega, Nat.pow_zero, Nat.div_one], hmp⟩
    · obtain ⟨i, rfl⟩ := Int.eq_ofNat_of_zero_le (show 0 ≤ j by omega)
      have dps : Dig 4294967296 ps := hmp.1
      go_wp2_with fail
      refine (mul_any P P pc pc ps ps _ hP hP (by omega) dps dps).mono ?_
      rintro e w3 ⟨Z, zc, zs, rfl, hzc, hz, hb3, hv3, hn3, hd3, hl3'⟩
      have HV3 := Lib.hid hv3
      clear hv3
      have hbw3 := hbw.trans (hb3.mono hbw.size)
      have hbt := bit_test n i
      have HVI : Hid (V32 ps = V32 xs ^ (n / 2 ^ (i + 1))) := by show _ = _; rw [HVP.out, show ((i : Int) + 1).toNat = i + 1 by omega]
      have hx3 := hx.below hbw3
      have mxd : Dig 4294967296 xs := mx.1
      by_cases hodd : n / 2 ^ i % 2 = 1
      · rw [decide_eq_true hodd] at hbt
        have HODD := Lib.hid hodd
        clear hodd
        go_wp2_with fail
        refine (mul_any Z A zc ca zs xs _ hz hx3 (by omega) hd3 mxd).mono ?_
        rintro e w4 ⟨Y, yc, ys, rfl, hyc, hy, hb4, hv4, hn4, hd4, hl4⟩
        have HV4 := Lib.hid hv4
        clear hv4
        go_wp2_with fail
        go_roundw
        case rel => exact ⟨_, Y, yc, ys, by omega, by omega, rfl, rfl, hyc, hy, ⟨hd4, hn4⟩, by
          rw [show ((i : Int) - 1 + 1).toNat = i by omega, bit_step n i, HODD.out]
          exact sq_step HVI.out HV3.out (by rw [Nat.pow_one]; exact HV4.out), hbw3.trans (hb4.mono hbw3.size)⟩
        case measure => simp [intOf]
      · rw [decide_eq_false hodd] at hbt
        have HODD : Hid (n / 2 ^ i % 2 = 0) := by show _ = _; omega
        clear hodd
        go_wp2_with fail
        go_roundw
        case rel => exact ⟨_, Z, zc, zs, by omega, by omega, rfl, rfl, hzc, hz, ⟨hd3, hn3⟩, by
          rw [show ((i : Int) - 1 + 1).toNat = i by omega, bit_step n i, HODD.out]
          exact sq_step HVI.out HV3.out (by rw [Nat.pow_zero, Nat.mul_one]; rfl), hbw3⟩
        case measure => simp [intOf]

set_option maxHeartbeats 400000 in
theorem Pow_neg (A : Option Addr) (ca : Nat) (n : Int) (xs : List Nat) (w : World) (hx : Rd .u32 w A xs) (ox : Ok xs) (hn : n < 0) :
    Calls Tryd.prog 27 #[.slice A xs.length ca, .int .i64 n] w (ErrP 1 w) := by
  go_enter Tryd.func27, Tryd.ntmps27
  go_wp2_with (go_at_call 45; (with_reducible refine (valid_yes A ca xs _ hx ox).mono ?_); rintro e w1 ⟨rfl, rfl⟩)
  go_ret2
  exact ⟨rfl, Below.refl _ _⟩

set_option maxHeartbeats 400000 in
theorem Pow_zero (A : Option Addr) (ca : Nat) (xs : List Nat) (w : World) (hx : Rd .u32 w A xs) (ox : Ok xs) :
    Calls Tryd.prog 27 #[.slice A xs.length ca, .int .i64 0] w (OkP (fun zs => V32 zs = 1 ∧ Mag zs) w) := by
  go_enter Tryd.func27, Tryd.ntmps27
  go_wp2_with (first
    | (go_at_call 45; (with_reducible refine (valid_yes A ca xs _ hx ox).mono ?_); rintro e w1 ⟨rfl, rfl⟩)
    | (go_at_call 44; refine (from_any 1 _ (by omega)).mono ?_; rintro e w1 ⟨Z, zc, zs, rfl, hzc, hz, hb, hv, hm, hl⟩; have HV := Lib.hid hv; clear hv))
  go_ret2
  exact ⟨Z, zc, zs, hz, hzc, hb, ⟨HV.out, hm⟩, rfl⟩

theorem bits_small {v b : Nat} (h : IsBits v b) (hv : v ≤ 1) : b ≤ 1 := by
  rcases Nat.lt_or_ge 1 b with h1 | h1
  · have h2 := h.2 (by omega)
    have h3 : 2 ^ 1 ≤ 2 ^ (b - 1) := Nat.pow_le_pow_right (by omega) (by omega)
    omega
  · exact h1
theorem bits_large {v b : Nat} (h : IsBits v b) (hv : 2 ≤ v) : 2 ≤ b := by
  rcases Nat.lt_or_ge b 2 with h1 | h1
  · have h2 := h.1
    have h3 : 2 ^ b ≤ 2 ^ 1 := Nat.pow_le_pow_right (by omega) (by omega)
    omega
  · exact h1

set_option maxHeartbeats 400000 in
theorem Pow_one (A : Option Addr) (ca : Nat) (n : Int) (xs : List Nat) (w : World) (hx : Rd .u32 w A xs) (ox : Ok xs) (dx : Dig 4294967296 xs) (hn : 1 ≤ n) (hv : V32 xs ≤ 1) :
    Calls Tryd.prog 27 #[.slice A xs.length ca, .int .i64 n] w (OkP (fun zs => zs = xs) w) := by
  have hl : xs.length ≤ 4096 := ox.1
  have mx : Mag xs := ⟨dx, ox.2⟩
  have hn0 : (n == 0) = false := beq_eq_false_iff_ne.2 (by omega)
  go_enter Tryd.func27, Tryd.ntmps27
  go_wp2_with (first
    | (go_at_call 45; (with_reducible refine (valid_yes A ca xs _ hx ox).mono ?_); rintro e w1 ⟨rfl, rfl⟩)
    | (go_at_call 58; refine (bitlen_any A ca xs _ hx (by omega) mx).mono ?_; rintro e w1 ⟨b, rfl, hb, rfl⟩; have hb1 := bits_small hb hv)
    | (go_at_call 59; refine (clone_u32 A ca xs _ hx (by omega)).mono ?_; rintro e w1 ⟨v, rfl, hown, hbe⟩; obtain ⟨Z, zc, rfl, hzc, hz⟩ := hown.form))
  go_ret2
  exact ⟨Z, zc, xs, hz, hzc, hbe, rfl, rfl⟩

theorem bits_le {v b k : Nat} (h : IsBits v b) (hv : v < 2 ^ k) : b ≤ k := by
  rcases Nat.lt_or_ge k b with h1 | h1
  · have h2 := h.2 (by omega)
    have h3 : 2 ^ k ≤ 2 ^ (b - 1) := Nat.pow_le_pow_right (by omega) (by omega)
    omega
  · exact h1
theorem bits_words {xs : List Nat} {b k : Nat} (mx : Mag xs) (hl : xs.length ≤ k) (h : IsBits (V32 xs) b) : b ≤ 32 * k :=
  bits_le h (by have := V32_lt mx hl; rw [pow_words] at this; exact this)
theorem ok_bits {xs : List Nat} {b : Nat} (mx : Mag xs) (hl : xs.length ≤ 4096) (h : IsBits (V32 xs) b) : b ≤ 131072 :=
  Nat.le_trans (bits_words mx hl h) (by omega)

set_option maxRecDepth 100000 in
set_option maxHeartbeats 400000 in
theorem Pow_lim (A : Option Addr) (ca n b : Nat) (xs : List Nat) (w : World) (hx : Rd .u32 w A xs) (ox : Ok xs) (dx : Dig 4294967296 xs) (hv : 2 ≤ V32 xs) (hb : IsBits (V32 xs) b) (hq : 131071 / (b - 1) < n) :
    Calls Tryd.prog 27 #[.slice A xs.length ca, .int .i64 n] w (ErrP 2 w) := by
  have hl : xs.length ≤ 4096 := ox.1
  have mx : Mag xs := ⟨dx, ox.2⟩
  have hn1 : 1 ≤ n := Nat.lt_of_le_of_lt (Nat.zero_le _) hq
  have hn0 : ((n : Int) == 0) = false := beq_eq_false_iff_ne.2 (by omega)
  have hb1 := bits_large hb hv
  have hb2 := ok_bits mx hl hb
  obtain ⟨q, eq, hqn⟩ : ∃ q : Nat, (131071 : Int) / ((b : Int) - 1) = q ∧ (q : Int) < n := by
    refine ⟨131071 / (b - 1), ?_, by omega⟩
    rw [show (b : Int) - 1 = ((b - 1 : Nat) : Int) by omega]
    simp
  have hq0 : (0 : Int) ≤ q := by omega
  have hq1 : q ≤ 131071 := by
    have h1 : 131071 / (b - 1) ≤ 131071 := Nat.div_le_self _ _
    have h2 : (131071 : Int) / ((b : Int) - 1) = (131071 / (b - 1) : Nat) := by
      rw [show (b : Int) - 1 = ((b - 1 : Nat) : Int) by omega]
      simp
    omega
  have HB := Lib.hid hb
  clear hb hq
  go_enter Tryd.func27, Tryd.ntmps27
  go_wp2_with fail
  refine (valid_yes A ca xs _ hx ox).mono ?_
  rintro e w1 ⟨rfl, rfl⟩
  go_wp2_with fail
  refine (bitlen_any A ca xs _ hx (by omega) mx).mono ?_
  rintro e w1 ⟨b', rfl, hb', rfl⟩
  obtain rfl : b = b' := HB.out.eq hb'
  go_wp2
  go_ret2
  exact ⟨rfl, Below.refl _ _⟩

set_option maxRecDepth 100000 in
set_option maxHeartbeats 400000 in
theorem Pow_fit (A : Option Addr) (ca n b : Nat) (xs : List Nat) (w : World) (hx : Rd .u32 w A xs) (ox : Ok xs) (dx : Dig 4294967296 xs) (h1 : 1 ≤ n) (hv : 2 ≤ V32 xs) (hb : IsBits (V32 xs) b) (hq : n ≤ 131071 / (b - 1)) :
    Calls Tryd.prog 27 #[.slice A xs.length ca, .int .i64 n] w (FitP (fun zs => V32 zs = V32 xs ^ n ∧ Mag zs) w) := by
  have hl : xs.length ≤ 4096 := ox.1
  have mx : Mag xs := ⟨dx, ox.2⟩
  have hn0 : ((n : Int) == 0) = false := beq_eq_false_iff_ne.2 (by omega)
  have hb1 := bits_large hb hv
  have hb2 := ok_bits mx hl hb
  have hq2 : 131071 / (b - 1) ≤ 131071 := Nat.div_le_self _ _
  have hbn : b * n ≤ 300000 := by
    have h2 : (b - 1) * n ≤ (b - 1) * (131071 / (b - 1)) := Nat.mul_le_mul_left _ hq
    have h3 : (b - 1) * (131071 / (b - 1)) ≤ 131071 := Nat.mul_div_le _ _
    have h4 : b * n ≤ (2 * (b - 1)) * n := Nat.mul_le_mul_right _ (by omega)
    rw [Nat.mul_assoc] at h4
    omega
  have HBN := Lib.hid hbn
  obtain ⟨q, eq, hqn⟩ : ∃ q : Nat, (131071 : Int) / ((b : Int) - 1) = q ∧ (n : Int) ≤ q := by
    refine ⟨131071 / (b - 1), ?_, by omega⟩
    rw [show (b : Int) - 1 = ((b - 1 : Nat) : Int) by omega]
    simp
  have hq1 : q ≤ 131071 := by
    have h2 : (131071 : Int) / ((b : Int) - 1) = (131071 / (b - 1) : Nat) := by
      rw [show (b : Int) - 1 = ((b - 1 : Nat) : Int) by omega]
      simp
    omega
  have HB := Lib.hid hb
  clear hb hq hbn hq2
  go_enter Tryd.func27, Tryd.ntmps27
  go_wp2_with fail
  refine (valid_yes A ca xs _ hx ox).mono ?_
  rintro e w1 ⟨rfl, rfl⟩
  go_wp2_with fail
  refine (bitlen_any A ca xs _ hx (by omega) mx).mono ?_
  rintro e w1 ⟨b', rfl, hb', rfl⟩
  obtain rfl : b = b' := HB.out.eq hb'
  go_wp2_with fail
  refine (pow_any A ca n b xs _ hx hl mx h1 (by omega) hb'.1 HBN.out).mono ?_
  rintro e w1 ⟨Z, zc, zs, rfl, hzc, hz, hbz, hv, hm⟩
  have HV := Lib.hid hv
  clear hv
  go_wp2_with fail
  by_cases h4 : zs.length ≤ 4096
  · refine (fit_yes Z zc zs.length _ h4).mono ?_
    rintro e w2 ⟨rfl, rfl⟩
    go_wp2
    go_ret2
    exact ⟨Z, zc, zs, hz, hzc, hbz, ⟨HV.out, hm⟩, .inl ⟨h4, rfl⟩⟩
  · refine (fit_no Z zc zs.length _ (by omega)).mono ?_
    rintro e w2 ⟨rfl, rfl⟩
    go_wp2
    go_ret2
    exact ⟨Z, zc, zs, hz, hzc, hbz, ⟨HV.out, hm⟩, .inr ⟨by omega, rfl⟩⟩

theorem nm_mul_len {xs ys zs : List Nat} (hx : Nm xs) (hy : Nm ys) (hz : Nm zs) (e : VD zs = VD xs * VD ys) : zs.length ≤ xs.length + ys.length := by
  refine len_of_lt (B := 10000) (by omega) hz.2 ?_
  show VD zs < _
  rw [e, Nat.pow_add]
  exact Nat.mul_lt_mul'' (val_lt 10000 xs hx.1) (val_lt 10000 ys hy.1)

set_option maxRecDepth 100000 in
set_option maxHeartbeats 1000000 in
theorem rpow_any (A : Option Addr) (ca n : Nat) (xs : List Nat) (w : World) (hx : Rd .i64 w A xs) (bx : xs.length ≤ 100) (hn : n ≤ 100) (nmx : Nm xs) :
    Calls Tryd.prog 29 #[.slice A xs.length ca, .int .i64 n] w (OutP .i64 (fun zs => VD zs = VD xs ^ n ∧ Nm zs ∧ zs.length ≤ 100 * n + 1) w) := by
  have h1 := rd_nat1 w 1
  go_enter Tryd.func29, Tryd.ntmps29
  go_wp2
  go_loopw [5, 8] (fun v iv wr => ∃ i : Nat, ∃ O oc out, i ≤ n ∧ iv = .int .i64 i ∧ v = .slice O (out : List Nat).length oc ∧ out.length ≤ oc ∧ Rd .i64 wr O out ∧ Nm out ∧ VD out = VD xs ^ i ∧ out.length ≤ 100 * i + 1 ∧ Below w.heap.size w wr) (fun _ iv _ => n - (intOf iv).toNat)
  case atStart => exact ⟨0, _, _, [1], Nat.zero_le _, rfl, rfl, by simp, h1, nm_one, by simp [VD, val], by simp, (Below.refl _ _).alloc (Nat.le_refl _) _⟩
  case round =>
    obtain ⟨i, O, oc, out, hi, rfl, rfl, hoc, hro, hno, hv, hl, hbw⟩ := hrel
    have HV := Lib.hid hv
    clear hv
    by_cases hlt : i < n
    · have hx1 := hx.below hbw
      go_wp2_with fail
      refine (rmul_any O A oc ca out xs _ hro hx1 (by omega) hno nmx).mono ?_
      rintro e w2 ⟨Z, zc, zs, rfl, hzc, hz, hb2, hv2, hn2, hl2⟩
      have HV2 := Lib.hid hv2
      have hl3 := nm_mul_len hno nmx hn2 hv2
      clear hv2
      go_wp2_with fail
      go_roundw
      case rel => exact ⟨i + 1, Z, zc, zs, by omega, by go_num, rfl, hzc, hz, hn2, by rw [HV2.out, HV.out, Nat.pow_succ], by omega, hbw.trans (hb2.mono hbw.size)⟩
      case measure => simp [intOf]; omega
    · obtain rfl : i = n := by omega
      go_wp2
      go_ret
      exact ⟨O, oc, out, rfl, hoc, hro, hbw, HV.out, hno, hl⟩
end Go.Proofs.YtgfojfiopcooeaaDoor
