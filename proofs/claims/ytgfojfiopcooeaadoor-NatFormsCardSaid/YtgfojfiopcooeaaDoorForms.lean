/- isochronelaw01.NatForms answers true for all arguments. -/
import Derived.Test.YtgfojfiopcooeaaDoorBad
namespace Go.Proofs.YtgfojfiopcooeaaDoor
open Go.RowKit V

/-- The four halves of a number below 2^64. -/
theorem halves (n : Nat) (hn : n < 18446744073709551616) : ∃ a b c d : Nat, a ≤ 65535 ∧ b ≤ 65535 ∧ c ≤ 65535 ∧ d ≤ 65535 ∧ (n : Int) / 281474976710656 = a ∧ bits BinOp.and IntKind.u64 ((n : Int) / 4294967296) 65535 = b ∧
    bits BinOp.and IntKind.u64 ((n : Int) / 65536) 65535 = c ∧ bits BinOp.and IntKind.u64 (n : Int) 65535 = d ∧ Hid (n = ((a * 65536 + b) * 65536 + c) * 65536 + d) := by
  have key : ∀ m : Nat, m < 18446744073709551616 → bits BinOp.and IntKind.u64 (m : Int) 65535 = (m % 65536 : Nat) := fun m hm => by
    have := u64_and_nat m 65535 hm (by omega)
    rw [nat_mask16] at this
    exact this
  have h1 := key (n / 4294967296) (by omega)
  have h2 := key (n / 65536) (by omega)
  have h3 := key n hn
  refine ⟨n / 281474976710656, n / 4294967296 % 65536, n / 65536 % 65536, n % 65536, by omega, by omega, by omega, by omega, by omega, ?_, ?_, h3, by show _ = _; omega⟩
  · rw [← h1]; rfl
  · rw [← h2]; rfl


set_option maxRecDepth 100000 in
set_option maxHeartbeats 1600000 in
theorem forms_yy (A B : Option Addr) (ca cb : Nat) (xs ys : List Nat) (n : Nat) (w : World) (hx : Rd .u32 w A xs) (hy : Rd .u32 w B ys) (hn : n < 18446744073709551616) (hN : Hid (n < 18446744073709551616)) (lx : xs.length ≤ 5000) (ly : ys.length ≤ 5000) (ox : Ok xs) (oy : Ok ys)
    (htab : Lib.TabBelow Tryd.prog w.heap.size w "internal/strconv.uint64pow10" .u64 Lib.pow10Tab) :
    Calls Tryd.prog 9 #[.slice A xs.length ca, .slice B ys.length cb, .int .u64 n] w (Yes w) := by
  have HT := Lib.hid htab
  clear htab
  obtain ⟨a, b, c, d, ha, hb, hc, hd, e3, e2, e1, e0, hs⟩ := halves n hn
  clear hn
  go_enter Tryd.func9, Tryd.ntmps9
  go_wp2_with fail
  refine (awake_yes w HT.out).mono ?_
  rintro e w1 ⟨rfl, hw1⟩
  have hx1 := hx.below hw1
  have hy1 := hy.below hw1
  clear hx hy
  go_wp2_with fail
  refine (int_any a _ (by omega)).mono ?_
  rintro e w2 ⟨A2, c2, n2, rfl, hc2, h2, hb2, hv2, hn2, hl2⟩
  have HV2 := Lib.hid hv2
  have hx2 := hx1.below hb2
  have hy2 := hy1.below hb2
  have hw2 := hw1.trans (hb2.mono hw1.size)
  have hd2 : Dig 10000 n2 := hn2.1
  clear hx1 hy1 hb2 hw1 hv2 e3
  go_wp2_with fail
  refine (small_z A2 c2 _ n2 65536 b _ _ _ rfl (by omega) rfl h2 (by omega) hd2 (by omega) (by omega)).mono ?_
  rintro e w3 ⟨A3, c3, n3, rfl, hc3, h3, hb3, hv3, ⟨hd3, hn3⟩, hl3⟩
  have HV3 := Lib.hid hv3
  have hx3 := hx2.below hb3
  have hy3 := hy2.below hb3
  have hw3 := hw2.trans (hb3.mono hw2.size)
  clear hx2 hy2 hb3 hw2 hv3 e2 h2
  go_wp2_with fail
  refine (small_z A3 c3 _ n3 65536 c _ _ _ rfl (by omega) rfl h3 (by omega) hd3 (by omega) (by omega)).mono ?_
  rintro e w4 ⟨A4, c4, n4, rfl, hc4, h4, hb4, hv4, ⟨hd4, hn4⟩, hl4⟩
  have HV4 := Lib.hid hv4
  have hx4 := hx3.below hb4
  have hy4 := hy3.below hb4
  have hw4 := hw3.trans (hb4.mono hw3.size)
  clear hx3 hy3 hb4 hw3 hv4 e1 h3
  go_wp2_with fail
  refine (small_z A4 c4 _ n4 65536 d _ _ _ rfl (by omega) rfl h4 (by omega) hd4 (by omega) (by omega)).mono ?_
  rintro e w5 ⟨A5, c5, n5, rfl, hc5, h5, hb5, hv5, hn5, hl5⟩
  have HV5 := Lib.hid hv5
  have hx5 := hx4.below hb5
  have hy5 := hy4.below hb5
  have hw5 := hw4.trans (hb5.mono hw4.size)
  clear hx4 hy4 hb5 hw4 hv5 e0 h4
  go_wp2_with fail
  refine (words_any A5 c5 n5 _ h5 (by omega) hn5).mono ?_
  rintro e w6 ⟨A6, c6, n6, rfl, hc6, h6, hb6, hv6, hm6⟩
  have HV6 := Lib.hid hv6
  have hx6 := hx5.below hb6
  have hy6 := hy5.below hb6
  have hw6 := hw5.trans (hb6.mono hw5.size)
  clear hx5 hy5 hb6 hw5 hv6 h5
  go_wp2_with fail
  refine (from_any n _ hN.out).mono ?_
  rintro e w7 ⟨A7, c7, n7, rfl, hc7, h7, hb7, hv7, hm7, hl7⟩
  obtain rfl : n6 = n7 := hm6.eq hm7 (by rw [HV6.out, HV5.out, HV4.out, HV3.out, HV2.out, hv7]; exact hs.out.symm)
  have h67 := h6.below hb7
  have hx7 := hx6.below hb7
  have hy7 := hy6.below hb7
  have hw7 := hw6.trans (hb7.mono hw6.size)
  clear hx6 hy6 hb7 hw6 hv7 h6 HV2 HV3 HV4 HV5 HV6 hn2 hd2 hn3 hd3 hn4 hd4 hn5 hm6 hm7
  go_wp2_with fail
  refine (equal_yes A7 A6 c7 c6 _ n6 _ rfl h7 h67 (by omega)).mono ?_
  rintro e w8 ⟨rfl, k8, hwe⟩
  have hb8 : Below w7.heap.size w7 w8 := by rw [hwe]; exact below_drew_ (Below.refl _ _) k8
  clear hwe
  have hx8 := hx7.below hb8
  have hy8 := hy7.below hb8
  have hw8 := hw7.trans (hb8.mono hw7.size)
  clear hx7 hy7 hb8 hw7 h7 h67
  go_wp2_with (first
    | (go_at_call 45; (with_reducible refine (valid_yes A ca xs _ hx8 ox).mono ?_); rintro e w9 ⟨rfl, rfl⟩)
    | (go_at_call 35; (with_reducible refine (rvalid_yes A ca xs _ hx8 ox).mono ?_); rintro e w9 ⟨rfl, rfl⟩)
    | (go_at_call 45; (with_reducible refine (valid_yes B cb ys _ hy8 oy).mono ?_); rintro e w9 ⟨rfl, rfl⟩)
    | (go_at_call 35; (with_reducible refine (rvalid_yes B cb ys _ hy8 oy).mono ?_); rintro e w9 ⟨rfl, rfl⟩))
  go_ret
  exact ⟨rfl, hw8⟩


set_option maxRecDepth 100000 in
set_option maxHeartbeats 1600000 in
theorem forms_yn (A B : Option Addr) (ca cb : Nat) (xs ys : List Nat) (n : Nat) (w : World) (hx : Rd .u32 w A xs) (hy : Rd .u32 w B ys) (hn : n < 18446744073709551616) (hN : Hid (n < 18446744073709551616)) (lx : xs.length ≤ 5000) (ly : ys.length ≤ 5000) (ox : Ok xs) (oy : ¬ Ok ys)
    (htab : Lib.TabBelow Tryd.prog w.heap.size w "internal/strconv.uint64pow10" .u64 Lib.pow10Tab) :
    Calls Tryd.prog 9 #[.slice A xs.length ca, .slice B ys.length cb, .int .u64 n] w (Yes w) := by
  have hbad : ¬ (Ok xs ∧ Ok ys) := fun h => oy h.2
  have HT := Lib.hid htab
  clear htab
  obtain ⟨a, b, c, d, ha, hb, hc, hd, e3, e2, e1, e0, hs⟩ := halves n hn
  clear hn
  go_enter Tryd.func9, Tryd.ntmps9
  go_wp2_with fail
  refine (awake_yes w HT.out).mono ?_
  rintro e w1 ⟨rfl, hw1⟩
  have hx1 := hx.below hw1
  have hy1 := hy.below hw1
  clear hx hy
  go_wp2_with fail
  refine (int_any a _ (by omega)).mono ?_
  rintro e w2 ⟨A2, c2, n2, rfl, hc2, h2, hb2, hv2, hn2, hl2⟩
  have HV2 := Lib.hid hv2
  have hx2 := hx1.below hb2
  have hy2 := hy1.below hb2
  have hw2 := hw1.trans (hb2.mono hw1.size)
  have hd2 : Dig 10000 n2 := hn2.1
  clear hx1 hy1 hb2 hw1 hv2 e3
  go_wp2_with fail
  refine (small_z A2 c2 _ n2 65536 b _ _ _ rfl (by omega) rfl h2 (by omega) hd2 (by omega) (by omega)).mono ?_
  rintro e w3 ⟨A3, c3, n3, rfl, hc3, h3, hb3, hv3, ⟨hd3, hn3⟩, hl3⟩
  have HV3 := Lib.hid hv3
  have hx3 := hx2.below hb3
  have hy3 := hy2.below hb3
  have hw3 := hw2.trans (hb3.mono hw2.size)
  clear hx2 hy2 hb3 hw2 hv3 e2 h2
  go_wp2_with fail
  refine (small_z A3 c3 _ n3 65536 c _ _ _ rfl (by omega) rfl h3 (by omega) hd3 (by omega) (by omega)).mono ?_
  rintro e w4 ⟨A4, c4, n4, rfl, hc4, h4, hb4, hv4, ⟨hd4, hn4⟩, hl4⟩
  have HV4 := Lib.hid hv4
  have hx4 := hx3.below hb4
  have hy4 := hy3.below hb4
  have hw4 := hw3.trans (hb4.mono hw3.size)
  clear hx3 hy3 hb4 hw3 hv4 e1 h3
  go_wp2_with fail
  refine (small_z A4 c4 _ n4 65536 d _ _ _ rfl (by omega) rfl h4 (by omega) hd4 (by omega) (by omega)).mono ?_
  rintro e w5 ⟨A5, c5, n5, rfl, hc5, h5, hb5, hv5, hn5, hl5⟩
  have HV5 := Lib.hid hv5
  have hx5 := hx4.below hb5
  have hy5 := hy4.below hb5
  have hw5 := hw4.trans (hb5.mono hw4.size)
  clear hx4 hy4 hb5 hw4 hv5 e0 h4
  go_wp2_with fail
  refine (words_any A5 c5 n5 _ h5 (by omega) hn5).mono ?_
  rintro e w6 ⟨A6, c6, n6, rfl, hc6, h6, hb6, hv6, hm6⟩
  have HV6 := Lib.hid hv6
  have hx6 := hx5.below hb6
  have hy6 := hy5.below hb6
  have hw6 := hw5.trans (hb6.mono hw5.size)
  clear hx5 hy5 hb6 hw5 hv6 h5
  go_wp2_with fail
  refine (from_any n _ hN.out).mono ?_
  rintro e w7 ⟨A7, c7, n7, rfl, hc7, h7, hb7, hv7, hm7, hl7⟩
  obtain rfl : n6 = n7 := hm6.eq hm7 (by rw [HV6.out, HV5.out, HV4.out, HV3.out, HV2.out, hv7]; exact hs.out.symm)
  have h67 := h6.below hb7
  have hx7 := hx6.below hb7
  have hy7 := hy6.below hb7
  have hw7 := hw6.trans (hb7.mono hw6.size)
  clear hx6 hy6 hb7 hw6 hv7 h6 HV2 HV3 HV4 HV5 HV6 hn2 hd2 hn3 hd3 hn4 hd4 hn5 hm6 hm7
  go_wp2_with fail
  refine (equal_yes A7 A6 c7 c6 _ n6 _ rfl h7 h67 (by omega)).mono ?_
  rintro e w8 ⟨rfl, k8, hwe⟩
  have hb8 : Below w7.heap.size w7 w8 := by rw [hwe]; exact below_drew_ (Below.refl _ _) k8
  clear hwe
  have hx8 := hx7.below hb8
  have hy8 := hy7.below hb8
  have hw8 := hw7.trans (hb8.mono hw7.size)
  clear hx7 hy7 hb8 hw7 h7 h67
  go_wp2_with (first
    | (go_at_call 45; (with_reducible refine (valid_yes A ca xs _ hx8 ox).mono ?_); rintro e w9 ⟨rfl, rfl⟩)
    | (go_at_call 35; (with_reducible refine (rvalid_yes A ca xs _ hx8 ox).mono ?_); rintro e w9 ⟨rfl, rfl⟩)
    | (go_at_call 45; (with_reducible refine (valid_no B cb ys _ hy8 oy).mono ?_); rintro e w9 ⟨rfl, rfl⟩)
    | (go_at_call 35; (with_reducible refine (rvalid_no B cb ys _ hy8 oy).mono ?_); rintro e w9 ⟨rfl, rfl⟩)
    | (go_at_call 14; (with_reducible refine (Cmp_bad A B ca cb xs ys _ hx8 hy8 hbad).mono ?_); rintro e w9 ⟨rfl, rfl⟩)
    | (go_at_call 15; (with_reducible refine (Add_bad A B ca cb xs ys _ hx8 hy8 hbad).mono ?_); rintro e w9 ⟨rfl, rfl⟩)
    | (go_at_call 17; (with_reducible refine (Sub_bad A B ca cb xs ys _ hx8 hy8 hbad).mono ?_); rintro e w9 ⟨rfl, rfl⟩)
    | (go_at_call 16; (with_reducible refine (Mul_bad A B ca cb xs ys _ hx8 hy8 hbad).mono ?_); rintro e w9 ⟨rfl, rfl⟩)
    | (go_at_call 23; (with_reducible refine (DivMod_bad A B ca cb xs ys _ hx8 hy8 hbad).mono ?_); rintro e w9 ⟨rfl, rfl⟩)
    | (go_at_call 24; (with_reducible refine (GCD_bad A B ca cb xs ys _ hx8 hy8 hbad).mono ?_); rintro e w9 ⟨rfl, rfl⟩))
  go_ret
  exact ⟨rfl, hw8⟩


set_option maxRecDepth 100000 in
set_option maxHeartbeats 1600000 in
theorem forms_ny (A B : Option Addr) (ca cb : Nat) (xs ys : List Nat) (n : Nat) (w : World) (hx : Rd .u32 w A xs) (hy : Rd .u32 w B ys) (hn : n < 18446744073709551616) (hN : Hid (n < 18446744073709551616)) (lx : xs.length ≤ 5000) (ly : ys.length ≤ 5000) (ox : ¬ Ok xs) (oy : Ok ys)
    (htab : Lib.TabBelow Tryd.prog w.heap.size w "internal/strconv.uint64pow10" .u64 Lib.pow10Tab) :
    Calls Tryd.prog 9 #[.slice A xs.length ca, .slice B ys.length cb, .int .u64 n] w (Yes w) := by
  have hbad : ¬ (Ok xs ∧ Ok ys) := fun h => ox h.1
  have HT := Lib.hid htab
  clear htab
  obtain ⟨a, b, c, d, ha, hb, hc, hd, e3, e2, e1, e0, hs⟩ := halves n hn
  clear hn
  go_enter Tryd.func9, Tryd.ntmps9
  go_wp2_with fail
  refine (awake_yes w HT.out).mono ?_
  rintro e w1 ⟨rfl, hw1⟩
  have hx1 := hx.below hw1
  have hy1 := hy.below hw1
  clear hx hy
  go_wp2_with fail
  refine (int_any a _ (by omega)).mono ?_
  rintro e w2 ⟨A2, c2, n2, rfl, hc2, h2, hb2, hv2, hn2, hl2⟩
  have HV2 := Lib.hid hv2
  have hx2 := hx1.below hb2
  have hy2 := hy1.below hb2
  have hw2 := hw1.trans (hb2.mono hw1.size)
  have hd2 : Dig 10000 n2 := hn2.1
  clear hx1 hy1 hb2 hw1 hv2 e3
  go_wp2_with fail
  refine (small_z A2 c2 _ n2 65536 b _ _ _ rfl (by omega) rfl h2 (by omega) hd2 (by omega) (by omega)).mono ?_
  rintro e w3 ⟨A3, c3, n3, rfl, hc3, h3, hb3, hv3, ⟨hd3, hn3⟩, hl3⟩
  have HV3 := Lib.hid hv3
  have hx3 := hx2.below hb3
  have hy3 := hy2.below hb3
  have hw3 := hw2.trans (hb3.mono hw2.size)
  clear hx2 hy2 hb3 hw2 hv3 e2 h2
  go_wp2_with fail
  refine (small_z A3 c3 _ n3 65536 c _ _ _ rfl (by omega) rfl h3 (by omega) hd3 (by omega) (by omega)).mono ?_
  rintro e w4 ⟨A4, c4, n4, rfl, hc4, h4, hb4, hv4, ⟨hd4, hn4⟩, hl4⟩
  have HV4 := Lib.hid hv4
  have hx4 := hx3.below hb4
  have hy4 := hy3.below hb4
  have hw4 := hw3.trans (hb4.mono hw3.size)
  clear hx3 hy3 hb4 hw3 hv4 e1 h3
  go_wp2_with fail
  refine (small_z A4 c4 _ n4 65536 d _ _ _ rfl (by omega) rfl h4 (by omega) hd4 (by omega) (by omega)).mono ?_
  rintro e w5 ⟨A5, c5, n5, rfl, hc5, h5, hb5, hv5, hn5, hl5⟩
  have HV5 := Lib.hid hv5
  have hx5 := hx4.below hb5
  have hy5 := hy4.below hb5
  have hw5 := hw4.trans (hb5.mono hw4.size)
  clear hx4 hy4 hb5 hw4 hv5 e0 h4
  go_wp2_with fail
  refine (words_any A5 c5 n5 _ h5 (by omega) hn5).mono ?_
  rintro e w6 ⟨A6, c6, n6, rfl, hc6, h6, hb6, hv6, hm6⟩
  have HV6 := Lib.hid hv6
  have hx6 := hx5.below hb6
  have hy6 := hy5.below hb6
  have hw6 := hw5.trans (hb6.mono hw5.size)
  clear hx5 hy5 hb6 hw5 hv6 h5
  go_wp2_with fail
  refine (from_any n _ hN.out).mono ?_
  rintro e w7 ⟨A7, c7, n7, rfl, hc7, h7, hb7, hv7, hm7, hl7⟩
  obtain rfl : n6 = n7 := hm6.eq hm7 (by rw [HV6.out, HV5.out, HV4.out, HV3.out, HV2.out, hv7]; exact hs.out.symm)
  have h67 := h6.below hb7
  have hx7 := hx6.below hb7
  have hy7 := hy6.below hb7
  have hw7 := hw6.trans (hb7.mono hw6.size)
  clear hx6 hy6 hb7 hw6 hv7 h6 HV2 HV3 HV4 HV5 HV6 hn2 hd2 hn3 hd3 hn4 hd4 hn5 hm6 hm7
  go_wp2_with fail
  refine (equal_yes A7 A6 c7 c6 _ n6 _ rfl h7 h67 (by omega)).mono ?_
  rintro e w8 ⟨rfl, k8, hwe⟩
  have hb8 : Below w7.heap.size w7 w8 := by rw [hwe]; exact below_drew_ (Below.refl _ _) k8
  clear hwe
  have hx8 := hx7.below hb8
  have hy8 := hy7.below hb8
  have hw8 := hw7.trans (hb8.mono hw7.size)
  clear hx7 hy7 hb8 hw7 h7 h67
  go_wp2_with (first
    | (go_at_call 45; (with_reducible refine (valid_no A ca xs _ hx8 ox).mono ?_); rintro e w9 ⟨rfl, rfl⟩)
    | (go_at_call 35; (with_reducible refine (rvalid_no A ca xs _ hx8 ox).mono ?_); rintro e w9 ⟨rfl, rfl⟩)
    | (go_at_call 45; (with_reducible refine (valid_yes B cb ys _ hy8 oy).mono ?_); rintro e w9 ⟨rfl, rfl⟩)
    | (go_at_call 35; (with_reducible refine (rvalid_yes B cb ys _ hy8 oy).mono ?_); rintro e w9 ⟨rfl, rfl⟩)
    | (go_at_call 14; (with_reducible refine (Cmp_bad A B ca cb xs ys _ hx8 hy8 hbad).mono ?_); rintro e w9 ⟨rfl, rfl⟩)
    | (go_at_call 15; (with_reducible refine (Add_bad A B ca cb xs ys _ hx8 hy8 hbad).mono ?_); rintro e w9 ⟨rfl, rfl⟩)
    | (go_at_call 17; (with_reducible refine (Sub_bad A B ca cb xs ys _ hx8 hy8 hbad).mono ?_); rintro e w9 ⟨rfl, rfl⟩)
    | (go_at_call 16; (with_reducible refine (Mul_bad A B ca cb xs ys _ hx8 hy8 hbad).mono ?_); rintro e w9 ⟨rfl, rfl⟩)
    | (go_at_call 23; (with_reducible refine (DivMod_bad A B ca cb xs ys _ hx8 hy8 hbad).mono ?_); rintro e w9 ⟨rfl, rfl⟩)
    | (go_at_call 24; (with_reducible refine (GCD_bad A B ca cb xs ys _ hx8 hy8 hbad).mono ?_); rintro e w9 ⟨rfl, rfl⟩)
    | (go_at_call 27; (with_reducible refine (Pow_bad A ca xs 2 _ hx8 ox).mono ?_); rintro e w9 ⟨rfl, rfl⟩)
    | (go_at_call 30; (with_reducible refine (Shift_bad A ca xs 1 _ hx8 ox).mono ?_); rintro e w9 ⟨rfl, rfl⟩)
    | (go_at_call 31; (with_reducible refine (Bits_bad A ca xs _ hx8 ox).mono ?_); rintro e w9 ⟨rfl, rfl⟩)
    | (go_at_call 34; (with_reducible refine (Root_bad A ca xs _ hx8 ox).mono ?_); rintro e w9 ⟨rfl, rfl⟩)
    | (go_at_call 36; (with_reducible refine (Text_bad A ca xs _ hx8 ox).mono ?_); rintro e w9 ⟨rfl, rfl⟩))
  go_ret
  exact ⟨rfl, hw8⟩


set_option maxRecDepth 100000 in
set_option maxHeartbeats 1600000 in
theorem forms_nn (A B : Option Addr) (ca cb : Nat) (xs ys : List Nat) (n : Nat) (w : World) (hx : Rd .u32 w A xs) (hy : Rd .u32 w B ys) (hn : n < 18446744073709551616) (hN : Hid (n < 18446744073709551616)) (lx : xs.length ≤ 5000) (ly : ys.length ≤ 5000) (ox : ¬ Ok xs) (oy : ¬ Ok ys)
    (htab : Lib.TabBelow Tryd.prog w.heap.size w "internal/strconv.uint64pow10" .u64 Lib.pow10Tab) :
    Calls Tryd.prog 9 #[.slice A xs.length ca, .slice B ys.length cb, .int .u64 n] w (Yes w) := by
  have hbad : ¬ (Ok xs ∧ Ok ys) := fun h => ox h.1
  have HT := Lib.hid htab
  clear htab
  obtain ⟨a, b, c, d, ha, hb, hc, hd, e3, e2, e1, e0, hs⟩ := halves n hn
  clear hn
  go_enter Tryd.func9, Tryd.ntmps9
  go_wp2_with fail
  refine (awake_yes w HT.out).mono ?_
  rintro e w1 ⟨rfl, hw1⟩
  have hx1 := hx.below hw1
  have hy1 := hy.below hw1
  clear hx hy
  go_wp2_with fail
  refine (int_any a _ (by omega)).mono ?_
  rintro e w2 ⟨A2, c2, n2, rfl, hc2, h2, hb2, hv2, hn2, hl2⟩
  have HV2 := Lib.hid hv2
  have hx2 := hx1.below hb2
  have hy2 := hy1.below hb2
  have hw2 := hw1.trans (hb2.mono hw1.size)
  have hd2 : Dig 10000 n2 := hn2.1
  clear hx1 hy1 hb2 hw1 hv2 e3
  go_wp2_with fail
  refine (small_z A2 c2 _ n2 65536 b _ _ _ rfl (by omega) rfl h2 (by omega) hd2 (by omega) (by omega)).mono ?_
  rintro e w3 ⟨A3, c3, n3, rfl, hc3, h3, hb3, hv3, ⟨hd3, hn3⟩, hl3⟩
  have HV3 := Lib.hid hv3
  have hx3 := hx2.below hb3
  have hy3 := hy2.below hb3
  have hw3 := hw2.trans (hb3.mono hw2.size)
  clear hx2 hy2 hb3 hw2 hv3 e2 h2
  go_wp2_with fail
  refine (small_z A3 c3 _ n3 65536 c _ _ _ rfl (by omega) rfl h3 (by omega) hd3 (by omega) (by omega)).mono ?_
  rintro e w4 ⟨A4, c4, n4, rfl, hc4, h4, hb4, hv4, ⟨hd4, hn4⟩, hl4⟩
  have HV4 := Lib.hid hv4
  have hx4 := hx3.below hb4
  have hy4 := hy3.below hb4
  have hw4 := hw3.trans (hb4.mono hw3.size)
  clear hx3 hy3 hb4 hw3 hv4 e1 h3
  go_wp2_with fail
  refine (small_z A4 c4 _ n4 65536 d _ _ _ rfl (by omega) rfl h4 (by omega) hd4 (by omega) (by omega)).mono ?_
  rintro e w5 ⟨A5, c5, n5, rfl, hc5, h5, hb5, hv5, hn5, hl5⟩
  have HV5 := Lib.hid hv5
  have hx5 := hx4.below hb5
  have hy5 := hy4.below hb5
  have hw5 := hw4.trans (hb5.mono hw4.size)
  clear hx4 hy4 hb5 hw4 hv5 e0 h4
  go_wp2_with fail
  refine (words_any A5 c5 n5 _ h5 (by omega) hn5).mono ?_
  rintro e w6 ⟨A6, c6, n6, rfl, hc6, h6, hb6, hv6, hm6⟩
  have HV6 := Lib.hid hv6
  have hx6 := hx5.below hb6
  have hy6 := hy5.below hb6
  have hw6 := hw5.trans (hb6.mono hw5.size)
  clear hx5 hy5 hb6 hw5 hv6 h5
  go_wp2_with fail
  refine (from_any n _ hN.out).mono ?_
  rintro e w7 ⟨A7, c7, n7, rfl, hc7, h7, hb7, hv7, hm7, hl7⟩
  obtain rfl : n6 = n7 := hm6.eq hm7 (by rw [HV6.out, HV5.out, HV4.out, HV3.out, HV2.out, hv7]; exact hs.out.symm)
  have h67 := h6.below hb7
  have hx7 := hx6.below hb7
  have hy7 := hy6.below hb7
  have hw7 := hw6.trans (hb7.mono hw6.size)
  clear hx6 hy6 hb7 hw6 hv7 h6 HV2 HV3 HV4 HV5 HV6 hn2 hd2 hn3 hd3 hn4 hd4 hn5 hm6 hm7
  go_wp2_with fail
  refine (equal_yes A7 A6 c7 c6 _ n6 _ rfl h7 h67 (by omega)).mono ?_
  rintro e w8 ⟨rfl, k8, hwe⟩
  have hb8 : Below w7.heap.size w7 w8 := by rw [hwe]; exact below_drew_ (Below.refl _ _) k8
  clear hwe
  have hx8 := hx7.below hb8
  have hy8 := hy7.below hb8
  have hw8 := hw7.trans (hb8.mono hw7.size)
  clear hx7 hy7 hb8 hw7 h7 h67
  go_wp2_with (first
    | (go_at_call 45; (with_reducible refine (valid_no A ca xs _ hx8 ox).mono ?_); rintro e w9 ⟨rfl, rfl⟩)
    | (go_at_call 35; (with_reducible refine (rvalid_no A ca xs _ hx8 ox).mono ?_); rintro e w9 ⟨rfl, rfl⟩)
    | (go_at_call 45; (with_reducible refine (valid_no B cb ys _ hy8 oy).mono ?_); rintro e w9 ⟨rfl, rfl⟩)
    | (go_at_call 35; (with_reducible refine (rvalid_no B cb ys _ hy8 oy).mono ?_); rintro e w9 ⟨rfl, rfl⟩)
    | (go_at_call 14; (with_reducible refine (Cmp_bad A B ca cb xs ys _ hx8 hy8 hbad).mono ?_); rintro e w9 ⟨rfl, rfl⟩)
    | (go_at_call 15; (with_reducible refine (Add_bad A B ca cb xs ys _ hx8 hy8 hbad).mono ?_); rintro e w9 ⟨rfl, rfl⟩)
    | (go_at_call 17; (with_reducible refine (Sub_bad A B ca cb xs ys _ hx8 hy8 hbad).mono ?_); rintro e w9 ⟨rfl, rfl⟩)
    | (go_at_call 16; (with_reducible refine (Mul_bad A B ca cb xs ys _ hx8 hy8 hbad).mono ?_); rintro e w9 ⟨rfl, rfl⟩)
    | (go_at_call 23; (with_reducible refine (DivMod_bad A B ca cb xs ys _ hx8 hy8 hbad).mono ?_); rintro e w9 ⟨rfl, rfl⟩)
    | (go_at_call 24; (with_reducible refine (GCD_bad A B ca cb xs ys _ hx8 hy8 hbad).mono ?_); rintro e w9 ⟨rfl, rfl⟩)
    | (go_at_call 27; (with_reducible refine (Pow_bad A ca xs 2 _ hx8 ox).mono ?_); rintro e w9 ⟨rfl, rfl⟩)
    | (go_at_call 30; (with_reducible refine (Shift_bad A ca xs 1 _ hx8 ox).mono ?_); rintro e w9 ⟨rfl, rfl⟩)
    | (go_at_call 31; (with_reducible refine (Bits_bad A ca xs _ hx8 ox).mono ?_); rintro e w9 ⟨rfl, rfl⟩)
    | (go_at_call 34; (with_reducible refine (Root_bad A ca xs _ hx8 ox).mono ?_); rintro e w9 ⟨rfl, rfl⟩)
    | (go_at_call 36; (with_reducible refine (Text_bad A ca xs _ hx8 ox).mono ?_); rintro e w9 ⟨rfl, rfl⟩))
  go_ret
  exact ⟨rfl, hw8⟩


set_option maxRecDepth 100000 in
set_option maxHeartbeats 400000 in
theorem forms_long (A B : Option Addr) (ca cb : Nat) (xs ys : List Nat) (n : Nat) (w : World) (h : ¬ (xs.length ≤ 5000 ∧ ys.length ≤ 5000))
    (htab : Lib.TabBelow Tryd.prog w.heap.size w "internal/strconv.uint64pow10" .u64 Lib.pow10Tab) :
    Calls Tryd.prog 9 #[.slice A xs.length ca, .slice B ys.length cb, .int .u64 n] w (Yes w) := by
  have HT := Lib.hid htab
  clear htab
  by_cases hl : xs.length ≤ 5000
  · have hl2 : ¬ ys.length ≤ 5000 := fun k => h ⟨hl, k⟩
    clear h
    go_enter Tryd.func9, Tryd.ntmps9
    go_wp2_with fail
    refine (awake_yes w HT.out).mono ?_
    rintro e w1 ⟨rfl, hw1⟩
    go_wp2
    go_ret
    exact ⟨rfl, hw1⟩
  · clear h
    go_enter Tryd.func9, Tryd.ntmps9
    go_wp2_with fail
    refine (awake_yes w HT.out).mono ?_
    rintro e w1 ⟨rfl, hw1⟩
    go_wp2
    go_ret
    exact ⟨rfl, hw1⟩

theorem forms_row (A : Option Addr) (ca : Nat) (xs : List Nat) (B : Option Addr) (cb : Nat) (ys : List Nat) (q : Int) (hq : (Lit.int .u64 q).wf = true) (w : World) (hx : Rd .u32 w A xs) (hy : Rd .u32 w B ys) (_ : Dig 4294967296 xs) (_ : Dig 4294967296 ys)
    (htab : Lib.TabBelow Tryd.prog w.heap.size w "internal/strconv.uint64pow10" .u64 Lib.pow10Tab) :
    Calls Tryd.prog 9 #[.slice A xs.length ca, .slice B ys.length cb, .int .u64 q] w (Yes w) := by
  have b1 : 0 ≤ q ∧ q < 18446744073709551616 := by simp [Lit.wf, IntKind.min, IntKind.max, IntKind.signed, IntKind.bits] at hq; omega
  obtain ⟨n, rfl⟩ := Int.eq_ofNat_of_zero_le b1.1
  have hn : n < 18446744073709551616 := by omega
  by_cases hl : xs.length ≤ 5000 ∧ ys.length ≤ 5000
  · by_cases ox : Ok xs <;> by_cases oy : Ok ys
    · exact forms_yy A B ca cb xs ys n w hx hy hn hn hl.1 hl.2 ox oy htab
    · exact forms_yn A B ca cb xs ys n w hx hy hn hn hl.1 hl.2 ox oy htab
    · exact forms_ny A B ca cb xs ys n w hx hy hn hn hl.1 hl.2 ox oy htab
    · exact forms_nn A B ca cb xs ys n w hx hy hn hn hl.1 hl.2 ox oy htab
  · exact forms_long A B ca cb xs ys n w hl htab
end Go.Proofs.YtgfojfiopcooeaaDoor
