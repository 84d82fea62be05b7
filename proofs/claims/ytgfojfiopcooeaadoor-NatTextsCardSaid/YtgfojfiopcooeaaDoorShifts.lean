/- isochronelaw01.NatShifts answers true for all arguments. -/
import Derived.Test.YtgfojfiopcooeaaDoorShift
namespace Go.Proofs.YtgfojfiopcooeaaDoor
open Go.RowKit V

theorem pow_words (k : Nat) : (4294967296 : Nat) ^ k = 2 ^ (32 * k) := by rw [Nat.pow_mul]
/-- A small number moved up by n places has at most k words. -/
theorem shift_small {xs zs : List Nat} {n k l : Nat} (hx : Mag xs) (hl : xs.length ≤ l) (hz : Mag zs) (e : V32 zs = V32 xs * 2 ^ n) (h : 32 * l + n ≤ 32 * k) : zs.length ≤ k := by
  refine len_of_lt (B := 4294967296) (by omega) hz.2 ?_
  show V32 zs < _
  have h1 := V32_lt hx hl
  have h2 : 2 ^ (32 * l + n) ≤ 2 ^ (32 * k) := Nat.pow_le_pow_right (by omega) h
  rw [e, pow_words]
  rw [pow_words] at h1
  have h3 : V32 xs * 2 ^ n < 2 ^ (32 * l) * 2 ^ n := Nat.mul_lt_mul_of_pos_right h1 (Nat.pow_pos (by omega))
  rw [← Nat.pow_add] at h3
  omega
theorem V32_pos {xs : List Nat} (hx : Mag xs) (h : 0 < xs.length) : 1 ≤ V32 xs := by
  have h1 := val_ge (B := 4294967296) hx.2 h
  have h2 : 0 < 4294967296 ^ (xs.length - 1) := Nat.pow_pos (by omega)
  unfold V32; omega
/-- A number moved up far has more than k words. -/
theorem shift_big {xs zs : List Nat} {n k : Nat} (hx : Mag xs) (hpos : 0 < xs.length) (hz : Mag zs) (e : V32 zs = V32 xs * 2 ^ n) (h : 32 * k ≤ n) : k < zs.length := by
  refine long_of_ge hz ?_
  rw [e, pow_words]
  have h1 := V32_pos hx hpos
  have h2 : 2 ^ (32 * k) ≤ 2 ^ n := Nat.pow_le_pow_right (by omega) h
  have h3 : 1 * 2 ^ n ≤ V32 xs * 2 ^ n := Nat.mul_le_mul_right _ h1
  omega
theorem div_of {x q r d : Nat} (e : x = q * d + r) (h : r < d) : q = x / d := by
  rw [e, Nat.mul_comm, Nat.mul_add_div (by omega), Nat.div_eq_of_lt h, Nat.add_zero]

set_option maxRecDepth 100000 in
set_option maxHeartbeats 1600000 in
theorem shifts_out (A : Option Addr) (ca : Nat) (xs : List Nat) (n : Int) (w : World) (hx : Rd .u32 w A xs) (dx : Dig 4294967296 xs) (hs : SmallOk xs [] 40) (hn : n < -200000 ∨ 200000 < n)
    (htab : Lib.TabBelow Tryd.prog w.heap.size w "internal/strconv.uint64pow10" .u64 Lib.pow10Tab) :
    Calls Tryd.prog 6 #[.slice A xs.length ca, .int .i64 n] w (Yes w) := by
  have HT := Lib.hid htab
  clear htab
  have mx : Mag xs := ⟨dx, hs.2.2.1.2⟩
  have ox : Ok xs := hs.2.2.1
  have h1 := hs.1
  go_enter Tryd.func6, Tryd.ntmps6
  go_wp2_with fail
  refine (awake_yes w HT.out).mono ?_
  rintro e w1 ⟨rfl, hb1⟩
  have hx1 := hx.below hb1
  have hw1 := hb1
  clear hx
  go_wp2_with fail
  refine (small_yes A none ca 0 40 xs [] _ hx1 Rd.nil_ hs).mono ?_
  rintro e w' ⟨rfl, rfl⟩
  go_wp2_with fail
  refine (Shift_out A ca n xs _ hx1 ox hn).mono ?_
  rintro e w2 ⟨rfl, hb2⟩
  have hx2 := hx1.below hb2
  have hw2 := hw1.trans (hb2.mono hw1.size)
  clear hx1 hw1 hb2
  rcases hn with hn | hn
  · go_wp2
    go_ret
    exact ⟨rfl, hw2⟩
  · go_wp2
    go_ret
    exact ⟨rfl, hw2⟩

set_option maxRecDepth 100000 in
set_option maxHeartbeats 1600000 in
theorem shifts_big (A : Option Addr) (ca : Nat) (xs : List Nat) (n : Nat) (w : World) (hx : Rd .u32 w A xs) (dx : Dig 4294967296 xs) (hs : SmallOk xs [] 40) (hn : n ≤ 200000) (hm : 131072 < n) (hpos : 0 < xs.length)
    (htab : Lib.TabBelow Tryd.prog w.heap.size w "internal/strconv.uint64pow10" .u64 Lib.pow10Tab) :
    Calls Tryd.prog 6 #[.slice A xs.length ca, .int .i64 n] w (Yes w) := by
  have HT := Lib.hid htab
  clear htab
  have mx : Mag xs := ⟨dx, hs.2.2.1.2⟩
  have ox : Ok xs := hs.2.2.1
  have h1 := hs.1
  go_enter Tryd.func6, Tryd.ntmps6
  go_wp2_with fail
  refine (awake_yes w HT.out).mono ?_
  rintro e w1 ⟨rfl, hb1⟩
  have hx1 := hx.below hb1
  have hw1 := hb1
  clear hx
  go_wp2_with fail
  refine (small_yes A none ca 0 40 xs [] _ hx1 Rd.nil_ hs).mono ?_
  rintro e w' ⟨rfl, rfl⟩
  go_wp2_with fail
  refine (Shift_up A ca n xs _ hx1 ox dx (by omega)).mono ?_
  intro e w2 hf
  obtain ⟨rfl, hb2⟩ := hf.big fun zs hz => shift_big (k := 4096) mx hpos hz.2 hz.1 (by omega)
  have hx2 := hx1.below hb2
  have hw2 := hw1.trans (hb2.mono hw1.size)
  clear hx1 hw1 hb2
  clear hf
  go_wp2_with fail
  refine (Bits_ok A ca xs _ hx2 dx ox).mono ?_
  rintro e w' ⟨b, rfl, hbits, rfl⟩
  have HBB := Lib.hid hbits
  clear hbits
  go_wp2_with fail
  refine (of_any A ca xs _ hx2 (by omega) dx).mono ?_
  rintro e w3 ⟨X, xc, nx, rfl, hxc, hX3, hb3, hvx, hnx, hlx⟩
  have hx3 := hx2.below hb3
  have hw3 := hw2.trans (hb3.mono hw2.size)
  clear hx2 hw2 hb3
  have HVX := Lib.hid hvx
  clear hvx
  go_wp2_with fail
  refine (rbits_any X xc nx _ hX3 (by omega) hnx).mono ?_
  rintro e w4 ⟨b', rfl, hbb, hb4⟩
  have hx4 := hx3.below hb4
  have hX4 := hX3.below hb4
  have hw4 := hw3.trans (hb4.mono hw3.size)
  clear hx3 hX3 hw3 hb4
  obtain rfl : b = b' := HBB.out.eq (by rw [← HVX.out]; exact hbb.out)
  clear HBB hbb
  go_wp2
  all_goals go_ret
  all_goals exact ⟨rfl, hw4⟩

set_option maxRecDepth 100000 in
set_option maxHeartbeats 1600000 in
theorem shifts_mid_p (A : Option Addr) (ca : Nat) (xs : List Nat) (n : Nat) (w : World) (hx : Rd .u32 w A xs) (dx : Dig 4294967296 xs) (hs : SmallOk xs [] 40) (hpos : 0 < xs.length) (hn : n ≤ 100000) (hm : 2000 < n)
    (htab : Lib.TabBelow Tryd.prog w.heap.size w "internal/strconv.uint64pow10" .u64 Lib.pow10Tab) :
    Calls Tryd.prog 6 #[.slice A xs.length ca, .int .i64 n] w (Yes w) := by
  have HT := Lib.hid htab
  clear htab
  have mx : Mag xs := ⟨dx, hs.2.2.1.2⟩
  have ox : Ok xs := hs.2.2.1
  have h1 := hs.1
  go_enter Tryd.func6, Tryd.ntmps6
  go_wp2_with fail
  refine (awake_yes w HT.out).mono ?_
  rintro e w1 ⟨rfl, hb1⟩
  have hx1 := hx.below hb1
  have hw1 := hb1
  clear hx
  go_wp2_with fail
  refine (small_yes A none ca 0 40 xs [] _ hx1 Rd.nil_ hs).mono ?_
  rintro e w' ⟨rfl, rfl⟩
  go_wp2_with fail
  refine (Shift_up A ca n xs _ hx1 ox dx (by omega)).mono ?_
  intro e w2 hf
  obtain ⟨S, sc, ss, hS2, hsc, hb2, hqs, rfl⟩ := hf.small fun zs hz => shift_small (k := 4096) mx h1 hz.2 hz.1 (by omega)
  have hx2 := hx1.below hb2
  have hw2 := hw1.trans (hb2.mono hw1.size)
  clear hx1 hw1 hb2
  clear hf
  go_wp2_with fail
  refine (Bits_ok A ca xs _ hx2 dx ox).mono ?_
  rintro e w' ⟨b, rfl, hbits, rfl⟩
  have HBB := Lib.hid hbits
  clear hbits
  go_wp2_with fail
  refine (of_any A ca xs _ hx2 (by omega) dx).mono ?_
  rintro e w3 ⟨X, xc, nx, rfl, hxc, hX3, hb3, hvx, hnx, hlx⟩
  have hx3 := hx2.below hb3
  have hS3 := hS2.below hb3
  have hw3 := hw2.trans (hb3.mono hw2.size)
  clear hx2 hS2 hw2 hb3
  have HVX := Lib.hid hvx
  clear hvx
  go_wp2_with fail
  refine (rbits_any X xc nx _ hX3 (by omega) hnx).mono ?_
  rintro e w4 ⟨b', rfl, hbb, hb4⟩
  have hx4 := hx3.below hb4
  have hS4 := hS3.below hb4
  have hX4 := hX3.below hb4
  have hw4 := hw3.trans (hb4.mono hw3.size)
  clear hx3 hS3 hX3 hw3 hb4
  obtain rfl : b = b' := HBB.out.eq (by rw [← HVX.out]; exact hbb.out)
  clear HBB hbb
  go_wp2
  all_goals go_ret
  all_goals exact ⟨rfl, hw4⟩

set_option maxRecDepth 100000 in
set_option maxHeartbeats 1600000 in
theorem shifts_mid_z (A : Option Addr) (ca : Nat) (xs : List Nat) (n : Nat) (w : World) (hx : Rd .u32 w A xs) (dx : Dig 4294967296 xs) (hs : SmallOk xs [] 40) (hlen : xs.length = 0) (hn : n ≤ 100000) (hm : 2000 < n)
    (htab : Lib.TabBelow Tryd.prog w.heap.size w "internal/strconv.uint64pow10" .u64 Lib.pow10Tab) :
    Calls Tryd.prog 6 #[.slice A xs.length ca, .int .i64 n] w (Yes w) := by
  have HT := Lib.hid htab
  clear htab
  have mx : Mag xs := ⟨dx, hs.2.2.1.2⟩
  have ox : Ok xs := hs.2.2.1
  have h1 := hs.1
  obtain rfl : xs = [] := List.eq_nil_of_length_eq_zero hlen
  clear hlen
  go_enter Tryd.func6, Tryd.ntmps6
  go_wp2_with fail
  refine (awake_yes w HT.out).mono ?_
  rintro e w1 ⟨rfl, hb1⟩
  have hx1 := hx.below hb1
  have hw1 := hb1
  clear hx
  go_wp2_with fail
  refine (small_yes A none ca 0 40 [] [] _ hx1 Rd.nil_ hs).mono ?_
  rintro e w' ⟨rfl, rfl⟩
  go_wp2_with fail
  refine (Shift_up A ca n [] _ hx1 ox dx (by omega)).mono ?_
  intro e w2 hf
  obtain ⟨S, sc, ss, hS2, hsc, hb2, hqs, rfl⟩ := hf.small fun zs hz => shift_small (k := 4096) mx h1 hz.2 hz.1 (by omega)
  have hx2 := hx1.below hb2
  have hw2 := hw1.trans (hb2.mono hw1.size)
  clear hx1 hw1 hb2
  clear hf
  go_wp2_with fail
  refine (Bits_ok A ca [] _ hx2 dx ox).mono ?_
  rintro e w' ⟨b, rfl, hbits, rfl⟩
  have HBB := Lib.hid hbits
  clear hbits
  go_wp2_with fail
  refine (of_any A ca [] _ hx2 (by omega) dx).mono ?_
  rintro e w3 ⟨X, xc, nx, rfl, hxc, hX3, hb3, hvx, hnx, hlx⟩
  have hx3 := hx2.below hb3
  have hS3 := hS2.below hb3
  have hw3 := hw2.trans (hb3.mono hw2.size)
  clear hx2 hS2 hw2 hb3
  have HVX := Lib.hid hvx
  clear hvx
  go_wp2_with fail
  refine (rbits_any X xc nx _ hX3 (by omega) hnx).mono ?_
  rintro e w4 ⟨b', rfl, hbb, hb4⟩
  have hx4 := hx3.below hb4
  have hS4 := hS3.below hb4
  have hX4 := hX3.below hb4
  have hw4 := hw3.trans (hb4.mono hw3.size)
  clear hx3 hS3 hX3 hw3 hb4
  obtain rfl : b = b' := HBB.out.eq (by rw [← HVX.out]; exact hbb.out)
  clear HBB hbb
  go_wp2
  all_goals go_ret
  all_goals exact ⟨rfl, hw4⟩

set_option maxRecDepth 100000 in
set_option maxHeartbeats 1600000 in
theorem shifts_wide_p (A : Option Addr) (ca : Nat) (xs : List Nat) (n : Nat) (w : World) (hx : Rd .u32 w A xs) (dx : Dig 4294967296 xs) (hs : SmallOk xs [] 40) (hpos : 0 < xs.length) (hn : n ≤ 131072) (hm : 100000 < n)
    (htab : Lib.TabBelow Tryd.prog w.heap.size w "internal/strconv.uint64pow10" .u64 Lib.pow10Tab) :
    Calls Tryd.prog 6 #[.slice A xs.length ca, .int .i64 n] w (Yes w) := by
  have HT := Lib.hid htab
  clear htab
  have mx : Mag xs := ⟨dx, hs.2.2.1.2⟩
  have ox : Ok xs := hs.2.2.1
  have h1 := hs.1
  go_enter Tryd.func6, Tryd.ntmps6
  go_wp2_with fail
  refine (awake_yes w HT.out).mono ?_
  rintro e w1 ⟨rfl, hb1⟩
  have hx1 := hx.below hb1
  have hw1 := hb1
  clear hx
  go_wp2_with fail
  refine (small_yes A none ca 0 40 xs [] _ hx1 Rd.nil_ hs).mono ?_
  rintro e w' ⟨rfl, rfl⟩
  go_wp2_with fail
  refine (Shift_up A ca n xs _ hx1 ox dx (by omega)).mono ?_
  rintro e w2 ⟨S, sc, ss, hS2, hsc, hb2, hqs, he⟩
  have hx2 := hx1.below hb2
  have hw2 := hw1.trans (hb2.mono hw1.size)
  clear hx1 hw1 hb2
  rcases he with ⟨_, rfl⟩ | ⟨_, rfl⟩
  · go_wp2_with fail
    refine (Bits_ok A ca xs _ hx2 dx ox).mono ?_
    rintro e w' ⟨b, rfl, hbits, rfl⟩
    have HBB := Lib.hid hbits
    clear hbits
    go_wp2_with fail
    refine (of_any A ca xs _ hx2 (by omega) dx).mono ?_
    rintro e w3 ⟨X, xc, nx, rfl, hxc, hX3, hb3, hvx, hnx, hlx⟩
    have hx3 := hx2.below hb3
    have hS3 := hS2.below hb3
    have hw3 := hw2.trans (hb3.mono hw2.size)
    clear hx2 hS2 hw2 hb3
    have HVX := Lib.hid hvx
    clear hvx
    go_wp2_with fail
    refine (rbits_any X xc nx _ hX3 (by omega) hnx).mono ?_
    rintro e w4 ⟨b', rfl, hbb, hb4⟩
    have hx4 := hx3.below hb4
    have hS4 := hS3.below hb4
    have hX4 := hX3.below hb4
    have hw4 := hw3.trans (hb4.mono hw3.size)
    clear hx3 hS3 hX3 hw3 hb4
    obtain rfl : b = b' := HBB.out.eq (by rw [← HVX.out]; exact hbb.out)
    clear HBB hbb
    have hd : decide ((100000 : Int) < (n : Int)) = true := by simp; omega
    go_wp2
    all_goals go_ret
    all_goals exact ⟨rfl, hw4⟩
  · go_wp2_with fail
    refine (Bits_ok A ca xs _ hx2 dx ox).mono ?_
    rintro e w' ⟨b, rfl, hbits, rfl⟩
    have HBB := Lib.hid hbits
    clear hbits
    go_wp2_with fail
    refine (of_any A ca xs _ hx2 (by omega) dx).mono ?_
    rintro e w3 ⟨X, xc, nx, rfl, hxc, hX3, hb3, hvx, hnx, hlx⟩
    have hx3 := hx2.below hb3
    have hS3 := hS2.below hb3
    have hw3 := hw2.trans (hb3.mono hw2.size)
    clear hx2 hS2 hw2 hb3
    have HVX := Lib.hid hvx
    clear hvx
    go_wp2_with fail
    refine (rbits_any X xc nx _ hX3 (by omega) hnx).mono ?_
    rintro e w4 ⟨b', rfl, hbb, hb4⟩
    have hx4 := hx3.below hb4
    have hS4 := hS3.below hb4
    have hX4 := hX3.below hb4
    have hw4 := hw3.trans (hb4.mono hw3.size)
    clear hx3 hS3 hX3 hw3 hb4
    obtain rfl : b = b' := HBB.out.eq (by rw [← HVX.out]; exact hbb.out)
    clear HBB hbb
    have hd : decide ((100000 : Int) < (n : Int)) = true := by simp; omega
    go_wp2
    all_goals go_ret
    all_goals exact ⟨rfl, hw4⟩

set_option maxRecDepth 100000 in
set_option maxHeartbeats 1600000 in
theorem shifts_wide_z (A : Option Addr) (ca : Nat) (xs : List Nat) (n : Nat) (w : World) (hx : Rd .u32 w A xs) (dx : Dig 4294967296 xs) (hs : SmallOk xs [] 40) (hlen : xs.length = 0) (hn : n ≤ 200000) (hm : 100000 < n)
    (htab : Lib.TabBelow Tryd.prog w.heap.size w "internal/strconv.uint64pow10" .u64 Lib.pow10Tab) :
    Calls Tryd.prog 6 #[.slice A xs.length ca, .int .i64 n] w (Yes w) := by
  have HT := Lib.hid htab
  clear htab
  have mx : Mag xs := ⟨dx, hs.2.2.1.2⟩
  have ox : Ok xs := hs.2.2.1
  have h1 := hs.1
  obtain rfl : xs = [] := List.eq_nil_of_length_eq_zero hlen
  clear hlen
  go_enter Tryd.func6, Tryd.ntmps6
  go_wp2_with fail
  refine (awake_yes w HT.out).mono ?_
  rintro e w1 ⟨rfl, hb1⟩
  have hx1 := hx.below hb1
  have hw1 := hb1
  clear hx
  go_wp2_with fail
  refine (small_yes A none ca 0 40 [] [] _ hx1 Rd.nil_ hs).mono ?_
  rintro e w' ⟨rfl, rfl⟩
  go_wp2_with fail
  refine (Shift_up A ca n [] _ hx1 ox dx (by omega)).mono ?_
  rintro e w2 ⟨S, sc, ss, hS2, hsc, hb2, hqs, he⟩
  have hx2 := hx1.below hb2
  have hw2 := hw1.trans (hb2.mono hw1.size)
  clear hx1 hw1 hb2
  rcases he with ⟨_, rfl⟩ | ⟨_, rfl⟩
  · go_wp2_with fail
    refine (Bits_ok A ca [] _ hx2 dx ox).mono ?_
    rintro e w' ⟨b, rfl, hbits, rfl⟩
    have HBB := Lib.hid hbits
    clear hbits
    go_wp2_with fail
    refine (of_any A ca [] _ hx2 (by omega) dx).mono ?_
    rintro e w3 ⟨X, xc, nx, rfl, hxc, hX3, hb3, hvx, hnx, hlx⟩
    have hx3 := hx2.below hb3
    have hS3 := hS2.below hb3
    have hw3 := hw2.trans (hb3.mono hw2.size)
    clear hx2 hS2 hw2 hb3
    have HVX := Lib.hid hvx
    clear hvx
    go_wp2_with fail
    refine (rbits_any X xc nx _ hX3 (by omega) hnx).mono ?_
    rintro e w4 ⟨b', rfl, hbb, hb4⟩
    have hx4 := hx3.below hb4
    have hS4 := hS3.below hb4
    have hX4 := hX3.below hb4
    have hw4 := hw3.trans (hb4.mono hw3.size)
    clear hx3 hS3 hX3 hw3 hb4
    obtain rfl : b = b' := HBB.out.eq (by rw [← HVX.out]; exact hbb.out)
    clear HBB hbb
    have hd : decide ((100000 : Int) < (n : Int)) = true := by simp; omega
    go_wp2
    all_goals go_ret
    all_goals exact ⟨rfl, hw4⟩
  · go_wp2_with fail
    refine (Bits_ok A ca [] _ hx2 dx ox).mono ?_
    rintro e w' ⟨b, rfl, hbits, rfl⟩
    have HBB := Lib.hid hbits
    clear hbits
    go_wp2_with fail
    refine (of_any A ca [] _ hx2 (by omega) dx).mono ?_
    rintro e w3 ⟨X, xc, nx, rfl, hxc, hX3, hb3, hvx, hnx, hlx⟩
    have hx3 := hx2.below hb3
    have hS3 := hS2.below hb3
    have hw3 := hw2.trans (hb3.mono hw2.size)
    clear hx2 hS2 hw2 hb3
    have HVX := Lib.hid hvx
    clear hvx
    go_wp2_with fail
    refine (rbits_any X xc nx _ hX3 (by omega) hnx).mono ?_
    rintro e w4 ⟨b', rfl, hbb, hb4⟩
    have hx4 := hx3.below hb4
    have hS4 := hS3.below hb4
    have hX4 := hX3.below hb4
    have hw4 := hw3.trans (hb4.mono hw3.size)
    clear hx3 hS3 hX3 hw3 hb4
    obtain rfl : b = b' := HBB.out.eq (by rw [← HVX.out]; exact hbb.out)
    clear HBB hbb
    have hd : decide ((100000 : Int) < (n : Int)) = true := by simp; omega
    go_wp2
    all_goals go_ret
    all_goals exact ⟨rfl, hw4⟩

set_option maxRecDepth 100000 in
set_option maxHeartbeats 1600000 in
theorem shifts_up_p (A : Option Addr) (ca : Nat) (xs : List Nat) (n : Nat) (w : World) (hx : Rd .u32 w A xs) (dx : Dig 4294967296 xs) (hs : SmallOk xs [] 40) (hpos : 0 < xs.length) (hn : n ≤ 2000)
    (htab : Lib.TabBelow Tryd.prog w.heap.size w "internal/strconv.uint64pow10" .u64 Lib.pow10Tab) :
    Calls Tryd.prog 6 #[.slice A xs.length ca, .int .i64 n] w (Yes w) := by
  have HT := Lib.hid htab
  clear htab
  have mx : Mag xs := ⟨dx, hs.2.2.1.2⟩
  have ox : Ok xs := hs.2.2.1
  have h1 := hs.1
  go_enter Tryd.func6, Tryd.ntmps6
  go_wp2_with fail
  refine (awake_yes w HT.out).mono ?_
  rintro e w1 ⟨rfl, hb1⟩
  have hx1 := hx.below hb1
  have hw1 := hb1
  clear hx
  go_wp2_with fail
  refine (small_yes A none ca 0 40 xs [] _ hx1 Rd.nil_ hs).mono ?_
  rintro e w' ⟨rfl, rfl⟩
  go_wp2_with fail
  refine (Shift_up A ca n xs _ hx1 ox dx (by omega)).mono ?_
  intro e w2 hf
  obtain ⟨S, sc, ss, hS2, hsc, hb2, hqs, rfl⟩ := hf.small fun zs hz => shift_small (k := 4096) mx h1 hz.2 hz.1 (by omega)
  have hx2 := hx1.below hb2
  have hw2 := hw1.trans (hb2.mono hw1.size)
  clear hx1 hw1 hb2
  have hls := shift_small (k := 200) mx h1 hqs.2 hqs.1 (by omega)
  have HQS := Lib.hid hqs
  clear hqs
  clear hf
  go_wp2_with fail
  refine (Bits_ok A ca xs _ hx2 dx ox).mono ?_
  rintro e w' ⟨b, rfl, hbits, rfl⟩
  have HBB := Lib.hid hbits
  clear hbits
  go_wp2_with fail
  refine (of_any A ca xs _ hx2 (by omega) dx).mono ?_
  rintro e w3 ⟨X, xc, nx, rfl, hxc, hX3, hb3, hvx, hnx, hlx⟩
  have hx3 := hx2.below hb3
  have hS3 := hS2.below hb3
  have hw3 := hw2.trans (hb3.mono hw2.size)
  clear hx2 hS2 hw2 hb3
  have HVX := Lib.hid hvx
  clear hvx
  go_wp2_with fail
  refine (rbits_any X xc nx _ hX3 (by omega) hnx).mono ?_
  rintro e w4 ⟨b', rfl, hbb, hb4⟩
  have hx4 := hx3.below hb4
  have hS4 := hS3.below hb4
  have hX4 := hX3.below hb4
  have hw4 := hw3.trans (hb4.mono hw3.size)
  clear hx3 hS3 hX3 hw3 hb4
  obtain rfl : b = b' := HBB.out.eq (by rw [← HVX.out]; exact hbb.out)
  clear HBB hbb
  go_wp2_with fail
  refine (two_any n _ (by omega)).mono ?_
  rintro e w5 ⟨T, tc, nt, rfl, htc, hT5, hb5, hvt, hnt, hlt⟩
  have hx5 := hx4.below hb5
  have hS5 := hS4.below hb5
  have hX5 := hX4.below hb5
  have hw5 := hw4.trans (hb5.mono hw4.size)
  clear hx4 hS4 hX4 hw4 hb5
  have HVT := Lib.hid hvt
  clear hvt
  go_wp2_with fail
  refine (rmul_any X T xc tc nx nt _ hX5 hT5 (by omega) hnx hnt).mono ?_
  rintro e w6 ⟨U, uc, nu, rfl, huc, hU6, hb6, hvu, hnu, hlu⟩
  have hx6 := hx5.below hb6
  have hS6 := hS5.below hb6
  have hX6 := hX5.below hb6
  have hT6 := hT5.below hb6
  have hw6 := hw5.trans (hb6.mono hw5.size)
  clear hx5 hS5 hX5 hT5 hw5 hb6
  have HVU : Hid (V32 ss = VD nu) := by show _ = _; rw [HQS.out.1, hvu, HVX.out, HVT.out]
  clear hvu
  go_wp2_with fail
  refine (is_yes S U sc uc ss nu _ hS6 hU6 (by omega) (by omega) HQS.out.2 hnu HVU.out).mono ?_
  rintro e w7 ⟨rfl, hb7⟩
  have hx7 := hx6.below hb7
  have hS7 := hS6.below hb7
  have hX7 := hX6.below hb7
  have hT7 := hT6.below hb7
  have hU7 := hU6.below hb7
  have hw7 := hw6.trans (hb7.mono hw6.size)
  clear hx6 hS6 hX6 hT6 hU6 hw6 hb7
  go_wp2
  all_goals go_ret
  all_goals exact ⟨rfl, hw7⟩

set_option maxRecDepth 100000 in
set_option maxHeartbeats 1600000 in
theorem shifts_up_z (A : Option Addr) (ca : Nat) (xs : List Nat) (n : Nat) (w : World) (hx : Rd .u32 w A xs) (dx : Dig 4294967296 xs) (hs : SmallOk xs [] 40) (hlen : xs.length = 0) (hn : n ≤ 2000)
    (htab : Lib.TabBelow Tryd.prog w.heap.size w "internal/strconv.uint64pow10" .u64 Lib.pow10Tab) :
    Calls Tryd.prog 6 #[.slice A xs.length ca, .int .i64 n] w (Yes w) := by
  have HT := Lib.hid htab
  clear htab
  have mx : Mag xs := ⟨dx, hs.2.2.1.2⟩
  have ox : Ok xs := hs.2.2.1
  have h1 := hs.1
  obtain rfl : xs = [] := List.eq_nil_of_length_eq_zero hlen
  clear hlen
  go_enter Tryd.func6, Tryd.ntmps6
  go_wp2_with fail
  refine (awake_yes w HT.out).mono ?_
  rintro e w1 ⟨rfl, hb1⟩
  have hx1 := hx.below hb1
  have hw1 := hb1
  clear hx
  go_wp2_with fail
  refine (small_yes A none ca 0 40 [] [] _ hx1 Rd.nil_ hs).mono ?_
  rintro e w' ⟨rfl, rfl⟩
  go_wp2_with fail
  refine (Shift_up A ca n [] _ hx1 ox dx (by omega)).mono ?_
  intro e w2 hf
  obtain ⟨S, sc, ss, hS2, hsc, hb2, hqs, rfl⟩ := hf.small fun zs hz => shift_small (k := 4096) mx h1 hz.2 hz.1 (by omega)
  have hx2 := hx1.below hb2
  have hw2 := hw1.trans (hb2.mono hw1.size)
  clear hx1 hw1 hb2
  have hls := shift_small (k := 200) mx h1 hqs.2 hqs.1 (by omega)
  have HQS := Lib.hid hqs
  clear hqs
  clear hf
  go_wp2_with fail
  refine (Bits_ok A ca [] _ hx2 dx ox).mono ?_
  rintro e w' ⟨b, rfl, hbits, rfl⟩
  have HBB := Lib.hid hbits
  clear hbits
  go_wp2_with fail
  refine (of_any A ca [] _ hx2 (by omega) dx).mono ?_
  rintro e w3 ⟨X, xc, nx, rfl, hxc, hX3, hb3, hvx, hnx, hlx⟩
  have hx3 := hx2.below hb3
  have hS3 := hS2.below hb3
  have hw3 := hw2.trans (hb3.mono hw2.size)
  clear hx2 hS2 hw2 hb3
  have HVX := Lib.hid hvx
  clear hvx
  go_wp2_with fail
  refine (rbits_any X xc nx _ hX3 (by omega) hnx).mono ?_
  rintro e w4 ⟨b', rfl, hbb, hb4⟩
  have hx4 := hx3.below hb4
  have hS4 := hS3.below hb4
  have hX4 := hX3.below hb4
  have hw4 := hw3.trans (hb4.mono hw3.size)
  clear hx3 hS3 hX3 hw3 hb4
  obtain rfl : b = b' := HBB.out.eq (by rw [← HVX.out]; exact hbb.out)
  clear HBB hbb
  go_wp2_with fail
  refine (two_any n _ (by omega)).mono ?_
  rintro e w5 ⟨T, tc, nt, rfl, htc, hT5, hb5, hvt, hnt, hlt⟩
  have hx5 := hx4.below hb5
  have hS5 := hS4.below hb5
  have hX5 := hX4.below hb5
  have hw5 := hw4.trans (hb5.mono hw4.size)
  clear hx4 hS4 hX4 hw4 hb5
  have HVT := Lib.hid hvt
  clear hvt
  go_wp2_with fail
  refine (rmul_any X T xc tc nx nt _ hX5 hT5 (by omega) hnx hnt).mono ?_
  rintro e w6 ⟨U, uc, nu, rfl, huc, hU6, hb6, hvu, hnu, hlu⟩
  have hx6 := hx5.below hb6
  have hS6 := hS5.below hb6
  have hX6 := hX5.below hb6
  have hT6 := hT5.below hb6
  have hw6 := hw5.trans (hb6.mono hw5.size)
  clear hx5 hS5 hX5 hT5 hw5 hb6
  have HVU : Hid (V32 ss = VD nu) := by show _ = _; rw [HQS.out.1, hvu, HVX.out, HVT.out]
  clear hvu
  go_wp2_with fail
  refine (is_yes S U sc uc ss nu _ hS6 hU6 (by omega) (by omega) HQS.out.2 hnu HVU.out).mono ?_
  rintro e w7 ⟨rfl, hb7⟩
  have hx7 := hx6.below hb7
  have hS7 := hS6.below hb7
  have hX7 := hX6.below hb7
  have hT7 := hT6.below hb7
  have hU7 := hU6.below hb7
  have hw7 := hw6.trans (hb7.mono hw6.size)
  clear hx6 hS6 hX6 hT6 hU6 hw6 hb7
  go_wp2
  all_goals go_ret
  all_goals exact ⟨rfl, hw7⟩
end Go.Proofs.YtgfojfiopcooeaaDoor
