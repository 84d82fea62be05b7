/- isochronelaw01.NatShifts answers true for all arguments: downwards, and the whole. -/
import Derived.Test.YtgfojfiopcooeaaDoorShifts
namespace Go.Proofs.YtgfojfiopcooeaaDoor
open Go.RowKit V

set_option maxRecDepth 100000 in
set_option maxHeartbeats 1600000 in
theorem shifts_far_p (A : Option Addr) (ca : Nat) (xs : List Nat) (n : Nat) (N : Int) (w : World) (hx : Rd .u32 w A xs) (dx : Dig 4294967296 xs) (hs : SmallOk xs [] 40) (hpos : 0 < xs.length) (hca : xs.length ≤ ca) (HN : Hid (N = -(n : Int))) (hN1 : N < -2000) (hN2 : -200000 ≤ N) (hn : n ≤ 200000) (hm : 2000 < n)
    (htab : Lib.TabBelow Tryd.prog w.heap.size w "internal/strconv.uint64pow10" .u64 Lib.pow10Tab) :
    Calls Tryd.prog 6 #[.slice A xs.length ca, .int .i64 N] w (Yes w) := by
  have HT := Lib.hid htab
  clear htab
  have mx : Mag xs := ⟨dx, hs.2.2.1.2⟩
  have ox : Ok xs := hs.2.2.1
  have h1 := hs.1
  go_enter Tryd.func6, Tryd.ntmps6
  go_wp2_with fail
  refine (awake_yes w HT.out).mono ?_
  rintro e w1 ⟨rfl, hb1⟩
  have hx1 := hx.below hb1
  have hw1 := hb1
  clear hx
  go_wp2_with fail
  refine (small_yes A none ca 0 40 xs [] _ hx1 Rd.nil_ hs).mono ?_
  rintro e w' ⟨rfl, rfl⟩
  go_wp2_with fail
  refine (Shift_dn A ca n N xs _ HN.out hx1 hca ox dx (by omega) (by omega)).mono ?_
  rintro e w2 ⟨S, sc, ss, hS2, hsc, hb2, hqs, rfl⟩
  have hx2 := hx1.below hb2
  have hw2 := hw1.trans (hb2.mono hw1.size)
  clear hx1 hw1 hb2
  clear hqs
  go_wp2_with fail
  refine (Bits_ok A ca xs _ hx2 dx ox).mono ?_
  rintro e w' ⟨b, rfl, hbits, rfl⟩
  have HBB := Lib.hid hbits
  clear hbits
  go_wp2_with fail
  refine (of_any A ca xs _ hx2 (by omega) dx).mono ?_
  rintro e w3 ⟨X, xc, nx, rfl, hxc, hX3, hb3, hvx, hnx, hlx⟩
  have hx3 := hx2.below hb3
  have hS3 := hS2.below hb3
  have hw3 := hw2.trans (hb3.mono hw2.size)
  clear hx2 hS2 hw2 hb3
  have HVX := Lib.hid hvx
  clear hvx
  go_wp2_with fail
  refine (rbits_any X xc nx _ hX3 (by omega) hnx).mono ?_
  rintro e w4 ⟨b', rfl, hbb, hb4⟩
  have hx4 := hx3.below hb4
  have hS4 := hS3.below hb4
  have hX4 := hX3.below hb4
  have hw4 := hw3.trans (hb4.mono hw3.size)
  clear hx3 hS3 hX3 hw3 hb4
  obtain rfl : b = b' := HBB.out.eq (by rw [← HVX.out]; exact hbb.out)
  clear HBB hbb
  go_wp2
  all_goals go_ret
  all_goals exact ⟨rfl, hw4⟩

set_option maxRecDepth 100000 in
set_option maxHeartbeats 1600000 in
theorem shifts_far_z (A : Option Addr) (ca : Nat) (xs : List Nat) (n : Nat) (N : Int) (w : World) (hx : Rd .u32 w A xs) (dx : Dig 4294967296 xs) (hs : SmallOk xs [] 40) (hlen : xs.length = 0) (hca : xs.length ≤ ca) (HN : Hid (N = -(n : Int))) (hN1 : N < -2000) (hN2 : -200000 ≤ N) (hn : n ≤ 200000) (hm : 2000 < n)
    (htab : Lib.TabBelow Tryd.prog w.heap.size w "internal/strconv.uint64pow10" .u64 Lib.pow10Tab) :
    Calls Tryd.prog 6 #[.slice A xs.length ca, .int .i64 N] w (Yes w) := by
  have HT := Lib.hid htab
  clear htab
  have mx : Mag xs := ⟨dx, hs.2.2.1.2⟩
  have ox : Ok xs := hs.2.2.1
  have h1 := hs.1
  obtain rfl : xs = [] := List.eq_nil_of_length_eq_zero hlen
  clear hlen
  go_enter Tryd.func6, Tryd.ntmps6
  go_wp2_with fail
  refine (awake_yes w HT.out).mono ?_
  rintro e w1 ⟨rfl, hb1⟩
  have hx1 := hx.below hb1
  have hw1 := hb1
  clear hx
  go_wp2_with fail
  refine (small_yes A none ca 0 40 [] [] _ hx1 Rd.nil_ hs).mono ?_
  rintro e w' ⟨rfl, rfl⟩
  go_wp2_with fail
  refine (Shift_dn A ca n N [] _ HN.out hx1 hca ox dx (by omega) (by omega)).mono ?_
  rintro e w2 ⟨S, sc, ss, hS2, hsc, hb2, hqs, rfl⟩
  have hx2 := hx1.below hb2
  have hw2 := hw1.trans (hb2.mono hw1.size)
  clear hx1 hw1 hb2
  clear hqs
  go_wp2_with fail
  refine (Bits_ok A ca [] _ hx2 dx ox).mono ?_
  rintro e w' ⟨b, rfl, hbits, rfl⟩
  have HBB := Lib.hid hbits
  clear hbits
  go_wp2_with fail
  refine (of_any A ca [] _ hx2 (by omega) dx).mono ?_
  rintro e w3 ⟨X, xc, nx, rfl, hxc, hX3, hb3, hvx, hnx, hlx⟩
  have hx3 := hx2.below hb3
  have hS3 := hS2.below hb3
  have hw3 := hw2.trans (hb3.mono hw2.size)
  clear hx2 hS2 hw2 hb3
  have HVX := Lib.hid hvx
  clear hvx
  go_wp2_with fail
  refine (rbits_any X xc nx _ hX3 (by omega) hnx).mono ?_
  rintro e w4 ⟨b', rfl, hbb, hb4⟩
  have hx4 := hx3.below hb4
  have hS4 := hS3.below hb4
  have hX4 := hX3.below hb4
  have hw4 := hw3.trans (hb4.mono hw3.size)
  clear hx3 hS3 hX3 hw3 hb4
  obtain rfl : b = b' := HBB.out.eq (by rw [← HVX.out]; exact hbb.out)
  clear HBB hbb
  go_wp2
  all_goals go_ret
  all_goals exact ⟨rfl, hw4⟩

theorem two_pos {n : Nat} {xs : List Nat} (h : VD xs = 2 ^ n) : 0 < xs.length := by
  rcases Nat.eq_zero_or_pos xs.length with h0 | h0
  · rw [List.eq_nil_of_length_eq_zero h0] at h
    have : 0 < 2 ^ n := Nat.pow_pos (by omega)
    simp [VD, val] at h
    omega
  · exact h0
theorem mul_ge (q d r : Nat) (h : 0 < d) : q ≤ q * d + r := by
  have : q * 1 ≤ q * d := Nat.mul_le_mul_left _ h
  omega

set_option maxRecDepth 100000 in
set_option maxHeartbeats 1600000 in
theorem shifts_dn_p (A : Option Addr) (ca : Nat) (xs : List Nat) (n : Nat) (N : Int) (w : World) (hx : Rd .u32 w A xs) (dx : Dig 4294967296 xs) (hs : SmallOk xs [] 40) (hpos : 0 < xs.length) (hca : xs.length ≤ ca) (HN : Hid (N = -(n : Int))) (_ : N < 0) (hN2 : -2000 ≤ N) (hn : n ≤ 2000) (hm : 1 ≤ n)
    (htab : Lib.TabBelow Tryd.prog w.heap.size w "internal/strconv.uint64pow10" .u64 Lib.pow10Tab) :
    Calls Tryd.prog 6 #[.slice A xs.length ca, .int .i64 N] w (Yes w) := by
  have HT := Lib.hid htab
  clear htab
  have mx : Mag xs := ⟨dx, hs.2.2.1.2⟩
  have ox : Ok xs := hs.2.2.1
  have h1 := hs.1
  go_enter Tryd.func6, Tryd.ntmps6
  go_wp2_with fail
  refine (awake_yes w HT.out).mono ?_
  rintro e w1 ⟨rfl, hb1⟩
  have hx1 := hx.below hb1
  have hw1 := hb1
  clear hx
  go_wp2_with fail
  refine (small_yes A none ca 0 40 xs [] _ hx1 Rd.nil_ hs).mono ?_
  rintro e w' ⟨rfl, rfl⟩
  go_wp2_with fail
  refine (Shift_dn A ca n N xs _ HN.out hx1 hca ox dx (by omega) (by omega)).mono ?_
  rintro e w2 ⟨S, sc, ss, hS2, hsc, hb2, hqs, rfl⟩
  have hx2 := hx1.below hb2
  have hw2 := hw1.trans (hb2.mono hw1.size)
  clear hx1 hw1 hb2
  have HQS := Lib.hid hqs
  have hls := hqs.2.2
  clear hqs
  have hneg : -N = n := by have := HN.out; omega
  go_wp2_with fail
  refine (Bits_ok A ca xs _ hx2 dx ox).mono ?_
  rintro e w' ⟨b, rfl, hbits, rfl⟩
  have HBB := Lib.hid hbits
  clear hbits
  go_wp2_with fail
  refine (of_any A ca xs _ hx2 (by omega) dx).mono ?_
  rintro e w3 ⟨X, xc, nx, rfl, hxc, hX3, hb3, hvx, hnx, hlx⟩
  have hx3 := hx2.below hb3
  have hS3 := hS2.below hb3
  have hw3 := hw2.trans (hb3.mono hw2.size)
  clear hx2 hS2 hw2 hb3
  have HVX := Lib.hid hvx
  clear hvx
  go_wp2_with fail
  refine (rbits_any X xc nx _ hX3 (by omega) hnx).mono ?_
  rintro e w4 ⟨b', rfl, hbb, hb4⟩
  have hx4 := hx3.below hb4
  have hS4 := hS3.below hb4
  have hX4 := hX3.below hb4
  have hw4 := hw3.trans (hb4.mono hw3.size)
  clear hx3 hS3 hX3 hw3 hb4
  obtain rfl : b = b' := HBB.out.eq (by rw [← HVX.out]; exact hbb.out)
  clear HBB hbb
  go_wp2_with fail
  refine (two_any n _ (by omega)).mono ?_
  rintro e w5 ⟨T, tc, nt, rfl, htc, hT5, hb5, hvt, hnt, hlt⟩
  have hx5 := hx4.below hb5
  have hS5 := hS4.below hb5
  have hX5 := hX4.below hb5
  have hw5 := hw4.trans (hb5.mono hw4.size)
  clear hx4 hS4 hX4 hw4 hb5
  have HVT := Lib.hid hvt
  clear hvt
  go_wp2_with fail
  refine (rdiv_any X T xc tc nx nt _ hX5 hT5 (by omega) hnx hnt (two_pos HVT.out)).mono ?_
  rintro e w6 ⟨Q, qc, q, R, rc, r, rfl, hQ6, hR6, hnq, hnr, hdm, hlr, hb6⟩
  have hx6 := hx5.below hb6
  have hS6 := hS5.below hb6
  have hX6 := hX5.below hb6
  have hT6 := hT5.below hb6
  have hw6 := hw5.trans (hb6.mono hw5.size)
  clear hx5 hS5 hX5 hT5 hw5 hb6
  have HVQ : Hid (V32 ss = VD q) := by show _ = _; rw [HQS.out.1, ← HVX.out, ← HVT.out]; exact (div_of hdm.out hlr.out).symm
  have hql : q.length ≤ nx.length := hnx.len_le hnq (by rw [hdm.out]; exact mul_ge _ _ _ (Nat.lt_of_le_of_lt (Nat.zero_le _) hlr.out))
  go_wp2_with fail
  refine (is_yes S Q sc qc ss q _ hS6 hQ6 (by omega) (by omega) HQS.out.2.1 hnq HVQ.out).mono ?_
  rintro e w7 ⟨rfl, hb7⟩
  have hx7 := hx6.below hb7
  have hS7 := hS6.below hb7
  have hX7 := hX6.below hb7
  have hT7 := hT6.below hb7
  have hQ7 := hQ6.below hb7
  have hw7 := hw6.trans (hb7.mono hw6.size)
  clear hx6 hS6 hX6 hT6 hQ6 hw6 hb7
  go_wp2
  all_goals go_ret
  all_goals exact ⟨rfl, hw7⟩

set_option maxRecDepth 100000 in
set_option maxHeartbeats 1600000 in
theorem shifts_dn_z (A : Option Addr) (ca : Nat) (xs : List Nat) (n : Nat) (N : Int) (w : World) (hx : Rd .u32 w A xs) (dx : Dig 4294967296 xs) (hs : SmallOk xs [] 40) (hlen : xs.length = 0) (hca : xs.length ≤ ca) (HN : Hid (N = -(n : Int))) (hN1 : N < 0) (hN2 : -2000 ≤ N) (hn : n ≤ 2000) (hm : 1 ≤ n)
    (htab : Lib.TabBelow Tryd.prog w.heap.size w "internal/strconv.uint64pow10" .u64 Lib.pow10Tab) :
    Calls Tryd.prog 6 #[.slice A xs.length ca, .int .i64 N] w (Yes w) := by
  have HT := Lib.hid htab
  clear htab
  have mx : Mag xs := ⟨dx, hs.2.2.1.2⟩
  have ox : Ok xs := hs.2.2.1
  have h1 := hs.1
  obtain rfl : xs = [] := List.eq_nil_of_length_eq_zero hlen
  clear hlen
  go_enter Tryd.func6, Tryd.ntmps6
  go_wp2_with fail
  refine (awake_yes w HT.out).mono ?_
  rintro e w1 ⟨rfl, hb1⟩
  have hx1 := hx.below hb1
  have hw1 := hb1
  clear hx
  go_wp2_with fail
  refine (small_yes A none ca 0 40 [] [] _ hx1 Rd.nil_ hs).mono ?_
  rintro e w' ⟨rfl, rfl⟩
  go_wp2_with fail
  refine (Shift_dn A ca n N [] _ HN.out hx1 hca ox dx (by omega) (by omega)).mono ?_
  rintro e w2 ⟨S, sc, ss, hS2, hsc, hb2, hqs, rfl⟩
  have hx2 := hx1.below hb2
  have hw2 := hw1.trans (hb2.mono hw1.size)
  clear hx1 hw1 hb2
  have HQS := Lib.hid hqs
  have hls := hqs.2.2
  clear hqs
  have hneg : -N = n := by have := HN.out; omega
  go_wp2_with fail
  refine (Bits_ok A ca [] _ hx2 dx ox).mono ?_
  rintro e w' ⟨b, rfl, hbits, rfl⟩
  have HBB := Lib.hid hbits
  clear hbits
  go_wp2_with fail
  refine (of_any A ca [] _ hx2 (by omega) dx).mono ?_
  rintro e w3 ⟨X, xc, nx, rfl, hxc, hX3, hb3, hvx, hnx, hlx⟩
  have hx3 := hx2.below hb3
  have hS3 := hS2.below hb3
  have hw3 := hw2.trans (hb3.mono hw2.size)
  clear hx2 hS2 hw2 hb3
  have HVX := Lib.hid hvx
  clear hvx
  go_wp2_with fail
  refine (rbits_any X xc nx _ hX3 (by omega) hnx).mono ?_
  rintro e w4 ⟨b', rfl, hbb, hb4⟩
  have hx4 := hx3.below hb4
  have hS4 := hS3.below hb4
  have hX4 := hX3.below hb4
  have hw4 := hw3.trans (hb4.mono hw3.size)
  clear hx3 hS3 hX3 hw3 hb4
  obtain rfl : b = b' := HBB.out.eq (by rw [← HVX.out]; exact hbb.out)
  clear HBB hbb
  go_wp2_with fail
  refine (two_any n _ (by omega)).mono ?_
  rintro e w5 ⟨T, tc, nt, rfl, htc, hT5, hb5, hvt, hnt, hlt⟩
  have hx5 := hx4.below hb5
  have hS5 := hS4.below hb5
  have hX5 := hX4.below hb5
  have hw5 := hw4.trans (hb5.mono hw4.size)
  clear hx4 hS4 hX4 hw4 hb5
  have HVT := Lib.hid hvt
  clear hvt
  go_wp2_with fail
  refine (rdiv_any X T xc tc nx nt _ hX5 hT5 (by omega) hnx hnt (two_pos HVT.out)).mono ?_
  rintro e w6 ⟨Q, qc, q, R, rc, r, rfl, hQ6, hR6, hnq, hnr, hdm, hlr, hb6⟩
  have hx6 := hx5.below hb6
  have hS6 := hS5.below hb6
  have hX6 := hX5.below hb6
  have hT6 := hT5.below hb6
  have hw6 := hw5.trans (hb6.mono hw5.size)
  clear hx5 hS5 hX5 hT5 hw5 hb6
  have HVQ : Hid (V32 ss = VD q) := by show _ = _; rw [HQS.out.1, ← HVX.out, ← HVT.out]; exact (div_of hdm.out hlr.out).symm
  have hql : q.length ≤ nx.length := hnx.len_le hnq (by rw [hdm.out]; exact mul_ge _ _ _ (Nat.lt_of_le_of_lt (Nat.zero_le _) hlr.out))
  go_wp2_with fail
  refine (is_yes S Q sc qc ss q _ hS6 hQ6 (by omega) (by omega) HQS.out.2.1 hnq HVQ.out).mono ?_
  rintro e w7 ⟨rfl, hb7⟩
  have hx7 := hx6.below hb7
  have hS7 := hS6.below hb7
  have hX7 := hX6.below hb7
  have hT7 := hT6.below hb7
  have hQ7 := hQ6.below hb7
  have hw7 := hw6.trans (hb7.mono hw6.size)
  clear hx6 hS6 hX6 hT6 hQ6 hw6 hb7
  go_wp2
  all_goals go_ret
  all_goals exact ⟨rfl, hw7⟩

set_option maxHeartbeats 400000 in
theorem shifts_no (A : Option Addr) (ca : Nat) (xs : List Nat) (n : Int) (w : World) (hx : Rd .u32 w A xs) (hs : ¬ SmallOk xs [] 40)
    (htab : Lib.TabBelow Tryd.prog w.heap.size w "internal/strconv.uint64pow10" .u64 Lib.pow10Tab) :
    Calls Tryd.prog 6 #[.slice A xs.length ca, .int .i64 n] w (Yes w) := by
  have HT := Lib.hid htab
  clear htab
  go_enter Tryd.func6, Tryd.ntmps6
  go_wp2_with fail
  refine (awake_yes w HT.out).mono ?_
  rintro e w1 ⟨rfl, hw1⟩
  have hx1 := hx.below hw1
  go_wp2_with fail
  refine (small_no A none ca 0 40 xs [] _ hx1 Rd.nil_ hs).mono ?_
  rintro e w1' ⟨rfl, rfl⟩
  go_wp2
  go_ret
  exact ⟨rfl, hw1⟩

theorem shifts_row (A : Option Addr) (ca : Nat) (xs : List Nat) (n : Int) (_ : (Lit.int .i64 n).wf = true) (w : World) (hx : Rd .u32 w A xs) (dx : Dig 4294967296 xs) (hca : xs.length ≤ ca)
    (htab : Lib.TabBelow Tryd.prog w.heap.size w "internal/strconv.uint64pow10" .u64 Lib.pow10Tab) :
    Calls Tryd.prog 6 #[.slice A xs.length ca, .int .i64 n] w (Yes w) := by
  by_cases hs : SmallOk xs [] 40
  · by_cases ho : n < -200000 ∨ 200000 < n
    · exact shifts_out A ca xs n w hx dx hs ho htab
    · by_cases hp : 0 < xs.length
      · by_cases h0 : 0 ≤ n
        · obtain ⟨m, rfl⟩ := Int.eq_ofNat_of_zero_le h0
          by_cases h2 : m ≤ 2000
          · exact shifts_up_p A ca xs m w hx dx hs hp h2 htab
          · by_cases h3 : m ≤ 100000
            · exact shifts_mid_p A ca xs m w hx dx hs hp h3 (by omega) htab
            · by_cases h4 : m ≤ 131072
              · exact shifts_wide_p A ca xs m w hx dx hs hp (by omega) (by omega) htab
              · exact shifts_big A ca xs m w hx dx hs (by omega) (by omega) (by omega) htab
        · obtain ⟨m, hm⟩ : ∃ m : Nat, n = -(m : Int) := ⟨n.natAbs, by omega⟩
          by_cases h2 : m ≤ 2000
          · exact shifts_dn_p A ca xs m n w hx dx hs hp hca hm (by omega) (by omega) h2 (by omega) htab
          · exact shifts_far_p A ca xs m n w hx dx hs hp hca hm (by omega) (by omega) (by omega) (by omega) htab
      · have hz : xs.length = 0 := by omega
        by_cases h0 : 0 ≤ n
        · obtain ⟨m, rfl⟩ := Int.eq_ofNat_of_zero_le h0
          by_cases h2 : m ≤ 2000
          · exact shifts_up_z A ca xs m w hx dx hs hz h2 htab
          · by_cases h3 : m ≤ 100000
            · exact shifts_mid_z A ca xs m w hx dx hs hz h3 (by omega) htab
            · exact shifts_wide_z A ca xs m w hx dx hs hz (by omega) (by omega) htab
        · obtain ⟨m, hm⟩ : ∃ m : Nat, n = -(m : Int) := ⟨n.natAbs, by omega⟩
          by_cases h2 : m ≤ 2000
          · exact shifts_dn_z A ca xs m n w hx dx hs hz hca hm (by omega) (by omega) h2 (by omega) htab
          · exact shifts_far_z A ca xs m n w hx dx hs hz hca hm (by omega) (by omega) (by omega) (by omega) htab
  · exact shifts_no A ca xs n w hx hs htab
end Go.Proofs.YtgfojfiopcooeaaDoor
