/- isochronelaw01.NatTexts answers true for all arguments. -/
import Derived.Test.YtgfojfiopcooeaaDoorRtext
namespace Go.Proofs.YtgfojfiopcooeaaDoor
open Go.RowKit V

set_option maxHeartbeats 400000 in
theorem rtext_zero (A : Option Addr) (ca : Nat) (w : World) :
    Calls Tryd.prog 38 #[.slice A 0 ca] w (RTextP 0 w) := by
  have h0 : Lib.decDigits 0 = [48] := by rw [Lib.decDigits, dif_pos (by omega)]; rfl
  go_enter Tryd.func38, Tryd.ntmps38
  go_wp2
  go_ret
  exact ⟨by rw [h0]; rfl, Below.refl _ _⟩
theorem rtext_all (A : Option Addr) (ca : Nat) (xs : List Nat) (w : World) (hx : Rd .i64 w A xs) (bl : xs.length ≤ 1000) (nmx : Nm xs) :
    Calls Tryd.prog 38 #[.slice A xs.length ca] w (RTextP (VD xs) w) := by
  rcases Nat.eq_zero_or_pos xs.length with h | h
  · obtain rfl : xs = [] := List.eq_nil_of_length_eq_zero h
    exact rtext_zero A ca w
  · exact rtext_any A ca xs w hx bl nmx h

theorem dec_all (v : Nat) : AllD (Lib.decDigits v) := by
  induction v using Nat.strongRecOn with
  | _ v ih =>
    rw [Lib.decDigits]
    split
    · rename_i h
      intro c hc
      have hc2 : c = UInt8.ofNat (48 + v) := by simpa using hc
      rw [hc2]; unfold isD; rw [dig_byte v h]; omega
    · rename_i h
      intro c hc
      rcases List.mem_append.1 hc with h1 | h1
      · exact ih (v / 10) (by omega) c h1
      · have hc2 : c = UInt8.ofNat (48 + v % 10) := by simpa using h1
        rw [hc2]; unfold isD; rw [dig_byte _ (Nat.mod_lt _ (by omega))]
        have := Nat.mod_lt v (show 10 > 0 by omega)
        omega
theorem dnum_dec (v : Nat) : dnum (Lib.decDigits v) = v := by
  induction v using Nat.strongRecOn with
  | _ v ih =>
    rw [Lib.decDigits]
    split
    · rename_i h
      show dnum ([] ++ [UInt8.ofNat (48 + v)]) = v
      rw [dnum_snoc, dig_byte v h, dnum_nil]; omega
    · rename_i h
      rw [dnum_snoc, ih (v / 10) (by omega), dig_byte _ (Nat.mod_lt _ (by omega))]
      omega
theorem dec_short {xs : List Nat} {k : Nat} (hx : Mag xs) (hl : xs.length ≤ k) (hk : 1 ≤ k) : (Lib.decDigits (V32 xs)).length ≤ 10 * k := by
  refine (pad_eq (10 * k) (V32 xs) (by omega) ?_).1
  have h1 := V32_lt hx hl
  have h2 : 4294967296 ^ k ≤ 10000000000 ^ k := Nat.pow_le_pow_left (by omega) _
  have h3 : (10000000000 : Nat) ^ k = 10 ^ (10 * k) := by rw [Nat.pow_mul]
  omega
/-- The string of a list of bytes. -/
theorem str_size (l : List UInt8) : (⟨l.toArray⟩ : ByteArray).size = l.length := rfl

theorem parse_dec (xs : List Nat) (w : World) (mx : Mag xs) (hl : xs.length ≤ 40) :
    Calls Tryd.prog 37 #[.string ⟨(Lib.decDigits (V32 xs)).toArray⟩] w (OkP (fun zs => zs = xs) w) := by
  have h1 := dec_short mx hl (by omega)
  have h2 := dec_pos (V32 xs)
  refine (parse_ok ⟨(Lib.decDigits (V32 xs)).toArray⟩ w (by rw [str_size]; omega) (by rw [str_size]; exact h2) (dec_all _)).mono ?_
  rintro e w' ⟨Z, zc, zs, g1, g2, g3, g4, g5⟩
  exact ⟨Z, zc, zs, g1, g2, g3, g4.2.eq mx (by rw [g4.1]; exact dnum_dec _), g5⟩
theorem OkP.some {Q : List Nat → Prop} {w w' : World} {e : Ending} (h : OkP Q w e w') : SomeP w e w' := by
  obtain ⟨A, c, zs, h1, h2, h3, h4, h5⟩ := h
  exact ⟨A, c, _, _, h5, h3⟩
theorem parse_some (s : ByteArray) (w : World) (hs : s.size ≤ 20000) (hpos : 0 < s.size) : Calls Tryd.prog 37 #[.string s] w (SomeP w) := by
  by_cases h : AllD s.data.toList
  · exact (parse_ok s w hs hpos h).mono fun _ _ h => h.some
  · exact (parse_bad s w hs hpos h).mono fun _ _ h => h.some

theorem dnum_lt_from (l : List UInt8) (h : AllD l) : ∀ a : Nat, l.foldl (fun n c => n * 10 + (c.toNat - 48)) a < (a + 1) * 10 ^ l.length := by
  induction l with
  | nil => intro a; simp
  | cons c r ih =>
    intro a
    have h1 := ih (fun x hx => h x (List.mem_cons_of_mem _ hx)) (a * 10 + (c.toNat - 48))
    have h2 := h c (by simp)
    unfold isD at h2
    have h3 : (a * 10 + (c.toNat - 48) + 1) * 10 ^ r.length ≤ ((a + 1) * 10) * 10 ^ r.length := Nat.mul_le_mul_right _ (by omega)
    rw [List.length_cons, Nat.pow_succ, Nat.mul_comm (10 ^ r.length), ← Nat.mul_assoc]
    exact Nat.lt_of_lt_of_le h1 h3
theorem dnum_lt (l : List UInt8) (h : AllD l) : dnum l < 10 ^ l.length := by
  have := dnum_lt_from l h 0
  unfold dnum; simpa using this
theorem pow_len_dec {zs : List Nat} {s : ByteArray} {k : Nat} (h1 : V32 zs = dnum s.data.toList) (h2 : Mag zs) (hd : AllD s.data.toList) (hl : s.size ≤ k) : zs.length ≤ k := by
  refine len_of_lt (B := 4294967296) (by omega) h2.2 ?_
  show V32 zs < _
  have h3 := dnum_lt _ hd
  have h4 : s.data.toList.length = s.size := by simp
  have h5 : 10 ^ s.size ≤ 10 ^ k := Nat.pow_le_pow_right (by omega) hl
  have h6 : 10 ^ k ≤ 4294967296 ^ k := Nat.pow_le_pow_left (by omega) _
  rw [h4] at h3
  omega

set_option maxRecDepth 100000 in
set_option maxHeartbeats 1600000 in
theorem texts_long (A : Option Addr) (ca : Nat) (xs : List Nat) (s : ByteArray) (w : World) (hx : Rd .u32 w A xs) (dx : Dig 4294967296 xs) (hs : SmallOk xs [] 40) (n : Int) (hn : (s.size : Int) = n) (hsz : 20000 < n)
    (htab : Lib.TabBelow Tryd.prog w.heap.size w "internal/strconv.uint64pow10" .u64 Lib.pow10Tab) :
    Calls Tryd.prog 8 #[.slice A xs.length ca, .string s] w (Yes w) := by
  have HT := Lib.hid htab
  clear htab
  have mx : Mag xs := ⟨dx, hs.2.2.1.2⟩
  have h1 := hs.1
  go_enter Tryd.func8, Tryd.ntmps8
  go_wp2_with fail
  refine (awake_yes w HT.out).mono ?_
  rintro e w1 ⟨rfl, hb1⟩
  have hx1 := hx.below hb1
  have hw1 := hb1
  clear hx
  have HT1 : Hid (Lib.TabBelow Tryd.prog w1.heap.size w1 "internal/strconv.uint64pow10" .u64 Lib.pow10Tab) := fun w' h => HT.out w' (hw1.trans (h.mono hw1.size))
  go_wp2_with fail
  refine (small_yes A none ca 0 40 xs [] _ hx1 Rd.nil_ hs).mono ?_
  rintro e w' ⟨rfl, rfl⟩
  go_wp2_with fail
  refine (text_any A ca xs _ hx1 mx (by omega) HT1.out).mono ?_
  rintro e w2 ⟨rfl, hb2⟩
  have hx2 := hx1.below hb2
  have hw2 := hw1.trans (hb2.mono hw1.size)
  clear hx1 hw1 hb2
  go_wp2_with fail
  refine (parse_dec xs _ mx h1).mono ?_
  rintro e w3 ⟨S, sc, ss, hS3, hsc, hb3, rfl, rfl⟩
  have hx3 := hx2.below hb3
  have hw3 := hw2.trans (hb3.mono hw2.size)
  clear hx2 hw2 hb3
  go_wp2_with fail
  refine (of_any A ca ss _ hx3 (by omega) dx).mono ?_
  rintro e w4 ⟨X, xc, nx, rfl, hxc, hX4, hb4, hvx, hnx, hlx⟩
  have hx4 := hx3.below hb4
  have hS4 := hS3.below hb4
  have hw4 := hw3.trans (hb4.mono hw3.size)
  clear hx3 hS3 hw3 hb4
  have HVX := Lib.hid hvx
  clear hvx
  go_wp2_with fail
  refine (rtext_all X xc nx _ hX4 (by omega) hnx).mono ?_
  rintro e w5 ⟨he, hb5⟩
  have hx5 := hx4.below hb5
  have hS5 := hS4.below hb5
  have hX5 := hX4.below hb5
  have hw5 := hw4.trans (hb5.mono hw4.size)
  clear hx4 hS4 hX4 hw4 hb5
  rw [HVX.out] at he
  subst he
  go_wp2_with fail
  refine (equal_yes S A sc ca _ ss _ rfl hS5 hx5 (by omega)).mono ?_
  rintro e w6 ⟨rfl, n6, hwe⟩
  have hb6 : Below w5.heap.size w5 w6 := by rw [hwe]; exact below_drew_ (Below.refl _ _) n6
  clear hwe
  have hx6 := hx5.below hb6
  have hS6 := hS5.below hb6
  have hX6 := hX5.below hb6
  have hw6 := hw5.trans (hb6.mono hw5.size)
  clear hx5 hS5 hX5 hw5 hb6
  go_wp2_with fail
  refine (parse_long s n _ hn hsz).mono ?_
  rintro e w7 ⟨rfl, hb7⟩
  have hx7 := hx6.below hb7
  have hS7 := hS6.below hb7
  have hX7 := hX6.below hb7
  have hw7 := hw6.trans (hb7.mono hw6.size)
  clear hx6 hS6 hX6 hw6 hb7
  go_wp2
  all_goals go_ret
  all_goals exact ⟨rfl, hw7⟩

set_option maxRecDepth 100000 in
set_option maxHeartbeats 1600000 in
theorem texts_mid (A : Option Addr) (ca : Nat) (xs : List Nat) (s : ByteArray) (w : World) (hx : Rd .u32 w A xs) (dx : Dig 4294967296 xs) (hs : SmallOk xs [] 40) (n : Int) (hn : (s.size : Int) = n) (hsz : n ≤ 20000) (hsz2 : 400 < n) 
    (htab : Lib.TabBelow Tryd.prog w.heap.size w "internal/strconv.uint64pow10" .u64 Lib.pow10Tab) :
    Calls Tryd.prog 8 #[.slice A xs.length ca, .string s] w (Yes w) := by
  have HT := Lib.hid htab
  clear htab
  have mx : Mag xs := ⟨dx, hs.2.2.1.2⟩
  have h1 := hs.1
  go_enter Tryd.func8, Tryd.ntmps8
  go_wp2_with fail
  refine (awake_yes w HT.out).mono ?_
  rintro e w1 ⟨rfl, hb1⟩
  have hx1 := hx.below hb1
  have hw1 := hb1
  clear hx
  have HT1 : Hid (Lib.TabBelow Tryd.prog w1.heap.size w1 "internal/strconv.uint64pow10" .u64 Lib.pow10Tab) := fun w' h => HT.out w' (hw1.trans (h.mono hw1.size))
  go_wp2_with fail
  refine (small_yes A none ca 0 40 xs [] _ hx1 Rd.nil_ hs).mono ?_
  rintro e w' ⟨rfl, rfl⟩
  go_wp2_with fail
  refine (text_any A ca xs _ hx1 mx (by omega) HT1.out).mono ?_
  rintro e w2 ⟨rfl, hb2⟩
  have hx2 := hx1.below hb2
  have hw2 := hw1.trans (hb2.mono hw1.size)
  clear hx1 hw1 hb2
  go_wp2_with fail
  refine (parse_dec xs _ mx h1).mono ?_
  rintro e w3 ⟨S, sc, ss, hS3, hsc, hb3, rfl, rfl⟩
  have hx3 := hx2.below hb3
  have hw3 := hw2.trans (hb3.mono hw2.size)
  clear hx2 hw2 hb3
  go_wp2_with fail
  refine (of_any A ca ss _ hx3 (by omega) dx).mono ?_
  rintro e w4 ⟨X, xc, nx, rfl, hxc, hX4, hb4, hvx, hnx, hlx⟩
  have hx4 := hx3.below hb4
  have hS4 := hS3.below hb4
  have hw4 := hw3.trans (hb4.mono hw3.size)
  clear hx3 hS3 hw3 hb4
  have HVX := Lib.hid hvx
  clear hvx
  go_wp2_with fail
  refine (rtext_all X xc nx _ hX4 (by omega) hnx).mono ?_
  rintro e w5 ⟨he, hb5⟩
  have hx5 := hx4.below hb5
  have hS5 := hS4.below hb5
  have hX5 := hX4.below hb5
  have hw5 := hw4.trans (hb5.mono hw4.size)
  clear hx4 hS4 hX4 hw4 hb5
  rw [HVX.out] at he
  subst he
  go_wp2_with fail
  refine (equal_yes S A sc ca _ ss _ rfl hS5 hx5 (by omega)).mono ?_
  rintro e w6 ⟨rfl, n6, hwe⟩
  have hb6 : Below w5.heap.size w5 w6 := by rw [hwe]; exact below_drew_ (Below.refl _ _) n6
  clear hwe
  have hx6 := hx5.below hb6
  have hS6 := hS5.below hb6
  have hX6 := hX5.below hb6
  have hw6 := hw5.trans (hb6.mono hw5.size)
  clear hx5 hS5 hX5 hw5 hb6
  go_wp2_with fail
  refine (parse_some s _ (by omega) (by omega)).mono ?_
  rintro e w7 ⟨Z, zc, m, en, rfl, hb7⟩
  have hx7 := hx6.below hb7
  have hS7 := hS6.below hb7
  have hX7 := hX6.below hb7
  have hw7 := hw6.trans (hb7.mono hw6.size)
  clear hx6 hS6 hX6 hw6 hb7
  go_wp2
  all_goals go_ret
  all_goals exact ⟨rfl, hw7⟩

set_option maxRecDepth 100000 in
set_option maxHeartbeats 1600000 in
theorem texts_bad (A : Option Addr) (ca : Nat) (xs : List Nat) (s : ByteArray) (w : World) (hx : Rd .u32 w A xs) (dx : Dig 4294967296 xs) (hs : SmallOk xs [] 40) (hsz : s.size ≤ 400) (hpos : 0 < s.size) (hd : ¬ AllD s.data.toList)
    (htab : Lib.TabBelow Tryd.prog w.heap.size w "internal/strconv.uint64pow10" .u64 Lib.pow10Tab) :
    Calls Tryd.prog 8 #[.slice A xs.length ca, .string s] w (Yes w) := by
  have HT := Lib.hid htab
  clear htab
  have mx : Mag xs := ⟨dx, hs.2.2.1.2⟩
  have h1 := hs.1
  go_enter Tryd.func8, Tryd.ntmps8
  go_wp2_with fail
  refine (awake_yes w HT.out).mono ?_
  rintro e w1 ⟨rfl, hb1⟩
  have hx1 := hx.below hb1
  have hw1 := hb1
  clear hx
  have HT1 : Hid (Lib.TabBelow Tryd.prog w1.heap.size w1 "internal/strconv.uint64pow10" .u64 Lib.pow10Tab) := fun w' h => HT.out w' (hw1.trans (h.mono hw1.size))
  go_wp2_with fail
  refine (small_yes A none ca 0 40 xs [] _ hx1 Rd.nil_ hs).mono ?_
  rintro e w' ⟨rfl, rfl⟩
  go_wp2_with fail
  refine (text_any A ca xs _ hx1 mx (by omega) HT1.out).mono ?_
  rintro e w2 ⟨rfl, hb2⟩
  have hx2 := hx1.below hb2
  have hw2 := hw1.trans (hb2.mono hw1.size)
  clear hx1 hw1 hb2
  go_wp2_with fail
  refine (parse_dec xs _ mx h1).mono ?_
  rintro e w3 ⟨S, sc, ss, hS3, hsc, hb3, rfl, rfl⟩
  have hx3 := hx2.below hb3
  have hw3 := hw2.trans (hb3.mono hw2.size)
  clear hx2 hw2 hb3
  go_wp2_with fail
  refine (of_any A ca ss _ hx3 (by omega) dx).mono ?_
  rintro e w4 ⟨X, xc, nx, rfl, hxc, hX4, hb4, hvx, hnx, hlx⟩
  have hx4 := hx3.below hb4
  have hS4 := hS3.below hb4
  have hw4 := hw3.trans (hb4.mono hw3.size)
  clear hx3 hS3 hw3 hb4
  have HVX := Lib.hid hvx
  clear hvx
  go_wp2_with fail
  refine (rtext_all X xc nx _ hX4 (by omega) hnx).mono ?_
  rintro e w5 ⟨he, hb5⟩
  have hx5 := hx4.below hb5
  have hS5 := hS4.below hb5
  have hX5 := hX4.below hb5
  have hw5 := hw4.trans (hb5.mono hw4.size)
  clear hx4 hS4 hX4 hw4 hb5
  rw [HVX.out] at he
  subst he
  go_wp2_with fail
  refine (equal_yes S A sc ca _ ss _ rfl hS5 hx5 (by omega)).mono ?_
  rintro e w6 ⟨rfl, n6, hwe⟩
  have hb6 : Below w5.heap.size w5 w6 := by rw [hwe]; exact below_drew_ (Below.refl _ _) n6
  clear hwe
  have hx6 := hx5.below hb6
  have hS6 := hS5.below hb6
  have hX6 := hX5.below hb6
  have hw6 := hw5.trans (hb6.mono hw5.size)
  clear hx5 hS5 hX5 hw5 hb6
  go_wp2_with fail
  refine (parse_bad s _ (by omega) hpos hd).mono ?_
  rintro e w7 ⟨rfl, hb7⟩
  have hx7 := hx6.below hb7
  have hS7 := hS6.below hb7
  have hX7 := hX6.below hb7
  have hw7 := hw6.trans (hb7.mono hw6.size)
  clear hx6 hS6 hX6 hw6 hb7
  go_wp2_with fail
  refine (decimal_no s _ (by omega) hd).mono ?_
  rintro e w' ⟨rfl, rfl⟩
  go_wp2
  all_goals go_ret
  all_goals exact ⟨rfl, hw7⟩

set_option maxRecDepth 100000 in
set_option maxHeartbeats 1600000 in
theorem texts_nil (A : Option Addr) (ca : Nat) (xs : List Nat) (s : ByteArray) (w : World) (hx : Rd .u32 w A xs) (dx : Dig 4294967296 xs) (hs : SmallOk xs [] 40) (hsz : s.size = 0)
    (htab : Lib.TabBelow Tryd.prog w.heap.size w "internal/strconv.uint64pow10" .u64 Lib.pow10Tab) :
    Calls Tryd.prog 8 #[.slice A xs.length ca, .string s] w (Yes w) := by
  have HT := Lib.hid htab
  clear htab
  have mx : Mag xs := ⟨dx, hs.2.2.1.2⟩
  have h1 := hs.1
  go_enter Tryd.func8, Tryd.ntmps8
  go_wp2_with fail
  refine (awake_yes w HT.out).mono ?_
  rintro e w1 ⟨rfl, hb1⟩
  have hx1 := hx.below hb1
  have hw1 := hb1
  clear hx
  have HT1 : Hid (Lib.TabBelow Tryd.prog w1.heap.size w1 "internal/strconv.uint64pow10" .u64 Lib.pow10Tab) := fun w' h => HT.out w' (hw1.trans (h.mono hw1.size))
  go_wp2_with fail
  refine (small_yes A none ca 0 40 xs [] _ hx1 Rd.nil_ hs).mono ?_
  rintro e w' ⟨rfl, rfl⟩
  go_wp2_with fail
  refine (text_any A ca xs _ hx1 mx (by omega) HT1.out).mono ?_
  rintro e w2 ⟨rfl, hb2⟩
  have hx2 := hx1.below hb2
  have hw2 := hw1.trans (hb2.mono hw1.size)
  clear hx1 hw1 hb2
  go_wp2_with fail
  refine (parse_dec xs _ mx h1).mono ?_
  rintro e w3 ⟨S, sc, ss, hS3, hsc, hb3, rfl, rfl⟩
  have hx3 := hx2.below hb3
  have hw3 := hw2.trans (hb3.mono hw2.size)
  clear hx2 hw2 hb3
  go_wp2_with fail
  refine (of_any A ca ss _ hx3 (by omega) dx).mono ?_
  rintro e w4 ⟨X, xc, nx, rfl, hxc, hX4, hb4, hvx, hnx, hlx⟩
  have hx4 := hx3.below hb4
  have hS4 := hS3.below hb4
  have hw4 := hw3.trans (hb4.mono hw3.size)
  clear hx3 hS3 hw3 hb4
  have HVX := Lib.hid hvx
  clear hvx
  go_wp2_with fail
  refine (rtext_all X xc nx _ hX4 (by omega) hnx).mono ?_
  rintro e w5 ⟨he, hb5⟩
  have hx5 := hx4.below hb5
  have hS5 := hS4.below hb5
  have hX5 := hX4.below hb5
  have hw5 := hw4.trans (hb5.mono hw4.size)
  clear hx4 hS4 hX4 hw4 hb5
  rw [HVX.out] at he
  subst he
  go_wp2_with fail
  refine (equal_yes S A sc ca _ ss _ rfl hS5 hx5 (by omega)).mono ?_
  rintro e w6 ⟨rfl, n6, hwe⟩
  have hb6 : Below w5.heap.size w5 w6 := by rw [hwe]; exact below_drew_ (Below.refl _ _) n6
  clear hwe
  have hx6 := hx5.below hb6
  have hS6 := hS5.below hb6
  have hX6 := hX5.below hb6
  have hw6 := hw5.trans (hb6.mono hw5.size)
  clear hx5 hS5 hX5 hw5 hb6
  go_wp2_with fail
  refine (parse_empty s _ hsz).mono ?_
  rintro e w7 ⟨rfl, hb7⟩
  have hx7 := hx6.below hb7
  have hS7 := hS6.below hb7
  have hX7 := hX6.below hb7
  have hw7 := hw6.trans (hb7.mono hw6.size)
  clear hx6 hS6 hX6 hw6 hb7
  go_wp2_with fail
  refine (decimal_empty s _ hsz).mono ?_
  rintro e w' ⟨rfl, rfl⟩
  go_wp2
  all_goals go_ret
  all_goals exact ⟨rfl, hw7⟩

set_option maxRecDepth 100000 in
set_option maxHeartbeats 1600000 in
theorem texts_ok (A : Option Addr) (ca : Nat) (xs : List Nat) (s : ByteArray) (w : World) (hx : Rd .u32 w A xs) (dx : Dig 4294967296 xs) (hs : SmallOk xs [] 40) (hsz : s.size ≤ 400) (hpos : 0 < s.size) (hd : AllD s.data.toList)
    (htab : Lib.TabBelow Tryd.prog w.heap.size w "internal/strconv.uint64pow10" .u64 Lib.pow10Tab) :
    Calls Tryd.prog 8 #[.slice A xs.length ca, .string s] w (Yes w) := by
  have HT := Lib.hid htab
  clear htab
  have mx : Mag xs := ⟨dx, hs.2.2.1.2⟩
  have h1 := hs.1
  go_enter Tryd.func8, Tryd.ntmps8
  go_wp2_with fail
  refine (awake_yes w HT.out).mono ?_
  rintro e w1 ⟨rfl, hb1⟩
  have hx1 := hx.below hb1
  have hw1 := hb1
  clear hx
  have HT1 : Hid (Lib.TabBelow Tryd.prog w1.heap.size w1 "internal/strconv.uint64pow10" .u64 Lib.pow10Tab) := fun w' h => HT.out w' (hw1.trans (h.mono hw1.size))
  go_wp2_with fail
  refine (small_yes A none ca 0 40 xs [] _ hx1 Rd.nil_ hs).mono ?_
  rintro e w' ⟨rfl, rfl⟩
  go_wp2_with fail
  refine (text_any A ca xs _ hx1 mx (by omega) HT1.out).mono ?_
  rintro e w2 ⟨rfl, hb2⟩
  have hx2 := hx1.below hb2
  have hw2 := hw1.trans (hb2.mono hw1.size)
  clear hx1 hw1 hb2
  go_wp2_with fail
  refine (parse_dec xs _ mx h1).mono ?_
  rintro e w3 ⟨S, sc, ss, hS3, hsc, hb3, rfl, rfl⟩
  have hx3 := hx2.below hb3
  have hw3 := hw2.trans (hb3.mono hw2.size)
  clear hx2 hw2 hb3
  go_wp2_with fail
  refine (of_any A ca ss _ hx3 (by omega) dx).mono ?_
  rintro e w4 ⟨X, xc, nx, rfl, hxc, hX4, hb4, hvx, hnx, hlx⟩
  have hx4 := hx3.below hb4
  have hS4 := hS3.below hb4
  have hw4 := hw3.trans (hb4.mono hw3.size)
  clear hx3 hS3 hw3 hb4
  have HVX := Lib.hid hvx
  clear hvx
  go_wp2_with fail
  refine (rtext_all X xc nx _ hX4 (by omega) hnx).mono ?_
  rintro e w5 ⟨he, hb5⟩
  have hx5 := hx4.below hb5
  have hS5 := hS4.below hb5
  have hX5 := hX4.below hb5
  have hw5 := hw4.trans (hb5.mono hw4.size)
  clear hx4 hS4 hX4 hw4 hb5
  rw [HVX.out] at he
  subst he
  go_wp2_with fail
  refine (equal_yes S A sc ca _ ss _ rfl hS5 hx5 (by omega)).mono ?_
  rintro e w6 ⟨rfl, n6, hwe⟩
  have hb6 : Below w5.heap.size w5 w6 := by rw [hwe]; exact below_drew_ (Below.refl _ _) n6
  clear hwe
  have hx6 := hx5.below hb6
  have hS6 := hS5.below hb6
  have hX6 := hX5.below hb6
  have hw6 := hw5.trans (hb6.mono hw5.size)
  clear hx5 hS5 hX5 hw5 hb6
  go_wp2_with fail
  refine (parse_ok s _ (by omega) hpos hd).mono ?_
  rintro e w7 ⟨Z, zc, zs, hZ7, hzc, hb7, hq, rfl⟩
  have hx7 := hx6.below hb7
  have hS7 := hS6.below hb7
  have hX7 := hX6.below hb7
  have hw7 := hw6.trans (hb7.mono hw6.size)
  clear hx6 hS6 hX6 hw6 hb7
  have HQ := Lib.hid hq
  have hzl := pow_len_dec (k := 400) HQ.out.1 HQ.out.2 hd hsz
  clear hq
  go_wp2_with fail
  refine (decimal_yes s _ (by omega) hd hpos).mono ?_
  rintro e w' ⟨rfl, rfl⟩
  go_wp2_with fail
  refine (digits_any s _ (by omega) hd).mono ?_
  rintro e w8 ⟨D, dc, ds, rfl, hdc, hD8, hb8, hvd, hnd, hld⟩
  have hx8 := hx7.below hb8
  have hS8 := hS7.below hb8
  have hX8 := hX7.below hb8
  have hZ8 := hZ7.below hb8
  have hw8 := hw7.trans (hb8.mono hw7.size)
  clear hx7 hS7 hX7 hZ7 hw7 hb8
  have HVD : Hid (V32 zs = VD ds) := by show _ = _; rw [HQ.out.1, hvd]
  clear hvd
  go_wp2_with fail
  refine (is_yes Z D zc dc zs ds _ hZ8 hD8 (by omega) (by omega) HQ.out.2 hnd HVD.out).mono ?_
  rintro e w9 ⟨rfl, hb9⟩
  have hx9 := hx8.below hb9
  have hS9 := hS8.below hb9
  have hX9 := hX8.below hb9
  have hZ9 := hZ8.below hb9
  have hD9 := hD8.below hb9
  have hw9 := hw8.trans (hb9.mono hw8.size)
  clear hx8 hS8 hX8 hZ8 hD8 hw8 hb9
  go_wp2
  all_goals go_ret
  all_goals exact ⟨rfl, hw9⟩

set_option maxHeartbeats 400000 in
theorem texts_no (A : Option Addr) (ca : Nat) (xs : List Nat) (s : ByteArray) (w : World) (hx : Rd .u32 w A xs) (hs : ¬ SmallOk xs [] 40)
    (htab : Lib.TabBelow Tryd.prog w.heap.size w "internal/strconv.uint64pow10" .u64 Lib.pow10Tab) :
    Calls Tryd.prog 8 #[.slice A xs.length ca, .string s] w (Yes w) := by
  have HT := Lib.hid htab
  clear htab
  go_enter Tryd.func8, Tryd.ntmps8
  go_wp2_with fail
  refine (awake_yes w HT.out).mono ?_
  rintro e w1 ⟨rfl, hw1⟩
  have hx1 := hx.below hw1
  go_wp2_with fail
  refine (small_no A none ca 0 40 xs [] _ hx1 Rd.nil_ hs).mono ?_
  rintro e w1' ⟨rfl, rfl⟩
  go_wp2
  go_ret
  exact ⟨rfl, hw1⟩

theorem texts_row (A : Option Addr) (ca : Nat) (xs : List Nat) (s : ByteArray) (_ : s.size ≤ maxLen) (w : World) (hx : Rd .u32 w A xs) (dx : Dig 4294967296 xs)
    (htab : Lib.TabBelow Tryd.prog w.heap.size w "internal/strconv.uint64pow10" .u64 Lib.pow10Tab) :
    Calls Tryd.prog 8 #[.slice A xs.length ca, .string s] w (Yes w) := by
  by_cases hs : SmallOk xs [] 40
  · by_cases h1 : 20000 < s.size
    · exact texts_long A ca xs s w hx dx hs _ rfl (by omega) htab
    · by_cases h2 : 400 < s.size
      · exact texts_mid A ca xs s w hx dx hs _ rfl (by omega) (by omega) htab
      · rcases Nat.eq_zero_or_pos s.size with h3 | h3
        · exact texts_nil A ca xs s w hx dx hs h3 htab
        · by_cases hd : AllD s.data.toList
          · exact texts_ok A ca xs s w hx dx hs (by omega) h3 hd htab
          · exact texts_bad A ca xs s w hx dx hs (by omega) h3 hd htab
  · exact texts_no A ca xs s w hx hs htab
end Go.Proofs.YtgfojfiopcooeaaDoor
