/- isochronelaw01.NatLimits answers true for all numbers. -/
import Derived.Test.YtgfojfiopcooeaaDoorRing
namespace Go.Proofs.YtgfojfiopcooeaaDoor
open Go.RowKit V

theorem val_max (B n : Nat) (hB : 1 ≤ B) : val B (List.replicate n (B - 1)) + 1 = B ^ n := by
  induction n with
  | zero => simp [val]
  | succ n ih =>
    rw [List.replicate_succ, val_cons, Nat.pow_succ, ← ih, Nat.add_mul, Nat.mul_comm _ B]
    omega
theorem getD_ext {xs ys : List Nat} (hl : xs.length = ys.length) (h : ∀ j, j < xs.length → xs.getD j 0 = ys.getD j 0) : xs = ys := by
  apply List.ext_getElem hl
  intro i h1 h2
  have := h i h1
  simpa [List.getD_eq_getElem?_getD, List.getElem?_eq_getElem h1, List.getElem?_eq_getElem h2] using this
theorem getD_rep (n v j : Nat) (h : j < n) : (List.replicate n v).getD j 0 = v := by
  simp [List.getD_eq_getElem?_getD, h]
/-- zeros and a digit on top. -/
def top (n d : Nat) : List Nat := List.replicate n 0 ++ [d]
theorem top_val (B n d : Nat) : val B (top n d) = B ^ n * d := by
  unfold top; rw [val_append, val_zeros, List.length_replicate, val_one, Nat.zero_add]
theorem top_len (n d : Nat) : (top n d).length = n + 1 := by simp [top]
theorem top_mag (n d : Nat) (h : d < 4294967296) (h0 : d ≠ 0) : Mag (top n d) :=
  ⟨(Dig.zeros (by omega) n).snoc h, by unfold top; exact nrm_snoc h0⟩
theorem top_low (n d j : Nat) (h : j < n) : (top n d).getD j 0 = 0 := by
  unfold top
  rw [List.getD_eq_getElem?_getD, List.getElem?_append_left (by rw [List.length_replicate]; exact h), List.getElem?_replicate, if_pos h]; rfl
theorem top_high (n d : Nat) : (top n d).getD n 0 = d := by
  unfold top
  rw [List.getD_eq_getElem?_getD, List.getElem?_append_right (by rw [List.length_replicate]; omega), List.length_replicate, Nat.sub_self]; rfl
theorem ones_mag (n : Nat) : Mag (List.replicate n 4294967295) := by
  refine ⟨fun x hx => by have := List.eq_of_mem_replicate hx; omega, fun hl => ?_⟩
  rw [List.length_replicate] at hl ⊢
  rw [getD_rep _ _ _ (by omega)]
  omega
theorem ones_val (n : Nat) : V32 (List.replicate n 4294967295) + 1 = 4294967296 ^ n := val_max 4294967296 n (by omega)
theorem long_of_ge {zs : List Nat} (hz : Mag zs) {k : Nat} (h : 4294967296 ^ k ≤ V32 zs) : k < zs.length := by
  rcases Nat.lt_or_ge k zs.length with h1 | h1
  · exact h1
  · have := V32_lt hz h1; omega
theorem over_ge (m o : Nat) (h : 1 ≤ o) : 4294967296 ^ (m + 1) ≤ V32 (List.replicate (m + 1) 4294967295) + V32 [o] := by
  have := ones_val (m + 1)
  rw [V32_one]
  omega
/-- What ones and an odd word sum to. -/
def sumOf (m o : Nat) : List Nat := (o - 1) :: top m 1
theorem sumOf_len (m o : Nat) : (sumOf m o).length = m + 2 := by simp [sumOf, top_len]
theorem sumOf_mag (m o : Nat) (h1 : 1 ≤ o) (h2 : o < 4294967296) : Mag (sumOf m o) := by
  have h := top_mag m 1 (by omega) (by omega)
  refine ⟨fun x hx => ?_, fun _ => ?_⟩
  · rcases List.mem_cons.1 hx with h3 | h3
    · omega
    · exact h.1 x h3
  · have := top_high m 1
    rw [sumOf_len]
    show ((o - 1) :: top m 1).getD (m + 1) 0 ≠ 0
    rw [List.getD_cons_succ, this]
    omega
theorem sumOf_val (m o : Nat) (h : 1 ≤ o) : V32 (List.replicate (m + 1) 4294967295) + V32 [o] = V32 (sumOf m o) := by
  have h1 := ones_val (m + 1)
  rw [V32_one]
  show _ = val 4294967296 ((o - 1) :: top m 1)
  rw [val_cons, top_val, Nat.mul_one, Nat.mul_comm, ← Nat.pow_succ]
  omega
theorem sumOf_0 (m o : Nat) : (sumOf m o).getD 0 0 = o - 1 := rfl
theorem sumOf_top (m o : Nat) : (sumOf m o).getD (m + 1) 0 = 1 := by
  show ((o - 1) :: top m 1).getD (m + 1) 0 = 1
  rw [List.getD_cons_succ, top_high]
theorem FitP.big {Q : List Nat → Prop} {w w' : World} {e : Ending} (h : FitP Q w e w') (hq : ∀ zs, Q zs → 4096 < zs.length) : ErrP 2 w e w' := by
  obtain ⟨A, c, zs, h1, h2, h3, h4, h5⟩ := h
  have := hq zs h4
  rcases h5 with h5 | h5
  · omega
  · exact ⟨h5.2, h3⟩

theorem Add_okN (A B : Option Addr) (c d n k : Nat) (xs ys : List Nat) (w : World) (hn : xs.length = n) (hk : ys.length = k) (hx : Rd .u32 w A xs) (hy : Rd .u32 w B ys) (mx : Mag xs) (my : Mag ys) (lx : n ≤ 4096) (ly : k ≤ 4096) :
    Calls Tryd.prog 15 #[.slice A n c, .slice B k d] w (FitP (fun zs => V32 zs = V32 xs + V32 ys ∧ Mag zs) w) := by
  subst hn; subst hk; exact Add_ok A B c d xs ys w hx hy mx my lx ly
theorem Mul_okN (A B : Option Addr) (c d n k : Nat) (xs ys : List Nat) (w : World) (hn : xs.length = n) (hk : ys.length = k) (hx : Rd .u32 w A xs) (hy : Rd .u32 w B ys) (mx : Mag xs) (my : Mag ys) (lx : n ≤ 4096) (ly : k ≤ 4096) :
    Calls Tryd.prog 16 #[.slice A n c, .slice B k d] w (FitP (fun zs => V32 zs = V32 xs * V32 ys ∧ Mag zs) w) := by
  subst hn; subst hk; exact Mul_ok A B c d xs ys w hx hy mx my lx ly

theorem nums_top (m : Nat) (h : (List.replicate (m + 1) 0).set m 1 = top m 1) : (nums .u32 (List.replicate (m + 1) 0)).set m (.int .u32 1) = nums .u32 (top m 1) := by
  rw [← h]; simp [nums, List.map_set]
/-- The last part of the law: the product of a power of two with itself. -/
theorem set_top (m : Nat) : (List.replicate (m + 1) 0).set m 1 = top m 1 := by
  apply getD_ext
  · rw [List.length_set, List.length_replicate, top_len]
  · intro j hj
    rw [List.length_set, List.length_replicate] at hj
    rw [getD_set _ _ _ _ (by rw [List.length_replicate]; omega)]
    by_cases h : j = m
    · subst h; rw [if_pos rfl, top_high]
    · rw [if_neg h, getD_rep _ _ _ hj, top_low _ _ _ (by omega)]

set_option maxRecDepth 100000 in
set_option maxHeartbeats 1600000 in
theorem limits_nat (q l : Nat) (w : World) (hq : q ≤ 65535) (hl : l < 4294967296)
    (htab : Lib.TabBelow Tryd.prog w.heap.size w "internal/strconv.uint64pow10" .u64 Lib.pow10Tab) :
    Calls Tryd.prog 10 #[.int .u16 q, .int .u32 l] w (Yes w) := by
  have HT := Lib.hid htab
  clear htab
  obtain ⟨m, hm, hmod⟩ : ∃ m : Nat, m ≤ 4095 ∧ (q : Int) % 4096 = m := ⟨q % 4096, by omega, by omega⟩
  obtain ⟨o, ho1, ho2, hor⟩ : ∃ o : Nat, 1 ≤ o ∧ o < 4294967296 ∧ bits .or .u32 (l : Int) 1 = o :=
    ⟨l ||| 1, Nat.right_le_or, Nat.or_lt_two_pow (n := 32) (by omega) (by omega), by have := u32_or_nat l 1 hl (by omega); exact this⟩
  have hmk := fun W => make_u32 (m + 1) ((m : Int) + 1) (by omega) (by omega) W
  go_enter Tryd.func10, Tryd.ntmps10
  go_wp2_with fail
  refine (awake_yes w HT.out).mono ?_
  rintro e w1 ⟨rfl, hw1⟩
  go_wp2_with fail
  clear hmod hmk
  have HOR := Lib.hid hor
  clear hor
  go_loopw [7, 26] (fun _ n wr => ∃ i : Nat, ∃ cur : List Nat, i ≤ m + 1 ∧ n = .int .i64 i ∧ cur.length = m + 1 ∧ (∀ j, j < i → cur.getD j 0 = 4294967295) ∧ Row .u32 42 wr w1.heap.size cur ∧ Below w1.heap.size w1 wr) (fun _ n _ => m + 1 - (intOf n).toNat)
  case atStart => exact ⟨0, _, Nat.zero_le _, rfl, List.length_replicate, fun j h => absurd h (by omega), Row.new _ _, (Below.refl _ _).alloc (Nat.le_refl _) _⟩
  case round =>
    obtain ⟨i, cur, hi, rfl, hcl, hv, hrow, hbw⟩ := hrel
    have HCL := Lib.hid hcl
    have HV := Lib.hid hv
    clear hcl hv
    by_cases hlt : i < m + 1
    · have hkc : i < cur.length := by have := HCL.out; omega
      have hcell := hrow.cell hkc
      have hfr := hrow.frozen i
      go_wp2
      go_roundw
      case rel =>
        exact ⟨i + 1, cur.set i 4294967295, by omega, by go_num, by rw [List.length_set]; exact HCL.out, fun j hj => by
          rw [getD_set _ _ _ _ hkc]
          by_cases h : j = i
          · rw [if_pos h]
          · rw [if_neg h]; exact HV.out j (by omega), hrow.set_ i 4294967295, hbw.setCell (Nat.le_refl _) _⟩
      case measure => simp [intOf]; omega
    · obtain rfl : i = m + 1 := by omega
      obtain rfl : cur = List.replicate (m + 1) 4294967295 := getD_ext (by rw [HCL.out, List.length_replicate]) fun j hj => by
        have := HCL.out
        rw [HV.out j (by omega), getD_rep _ _ _ (by omega)]
      have hwr := hw1.trans (hbw.mono hw1.size)
      clear HV HCL hlt hi hbw
      have hor := HOR.out
      go_wp2_with fail
      clear hor
      have hone : Rd .u32 (wr.alloc (.cells #[.int .u32 (o : Nat)] 42)) (some ⟨wr.heap.size, 0, none⟩) [o] := rd_one wr o
      have hb0 : Below w.heap.size w (wr.alloc (.cells #[.int .u32 (o : Nat)] 42)) := hwr.alloc hwr.size _
      refine (Add_okN (some ⟨w1.heap.size, 0, none⟩) (some ⟨wr.heap.size, 0, none⟩) (m + 1) 1 (m + 1) 1 (List.replicate (m + 1) 4294967295) [o] _ (by rw [List.length_replicate]) rfl (hrow.rd.alloc _) hone (ones_mag _) (mag_one o ho2 (by omega)) (by omega) (by omega)).mono ?_
      intro e w3 hf
      have hmk2 := fun W => make_u32 (m + 1) ((m : Int) + 1) (by omega) (by omega) W
      by_cases h95 : 4095 ≤ m
      · obtain ⟨rfl, hb3⟩ := hf.big fun zs hz => by
          have := long_of_ge hz.2 (k := m + 1) (by rw [hz.1]; exact over_ge m o ho1)
          omega
        have hw3 := hb0.trans (hb3.mono hb0.size)
        have hbt : ((m : Int) + 1 == 4096) = true := by simp; omega
        have hro := Row.new (k := .u32) (t := 42) w3 (List.replicate (m + 1) 0)
        have hcell := hro.cell (i := m) (by rw [List.length_replicate]; omega)
        have hfr := hro.frozen m
        clear hro
        have hP : Rd .u32 (w3.alloc (.cells ((nums .u32 (List.replicate (m + 1) 0)).set m (.int .u32 1)).toArray 42)) (some ⟨w3.heap.size, 0, none⟩) (top m 1) := by rw [nums_top m (set_top m)]; exact lit_rd w3 _
        have HP := Lib.hid hP
        have hbP : Below w.heap.size w (w3.alloc (.cells ((nums .u32 (List.replicate (m + 1) 0)).set m (.int .u32 1)).toArray 42)) := hw3.alloc hw3.size _
        clear hf hone hrow hb0 hb3 hP
        go_wp2_with fail
        refine (Mul_okN (some ⟨w3.heap.size, 0, none⟩) (some ⟨w3.heap.size, 0, none⟩) (m + 1) (m + 1) (m + 1) (m + 1) (top m 1) (top m 1) _ (top_len m 1) (top_len m 1) HP.out HP.out (top_mag m 1 (by omega) (by omega)) (top_mag m 1 (by omega) (by omega)) (by omega) (by omega)).mono ?_
        intro e w4 hf
        obtain ⟨rfl, hb4⟩ := hf.big fun zs hz => by
          have := long_of_ge hz.2 (k := m + m) (by rw [hz.1]; unfold V32; rw [top_val, Nat.mul_one, ← Nat.pow_add]; exact Nat.le_refl _)
          omega
        have hw4 := hbP.trans (hb4.mono hbP.size)
        clear hf HP hbP hb4
        go_wp2
        go_ret
        exact ⟨rfl, hw4⟩
      · obtain ⟨S, sc, ss, hS3, hsc, hb3, hqs, he⟩ := hf.small fun zs hz => by
          have := add_len (ones_mag (m + 1)) (mag_one o ho2 (by omega)) (k := m + 1) (by rw [List.length_replicate]; exact Nat.le_refl _) (by simp) hz.2 hz.1
          omega
        obtain rfl : ss = sumOf m o := hqs.2.eq (sumOf_mag m o ho1 ho2) (by rw [hqs.1, sumOf_val m o ho1])
        have hw3 := hb0.trans (hb3.mono hb0.size)
        have hbt : ((m : Int) + 1 == 4096) = false := beq_eq_false_iff_ne.2 (by omega)
        obtain ⟨sd, x, rfl, hsb, ex, c0⟩ := hS3.ask (i := 0) (by rw [sumOf_len]; omega)
        obtain ⟨sd', y, hse, _, ey, c1⟩ := hS3.ask (i := m + 1) (by rw [sumOf_len]; omega)
        injection hse with hse
        subst hse
        rw [add_zero_] at c0
        have c2 := c1
        unfold Addr.add at c2
        rw [if_neg (by omega)] at c2
        obtain rfl : x = o - 1 := by rw [← ex.out, sumOf_0]
        obtain rfl : y = 1 := by rw [← ey.out, sumOf_top]
        rw [sumOf_len] at he hsc
        subst he
        have hro := Row.new (k := .u32) (t := 42) w3 (List.replicate (m + 1) 0)
        have hcell := hro.cell (i := m) (by rw [List.length_replicate]; omega)
        have hfr := hro.frozen m
        clear hro
        have hP : Rd .u32 (w3.alloc (.cells ((nums .u32 (List.replicate (m + 1) 0)).set m (.int .u32 1)).toArray 42)) (some ⟨w3.heap.size, 0, none⟩) (top m 1) := by rw [nums_top m (set_top m)]; exact lit_rd w3 _
        have HP := Lib.hid hP
        have hbP : Below w.heap.size w (w3.alloc (.cells ((nums .u32 (List.replicate (m + 1) 0)).set m (.int .u32 1)).toArray 42)) := hw3.alloc hw3.size _
        clear hf hone hrow hb0 hb3 hP hqs ex ey
        go_wp2_with fail
        refine (Mul_okN (some ⟨w3.heap.size, 0, none⟩) (some ⟨w3.heap.size, 0, none⟩) (m + 1) (m + 1) (m + 1) (m + 1) (top m 1) (top m 1) _ (top_len m 1) (top_len m 1) HP.out HP.out (top_mag m 1 (by omega) (by omega)) (top_mag m 1 (by omega) (by omega)) (by omega) (by omega)).mono ?_
        intro e w4 hf
        by_cases hbig : 4096 ≤ 2 * m
        · obtain ⟨rfl, hb4⟩ := hf.big fun zs hz => by
            have := long_of_ge hz.2 (k := m + m) (by rw [hz.1]; unfold V32; rw [top_val, Nat.mul_one, ← Nat.pow_add]; exact Nat.le_refl _)
            omega
          have hw4 := hbP.trans (hb4.mono hbP.size)
          clear hf HP hbP hb4
          go_wp2
          go_ret
          exact ⟨rfl, hw4⟩
        · have hzz : ∀ zs : List Nat, (V32 zs = V32 (top m 1) * V32 (top m 1) ∧ Mag zs) → zs = top (2 * m) 1 := fun zs hz =>
            hz.2.eq (top_mag _ 1 (by omega) (by omega)) (by rw [hz.1]; unfold V32; rw [top_val, top_val, Nat.mul_one, Nat.mul_one, ← Nat.pow_add, Nat.two_mul])
          obtain ⟨P, pc, ps, hP4, hpc, hb4, hqp, he⟩ := hf.small fun zs hz => by rw [hzz zs hz, top_len]; omega
          obtain rfl := hzz ps hqp
          have hw4 := hbP.trans (hb4.mono hbP.size)
          rw [top_len] at he hpc
          subst he
          clear hf HP hbP hb4 hzz hqp
          go_wp2_with fail
          go_loop [4, 14, 15, 110] (fun r _ _ n => ∃ k : Nat, r = .bool false ∧ k ≤ 2 * m + 1 ∧ n = .int .i64 k) (fun _ _ _ n => 2 * m + 1 - (intOf n).toNat)
          case atStart => exact ⟨0, rfl, Nat.zero_le _, rfl⟩
          case round =>
            obtain ⟨k, rfl, hk, rfl⟩ := hrel
            by_cases hlt : k < 2 * m + 1
            · obtain ⟨pd, x, rfl, hpb, ex, cp⟩ := hP4.ask (i := k) (by rw [top_len]; exact hlt)
              by_cases hl2 : k < 2 * m
              · obtain rfl : x = 0 := by rw [← ex.out, top_low _ _ _ hl2]
                have hne : ((k : Int) == 2 * ((m : Int) + 1) - 2) = false := beq_eq_false_iff_ne.2 (by omega)
                go_wp2
                refine ⟨⟨.bool false, .int .i64 k, .int .u32 0, .int .i64 ((k : Int) + 1), ⟨rfl, k + 1, by omega, by go_num⟩, by simp⟩, ?_⟩
                simp [intOf]; omega
              · obtain rfl : x = 1 := by rw [← ex.out, show k = 2 * m by omega, top_high]
                have hne : ((k : Int) == 2 * ((m : Int) + 1) - 2) = true := by rw [beq_iff_eq]; omega
                go_wp2
                refine ⟨⟨.bool false, .int .i64 k, .int .u32 1, .int .i64 ((k : Int) + 1), ⟨rfl, k + 1, by omega, by go_num⟩, by simp⟩, ?_⟩
                simp [intOf]; omega
            · go_wp2
              go_ret
              exact ⟨rfl, hw4⟩

theorem limits_row (q : Int) (hq : (Lit.int .u16 q).wf = true) (l : Int) (hl : (Lit.int .u32 l).wf = true) (w : World)
    (htab : Lib.TabBelow Tryd.prog w.heap.size w "internal/strconv.uint64pow10" .u64 Lib.pow10Tab) :
    Calls Tryd.prog 10 #[.int .u16 q, .int .u32 l] w (Yes w) := by
  have b1 : 0 ≤ q ∧ q ≤ 65535 := by simp [Lit.wf, IntKind.min, IntKind.max, IntKind.signed, IntKind.bits] at hq; omega
  have b2 : 0 ≤ l ∧ l ≤ 4294967295 := by simp [Lit.wf, IntKind.min, IntKind.max, IntKind.signed, IntKind.bits] at hl; omega
  obtain ⟨a, rfl⟩ := Int.eq_ofNat_of_zero_le b1.1
  obtain ⟨b, rfl⟩ := Int.eq_ofNat_of_zero_le b2.1
  exact limits_nat a b w (by omega) (by omega) htab
end Go.Proofs.YtgfojfiopcooeaaDoor
