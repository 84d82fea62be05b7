/- nat.root and nat.Root: the integer part of the square root. -/
import Derived.Test.YtllcegiaojchdaaDoorShift
import Derived.Test.YtllcegiaojchdaaDoorShiftsB
import Derived.Test.YtllcegiaojchdaaDoorPow
import Derived.Test.YtllcegiaojchdaaDoorDiv
import Derived.Test.YtllcegiaojchdaaDoorRootS
namespace Go.Proofs.YtllcegiaojchdaaDoor
open Go.RowKit V

/-- r is the integer part of the square root of x. -/
def IsRoot (r x : Nat) : Prop := r * r ≤ x ∧ x < (r + 1) * (r + 1)
/-- A number above the root of the upper half is above the root of the whole. -/
theorem above_root {u x h : Nat} (hu : x / 2 ^ (2 * h) < (u + 1) * (u + 1)) : x < ((u + 1) * 2 ^ h) * ((u + 1) * 2 ^ h) := by
  have e : 2 ^ (2 * h) = 2 ^ h * 2 ^ h := by rw [Nat.two_mul, Nat.pow_add]
  have hp : 0 < 2 ^ (2 * h) := Nat.pow_pos (by omega)
  have h1 : x < (x / 2 ^ (2 * h) + 1) * 2 ^ (2 * h) := by
    rw [Nat.mul_comm]; exact Nat.lt_mul_div_succ x hp
  have h2 : (x / 2 ^ (2 * h) + 1) * 2 ^ (2 * h) ≤ ((u + 1) * (u + 1)) * 2 ^ (2 * h) := Nat.mul_le_mul_right _ hu
  rw [e] at h1 h2
  have h3 : (u + 1) * (u + 1) * (2 ^ h * 2 ^ h) = ((u + 1) * 2 ^ h) * ((u + 1) * 2 ^ h) := Nat.mul_mul_mul_comm _ _ _ _
  rw [h3] at h2
  omega
theorem four_prod (a b : Nat) : 4 * (a * b) ≤ (a + b) * (a + b) := by
  have key : ∀ c d : Nat, 4 * (c * (c + d)) ≤ (c + (c + d)) * (c + (c + d)) := fun c d => by
    simp only [Nat.add_mul, Nat.mul_add]
    have := Nat.mul_comm c d
    omega
  rcases Nat.le_total a b with h | h
  · obtain ⟨d, rfl⟩ := Nat.exists_eq_add_of_le h
    exact key a d
  · obtain ⟨d, rfl⟩ := Nat.exists_eq_add_of_le h
    have := key b d
    rw [Nat.mul_comm (b + d) b, Nat.add_comm (b + d) b]
    exact this
/-- A step of Newton's method stays at or above the root. -/
theorem newton_ge {x a q : Nat} (hq : x < (q + 1) * a) : x < ((a + q) / 2 + 1) * ((a + q) / 2 + 1) := by
  have h1 := four_prod a (q + 1)
  have h2 : a + (q + 1) ≤ 2 * ((a + q) / 2 + 1) := by omega
  have h3 : (a + (q + 1)) * (a + (q + 1)) ≤ (2 * ((a + q) / 2 + 1)) * (2 * ((a + q) / 2 + 1)) := Nat.mul_le_mul h2 h2
  have h4 : (2 * ((a + q) / 2 + 1)) * (2 * ((a + q) / 2 + 1)) = 4 * (((a + q) / 2 + 1) * ((a + q) / 2 + 1)) := by rw [Nat.mul_mul_mul_comm]
  rw [h4] at h3
  rw [Nat.mul_comm (q + 1) a] at hq
  omega
/-- Where a step does not fall the root is found. -/
theorem newton_end {x a q r : Nat} (hx : x = q * a + r) (hn : a ≤ (a + q) / 2) : a * a ≤ x := by
  have h1 : a ≤ q := by omega
  have h2 : a * a ≤ q * a := Nat.mul_le_mul_right _ h1
  omega
theorem root_pos {x a : Nat} (hx : 1 ≤ x) (h : x < (a + 1) * (a + 1)) : 1 ≤ a := by
  rcases Nat.eq_zero_or_pos a with h0 | h0
  · subst h0; omega
  · exact h0

/-- The root, as a list. -/
def RootP (x : Nat) (w : World) (e : Ending) (w' : World) : Prop := OutP .u32 (fun zs => IsRoot (V32 zs) x ∧ Mag zs) w e w'
theorem root_len {rs xs : List Nat} (mr : Mag rs) (mx : Mag xs) (h : IsRoot (V32 rs) (V32 xs)) : rs.length ≤ xs.length := by
  refine mx.len_le mr ?_
  have h1 := h.1
  rcases Nat.eq_zero_or_pos (V32 rs) with h0 | h0
  · omega
  · have : V32 rs * 1 ≤ V32 rs * V32 rs := Nat.mul_le_mul_left _ h0
    omega

set_option maxRecDepth 100000 in
set_option maxHeartbeats 400000 in
theorem root_small (A : Option Addr) (ca : Nat) (xs : List Nat) (w : World) (hx : Rd .u32 w A xs) (mx : Mag xs) (hl : xs.length ≤ 2) :
    Calls Tryd.prog 40 #[.slice A xs.length ca] w (RootP (V32 xs) w) := by
  have hv : V32 xs < 18446744073709551616 := by
    have := V32_lt mx hl
    omega
  obtain ⟨X, eX⟩ : ∃ X, V32 xs = X := ⟨_, rfl⟩
  rw [eX] at hv
  have hlow := fun W h => low_any A ca xs W h mx.1 hl
  rw [eX] at hlow
  have HLOW := Lib.hid hlow
  have hsh := fun W => rootshort_any X W hv
  have HSH := Lib.hid hsh
  rw [eX]
  clear hlow hsh hv eX
  go_enter Tryd.func40, Tryd.ntmps40
  go_wp2_with fail
  refine (HLOW.out _ hx).mono ?_
  rintro e w1 ⟨rfl, rfl⟩
  go_wp2_with fail
  refine (HSH.out _).mono ?_
  rintro e w1 ⟨⟨r, rfl, hr, hr1, hr2⟩, rfl⟩
  go_wp2_with fail
  refine (from_any r _ (by omega)).mono ?_
  rintro e w1 ⟨Z, zc, zs, rfl, hzc, hz, hb, hvz, hmz, hlz⟩
  have HVZ := Lib.hid hvz
  clear hvz
  go_wp2
  go_ret
  exact ⟨Z, zc, zs, rfl, hzc, hz, hb, ⟨by rw [HVZ.out]; exact hr1.out, by rw [HVZ.out]; exact hr2.out⟩, hmz⟩

set_option maxRecDepth 100000 in
set_option maxHeartbeats 1600000 in
theorem root_step (A : Option Addr) (ca : Nat) (xs : List Nat) (w : World) (hx : Rd .u32 w A xs) (hca : xs.length ≤ ca) (mx : Mag xs) (hl : 2 < xs.length) (bl : xs.length ≤ 4096)
    (ih : ∀ (A : Option Addr) (ca : Nat) (ys : List Nat) (w : World), Rd .u32 w A ys → ys.length ≤ ca → Mag ys → ys.length < xs.length →
      Calls Tryd.prog 40 #[.slice A ys.length ca] w (RootP (V32 ys) w)) :
    Calls Tryd.prog 40 #[.slice A xs.length ca] w (RootP (V32 xs) w) := by
  have HIH := Lib.hid ih
  clear ih
  have hone : (18446744073709551616 : Nat) ≤ V32 xs := by
    have h1 := val_ge (B := 4294967296) mx.2 (by omega)
    have h2 : 4294967296 ^ 2 ≤ 4294967296 ^ (xs.length - 1) := Nat.pow_le_pow_right (by omega) (by omega)
    unfold V32; omega
  have HONE := Lib.hid hone
  clear hone
  go_enter Tryd.func40, Tryd.ntmps40
  go_wp2_with fail
  refine (bitlen_any A ca xs _ hx (by omega) mx).mono ?_
  rintro e w' ⟨b, rfl, hbits, rfl⟩
  have hb1 : b ≤ 32 * xs.length := bits_words mx (Nat.le_refl _) hbits
  have hb2 : 65 ≤ b := by
    rcases Nat.lt_or_ge b 65 with h | h
    · have h1 := hbits.1
      have h2 : 2 ^ b ≤ 2 ^ 64 := Nat.pow_le_pow_right (by omega) (by omega)
      have := HONE.out
      omega
    · exact h
  obtain ⟨h, hh⟩ : ∃ h : Nat, (b : Int) / 4 = h := ⟨b / 4, by omega⟩
  have hh1 : 16 ≤ h := by omega
  have hh2 : h ≤ 8 * xs.length := by omega
  obtain ⟨h2, hh2i, hh2e⟩ : ∃ h2 : Nat, (2 : Int) * h = h2 ∧ Hid (h2 = 2 * h) := ⟨2 * h, by omega, Lib.hid rfl⟩
  have hh2b : h2 ≤ 100000 := by have := hh2e.out; omega
  clear hbits hb1 hb2
  go_wp2_with fail
  refine (shiftdn_ok A ca h2 xs _ hx hca (by omega) (by omega) mx.1).mono ?_
  rintro e w1 ⟨Y, yc, ys, rfl, hyc, hy1, hb1, hvy, hmy, hly⟩
  have HVY := Lib.hid hvy
  have hlt : ys.length < xs.length := by
    have h1 : 2 ^ 32 ≤ 2 ^ h2 := Nat.pow_le_pow_right (by omega) (by have := hh2e.out; omega)
    have h3 := val_lt 4294967296 xs mx.1
    have h4 : 4294967296 ^ xs.length = 4294967296 ^ (xs.length - 1) * 2 ^ 32 := by rw [← Nat.pow_succ]; congr 1; omega
    have h5 : V32 ys < 4294967296 ^ (xs.length - 1) := by
      rw [HVY.out]
      refine Nat.div_lt_of_lt_mul ?_
      have h6 : 4294967296 ^ (xs.length - 1) * 2 ^ 32 ≤ 4294967296 ^ (xs.length - 1) * 2 ^ h2 := Nat.mul_le_mul_left _ h1
      rw [Nat.mul_comm (2 ^ h2)]
      unfold V32
      omega
    have h6 : ys.length ≤ xs.length - 1 := len_of_lt (B := 4294967296) (by omega) hmy.2 h5
    omega
  have hx1 := hx.below hb1
  clear hvy hly
  go_wp2_with fail
  refine (HIH.out Y yc ys _ hy1 hyc hmy hlt).mono ?_
  rintro e w2 ⟨U, uc, us, rfl, huc, hu2, hb2, hru, hmu⟩
  have HRU := Lib.hid hru
  have hlu := root_len hmu hmy hru
  have hx2 := hx1.below hb2
  have hw2 := hb1.trans (hb2.mono hb1.size)
  clear hru hx1 hb1 hb2 hy1
  go_wp2_with fail
  refine (from_any 1 _ (by omega)).mono ?_
  rintro e w3 ⟨O, oc, os, rfl, hoc, ho3, hb3, hvo, hmo, hlo⟩
  have HVO := Lib.hid hvo
  have hx3 := hx2.below hb3
  have hu3 := hu2.below hb3
  have hw3 := hw2.trans (hb3.mono hw2.size)
  clear hvo hx2 hu2 hb3 hw2
  go_wp2_with fail
  refine (add_any U O uc oc us os _ hu3 ho3 (by omega) (by omega) hmu.1 hmo.1).mono ?_
  rintro e w4 ⟨S, sc, ss, rfl, hsc, hs4, hb4, hvs, hns, hds, hls⟩
  have HVS := Lib.hid hvs
  have hx4 := hx3.below hb4
  have hw4 := hw3.trans (hb4.mono hw3.size)
  clear hvs hx3 hu3 ho3 hb4 hw3
  go_wp2_with fail
  refine (shiftup_all S sc h ss _ hs4 (by omega) (by omega) ⟨hds, hns⟩).mono ?_
  rintro e w5 ⟨Q, qc, qs, rfl, hqc, hq5, hb5, hvq, hmq, hlq⟩
  have HAB : Hid (V32 xs < (V32 qs + 1) * (V32 qs + 1)) := by
    have h1 : V32 qs = (V32 us + 1) * 2 ^ h := by rw [hvq, show V32 ss = V32 us + V32 os from HVS.out, HVO.out]
    have h3 := above_root (u := V32 us) (x := V32 xs) (h := h) (by rw [← hh2e.out, ← HVY.out]; exact HRU.out.2)
    rw [← h1] at h3
    have h4 := sq_mono (Nat.le_succ (V32 qs))
    show V32 xs < (V32 qs + 1) * (V32 qs + 1)
    exact Nat.lt_of_lt_of_le h3 h4
  have hx5 := hx4.below hb5
  have hw5 := hw4.trans (hb5.mono hw4.size)
  obtain ⟨K, hK⟩ : ∃ K, 2 * xs.length + 4 = K := ⟨_, rfl⟩
  have hqK : qs.length ≤ K := by omega
  clear hvq hx4 hs4 hb5 hw4 HVS HVO HRU HVY hls hlq hlu hlo
  have HX1 : Hid (1 ≤ V32 xs) := by have := HONE.out; show 1 ≤ V32 xs; omega
  go_wp2_with fail
  go_loopg [5, 6, 7, 8] (V32 qs) (fun gh av _ _ _ wr => ∃ A1 ac al_, av = .slice A1 (al_ : List Nat).length ac ∧ V32 al_ = gh ∧ al_.length ≤ ac ∧ Rd .u32 wr A1 al_ ∧ Mag al_ ∧ al_.length ≤ K ∧ V32 xs < (V32 al_ + 1) * (V32 al_ + 1) ∧ Below w.heap.size w wr)
  case atStart => exact ⟨Q, qc, qs, rfl, rfl, hqc, hq5, hmq, hqK, HAB.out, hw5⟩
  case round =>
    clear HAB hq5 hqc hmq hqK hx5 hw5
    obtain ⟨A1, ac, al_, rfl, hg, hac, ha, hma, haK, hab, hbw⟩ := hrel
    have HG := Lib.hid hg
    have HAB := Lib.hid hab
    have hxr := hx.below hbw
    have hap : 1 ≤ V32 al_ := root_pos HX1.out hab
    have hal : 0 < al_.length := by
      rcases Nat.eq_zero_or_pos al_.length with h0 | h0
      · rw [List.eq_nil_of_length_eq_zero h0] at hap; simp [V32, val] at hap
      · exact h0
    clear hg hab
    go_wp2_with fail
    refine (div_any A A1 ca ac xs al_ _ hxr ha (by omega) mx hma hal).mono ?_
    rintro e w6 ⟨T, tc, ts, R, rc, rs, rfl, ht6, hr6, hmt, hmr, htc, hrc, hdm, hlt2, hb6⟩
    have ha6 := ha.below hb6
    have hbw6 := hbw.trans (hb6.mono hbw.size)
    have htl : ts.length ≤ xs.length := mx.len_le hmt (by rw [hdm.out]; exact mul_ge _ _ _ (by omega))
    clear hr6 hb6 ha hxr hbw hmr
    go_wp2_with fail
    refine (add_any A1 T ac tc al_ ts _ ha6 ht6 (by omega) (by omega) hma.1 hmt.1).mono ?_
    rintro e w7 ⟨S7, sc7, s7, rfl, hsc7, hs7, hb7, hv7, hn7, hd7, hl7⟩
    have HV7 := Lib.hid hv7
    have ha7 := ha6.below hb7
    have hbw7 := hbw6.trans (hb7.mono hbw6.size)
    clear hv7 hb7 ha6 ht6 hbw6
    go_wp2_with fail
    refine (shiftdn_ok S7 sc7 1 s7 _ hs7 hsc7 (by omega) (by omega) hd7).mono ?_
    rintro e w8 ⟨N8, nc8, n8, rfl, hnc8, hn8, hb8, hv8, hm8, hl8⟩
    have HV8 : Hid (V32 n8 = (V32 al_ + V32 ts) / 2) := by
      show _ = _
      rw [hv8, show V32 s7 = V32 al_ + V32 ts from HV7.out, Nat.pow_one]
    have ha8 := ha7.below hb8
    have hbw8 := hbw7.trans (hb8.mono hbw7.size)
    have HLE : Hid (V32 xs < (V32 n8 + 1) * (V32 n8 + 1)) := by
      show V32 xs < (V32 n8 + 1) * (V32 n8 + 1)
      rw [HV8.out]
      refine newton_ge (a := V32 al_) (q := V32 ts) ?_
      have h1 := hdm.out
      have h2 := hlt2.out
      rw [Nat.add_mul, Nat.one_mul]
      omega
    clear hv8 hb8 ha7 hs7 hbw7 HV7
    go_wp2_with fail
    refine (compare_any N8 A1 nc8 ac n8 al_ _ hn8 ha8 (by omega) hm8.1 hma.1 hm8.2 hma.2).mono ?_
    rintro e w9 ⟨he, n9, hwe⟩
    have hb9 : Below w8.heap.size w8 w9 := by rw [hwe]; exact below_drew_ (Below.refl _ _) n9
    have ha9 := ha8.below hb9
    have hn9 := hn8.below hb9
    have hbw9 := hbw8.trans (hb9.mono hbw8.size)
    clear hwe hb9 ha8 hn8 hbw8
    by_cases hlt : V32 n8 < V32 al_
    · obtain ⟨c, hc, hcp⟩ : ∃ c : Int, cmpOf (V32 n8) (V32 al_) = c ∧ c < 0 := ⟨_, rfl, by rw [cmpOf_lt (by omega)]; omega⟩
      have he2 : e = .returned (.int .i64 c) := by rw [he, ← hc]; rfl
      subst he2
      have hn8K : n8.length ≤ K := Nat.le_trans (hma.len_le hm8 (Nat.le_of_lt hlt)) haK
      have HLT := Lib.hid hlt
      clear he hlt hc
      go_wp2
      go_roundg (V32 n8)
      case measure => have := HLT.out; have := HG.out; omega
      case rel => exact ⟨N8, nc8, n8, rfl, rfl, hnc8, hn9, hm8, hn8K, HLE.out, hbw9⟩
    · obtain ⟨c, hc, hcp⟩ : ∃ c : Int, cmpOf (V32 n8) (V32 al_) = c ∧ 0 ≤ c := ⟨_, rfl, by unfold cmpOf; split <;> (try split) <;> omega⟩
      have he2 : e = .returned (.int .i64 c) := by rw [he, ← hc]; rfl
      subst he2
      have HGE : Hid (V32 al_ * V32 al_ ≤ V32 xs) := newton_end (q := V32 ts) (r := V32 rs) hdm.out (by rw [← HV8.out]; omega)
      clear he hlt hc
      go_wp2
      go_ret
      exact ⟨A1, ac, al_, rfl, hac, ha9, hbw9, ⟨HGE.out, HAB.out⟩, hma⟩

theorem root_any (n : Nat) : ∀ (A : Option Addr) (ca : Nat) (xs : List Nat) (w : World), Rd .u32 w A xs → xs.length ≤ ca → Mag xs → xs.length ≤ 4096 → xs.length ≤ n →
    Calls Tryd.prog 40 #[.slice A xs.length ca] w (RootP (V32 xs) w) := by
  induction n with
  | zero => intro A ca xs w hx _ mx _ hn; exact root_small A ca xs w hx mx (by omega)
  | succ n ih =>
    intro A ca xs w hx hca mx bl hn
    rcases Nat.lt_or_ge 2 xs.length with h | h
    · exact root_step A ca xs w hx hca mx h bl fun A ca ys w hy hyc my hl => ih A ca ys w hy hyc my (by omega) (by omega)
    · exact root_small A ca xs w hx mx h

set_option maxHeartbeats 400000 in
theorem Root_ok (A : Option Addr) (ca : Nat) (xs : List Nat) (w : World) (hx : Rd .u32 w A xs) (hca : xs.length ≤ ca) (ox : Ok xs) (dx : Dig 4294967296 xs) :
    Calls Tryd.prog 14 #[.slice A xs.length ca] w (OkP (fun zs => IsRoot (V32 zs) (V32 xs) ∧ Mag zs) w) := by
  have mx : Mag xs := ⟨dx, ox.2⟩
  have hl : xs.length ≤ 4096 := ox.1
  go_enter Tryd.func14, Tryd.ntmps14
  go_wp2_with (first
    | (go_at_call 32; (with_reducible refine (valid_yes A ca xs _ hx ox).mono ?_); rintro e w1 ⟨rfl, rfl⟩)
    | (go_at_call 40; refine (root_any xs.length A ca xs _ hx hca mx hl (Nat.le_refl _)).mono ?_; rintro e w1 ⟨Z, zc, zs, rfl, hzc, hz, hb, hr, hm⟩; have HR := Lib.hid hr; clear hr))
  go_ret2
  exact ⟨Z, zc, zs, hz, hzc, hb, ⟨HR.out, hm⟩, rfl⟩
end Go.Proofs.YtllcegiaojchdaaDoor

