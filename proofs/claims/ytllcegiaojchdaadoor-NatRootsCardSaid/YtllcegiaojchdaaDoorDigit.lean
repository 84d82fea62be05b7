/- isochroneref01.digit and little; numbers of at most 50000 digits. -/
import Derived.Test.YtllcegiaojchdaaDoorAwake
namespace Go.Proofs.YtllcegiaojchdaaDoor
open Go.RowKit V

/-- The digit q of r by b. -/
def DigitP (r b : Nat) (w : World) (e : Ending) (w' : World) : Prop :=
  ∃ q : Nat, e = .returned (.int .i64 q) ∧ q < 10000 ∧ b * q ≤ r ∧ r < b * (q + 1) ∧ Below w.heap.size w w'

theorem quot_fact (t l : Nat) (ht : t ≤ 999999999999) : ∃ q : Nat, min (wrap64 ((t : Int) / l)) 9999 = q ∧ q ≤ 9999 := by
  obtain ⟨d, hd⟩ : ∃ d : Nat, t / l = d := ⟨_, rfl⟩
  have h1 : d ≤ t := by rw [← hd]; exact Nat.div_le_self _ _
  have h2 : (t : Int) / l = d := by rw [← hd]; simp
  have h3 : wrap64 (d : Int) = d := by unfold wrap64; omega
  rw [h2, h3]
  exact ⟨min d 9999, by omega, by omega⟩

set_option maxRecDepth 100000 in
set_option maxHeartbeats 2000000 in
theorem digit_any (A B : Option Addr) (ca cb : Nat) (xs ys : List Nat) (w : World) (hx : Rd .i64 w A xs) (hy : Rd .i64 w B ys) (bx : xs.length ≤ 50000) (by_ : ys.length ≤ 50000)
    (nx : Nm xs) (ny : Nm ys) (hpos : 0 < ys.length) (hlt : VD xs < VD ys * 10000) :
    Calls Tryd.prog 38 #[.slice A xs.length ca, .slice B ys.length cb] w (DigitP (VD xs) (VD ys) w) := by
  have HLT := Lib.hid hlt
  clear hlt
  obtain ⟨dx, nx'⟩ := nx
  obtain ⟨dy, ny'⟩ := ny
  go_enter Tryd.func38, Tryd.ntmps38
  go_wp2
  go_loop [6, 8] (fun tv iv => ∃ j t : Nat, j ≤ 3 ∧ j ≤ ys.length + 1 ∧ t + 1 ≤ 10000 ^ j ∧ tv = .int .i64 t ∧ iv = .int .i64 ((ys.length : Int) - j)) (fun _ iv => (intOf iv + 1).toNat)
  case atStart => exact ⟨0, 0, by omega, by omega, by simp, rfl, by simp⟩
  case round =>
    obtain ⟨j, t, hj, hjl, ht, rfl, rfl⟩ := hrel
    have HTT := Lib.hid ht
    clear ht
    by_cases hin : j ≤ 2 ∧ j ≤ ys.length
    · obtain ⟨hin1, hin2⟩ := hin
      have ht2 : t ≤ 99999999 := by
        have h1 := HTT.out
        have h2 := Nat.pow_le_pow_right (n := 10000) (by omega) hin1
        omega
      obtain ⟨i, hi⟩ : ∃ i : Nat, ys.length - j = i := ⟨_, rfl⟩
      have hii : (ys.length : Int) - j = i := by omega
      rw [hii]
      by_cases hb : i < xs.length
      · obtain ⟨ad, x, rfl, hbx, ex, cx⟩ := hx.ask hb
        have hxl : x < 10000 := by rw [← ex.out]; exact dig_getD dx (by omega) _
        go_wp2
        go_round
        case rel => exact ⟨j + 1, t * 10000 + x, by omega, by omega, by have := HTT.out; rw [Nat.pow_succ]; omega, by go_num, by go_num⟩
        case measure => simp [intOf]
      · go_wp2
        go_round
        case rel => exact ⟨j + 1, t * 10000, by omega, by omega, by have := HTT.out; rw [Nat.pow_succ]; omega, by go_num, by go_num⟩
        case measure => simp [intOf]
    · have ht3 : t ≤ 999999999999 := by
        have h1 := HTT.out
        have h2 := Nat.pow_le_pow_right (n := 10000) (by omega) hj
        omega
      clear HTT
      have hin3 : ((ys.length : Int) - j < (ys.length : Int) - 2) ∨ ((ys.length : Int) - j < 0) := by omega
      go_wp2
      go_loop [7, 9] (fun lv iv => ∃ m l : Nat, m ≤ 2 ∧ m ≤ ys.length ∧ l + 1 ≤ 10000 ^ m ∧ (1 ≤ m → 1 ≤ l) ∧ lv = .int .i64 l ∧ iv = .int .i64 ((ys.length : Int) - 1 - m)) (fun _ iv => (intOf iv + 1).toNat)
      case atStart => exact ⟨0, 0, by omega, by omega, by simp, by omega, rfl, by simp⟩
      case round =>
        clear hj hjl hin hin3
        obtain ⟨m, l, hm, hml, hl, hl1, rfl, rfl⟩ := hrel
        have HL := Lib.hid hl
        clear hl
        by_cases hin : m ≤ 1 ∧ m + 1 ≤ ys.length
        · obtain ⟨hin1, hin2⟩ := hin
          have hl2 : l ≤ 9999 := by
            have h1 := HL.out
            have h2 := Nat.pow_le_pow_right (n := 10000) (by omega) hin1
            omega
          obtain ⟨i, hi⟩ : ∃ i : Nat, ys.length - 1 - m = i := ⟨_, rfl⟩
          have hii : (ys.length : Int) - 1 - m = i := by omega
          have hiy : i < ys.length := by omega
          rw [hii]
          obtain ⟨bd, y, rfl, hby, ey, cy⟩ := hy.ask hiy
          have hyl : y < 10000 := by rw [← ey.out]; exact dig_getD dy (by omega) _
          have hy0 : Hid (1 ≤ l * 10000 + y) := by
            show 1 ≤ l * 10000 + y
            rcases Nat.eq_zero_or_pos m with h0 | h0
            · have h1 := ny' hpos
              have h2 := ey.out
              rw [show i = ys.length - 1 by omega] at h2
              rw [h2] at h1
              omega
            · have := hl1 h0
              omega
          go_wp2
          go_round
          case rel => exact ⟨m + 1, l * 10000 + y, by omega, by omega, by have := HL.out; rw [Nat.pow_succ]; omega, fun _ => hy0.out, by go_num, by go_num⟩
          case measure => simp [intOf]
        · have hl3 : l ≤ 99999999 := by
            have h1 := HL.out
            have h2 := Nat.pow_le_pow_right (n := 10000) (by omega) hm
            omega
          have hl4 : 1 ≤ l := hl1 (by omega)
          obtain ⟨bd, y, rfl, hby, ey, cy⟩ := hy.ask hpos
          rw [add_zero_] at cy
          have hyl : y < 10000 := by rw [← ey.out]; exact dig_getD dy (by omega) _
          have hy0 : ys.length = 1 → 1 ≤ y := fun h => by
            have h1 := ny' hpos
            have h2 := ey.out
            rw [h, h2] at h1
            omega
          clear HL hl1
          have hin3 : ((ys.length : Int) - 1 - m < (ys.length : Int) - 2) ∨ ((ys.length : Int) - 1 - m < 0) := by omega
          by_cases h1 : ys.length = 1
          · have hb1 : ((ys.length : Int) == 1) = true := by simp [h1]
            have hy1 := hy0 h1
            have HH := Lib.hid h1
            clear h1 hy0
            obtain ⟨q0, eq0, hq0⟩ := quot_fact t y ht3
            have EQ0 := Lib.hid eq0
            clear eq0
            go_wp2
            go_loopw [10] (fun qv wr => ∃ q : Nat, q ≤ 9999 ∧ qv = .int .i64 q ∧ Below w.heap.size w wr) (fun qv _ => (intOf qv).toNat)
            case atStart => exact ⟨q0, hq0, by rw [EQ0.out], Below.refl _ _⟩
            case round =>
              clear EQ0 hq0
              obtain ⟨q, hq, rfl, hbw⟩ := hrel
              have hy1 := hy.below hbw
              have hx1 := hx.below hbw
              go_wp2_with fail
              refine (small_z (some bd) cb _ ys q 0 _ _ _ rfl rfl rfl hy1 (by omega) dy (by omega) (by omega)).mono ?_
              rintro e w2 ⟨Z, zc, zs, rfl, hzc, hz, hb2, hv2, hn2, hl2⟩
              have hx2 := hx1.below hb2
              have hbw2 := hbw.trans (hb2.mono hbw.size)
              go_wp2_with fail
              refine (rcmp_any Z A zc ca zs xs _ hz hx2 (by omega) hn2 ⟨dx, nx'⟩).mono ?_
              rintro e w3 ⟨he, n3, hwe⟩
              rw [hv2, Nat.add_zero] at he
              have hbw3 : Below w.heap.size w w3 := by rw [hwe]; exact below_drew_ hbw2 n3
              clear hwe hb2 hbw2 hz hn2 hv2 hx2 hx1 hy1
              by_cases hgt : VD xs < VD ys * q
              · obtain ⟨c, hc, hcp⟩ : ∃ c : Int, cmpOf ((VD ys * q : Nat) : Int) (VD xs) = c ∧ 0 < c := ⟨_, rfl, by rw [cmpOf_gt (by omega)]; omega⟩
                rw [hc] at he
                subst he
                have hq1 : 1 ≤ q := by
                  rcases Nat.eq_zero_or_pos q with h0 | h0
                  · subst h0; omega
                  · exact h0
                clear hgt hc
                go_wp2
                go_roundw
                case rel => exact ⟨q - 1, by omega, by go_num, hbw3⟩
                case measure => simp [intOf]; omega
              · obtain ⟨c, hc, hcp⟩ : ∃ c : Int, cmpOf ((VD ys * q : Nat) : Int) (VD xs) = c ∧ c ≤ 0 := ⟨_, rfl, by unfold cmpOf; split <;> (try split) <;> omega⟩
                rw [hc] at he
                subst he
                have HGT : Hid (VD ys * q ≤ VD xs) := Nat.le_of_not_lt hgt
                clear hgt hc
                go_wp2
                go_loopw [10] (fun qv wr => ∃ q : Nat, q ≤ 9999 ∧ qv = .int .i64 q ∧ VD ys * q ≤ VD xs ∧ Below w.heap.size w wr) (fun qv _ => 9999 - (intOf qv).toNat)
                case atStart => exact ⟨q, hq, rfl, HGT.out, hbw3⟩
                case round =>
                  clear HGT hq hbw3 hbw
                  obtain ⟨q, hq, rfl, hle, hbw⟩ := hrel
                  have HLE := Lib.hid hle
                  clear hle
                  by_cases h9 : q = 9999
                  · go_wp2
                    go_ret
                    exact ⟨q, rfl, by omega, HLE.out, by rw [show q + 1 = 10000 by omega]; exact HLT.out, hbw⟩
                  · have hq9 : (q : Int) + 1 < 10000 := by omega
                    clear h9
                    have hy1 := hy.below hbw
                    have hx1 := hx.below hbw
                    go_wp2_with fail
                    refine (small_z (some bd) cb _ ys (q + 1) 0 _ _ _ rfl (by omega) rfl hy1 (by omega) dy (by omega) (by omega)).mono ?_
                    rintro e w2 ⟨Z, zc, zs, rfl, hzc, hz, hb2, hv2, hn2, hl2⟩
                    have hx2 := hx1.below hb2
                    have hbw2 := hbw.trans (hb2.mono hbw.size)
                    go_wp2_with fail
                    refine (rcmp_any Z A zc ca zs xs _ hz hx2 (by omega) hn2 ⟨dx, nx'⟩).mono ?_
                    rintro e w3 ⟨he, n3, hwe⟩
                    rw [hv2, Nat.add_zero] at he
                    have hbw3 : Below w.heap.size w w3 := by rw [hwe]; exact below_drew_ hbw2 n3
                    clear hwe hb2 hbw2 hz hn2 hv2 hx2 hx1 hy1
                    by_cases hgt : VD xs < VD ys * (q + 1)
                    · obtain ⟨c, hc, hcp⟩ : ∃ c : Int, cmpOf ((VD ys * (q + 1) : Nat) : Int) (VD xs) = c ∧ 0 < c := ⟨_, rfl, by rw [cmpOf_gt (by omega)]; omega⟩
                      rw [hc] at he
                      subst he
                      have HGT := Lib.hid hgt
                      clear hgt hc
                      go_wp2
                      go_ret
                      exact ⟨q, rfl, by omega, HLE.out, HGT.out, hbw3⟩
                    · obtain ⟨c, hc, hcp⟩ : ∃ c : Int, cmpOf ((VD ys * (q + 1) : Nat) : Int) (VD xs) = c ∧ c ≤ 0 := ⟨_, rfl, by unfold cmpOf; split <;> (try split) <;> omega⟩
                      rw [hc] at he
                      subst he
                      have HGT : Hid (VD ys * (q + 1) ≤ VD xs) := Nat.le_of_not_lt hgt
                      clear hgt hc
                      go_wp2
                      go_roundw
                      case rel => exact ⟨q + 1, by omega, by go_num, HGT.out, hbw3⟩
                      case measure => simp [intOf]; omega
          · have hb1 : ((ys.length : Int) == 1) = false := beq_eq_false_iff_ne.2 (by omega)
            clear h1 hy0
            obtain ⟨q0, eq0, hq0⟩ := quot_fact t l ht3
            have EQ0 := Lib.hid eq0
            clear eq0
            go_wp2
            go_loopw [10] (fun qv wr => ∃ q : Nat, q ≤ 9999 ∧ qv = .int .i64 q ∧ Below w.heap.size w wr) (fun qv _ => (intOf qv).toNat)
            case atStart => exact ⟨q0, hq0, by rw [EQ0.out], Below.refl _ _⟩
            case round =>
              clear EQ0 hq0
              obtain ⟨q, hq, rfl, hbw⟩ := hrel
              have hy1 := hy.below hbw
              have hx1 := hx.below hbw
              go_wp2_with fail
              refine (small_z (some bd) cb _ ys q 0 _ _ _ rfl rfl rfl hy1 (by omega) dy (by omega) (by omega)).mono ?_
              rintro e w2 ⟨Z, zc, zs, rfl, hzc, hz, hb2, hv2, hn2, hl2⟩
              have hx2 := hx1.below hb2
              have hbw2 := hbw.trans (hb2.mono hbw.size)
              go_wp2_with fail
              refine (rcmp_any Z A zc ca zs xs _ hz hx2 (by omega) hn2 ⟨dx, nx'⟩).mono ?_
              rintro e w3 ⟨he, n3, hwe⟩
              rw [hv2, Nat.add_zero] at he
              have hbw3 : Below w.heap.size w w3 := by rw [hwe]; exact below_drew_ hbw2 n3
              clear hwe hb2 hbw2 hz hn2 hv2 hx2 hx1 hy1
              by_cases hgt : VD xs < VD ys * q
              · obtain ⟨c, hc, hcp⟩ : ∃ c : Int, cmpOf ((VD ys * q : Nat) : Int) (VD xs) = c ∧ 0 < c := ⟨_, rfl, by rw [cmpOf_gt (by omega)]; omega⟩
                rw [hc] at he
                subst he
                have hq1 : 1 ≤ q := by
                  rcases Nat.eq_zero_or_pos q with h0 | h0
                  · subst h0; omega
                  · exact h0
                clear hgt hc
                go_wp2
                go_roundw
                case rel => exact ⟨q - 1, by omega, by go_num, hbw3⟩
                case measure => simp [intOf]; omega
              · obtain ⟨c, hc, hcp⟩ : ∃ c : Int, cmpOf ((VD ys * q : Nat) : Int) (VD xs) = c ∧ c ≤ 0 := ⟨_, rfl, by unfold cmpOf; split <;> (try split) <;> omega⟩
                rw [hc] at he
                subst he
                have HGT : Hid (VD ys * q ≤ VD xs) := Nat.le_of_not_lt hgt
                clear hgt hc
                go_wp2
                go_loopw [10] (fun qv wr => ∃ q : Nat, q ≤ 9999 ∧ qv = .int .i64 q ∧ VD ys * q ≤ VD xs ∧ Below w.heap.size w wr) (fun qv _ => 9999 - (intOf qv).toNat)
                case atStart => exact ⟨q, hq, rfl, HGT.out, hbw3⟩
                case round =>
                  clear HGT hq hbw3 hbw
                  obtain ⟨q, hq, rfl, hle, hbw⟩ := hrel
                  have HLE := Lib.hid hle
                  clear hle
                  by_cases h9 : q = 9999
                  · go_wp2
                    go_ret
                    exact ⟨q, rfl, by omega, HLE.out, by rw [show q + 1 = 10000 by omega]; exact HLT.out, hbw⟩
                  · have hq9 : (q : Int) + 1 < 10000 := by omega
                    clear h9
                    have hy1 := hy.below hbw
                    have hx1 := hx.below hbw
                    go_wp2_with fail
                    refine (small_z (some bd) cb _ ys (q + 1) 0 _ _ _ rfl (by omega) rfl hy1 (by omega) dy (by omega) (by omega)).mono ?_
                    rintro e w2 ⟨Z, zc, zs, rfl, hzc, hz, hb2, hv2, hn2, hl2⟩
                    have hx2 := hx1.below hb2
                    have hbw2 := hbw.trans (hb2.mono hbw.size)
                    go_wp2_with fail
                    refine (rcmp_any Z A zc ca zs xs _ hz hx2 (by omega) hn2 ⟨dx, nx'⟩).mono ?_
                    rintro e w3 ⟨he, n3, hwe⟩
                    rw [hv2, Nat.add_zero] at he
                    have hbw3 : Below w.heap.size w w3 := by rw [hwe]; exact below_drew_ hbw2 n3
                    clear hwe hb2 hbw2 hz hn2 hv2 hx2 hx1 hy1
                    by_cases hgt : VD xs < VD ys * (q + 1)
                    · obtain ⟨c, hc, hcp⟩ : ∃ c : Int, cmpOf ((VD ys * (q + 1) : Nat) : Int) (VD xs) = c ∧ 0 < c := ⟨_, rfl, by rw [cmpOf_gt (by omega)]; omega⟩
                      rw [hc] at he
                      subst he
                      have HGT := Lib.hid hgt
                      clear hgt hc
                      go_wp2
                      go_ret
                      exact ⟨q, rfl, by omega, HLE.out, HGT.out, hbw3⟩
                    · obtain ⟨c, hc, hcp⟩ : ∃ c : Int, cmpOf ((VD ys * (q + 1) : Nat) : Int) (VD xs) = c ∧ c ≤ 0 := ⟨_, rfl, by unfold cmpOf; split <;> (try split) <;> omega⟩
                      rw [hc] at he
                      subst he
                      have HGT : Hid (VD ys * (q + 1) ≤ VD xs) := Nat.le_of_not_lt hgt
                      clear hgt hc
                      go_wp2
                      go_roundw
                      case rel => exact ⟨q + 1, by omega, by go_num, HGT.out, hbw3⟩
                      case measure => simp [intOf]; omega
end Go.Proofs.YtllcegiaojchdaaDoor

