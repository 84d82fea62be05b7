/- isochroneref01.little; isochroneref01.DivMod: quotient and remainder of two numbers of at most 20000 digits. -/
import Derived.Test.YtllcegiaojchdaaDoorOf
import Derived.Test.YtllcegiaojchdaaDoorAwake
import Derived.Test.YtllcegiaojchdaaDoorInt
import Derived.Test.YtllcegiaojchdaaDoorBad
import Derived.Deep.RegionWith
namespace Go.Proofs.YtllcegiaojchdaaDoor
open Go.RowKit V

theorem dig_drop_lt {xs : List Nat} (h : Dig 10000 xs) (k : Nat) : val 10000 (xs.drop k) < 10000 ^ (xs.length - k) := by
  have := val_lt 10000 (xs.drop k) (h.drop k)
  rwa [List.length_drop] at this

set_option maxHeartbeats 400000 in
theorem little_yes (A : Option Addr) (ca : Nat) (xs : List Nat) (w : World) (hx : Rd .i64 w A xs) (bl : xs.length ≤ 4) (dx : Dig 10000 xs) :
    Calls Tryd.prog 36 #[.slice A xs.length ca] w (Plain (.tuple #[.int .i64 (VD xs), .bool true]) w) := by
  go_enter Tryd.func36, Tryd.ntmps36
  go_wp2
  go_loop [4, 5] (fun nv iv => ∃ j : Int, ∃ n : Nat, -1 ≤ j ∧ j < xs.length ∧ iv = .int .i64 j ∧ nv = .int .i64 n ∧ n = val 10000 (xs.drop (j + 1).toNat)) (fun _ iv => (intOf iv + 1).toNat)
  case atStart => exact ⟨_, 0, by omega, by omega, rfl, rfl, by rw [show ((xs.length : Int) - 1 + 1).toNat = xs.length by omega, List.drop_length]; rfl⟩
  case round =>
    obtain ⟨j, n, hj, hjl, rfl, rfl, hv⟩ := hrel
    have HV := Lib.hid hv
    clear hv
    by_cases h0 : j < 0
    · go_wp2
      go_ret2
      refine ⟨?_, rfl⟩
      rw [HV.out, show (j + 1).toNat = 0 by omega, List.drop_zero]
      rfl
    · obtain ⟨i, rfl⟩ := Int.eq_ofNat_of_zero_le (show 0 ≤ j by omega)
      have hix : i < xs.length := by omega
      obtain ⟨ad, x, rfl, hbx, ex, cx⟩ := hx.ask hix
      have hxl : x < 10000 := by rw [← ex.out]; exact dig_getD dx (by omega) i
      have hn : n < 1000000000000 := by
        have h1 := HV.out
        have h2 := dig_drop_lt dx (((i : Int) + 1).toNat)
        have h3 : 10000 ^ (xs.length - ((i : Int) + 1).toNat) ≤ 10000 ^ 3 := Nat.pow_le_pow_right (by omega) (by omega)
        omega
      go_wp2
      go_round
      case rel => exact ⟨_, n * 10000 + x, by omega, by omega, rfl, by go_num, by
        rw [HV.out, show ((i : Int) - 1 + 1).toNat = i by omega, show ((i : Int) + 1).toNat = i + 1 by omega, val_drop 10000 xs i hix, ex.out]; omega⟩
      case measure => simp [intOf]

set_option maxHeartbeats 400000 in
theorem little_no (A : Option Addr) (ca : Nat) (xs : List Nat) (w : World) (bl : 4 < xs.length) :
    Calls Tryd.prog 36 #[.slice A xs.length ca] w (Plain (.tuple #[.int .i64 0, .bool false]) w) := by
  go_enter Tryd.func36, Tryd.ntmps36
  go_wp2
  go_ret2
  exact ⟨rfl, rfl⟩

/-- Quotient and remainder of the document's numbers. -/
def RDivP (xs ys : List Nat) (w : World) (e : Ending) (w' : World) : Prop :=
  ∃ Q qc q R rc r, e = .returned (.tuple #[.slice Q (q : List Nat).length qc, .slice R (r : List Nat).length rc]) ∧ Rd .i64 w' Q q ∧ Rd .i64 w' R r ∧ Nm q ∧ Nm r ∧
    Hid (VD xs = VD q * VD ys + VD r) ∧ Hid (VD r < VD ys) ∧ Below w.heap.size w w'

set_option maxHeartbeats 1000000 in
theorem rdiv_less (A B : Option Addr) (ca cb : Nat) (xs ys : List Nat) (w : World) (hx : Rd .i64 w A xs) (hy : Rd .i64 w B ys) (bx : xs.length ≤ 20000) (nx : Nm xs) (ny : Nm ys) (hlt : VD xs < VD ys) :
    Calls Tryd.prog 13 #[.slice A xs.length ca, .slice B ys.length cb] w (RDivP xs ys w) := by
  obtain ⟨c, hc, hcp⟩ : ∃ c : Int, Hid (cmpOf (VD xs) (VD ys) = c) ∧ c < 0 := ⟨_, rfl, by rw [cmpOf_lt (by omega)]; omega⟩
  have HLT := Lib.hid hlt
  clear hlt
  go_enter Tryd.func13, Tryd.ntmps13
  go_wp2_with fail
  refine (rcmp_any A B ca cb xs ys _ hx hy (by omega) nx ny).mono ?_
  rintro e w1 ⟨he, n1, hwe⟩
  rw [hc.out] at he
  subst he
  have hb1 : Below w.heap.size w w1 := by rw [hwe]; exact below_drew_ (Below.refl _ _) n1
  have hx1 := hx.below hb1
  clear hwe
  go_wp2
  go_ret2
  exact ⟨_, 0, [], A, ca, xs, rfl, Rd.nil_, hx1.alloc _, nm_nil, nx, by show _ = _; simp [VD, val], HLT.out, hb1.alloc hb1.size _⟩

theorem below_of_drew {B : Nat} {w w' : World} (h : Below w.drew.heap.size w.drew w') (hB : B ≤ w.heap.size) : Below B w w' :=
  Below.mono ⟨h.os, h.tape, h.output, h.size, h.block⟩ hB

set_option maxRecDepth 100000 in
set_option maxHeartbeats 1000000 in
theorem rdiv_little (A B : Option Addr) (ca cb : Nat) (xs ys : List Nat) (w : World) (hx : Rd .i64 w A xs) (hy : Rd .i64 w B ys) (bx : xs.length ≤ 4) (nx : Nm xs) (ny : Nm ys) (hpos : 0 < ys.length) (hge : VD ys ≤ VD xs) :
    Calls Tryd.prog 13 #[.slice A xs.length ca, .slice B ys.length cb] w (RDivP xs ys w) := by
  obtain ⟨c, hc, hcp⟩ : ∃ c : Int, Hid (cmpOf (VD xs) (VD ys) = c) ∧ 0 ≤ c := ⟨_, rfl, by unfold cmpOf; split <;> (try split) <;> omega⟩
  have hly : ys.length ≤ 4 := Nat.le_trans (nx.len_le ny hge) bx
  have hb := VD_pos ny hpos
  have hxb : VD xs < 10000000000000000 := by
    have h1 := val_lt 10000 xs nx.1
    have h2 : 10000 ^ xs.length ≤ 10000 ^ 4 := Nat.pow_le_pow_right (by omega) bx
    unfold VD; omega
  have dx : Dig 10000 xs := nx.1
  have dy : Dig 10000 ys := ny.1
  obtain ⟨x, ex⟩ : ∃ x, Hid (VD xs = x) := ⟨_, rfl⟩
  obtain ⟨y, ey⟩ : ∃ y, Hid (VD ys = y) := ⟨_, rfl⟩
  rw [ex.out] at hxb hge
  rw [ey.out] at hb hge
  have hq0 : x / y ≤ x := Nat.div_le_self _ _
  have hr0 : x % y < y := Nat.mod_lt _ hb
  obtain ⟨q, eq⟩ : ∃ q, Hid (x / y = q) := ⟨_, rfl⟩
  obtain ⟨r, er⟩ : ∃ r, Hid (x % y = r) := ⟨_, rfl⟩
  rw [eq.out] at hq0
  rw [er.out] at hr0
  have hqi : (x : Int) / y = q := by rw [← eq.out]; simp
  have hri : (x : Int).tmod y = r := by rw [Int.tmod_eq_emod_of_nonneg (by omega), ← er.out]; simp
  go_enter Tryd.func13, Tryd.ntmps13
  go_wp2_with fail
  refine (rcmp_any A B ca cb xs ys _ hx hy (by omega) nx ny).mono ?_
  rintro e w1 ⟨he, n1, hwe⟩
  rw [hc.out] at he
  subst he
  have hb1 : Below w.heap.size w w1 := by rw [hwe]; exact below_drew_ (Below.refl _ _) n1
  have hx1 := hx.below hb1
  have hy1 := hy.below hb1
  clear hwe hc
  go_wp2_with fail
  refine (little_yes A ca xs _ hx1 bx dx).mono ?_
  rintro e w2 ⟨he, rfl⟩
  rw [ex.out] at he
  subst he
  go_wp2_with fail
  refine (little_yes B cb ys _ hy1 hly dy).mono ?_
  rintro e w2 ⟨he, rfl⟩
  rw [ey.out] at he
  subst he
  go_wp2_with fail
  have hwq : IntKind.i64.wrap (q : Int) = q := by rw [IntKind.wrap_i64]; omega
  go_region_with (first
    | (go_at_call_of 17 (Value.int IntKind.i64 (q : Nat)); refine (int_any q _ (by omega)).mono ?_; rintro e wq ⟨Q, qc, lq, rfl, hqc, hQ, hbq, hvq, hnq, hlq⟩; have HVQ := Lib.hid hvq; clear hvq)
    | (go_at_call_of 17 (Value.int IntKind.i64 (r : Nat)); refine (int_any r _ (by omega)).mono ?_; rintro e wr ⟨R, rc, lr, rfl, hrc, hR, hbr, hvr, hnr, hlr⟩; have HVR := Lib.hid hvr; clear hvr))
  all_goals
    have hdm : VD xs = VD lq * VD ys + VD lr := by
      rw [HVQ.out, HVR.out, ex.out, ey.out, ← eq.out, ← er.out, Nat.mul_comm]
      exact (Nat.div_add_mod x y).symm
    have hlt : VD lr < VD ys := by rw [HVR.out, ey.out]; exact hr0
    go_wp2
    go_ret2
    first
      | exact ⟨Q, qc, lq, R, rc, lr, rfl, hQ.below hbr, hR, hnq, hnr, hdm, hlt, (hb1.trans (below_of_drew hbq hb1.size)).trans (hbr.mono (Nat.le_trans hb1.size hbq.size))⟩
      | exact ⟨Q, qc, lq, R, rc, lr, rfl, hQ, hR.below hbq, hnq, hnr, hdm, hlt, (hb1.trans (below_of_drew hbr hb1.size)).trans (hbq.mono (Nat.le_trans hb1.size hbr.size))⟩

set_option maxRecDepth 100000 in
set_option maxHeartbeats 1000000 in
theorem rdiv_one (A B : Option Addr) (ca cb : Nat) (xs ys : List Nat) (w : World) (hx : Rd .i64 w A xs) (hy : Rd .i64 w B ys) (bx : 4 < xs.length) (bx2 : xs.length ≤ 20000) (nx : Nm xs) (ny : Nm ys) (hl : ys.length = 1) (hge : VD ys ≤ VD xs) :
    Calls Tryd.prog 13 #[.slice A xs.length ca, .slice B ys.length cb] w (RDivP xs ys w) := by
  obtain ⟨c, hc, hcp⟩ : ∃ c : Int, Hid (cmpOf (VD xs) (VD ys) = c) ∧ 0 ≤ c := ⟨_, rfl, by unfold cmpOf; split <;> (try split) <;> omega⟩
  have dx : Dig 10000 xs := nx.1
  obtain ⟨bd, y, rfl, hby, ey, cy⟩ := hy.ask (i := 0) (by omega)
  rw [add_zero_] at cy
  have hyv : Hid (VD ys = y) := by show VD ys = y; rw [one_of_len hl, ey.out]; unfold VD; simp [val]
  have hyl : y < 10000 := by rw [← ey.out]; exact dig_getD ny.1 (by omega) 0
  have hy1 : 1 ≤ y := by rw [← hyv.out]; exact VD_pos ny (by omega)
  have hb1 : ((ys.length : Int) == 1) = true := by simp [hl]
  have hpos : 0 < ys.length := by omega
  have hl4 : ys.length ≤ 4 := by omega
  have dy : Dig 10000 ys := ny.1
  clear hl hge
  go_enter Tryd.func13, Tryd.ntmps13
  go_wp2_with fail
  refine (rcmp_any A (some bd) ca cb xs ys _ hx hy (by omega) nx ny).mono ?_
  rintro e w1 ⟨he, n1, hwe⟩
  rw [hc.out] at he
  subst he
  have hw1 : Below w.heap.size w w1 := by rw [hwe]; exact below_drew_ (Below.refl _ _) n1
  have hx1 := hx.below hw1
  have cy1 : w1.cell? bd = some (.int .i64 y) := (hw1.cell (p := bd) hby).trans cy
  clear hwe hc
  go_wp2_with fail
  refine (little_no A ca xs _ bx).mono ?_
  rintro e w2 ⟨rfl, rfl⟩
  go_wp2_with fail
  refine (split_any A ca y xs _ hx1 (by omega) dx hy1 (by omega)).mono ?_
  rintro e w3 ⟨Q, qc, q, r, rfl, hqc, hQ, hb3, hsp, hr, hnq, hql, hfr⟩
  go_wp2_with fail
  refine (int_any r _ (by omega)).mono ?_
  rintro e w4 ⟨R, rc, lr, rfl, hrc, hR, hb4, hvr, hnr, hlr⟩
  have HVR := Lib.hid hvr
  clear hvr
  go_wp2
  go_ret2
  refine ⟨Q, qc, q, R, rc, lr, rfl, hQ.below hb4, hR, hnq, hnr, ?_, ?_, (hw1.trans (hb3.mono hw1.size)).trans (hb4.mono (Nat.le_trans hw1.size hb3.size))⟩
  · show VD xs = _
    rw [hyv.out, HVR.out]; exact hsp.out
  · show VD lr < VD ys
    rw [hyv.out, HVR.out]; exact hr
end Go.Proofs.YtllcegiaojchdaaDoor

