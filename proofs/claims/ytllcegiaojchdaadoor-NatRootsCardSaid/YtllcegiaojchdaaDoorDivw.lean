/- nat.divideWord: the quotient in place, the remainder returned; at most 100000 words, a divisor that is not 0. -/
import Derived.Test.YtllcegiaojchdaaDoorApp
import Derived.Lib.LazyBuf
namespace Go.Proofs.YtllcegiaojchdaaDoor
open Go.RowKit V

/-- Quotient in place, remainder. -/
def DivwP (B : Nat) (A : Option Addr) (v : Value) (xs : List Nat) (d : Nat) (w : World) (e : Ending) (w' : World) : Prop :=
  ∃ r : Nat, ∃ ys : List Nat, e = .returned (.int .u32 r) ∧ r < d ∧ Hid (val 4294967296 xs = val 4294967296 ys * d + r) ∧ Hid (ys.length = xs.length) ∧ Dig 4294967296 ys ∧ Own .u32 55 B w' v ys ∧ OnlyAt A w w'

theorem or_join (r x : Nat) (hr : r < 4294967296) (hx : x < 4294967296) : bits .or .u64 ((r : Int) * 4294967296) (x : Int) = (r * 4294967296 + x : Nat) := by
  have h := u64_or_nat (r * 4294967296) x (by omega) (by omega)
  rw [nat_join 32 (r * 4294967296) x (by omega) (by omega)] at h
  rw [← h]
  congr 1

set_option maxHeartbeats 1000000 in
theorem divw_any (A : Option Addr) (n c d B : Nat) (xs : List Nat) (w : World) (hn : xs.length = n) (h : Own .u32 55 B w (.slice A n c) xs) (bl : n ≤ 100000) (dx : Dig 4294967296 xs) (hd : 1 ≤ d) (hd2 : d < 4294967296) (hA : 0 < n → ∃ g, A = some ⟨g, 0, none⟩) :
    Calls Tryd.prog 56 #[.slice A n c, .int .u32 d] w (DivwP B A (.slice A n c) xs d w) := by
  have HN := Lib.hid hn
  clear hn
  go_enter Tryd.func56, Tryd.ntmps56
  go_wp2
  go_loopw [5, 6, 7] (fun rv i _ wr => ∃ j : Int, ∃ r : Nat, ∃ cur : List Nat, -1 ≤ j ∧ j < n ∧ i = .int .i64 j ∧ rv = .int .u64 r ∧ r < d ∧ cur.length = xs.length ∧ Dig 4294967296 cur ∧
      val 4294967296 (xs.drop (j + 1).toNat) = val 4294967296 (cur.drop (j + 1).toNat) * d + r ∧ (∀ q : Nat, (q : Int) ≤ j → cur.getD q 0 = xs.getD q 0) ∧ Own .u32 55 B wr (.slice A n c) cur ∧ OnlyAt A w wr) (fun _ i _ _ => (intOf i + 1).toNat)
  case atStart => exact ⟨_, 0, xs, by omega, by omega, rfl, rfl, by omega, rfl, dx, by rw [show ((n : Int) - 1 + 1).toNat = xs.length by have := HN.out; omega, List.drop_length]; simp [val], fun _ _ => rfl, h, OnlyAt.refl _ _⟩
  case round =>
    obtain ⟨j, r, cur, hj, hjl, rfl, rfl, hr, hcl, hdc, hv, hout, hown, hbw⟩ := hrel
    have HV := Lib.hid hv
    have HCL := Lib.hid hcl
    have HO := Lib.hid hout
    clear hv hcl hout
    by_cases h0 : j < 0
    · go_wp2
      go_ret
      exact ⟨r, cur, rfl, hr, by have := HV.out; rw [show (j + 1).toNat = 0 by omega] at this; exact this, HCL.out, hdc, hown, hbw⟩
    · obtain ⟨i, rfl⟩ := Int.eq_ofNat_of_zero_le (show 0 ≤ j by omega)
      have hix : i < n := by omega
      obtain ⟨g, rfl⟩ := hA (by omega)
      have hnx := HN.out
      have hkc : i < cur.length := by have := HCL.out; omega
      have hkx : i < xs.length := by omega
      have HX := Lib.hid hnx
      clear hnx
      obtain ⟨x, ex⟩ : ∃ x, Hid (cur.getD i 0 = x) := ⟨_, rfl⟩
      have hxl : x < 4294967296 := by rw [← ex.out]; exact dig_getD hdc (by omega) i
      have hcell : wr.cell? ⟨g, i, none⟩ = some (.int .u32 x) := by have := hown.cell (HCL.out.trans HX.out) hix; rwa [ex.out] at this
      have hfr := hown.frz (i := i) (HCL.out.trans HX.out)
      have hor := Lib.hid (or_join r x (by omega) hxl)
      have hq : (r * 4294967296 + x) / d < 4294967296 := Nat.div_lt_of_lt_mul (by have : (r + 1) * 4294967296 ≤ d * 4294967296 := Nat.mul_le_mul_right _ hr; omega)
      obtain ⟨s, r', hs, hr', hsc, es, er⟩ : ∃ s r' : Nat, s < 4294967296 ∧ r' < d ∧ Hid (s * d + r' = r * 4294967296 + x) ∧ Hid (bits .or .u64 ((r : Int) * 4294967296) (x : Int) / d % 4294967296 = s) ∧ Hid (bits .or .u64 ((r : Int) * 4294967296) (x : Int) % d = r') := by
        refine ⟨(r * 4294967296 + x) / d, (r * 4294967296 + x) % d, hq, Nat.mod_lt _ (by omega), by show _ = _; rw [Nat.mul_comm]; exact Nat.div_add_mod _ _, ?_, ?_⟩
        · show _ = _
          rw [hor.out, ← Int.natCast_ediv]
          generalize (r * 4294967296 + x) / d = Q at hq ⊢
          omega
        · show _ = _
          rw [hor.out]; rfl
      have hT0 : 0 ≤ bits .or .u64 ((r : Int) * 4294967296) (x : Int) := by rw [hor.out]; omega
      have hT1 : bits .or .u64 ((r : Int) * 4294967296) (x : Int) ≤ 18446744073709551615 := by rw [hor.out]; omega
      clear hq hor
      go_wp2
      go_roundw
      case rel =>
        exact ⟨_, r', cur.set i s, by omega, by omega, rfl, by rw [er.out], hr', by rw [List.length_set]; exact HCL.out, hdc.set _ hs,
          by rw [show ((i : Int) - 1 + 1).toNat = i by omega]; exact split_step 4294967296 i d x r s r' cur xs hkc hkx (by rw [← HO.out i (Int.le_refl _)]; exact ex.out) hsc.out HV.out,
          fun q hq => by rw [getD_set _ _ _ _ hkc, if_neg (by omega)]; exact HO.out q (by omega), by rw [es.out]; exact hown.set_ (HCL.out.trans HX.out), hbw.setCell rfl _⟩
      case measure => simp [intOf]
end Go.Proofs.YtllcegiaojchdaaDoor

