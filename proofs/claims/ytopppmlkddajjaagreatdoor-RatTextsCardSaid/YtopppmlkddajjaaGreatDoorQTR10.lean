/- isochroneref01.Digits: the number of a string of decimal digits. -/
import Derived.Test.YtopppmlkddajjaaGreatDoorQTR9
import Derived.Lib.LazyBuf
import Derived.Deep.LoopGhost
import Derived.Test.YtopppmlkddajjaaGreatDoorShelf
import Derived.Lib.AppendIntMem
import Derived.Laws.IdiomCopy
import Derived.Lib.SmallJoins
import Derived.Laws.IdiomStrings
import Derived.Deep.RegionWith
import Derived.BigRegion
namespace Go.Proofs.YtopppmlkddajjaaGreatDoor
open Go.RowKit V

theorem dnum_take (s : ByteArray) (k : Nat) (h : k < s.size) : dnum (s.data.toList.take (k + 1)) = dnum (s.data.toList.take k) * 10 + (s[k].toNat - 48) := by
  rw [bytes_snoc s k h, dnum_snoc]
theorem chunk_step (d p t n x : Nat) (e : d + 10 ^ p * t = n) : d * 10 + x + 10 ^ (p + 1) * t = n * 10 + x := by
  rw [Nat.pow_succ, ← e, Nat.add_mul, Nat.mul_right_comm]
  omega

set_option maxRecDepth 100000 in
set_option maxHeartbeats 1000000 in
theorem digits_any (s : ByteArray) (w : World) (hs : s.size ≤ 100000) (h : AllD s.data.toList) :
    Calls Tryz.prog 70 #[.string s] w (OutP .i64 (fun zs => VD zs = dnum s.data.toList ∧ Nm zs ∧ zs.length ≤ s.size + 3) w) := by
  have HH := Lib.hid h
  clear h
  go_enter Tryz.func70, Tryz.ntmps70
  go_wp2
  go_loopw [3, 4, 5, 6] (fun v mv _ _ wr => ∃ m : Int, ∃ out, mv = .int .i64 m ∧ -3 ≤ m ∧ m ≤ s.size ∧ Own .i64 3 w.heap.size wr v out ∧ Dig 10000 out ∧ val 10000 out + 10000 ^ out.length * dnum (s.data.toList.take m.toNat) = dnum s.data.toList ∧
      (out.length : Int) + m ≤ s.size ∧ Below w.heap.size w wr) (fun _ mv _ _ _ => (intOf mv).toNat)
  case atStart => exact ⟨s.size, [], rfl, by omega, by omega, Own.made (Nat.le_refl _) 0 (by omega), fun _ h => by simp at h, by rw [Int.toNat_natCast, bytes_all]; simp [val], by simp, (Below.refl _ _).alloc (Nat.le_refl _) _⟩
  case round =>
    obtain ⟨m, out, rfl, hm, hms, hown, hdo, hv, hol, hbw⟩ := hrel
    have HV := Lib.hid hv
    clear hv
    by_cases h0 : 0 < m
    · obtain ⟨e, rfl⟩ := Int.eq_ofNat_of_zero_le (show 0 ≤ m by omega)
      obtain ⟨st, hst⟩ : ∃ st : Nat, Hid (max (0 : Int) ((e : Int) - 4) = st) := ⟨(max (0 : Int) ((e : Int) - 4)).toNat, by show _ = _; omega⟩
      have hst1 : st ≤ e := by have := hst.out; omega
      have hst2 : e ≤ st + 4 := by have := hst.out; omega
      have hst3 : Hid (st = 0 ∨ e = st + 4) := by have := hst.out; show _ ∨ _; omega
      have hse : e ≤ s.size := by omega
      have he0 : 0 < e := by omega
      go_wp2
      go_loop [5, 6] (fun dv iv => ∃ i d : Nat, st ≤ i ∧ i ≤ e ∧ dv = .int .i64 d ∧ iv = .int .i64 i ∧ d + 10 ^ (i - st) * dnum (s.data.toList.take st) = dnum (s.data.toList.take i) ∧ d < 10 ^ (i - st)) (fun _ iv => e - (intOf iv).toNat)
      case atStart => exact ⟨st, 0, Nat.le_refl _, hst1, rfl, by rw [hst.out], by simp, by simp⟩
      case round =>
        obtain ⟨i, d, hi, hie, rfl, rfl, hd, hdl⟩ := hrel
        have HD := Lib.hid hd
        have hd4 : d ≤ 9999 := by
          have h2 : 10 ^ (i - st) ≤ 10 ^ 4 := Nat.pow_le_pow_right (by omega) (by omega)
          omega
        have HDL := Lib.hid hdl
        clear hd hdl
        by_cases hlt : i < e
        · have his : i < s.size := by omega
          obtain ⟨c1, c2⟩ := HH.out _ (mem_bytes s i his)
          have HDT := Lib.hid (dnum_take s i his)
          go_wp2
          go_round
          case rel => exact ⟨i + 1, d * 10 + (s[i].toNat - 48), by omega, by omega, by go_num, by go_num, by
            rw [HDT.out, show i + 1 - st = (i - st) + 1 by omega]
            exact chunk_step _ _ _ _ _ HD.out, by
            have h1 := HDL.out
            rw [show i + 1 - st = (i - st) + 1 by omega, Nat.pow_succ]
            omega⟩
          case measure => simp [intOf]; omega
        · obtain rfl : i = e := by omega
          have holen : out.length ≤ 100000 := by omega
          go_wp2_with (at_builtin; refine wpList_app1 rfl (.tmp 30) (.tmp 32) 28 3 rfl .i64 8 info_i64 Tryz.underlying28 (by omega) _ _ out _ d rfl rfl hown rfl hbw (Nat.le_refl _) (by omega) ?_; intro v' w' hown' hbw')
          go_roundw
          case rel =>
            refine ⟨_, out ++ [d], rfl, by omega, by omega, hown', hdo.snoc (by omega), ?_, by rw [List.length_append, List.length_singleton]; omega, hbw'⟩
            have h1 := HV.out
            have h2 := HD.out
            rw [Int.toNat_natCast] at h1
            rw [val_snoc, List.length_append, List.length_singleton, ← h1, Nat.pow_succ, Nat.mul_assoc, ← h2]
            rcases hst3.out with h3 | h3
            · rw [show ((i : Int) - 4).toNat = 0 by omega, h3]
              simp [dnum_nil]
            · rw [show ((i : Int) - 4).toNat = st by omega, show i - st = 4 by omega]
              simp only [Nat.mul_add, show (10 : Nat) ^ 4 = 10000 from rfl]
              omega
          case measure => simp [intOf]; omega
    · obtain ⟨O, oc, rfl, hoc, hro⟩ := hown.form
      clear hown
      have hol2 : out.length ≤ 100010 := by omega
      have HF : Hid (val 10000 out = dnum s.data.toList) := by
        have h1 := HV.out
        rw [show m.toNat = 0 by omega] at h1
        show _ = _
        simpa [dnum_nil] using h1
      go_wp2_with fail
      refine (trim_i64 O oc out _ hro hoc (by omega)).mono ?_
      rintro e w1 ⟨k, hk, rfl, hv3, hn3, rfl⟩
      have HV3 := Lib.hid hv3
      clear hv3
      go_wp2
      go_ret
      exact OutP.of_take hk (by omega) hro hbw ⟨by show val 10000 (out.take k) = _; rw [HV3.out]; exact HF.out, ⟨hdo.take k, hn3⟩, by rw [List.length_take]; omega⟩
end Go.Proofs.YtopppmlkddajjaaGreatDoor


/- nat.Parse: one to 20000 decimal digits, or the error of the document. -/
namespace Go.Proofs.YtopppmlkddajjaaGreatDoor
open Go.RowKit V

set_option maxRecDepth 100000 in
set_option maxHeartbeats 400000 in
theorem parse_empty (s : ByteArray) (w : World) (hs : s.size = 0) :
    Calls Tryz.prog 94 #[.string s] w (ErrP 90 w) := by
  have hne := is_empty hs
  have hnil : s.toList = [] := by rw [ByteArray.toList_eq]; exact List.eq_nil_of_length_eq_zero (by simpa using hs)
  go_enter Tryz.func94, Tryz.ntmps94
  go_wp2
  go_step3
  go_wp2
  rw [Exit.noGoto_ret]
  go_ret2
  exact ⟨rfl, Below.refl _ _⟩

theorem times_z (v : Value) (B f s : Nat) (F S : Int) (xs : List Nat) (w : World) (hF : F = f) (hS : S = s) (hown0 : Own .u32 59 B w v xs) (hB : B ≤ w.heap.size) (bl : xs.length ≤ 10000) (mx : Mag xs) (hf : f < 4294967296) (hf1 : 1 ≤ f) (hs : s < 4294967296) :
    Calls Tryz.prog 112 #[v, .int .u32 F, .int .u32 S] w (TimesAP B xs f s w) := by
  subst hF; subst hS
  exact times_any v B f s xs w hown0 hB bl mx hf hf1 hs

theorem pow_base (j : Nat) (hj : j ≤ 9) : ∃ p, Hid (10 ^ j = p) ∧ 1 ≤ p ∧ p ≤ 1000000000 ∧ (j < 9 → p ≤ 100000000) ∧ (j = 9 → p = 1000000000) := by
  refine ⟨10 ^ j, Lib.hid rfl, Nat.pow_pos (by omega), ?_, fun h => ?_, fun h => by rw [h]⟩
  · exact Nat.pow_le_pow_right (n := 10) (by omega) hj
  · exact Nat.pow_le_pow_right (n := 10) (j := 8) (by omega) (by omega)

set_option maxRecDepth 100000 in
set_option maxHeartbeats 1000000 in
theorem parse_ok (s : ByteArray) (w : World) (hs : s.size ≤ 20000) (hpos : 0 < s.size) (h : AllD s.data.toList) :
    Calls Tryz.prog 94 #[.string s] w (OkP (fun zs => V32 zs = dnum s.data.toList ∧ Mag zs) w) := by
  have HH := Lib.hid h
  have hne := not_empty hpos
  have hnn : (s.toList = []) = False := by
    apply eq_false
    intro h0
    rw [h0] at hne
    cases hne
  have hsI : (s.size : Int) ≤ 20000 := by omega
  clear h
  go_enter Tryz.func94, Tryz.ntmps94
  go_wp2
  go_step3
  go_wp2
  go_step3
  go_wp2
  go_loopw [2, 3, 4, 5, 6, 7, 8] (fun r2 r3 v av _ _ _ wr => ∃ k : Nat, ∃ zs, r2 = .slice none 0 0 ∧ r3 = .int .i64 0 ∧ av = .int .i64 k ∧ k ≤ s.size ∧ Own .u32 59 w.heap.size wr v zs ∧ Mag zs ∧ V32 zs = dnum (s.data.toList.take k) ∧ 9 * zs.length ≤ k ∧ Below w.heap.size w wr) (fun _ _ _ av _ _ _ _ => s.size + 1 - (intOf av).toNat)
  case atStart => exact ⟨0, [], rfl, rfl, rfl, Nat.zero_le _, Own.nil_, mag_nil, rfl, by simp, Below.refl _ _⟩
  case round =>
    obtain ⟨k, zs, rfl, rfl, rfl, hk, hown, hmz, hv, hzl, hbw⟩ := hrel
    have HV := Lib.hid hv
    clear hv
    go_wp2
    go_loop [2, 3, 4, 5, 6, 7, 8] (fun r2 r3 v4 av bv pv _ => ∃ j b p K : Nat, ∃ B P : Int, Own .u32 59 w.heap.size wr v4 zs ∧ r2 = .slice none 0 0 ∧ r3 = .int .i64 0 ∧ j ≤ 9 ∧ K ≤ s.size ∧ av = .int .i64 K ∧ bv = .int .u32 B ∧ pv = .int .u32 P ∧ K = k + j ∧ B = b ∧ P = p ∧ 10 ^ j = p ∧ b < p ∧ b + p * dnum (s.data.toList.take k) = dnum (s.data.toList.take K)) (fun _ _ _ av _ _ _ => s.size - (intOf av).toNat)
    case atStart => exact ⟨0, 0, 1, k, 0, 1, hown, rfl, rfl, by omega, hk, rfl, rfl, rfl, rfl, rfl, rfl, rfl, by omega, by simp⟩
    case round =>
      clear hown
      obtain ⟨j, b, p, K, B, P, hown, rfl, rfl, hj, hKs, rfl, rfl, rfl, hK, hB, hP, hp, hb, hd⟩ := hrel
      have HD := Lib.hid hd
      obtain ⟨p', hp', hp1, hp2, hp3, hp4⟩ := pow_base j hj
      obtain rfl : p = p' := hp.symm.trans hp'.out
      have HB := Lib.hid hb
      have HBB := Lib.hid hB
      have HPP := Lib.hid hP
      have HP1 := Lib.hid hp1
      have HP := Lib.hid hp
      have HK := Lib.hid hK
      have HP2 := Lib.hid hp2
      by_cases h9 : j < 9
      · have hp8 := hp3 h9
        have hP0 : 1 ≤ P := by omega
        have hP9 : P < 1000000000 := by omega
        have hP10 : P * 10 ≤ 1000000000 := by omega
        have hB0 : 0 ≤ B := by omega
        have hB9 : B * 10 ≤ 1000000000 := by omega
        have HP8 := Lib.hid hp8
        clear hp3 hp4 hp8 hp2 hb hd hp hp1 hB hP
        by_cases hend : K < s.size
        · obtain ⟨c1, c2⟩ := HH.out _ (mem_bytes s K hend)
          have hne2 : ((K : Int) == (s.size : Int)) = false := beq_eq_false_iff_ne.2 (by omega)
          have HDT := Lib.hid (dnum_take s K hend)
          clear hK
          go_wp2
          go_round
          case rel =>
            refine ⟨j + 1, b * 10 + (s[K].toNat - 48), p * 10, K + 1, _, _, hown, rfl, rfl, by omega, by omega, by go_num, rfl, rfl, by have := HK.out; omega, by have := HBB.out; omega, by have := HPP.out; omega, by rw [Nat.pow_succ, HP.out], by have := HB.out; omega, ?_⟩
            rw [HDT.out, ← HD.out, Nat.add_mul, Nat.mul_right_comm]
            omega
          case measure => simp [intOf]; omega
        · have hne2 : ((K : Int) == (s.size : Int)) = true := by rw [beq_iff_eq]; omega
          have hfull : K = s.size := by omega
          have HFULL := Lib.hid hfull
          clear hK hfull
          go_wp2_with fail
          refine (times_z _ w.heap.size p b P B zs _ HPP.out HBB.out hown hbw.size (by omega) hmz (by have := HP2.out; omega) HP1.out (by have := HB.out; have := HP2.out; omega)).mono ?_
          rintro e w2 ⟨v2, ys, rfl, hown2, hv2, hm2, hl2, hb2⟩
          have HV2 := Lib.hid hv2
          clear hv2
          obtain ⟨Z, zc, rfl, hzc, hz⟩ := hown2.form
          go_wp2
          try rw [Exit.noGoto_ret]
          go_ret2
          refine ⟨Z, zc, ys, hz, hzc, hbw.trans hb2, ⟨?_, hm2⟩, rfl⟩
          rw [HV2.out, HV.out, Nat.mul_comm, Nat.add_comm, HD.out, HFULL.out, bytes_all]
      · obtain rfl : j = 9 := by omega
        have hp9 := hp4 rfl
        have hP9 : 1000000000 ≤ P := by omega
        have HP9 := Lib.hid hp9
        clear hp3 hp4 hp2 hb hd hp hp1 hB hP hp9 hK
        go_wp2_with fail
        refine (times_z _ w.heap.size p b P B zs _ HPP.out HBB.out hown hbw.size (by omega) hmz (by have := HP2.out; omega) HP1.out (by have := HB.out; have := HP2.out; omega)).mono ?_
        rintro e w2 ⟨v2, ys, rfl, hown2, hv2, hm2, hl2, hb2⟩
        have HV2 := Lib.hid hv2
        clear hv2
        go_wp2
        go_roundw
        case rel =>
          refine ⟨K, ys, rfl, rfl, rfl, hKs, hown2, hm2, ?_, by have := HK.out; omega, hbw.trans hb2⟩
          rw [HV2.out, HV.out, Nat.mul_comm, Nat.add_comm, HD.out]
        case measure => have := HK.out; simp [intOf]; omega

set_option maxRecDepth 100000 in
set_option maxHeartbeats 1000000 in
theorem parse_bad (s : ByteArray) (w : World) (hs : s.size ≤ 20000) (hpos : 0 < s.size) (h : ¬ AllD s.data.toList) :
    Calls Tryz.prog 94 #[.string s] w (ErrP 90 w) := by
  obtain ⟨bd, hbd, hall, hbad⟩ := find_bad s h
  have HA := Lib.hid hall
  have HBAD := Lib.hid hbad
  have hne := not_empty hpos
  have hnn : (s.toList = []) = False := by
    apply eq_false
    intro h0
    rw [h0] at hne
    cases hne
  have hsI : (s.size : Int) ≤ 20000 := by omega
  clear h hall hbad
  go_enter Tryz.func94, Tryz.ntmps94
  go_wp2
  go_step3
  go_wp2
  go_step3
  go_wp2
  go_loopw [2, 3, 4, 5, 6, 7, 8] (fun r2 r3 v av _ _ _ wr => ∃ k : Nat, ∃ zs, r2 = .slice none 0 0 ∧ r3 = .int .i64 0 ∧ av = .int .i64 k ∧ k ≤ bd ∧ Own .u32 59 w.heap.size wr v zs ∧ Mag zs ∧ V32 zs = dnum (s.data.toList.take k) ∧ 9 * zs.length ≤ k ∧ Below w.heap.size w wr) (fun _ _ _ av _ _ _ _ => s.size + 1 - (intOf av).toNat)
  case atStart => exact ⟨0, [], rfl, rfl, rfl, Nat.zero_le _, Own.nil_, mag_nil, rfl, by simp, Below.refl _ _⟩
  case round =>
    obtain ⟨k, zs, rfl, rfl, rfl, hk, hown, hmz, hv, hzl, hbw⟩ := hrel
    have HV := Lib.hid hv
    clear hv
    go_wp2
    go_loop [2, 3, 4, 5, 6, 7, 8] (fun r2 r3 v4 av bv pv _ => ∃ j b p K : Nat, ∃ B P : Int, Own .u32 59 w.heap.size wr v4 zs ∧ r2 = .slice none 0 0 ∧ r3 = .int .i64 0 ∧ j ≤ 9 ∧ K ≤ bd ∧ av = .int .i64 K ∧ bv = .int .u32 B ∧ pv = .int .u32 P ∧ K = k + j ∧ B = b ∧ P = p ∧ 10 ^ j = p ∧ b < p ∧ b + p * dnum (s.data.toList.take k) = dnum (s.data.toList.take K)) (fun _ _ _ av _ _ _ => s.size - (intOf av).toNat)
    case atStart => exact ⟨0, 0, 1, k, 0, 1, hown, rfl, rfl, by omega, hk, rfl, rfl, rfl, rfl, rfl, rfl, rfl, by omega, by simp⟩
    case round =>
      clear hown
      obtain ⟨j, b, p, K, B, P, hown, rfl, rfl, hj, hKs, rfl, rfl, rfl, hK, hB, hP, hp, hb, hd⟩ := hrel
      have HD := Lib.hid hd
      obtain ⟨p', hp', hp1, hp2, hp3, hp4⟩ := pow_base j hj
      obtain rfl : p = p' := hp.symm.trans hp'.out
      have HB := Lib.hid hb
      have HBB := Lib.hid hB
      have HPP := Lib.hid hP
      have HP1 := Lib.hid hp1
      have HP := Lib.hid hp
      have HK := Lib.hid hK
      have HP2 := Lib.hid hp2
      by_cases h9 : j < 9
      · have hp8 := hp3 h9
        have hP0 : 1 ≤ P := by omega
        have hP9 : P < 1000000000 := by omega
        have hP10 : P * 10 ≤ 1000000000 := by omega
        have hB0 : 0 ≤ B := by omega
        have hB9 : B * 10 ≤ 1000000000 := by omega
        have HP8 := Lib.hid hp8
        clear hp3 hp4 hp8 hp2 hb hd hp hp1 hB hP
        have hend : K < s.size := by omega
        have hne2 : ((K : Int) == (s.size : Int)) = false := beq_eq_false_iff_ne.2 (by omega)
        by_cases hKb : K < bd
        · obtain ⟨c1, c2⟩ := HA.out K hKb
          have HDT := Lib.hid (dnum_take s K hend)
          clear hK
          go_wp2
          go_round
          case rel =>
            refine ⟨j + 1, b * 10 + (s[K].toNat - 48), p * 10, K + 1, _, _, hown, rfl, rfl, by omega, by omega, by go_num, rfl, rfl, by have := HK.out; omega, by have := HBB.out; omega, by have := HPP.out; omega, by rw [Nat.pow_succ, HP.out], by have := HB.out; omega, ?_⟩
            rw [HDT.out, ← HD.out, Nat.add_mul, Nat.mul_right_comm]
            omega
          case measure => simp [intOf]; omega
        · have hKB : K = bd := by omega
          have hc : (s[K].toNat : Int) < 48 ∨ 57 < (s[K].toNat : Int) := by
            have h1 := HBAD.out
            unfold isD at h1
            subst hKB
            omega
          clear hK hKB
          rcases hc with hc | hc
          · go_wp2
            try rw [Exit.noGoto_ret]
            go_ret2
            exact ⟨rfl, hbw⟩
          · go_wp2
            try rw [Exit.noGoto_ret]
            go_ret2
            exact ⟨rfl, hbw⟩
      · obtain rfl : j = 9 := by omega
        have hp9 := hp4 rfl
        have hP9 : 1000000000 ≤ P := by omega
        have HP9 := Lib.hid hp9
        clear hp3 hp4 hp2 hb hd hp hp1 hB hP hp9 hK
        go_wp2_with fail
        refine (times_z _ w.heap.size p b P B zs _ HPP.out HBB.out hown hbw.size (by omega) hmz (by have := HP2.out; omega) HP1.out (by have := HB.out; have := HP2.out; omega)).mono ?_
        rintro e w2 ⟨v2, ys, rfl, hown2, hv2, hm2, hl2, hb2⟩
        have HV2 := Lib.hid hv2
        clear hv2
        go_wp2
        go_roundw
        case rel =>
          refine ⟨K, ys, rfl, rfl, rfl, hKs, hown2, hm2, ?_, by have := HK.out; omega, hbw.trans hb2⟩
          rw [HV2.out, HV.out, Nat.mul_comm, Nat.add_comm, HD.out]
        case measure => have := HK.out; simp [intOf]; omega
end Go.Proofs.YtopppmlkddajjaaGreatDoor


/- isochroneref01.Text: the decimal digits of a number of at most 1000 digits of the document. -/
namespace Go.Proofs.YtopppmlkddajjaaGreatDoor
open Go.RowKit V

/-- The digits, none for zero. -/
def decs (v : Nat) : List UInt8 := if v = 0 then [] else Lib.decDigits v
theorem decs_zero : decs 0 = [] := rfl
theorem decs_pos {v : Nat} (h : 0 < v) : decs v = Lib.decDigits v := by unfold decs; rw [if_neg (by omega)]
theorem decs_len {v : Nat} (h : 0 < v) : 0 < (decs v).length := by rw [decs_pos h]; exact dec_pos v
theorem decs_step (v d : Nat) (hd : d < 10) (h : 0 < v ∨ 0 < d) : decs (v * 10 + d) = decs v ++ [UInt8.ofNat (48 + d)] := by
  rw [decs_pos (by omega)]
  rcases Nat.eq_zero_or_pos v with h0 | h0
  · subst h0
    rw [decs_zero, Lib.decDigits, dif_pos (by omega)]
    simp
  · rw [dec_step v d (by omega) hd, decs_pos h0]
theorem dig_byte (d : Nat) (hd : d < 10) : (UInt8.ofNat (48 + d)).toNat = 48 + d := by
  simp [UInt8.toNat_ofNat']; omega
theorem asN_snoc (l : List UInt8) (c : UInt8) : asN (l ++ [c]) = asN l ++ [c.toNat] := by simp [asN]
/-- The places of the digits of x below T. -/
def Place (T x k v : Nat) : Prop := (k = 1000 ∧ v = T) ∨ (k = 100 ∧ v = T * 10 + x / 1000) ∨ (k = 10 ∧ v = T * 100 + x / 100) ∨ (k = 1 ∧ v = T * 1000 + x / 10) ∨ (k = 0 ∧ v = T * 10000 + x)
theorem Place.step {T x k v : Nat} (h : Place T x k v) (hx : x < 10000) (hk : k ≠ 0) : Place T x (k / 10) (v * 10 + x / k % 10) := by
  unfold Place at h ⊢
  rcases h with ⟨rfl, rfl⟩ | ⟨rfl, rfl⟩ | ⟨rfl, rfl⟩ | ⟨rfl, rfl⟩ | ⟨rfl, rfl⟩ <;> omega
theorem Place.done {T x v : Nat} (h : Place T x 0 v) : v = T * 10000 + x := by unfold Place at h; omega
theorem Place.bound {T x k v : Nat} (h : Place T x k v) : v ≤ T * 10000 + x := by unfold Place at h; omega
theorem Place.le {T x k v : Nat} (h : Place T x k v) : k ≤ 1000 := by unfold Place at h; omega

/-- The text, and what was there is as it was. -/
def RTextP (v : Nat) (w : World) (e : Ending) (w' : World) : Prop := e = .returned (.string ⟨(Lib.decDigits v).toArray⟩) ∧ Below w.heap.size w w'

theorem decs_small {v : Nat} {k : Nat} (h : v < 10 ^ k) : (decs v).length ≤ k := by
  unfold decs
  split
  · simp
  · rename_i h0
    rcases Nat.eq_zero_or_pos k with hk | hk
    · subst hk; simp at h; omega
    · exact (pad_eq k v hk h).1

set_option maxRecDepth 100000 in
set_option maxHeartbeats 1000000 in
theorem rtext_any (A : Option Addr) (ca : Nat) (xs : List Nat) (w : World) (hx : Rd .i64 w A xs) (bl : xs.length ≤ 1000) (nmx : Nm xs) (hpos : 0 < xs.length) :
    Calls Tryz.prog 67 #[.slice A xs.length ca] w (RTextP (VD xs) w) := by
  have hb0 : ((xs.length : Int) == 0) = false := beq_eq_false_iff_ne.2 (by omega)
  have hvp := VD_pos nmx hpos
  have dx : Dig 10000 xs := nmx.1
  go_enter Tryz.func67, Tryz.ntmps67
  go_wp2
  go_loopw [3, 4, 5, 6] (fun v iv _ _ wr => ∃ j : Int, ∃ T : Nat, -1 ≤ j ∧ j < xs.length ∧ iv = .int .i64 j ∧ T = val 10000 (xs.drop (j + 1).toNat) ∧ Own .u8 5 w.heap.size wr v (asN (decs T)) ∧ Below w.heap.size w wr) (fun _ iv _ _ _ => (intOf iv + 1).toNat)
  case atStart => exact ⟨_, 0, by omega, by omega, rfl, by rw [show ((xs.length : Int) - 1 + 1).toNat = xs.length by omega, List.drop_length]; rfl, Own.nil_, Below.refl _ _⟩
  case round =>
    obtain ⟨j, T, hj, hjl, rfl, hT, hown, hbw⟩ := hrel
    have HT := Lib.hid hT
    clear hT
    by_cases h0 : j < 0
    · have hfin : T = VD xs := by rw [HT.out, show (j + 1).toNat = 0 by omega, List.drop_zero]; rfl
      subst hfin
      have hlp : 0 < (decs (VD xs)).length := decs_len (by omega)
      have HD := Lib.hid (decs_pos (v := VD xs) (by omega))
      obtain ⟨l, hl⟩ : ∃ l, decs (VD xs) = l := ⟨_, rfl⟩
      rw [hl] at hown hlp HD
      clear hl HT
      obtain ⟨S, tc, rfl, htc, htr, hsh⟩ := hown.shapeN (asN_len l)
      obtain ⟨tg, rfl, htg⟩ := hsh hlp
      have hcell : ∀ i (hi : i < l.length), wr.cell? ((⟨tg, 0, none⟩ : Addr).add i) = some (.int .u8 (l[i].toNat : Int)) := fun i hi => by
        obtain ⟨ad, e, _, hc⟩ := htr (by rw [asN_len]; exact hlp)
        injection e with e
        subst e
        rw [hc i (by rw [asN_len]; exact hi)]
        simp [asN, List.getD_eq_getElem?_getD, List.getElem?_eq_getElem hi]
      have hcv := run_convert_bytes_back (P := Tryz.prog) wr 105 9 5 ⟨tg, 0, none⟩ tc l Tryz.underlying105 Tryz.underlying5 Tryz.underlying9 hcell
      clear hcell hsh
      go_wp2
      go_ret
      exact ⟨congrArg (fun q : List UInt8 => Ending.returned (.string ⟨q.toArray⟩)) HD.out, hbw⟩
    · obtain ⟨i, rfl⟩ := Int.eq_ofNat_of_zero_le (show 0 ≤ j by omega)
      have hix : i < xs.length := by omega
      obtain ⟨ad, x, rfl, hbx0, ex, cx0⟩ := hx.ask hix
      have hxl : x < 10000 := by rw [← ex.out]; exact dig_getD dx (by omega) i
      have HT2 : Hid (T * 10000 + x = val 10000 (xs.drop i)) := by
        show _ = _
        rw [val_drop 10000 xs i hix, ex.out, HT.out, show ((i : Int) + 1).toNat = i + 1 by omega]
        omega
      have HTL : Hid (T * 10000 + x < 10 ^ (4 * xs.length)) := by
        have h1 := dig_drop_lt dx i
        have h2 : 10000 ^ (xs.length - i) ≤ 10000 ^ xs.length := Nat.pow_le_pow_right (by omega) (by omega)
        have h3 : (10000 : Nat) ^ xs.length = 10 ^ (4 * xs.length) := by rw [Nat.pow_mul]
        show _ < _
        rw [HT2.out]
        rw [h3] at h2
        exact Nat.lt_of_lt_of_le h1 h2
      go_wp2
      go_loopw [3, 5, 6] (fun v kv _ wr => ∃ k u : Nat, kv = .int .i64 k ∧ Place T x k u ∧ Own .u8 5 w.heap.size wr v (asN (decs u)) ∧ Below w.heap.size w wr) (fun _ kv _ _ => (intOf kv).toNat)
      case atStart => exact ⟨1000, T, rfl, .inl ⟨rfl, rfl⟩, hown, hbw⟩
      case round =>
        clear hown hbw
        obtain ⟨k, u, rfl, hpl, hown, hbw⟩ := hrel
        have HPL := Lib.hid hpl
        have hk1 := hpl.le
        have hdl : (decs u).length ≤ 4000 := Nat.le_trans (decs_small (Nat.lt_of_le_of_lt hpl.bound HTL.out)) (by omega)
        clear hpl
        by_cases hk0 : k = 0
        · subst hk0
          have hu := HPL.out.done
          go_wp2
          go_roundw
          case rel => exact ⟨_, u, by omega, by omega, rfl, by rw [hu, show ((i : Int) - 1 + 1).toNat = i by omega]; exact HT2.out, hown, hbw⟩
          case measure => simp [intOf]
        · have cx : wr.cell? (ad.add i) = some (.int .i64 x) := (hbw.cell (p := ad.add i) (by rw [block_of_add]; exact hbx0)).trans cx0
          obtain ⟨q, hqx, hq⟩ : ∃ q, x / k = q ∧ q ≤ 9999 := ⟨_, rfl, by have := Nat.div_le_self x k; omega⟩
          obtain ⟨d, hd, hdx⟩ : ∃ d, d < 10 ∧ q % 10 = d := ⟨_, Nat.mod_lt _ (by omega), rfl⟩
          have hqi : (x : Int) / k = q := by rw [← hqx]; simp
          have hdi : (q : Int) % 10 = d := by omega
          have hstep := HPL.out.step hxl hk0
          rw [hqx, hdx] at hstep
          have HSTEP := Lib.hid hstep
          clear hstep hdx hqx
          obtain ⟨l, hl⟩ : ∃ l, decs u = l := ⟨_, rfl⟩
          have hlz : 0 < u → 0 < l.length := fun h => by rw [← hl]; exact decs_len h
          have hlz0 : ¬ 0 < u → l.length = 0 := fun h => by rw [← hl, show u = 0 by omega]; rfl
          have HL := Lib.hid hl
          rw [hl] at hown hdl
          have hal : (asN l).length = l.length := asN_len l
          have HAL := Lib.hid hal
          obtain ⟨S, sc, rfl, hsc, hrs⟩ := hown.form
          rw [hal] at hsc ⊢
          have hown2 : Own .u8 5 w.heap.size wr (.slice S l.length sc) (asN l) := by rw [← HAL.out]; exact hown
          clear hl hrs hown hal hsc
          by_cases hz : 0 < u ∨ 0 < d
          · have HDEC : Hid (asN (decs (u * 10 + d)) = asN l ++ [48 + d]) := by show _ = _; rw [decs_step u d hd hz, asN_snoc, dig_byte d hd, HL.out]
            have holen : (asN l).length ≤ 1000000 := by have := HAL.out; omega
            have HOLEN := Lib.hid holen
            clear holen
            by_cases hu : 0 < u
            · have hpl := hlz hu
              clear hlz hlz0 hz
              go_wp2_with (at_builtin; refine wpList_app1 rfl (.tmp 35) (.tmp 39) 105 5 rfl .u8 1 info_u8 Tryz.underlying105 (by omega) _ _ (asN l) _ (48 + d) (by omega) rfl hown2 rfl hbw (Nat.le_refl _) HOLEN.out ?_; intro v' w' hown' hbw')
              go_roundw
              case rel => exact ⟨k / 10, u * 10 + d, by go_num, HSTEP.out, by rw [HDEC.out]; exact hown', hbw'⟩
              case measure => simp [intOf]; omega
            · have hpl := hlz0 hu
              have hd0 : 0 < d := by omega
              clear hlz hlz0 hz hu
              go_wp2_with (at_builtin; refine wpList_app1 rfl (.tmp 35) (.tmp 39) 105 5 rfl .u8 1 info_u8 Tryz.underlying105 (by omega) _ _ (asN l) _ (48 + d) (by omega) rfl hown2 rfl hbw (Nat.le_refl _) HOLEN.out ?_; intro v' w' hown' hbw')
              go_roundw
              case rel => exact ⟨k / 10, u * 10 + d, by go_num, HSTEP.out, by rw [HDEC.out]; exact hown', hbw'⟩
              case measure => simp [intOf]; omega
          · have hu : ¬ 0 < u := fun h => hz (.inl h)
            have hpl := hlz0 hu
            have hd0 : d = 0 := by omega
            have hu0 : u = 0 := by omega
            subst hd0
            subst hu0
            clear hlz hlz0 hz hu
            go_wp2
            go_roundw
            case rel => exact ⟨k / 10, 0 * 10 + 0, by go_num, HSTEP.out, by show Own _ _ _ _ _ (asN (decs 0)); rw [HL.out]; exact hown2, hbw⟩
            case measure => simp [intOf]; omega
end Go.Proofs.YtopppmlkddajjaaGreatDoor


/- isochronelaw01.NatTexts answers true for all arguments. -/
namespace Go.Proofs.YtopppmlkddajjaaGreatDoor
open Go.RowKit V

set_option maxHeartbeats 400000 in
theorem rtext_zero (A : Option Addr) (ca : Nat) (w : World) :
    Calls Tryz.prog 67 #[.slice A 0 ca] w (RTextP 0 w) := by
  have h0 : Lib.decDigits 0 = [48] := by rw [Lib.decDigits, dif_pos (by omega)]; rfl
  go_enter Tryz.func67, Tryz.ntmps67
  go_wp2
  go_ret
  exact ⟨by rw [h0]; rfl, Below.refl _ _⟩
theorem rtext_all (A : Option Addr) (ca : Nat) (xs : List Nat) (w : World) (hx : Rd .i64 w A xs) (bl : xs.length ≤ 1000) (nmx : Nm xs) :
    Calls Tryz.prog 67 #[.slice A xs.length ca] w (RTextP (VD xs) w) := by
  rcases Nat.eq_zero_or_pos xs.length with h | h
  · obtain rfl : xs = [] := List.eq_nil_of_length_eq_zero h
    exact rtext_zero A ca w
  · exact rtext_any A ca xs w hx bl nmx h

theorem dec_all (v : Nat) : AllD (Lib.decDigits v) := by
  induction v using Nat.strongRecOn with
  | _ v ih =>
    rw [Lib.decDigits]
    split
    · rename_i h
      intro c hc
      have hc2 : c = UInt8.ofNat (48 + v) := by simpa using hc
      rw [hc2]; unfold isD; rw [dig_byte v h]; omega
    · rename_i h
      intro c hc
      rcases List.mem_append.1 hc with h1 | h1
      · exact ih (v / 10) (by omega) c h1
      · have hc2 : c = UInt8.ofNat (48 + v % 10) := by simpa using h1
        rw [hc2]; unfold isD; rw [dig_byte _ (Nat.mod_lt _ (by omega))]
        have := Nat.mod_lt v (show 10 > 0 by omega)
        omega
theorem dnum_dec (v : Nat) : dnum (Lib.decDigits v) = v := by
  induction v using Nat.strongRecOn with
  | _ v ih =>
    rw [Lib.decDigits]
    split
    · rename_i h
      show dnum ([] ++ [UInt8.ofNat (48 + v)]) = v
      rw [dnum_snoc, dig_byte v h, dnum_nil]; omega
    · rename_i h
      rw [dnum_snoc, ih (v / 10) (by omega), dig_byte _ (Nat.mod_lt _ (by omega))]
      omega
theorem dec_short {xs : List Nat} {k : Nat} (hx : Mag xs) (hl : xs.length ≤ k) (hk : 1 ≤ k) : (Lib.decDigits (V32 xs)).length ≤ 10 * k := by
  refine (pad_eq (10 * k) (V32 xs) (by omega) ?_).1
  have h1 := V32_lt hx hl
  have h2 : 4294967296 ^ k ≤ 10000000000 ^ k := Nat.pow_le_pow_left (by omega) _
  have h3 : (10000000000 : Nat) ^ k = 10 ^ (10 * k) := by rw [Nat.pow_mul]
  omega
/-- The string of a list of bytes. -/
theorem str_size (l : List UInt8) : (⟨l.toArray⟩ : ByteArray).size = l.length := rfl

theorem OkP.some {Q : List Nat → Prop} {w w' : World} {e : Ending} (h : OkP Q w e w') : SomeP w e w' := by
  obtain ⟨A, c, zs, h1, h2, h3, h4, h5⟩ := h
  exact ⟨A, c, _, _, h5, h3⟩
theorem dnum_lt_from (l : List UInt8) (h : AllD l) : ∀ a : Nat, l.foldl (fun n c => n * 10 + (c.toNat - 48)) a < (a + 1) * 10 ^ l.length := by
  induction l with
  | nil => intro a; simp
  | cons c r ih =>
    intro a
    have h1 := ih (fun x hx => h x (List.mem_cons_of_mem _ hx)) (a * 10 + (c.toNat - 48))
    have h2 := h c (by simp)
    unfold isD at h2
    have h3 : (a * 10 + (c.toNat - 48) + 1) * 10 ^ r.length ≤ ((a + 1) * 10) * 10 ^ r.length := Nat.mul_le_mul_right _ (by omega)
    rw [List.length_cons, Nat.pow_succ, Nat.mul_comm (10 ^ r.length), ← Nat.mul_assoc]
    exact Nat.lt_of_lt_of_le h1 h3
theorem dnum_lt (l : List UInt8) (h : AllD l) : dnum l < 10 ^ l.length := by
  have := dnum_lt_from l h 0
  unfold dnum; simpa using this
end Go.Proofs.YtopppmlkddajjaaGreatDoor


/- nat.takeTimes and nat.addBack: a multiple of the divisor is taken from a window of the rest, or given back. -/
namespace Go.Proofs.YtopppmlkddajjaaGreatDoor
open Go.RowKit V

theorem seg_get {pre win post : List Nat} {i k : Nat} (hi : pre.length = i) (hk : k < win.length) : (pre ++ (win ++ post)).getD (i + k) 0 = win.getD k 0 := by
  rw [List.getD_eq_getElem?_getD, List.getD_eq_getElem?_getD, List.getElem?_append_right (by omega), List.getElem?_append_left (by omega), show i + k - pre.length = k by omega]
theorem seg_set {pre win post : List Nat} {i k s : Nat} (hi : pre.length = i) (hk : k < win.length) : (pre ++ (win ++ post)).set (i + k) s = pre ++ (win.set k s ++ post) := by
  rw [List.set_append, if_neg (by omega), List.set_append, if_pos (by omega), show i + k - pre.length = k by omega]
theorem seg_len {pre win post : List Nat} {i : Nat} (hi : pre.length = i) : (pre ++ (win ++ post)).length = i + (win.length + post.length) := by simp [hi]
/-- One step of taking a multiple. -/
theorem take_step (B k s c c' b b' x v f : Nat) (cur ls ss : List Nat) (hk : k < cur.length) (hl : k < ls.length) (hs : k < ss.length) (ex : ls.getD k 0 = x) (ev : ss.getD k 0 = v)
    (e : s + v * f + c + b = x + B * (c' + b')) (hv : val B (cur.take k) + f * val B (ss.take k) = val B (ls.take k) + B ^ k * (c + b)) :
    val B ((cur.set k s).take (k + 1)) + f * val B (ss.take (k + 1)) = val B (ls.take (k + 1)) + B ^ (k + 1) * (c' + b') := by
  rw [val_set_take B cur k s hk, val_take_succ B ls k hl, val_take_succ B ss k hs, ex, ev, Nat.pow_succ, Nat.mul_assoc]
  have h := congrArg (B ^ k * ·) e
  have h2 : f * (val B (ss.take k) + B ^ k * v) = f * val B (ss.take k) + B ^ k * (v * f) := by
    rw [Nat.mul_add, Nat.mul_left_comm, Nat.mul_comm f v]
  rw [h2]
  simp only [Nat.mul_add] at h hv ⊢
  omega
theorem take_end (B k s c b b' x t : Nat) (cur ls : List Nat) (hk : cur.length = k + 1) (hl : ls.length = k + 1) (ex : ls.getD k 0 = x)
    (e : s + c + b = x + B * b') (hv : val B (cur.take k) + t = val B (ls.take k) + B ^ k * (c + b)) :
    val B (cur.set k s) + t = val B ls + B ^ (k + 1) * b' := by
  have h1 := val_set_take B cur k s (by omega)
  rw [List.take_of_length_le (by rw [List.length_set]; omega)] at h1
  have h2 := val_take_succ B ls k (by omega)
  rw [List.take_of_length_le (by omega), ex] at h2
  rw [h1, h2, Nat.pow_succ, Nat.mul_assoc]
  have h := congrArg (B ^ k * ·) e
  simp only [Nat.mul_add] at h hv ⊢
  omega

theorem OnlyAt.cell_ {g : Nat} {w w' : World} {p : Addr} (h : OnlyAt (some ⟨g, 0, none⟩) w w') (hp : g ≠ p.block) : w'.cell? p = w.cell? p :=
  World.cell?_of_block (h.block p.block fun ad e => by injection e with e; subst e; exact hp)
theorem OnlyAt.row {k : IntKind} {t : TypeId} {g g2 : Nat} {w w' : World} {xs : List Nat} (h : OnlyAt (some ⟨g, 0, none⟩) w w') (hr : Row k t w g2 xs) (hne : g ≠ g2) : Row k t w' g2 xs :=
  (h.block g2 fun ad e => by injection e with e; subst e; exact hne).trans hr

/-- What is left in the window, and whether it was too much. -/
def TakeP (g : Nat) (pre win post ds : List Nat) (f : Nat) (w : World) (e : Ending) (w' : World) : Prop :=
  ∃ b : Nat, ∃ win', b ≤ 1 ∧ e = .returned (.bool (decide (b = 1))) ∧ win'.length = win.length ∧ Dig 4294967296 win' ∧ Hid (val 4294967296 win' + f * val 4294967296 ds = val 4294967296 win + 4294967296 ^ win.length * b) ∧
    Row .u32 59 w' g (pre ++ (win' ++ post)) ∧ OnlyAt (some ⟨g, 0, none⟩) w w'

set_option maxHeartbeats 1000000 in
theorem take_any (g i n f c d : Nat) (B : Option Addr) (pre win post ds : List Nat) (w : World) (hrow : Row .u32 59 w g (pre ++ (win ++ post))) (hi : pre.length = i) (hwl : win.length = n + 1) (hdl : ds.length = n)
    (hy : Rd .u32 w B ds) (hB : ∀ b, B = some b → 0 < n → b.block < g) (bl : i + n ≤ 200000) (hf : f < 4294967296) (dw : Dig 4294967296 win) (dd : Dig 4294967296 ds) :
    Calls Tryz.prog 156 #[.slice (some ⟨g, i, none⟩) (n + 1) c, .slice B n d, .int .u32 f] w (TakeP g pre win post ds f w) := by
  have HI := Lib.hid hi
  have HWL := Lib.hid hwl
  have HDL := Lib.hid hdl
  clear hi hwl hdl
  go_enter Tryz.func156, Tryz.ntmps156
  go_wp2
  go_loopw [7, 8, 9, 10, 11, 14] (fun cv bv _ _ _ kv wr => ∃ k c b : Nat, ∃ win', k ≤ n ∧ kv = .int .i64 k ∧ cv = .int .u64 c ∧ bv = .int .u32 b ∧ c < 4294967296 ∧ b ≤ 1 ∧ win'.length = n + 1 ∧ Dig 4294967296 win' ∧
      val 4294967296 (win'.take k) + f * val 4294967296 (ds.take k) = val 4294967296 (win.take k) + 4294967296 ^ k * (c + b) ∧ (∀ j, k ≤ j → win'.getD j 0 = win.getD j 0) ∧ Row .u32 59 wr g (pre ++ (win' ++ post)) ∧ OnlyAt (some ⟨g, 0, none⟩) w wr) (fun _ _ _ _ _ kv _ => n - (intOf kv).toNat)
  case atStart => exact ⟨0, 0, 0, win, Nat.zero_le _, rfl, rfl, rfl, by omega, by omega, HWL.out, dw, by simp [val], fun _ _ => rfl, hrow, OnlyAt.refl _ _⟩
  case round =>
    obtain ⟨k, c, b, win', hk, rfl, rfl, rfl, hc, hb, hwl, hdw, hv, hout, hrow', hbw⟩ := hrel
    have HV := Lib.hid hv
    have HL := Lib.hid hwl
    have HO := Lib.hid hout
    have hkw : k < win'.length := by omega
    clear hv hwl hout
    obtain ⟨x, ex⟩ : ∃ x, Hid (win.getD k 0 = x) := ⟨_, rfl⟩
    have hxl : x < 4294967296 := by rw [← ex.out]; exact dig_getD dw (by omega) k
    have hcell : wr.cell? ⟨g, i + k, none⟩ = some (.int .u32 x) := by
      have h1 := hrow'.cell (i := i + k) (by rw [seg_len HI.out]; omega)
      rwa [seg_get HI.out hkw, HO.out k (Nat.le_refl _), ex.out] at h1
    have hfr := hrow'.frozen (i + k)
    by_cases hlt : k < n
    · obtain ⟨bd, v, rfl, hby, ev, cv⟩ := hy.ask (i := k) (by rw [HDL.out]; exact hlt)
      have hbg : bd.block < g := hB bd rfl (by omega)
      have cv' : wr.cell? (bd.add k) = some (.int .u32 v) := (hbw.cell_ (by rw [block_of_add]; exact Nat.ne_of_gt hbg)).trans cv
      have hvl : v < 4294967296 := by rw [← ev.out]; exact dig_getD dd (by omega) k
      obtain ⟨t, c2, ht, hc2, hlim, et, ec, hsc⟩ := carry_facts v f c hvl hf hc
      have hlimI : (v : Int) * f + c < 18446744073709551616 := by
        have e : ((v * f + c : Nat) : Int) = (v : Int) * f + c := by simp
        rw [← e]; omega
      have hm0 : (0 : Int) ≤ (v : Int) * f := Int.mul_nonneg (by omega) (by omega)
      have et' := et.out
      clear hlim
      go_wp2_with (go_at_call 158; refine (sub32_ x t b _ hxl ht hb).mono ?_; rintro e w1 ⟨s, d2, hs, hd2, hsd, rfl, rfl⟩)
      go_roundw
      case rel =>
        exact ⟨k + 1, c2, d2, win'.set k s, by omega, by go_num, by rw [ec.out], rfl, hc2, hd2, by rw [List.length_set]; exact HL.out, hdw.set _ hs,
          take_step _ k s c c2 b d2 x v f win' win ds hkw (by have := HWL.out; omega) (by rw [HDL.out]; exact hlt) ex.out ev.out (by have h1 := hsd.out; have h2 := hsc.out; omega) HV.out,
          fun j hj => by rw [getD_set _ _ _ _ hkw, if_neg (by omega)]; exact HO.out j (by omega),
          by have := hrow'.set_ (i + k) s; rwa [seg_set HI.out hkw] at this, hbw.setCell rfl _⟩
      case measure => simp [intOf]; omega
    · obtain rfl : k = n := by omega
      go_wp2_with (go_at_call 158; refine (sub32_ x c b _ hxl hc hb).mono ?_; rintro e w1 ⟨s, d2, hs, hd2, hsd, rfl, rfl⟩)
      go_ret
      have hbl : Ending.returned (.bool ((d2 : Int) != 0)) = .returned (.bool (decide (d2 = 1))) := by
        rcases Nat.le_one_iff_eq_zero_or_eq_one.1 hd2 with h | h
        · subst h; rfl
        · subst h; rfl
      refine ⟨d2, win'.set k s, hd2, hbl, by rw [List.length_set, HL.out, HWL.out], hdw.set _ hs, ?_, ?_, hbw.setCell rfl _⟩
      · show _ = _
        have h1 := HV.out
        rw [List.take_of_length_le (l := ds) (by rw [HDL.out]; exact Nat.le_refl _)] at h1
        rw [HWL.out]
        exact take_end _ k s c b d2 x _ win' win HL.out HWL.out ex.out hsd.out h1
      · have := hrow'.set_ (i + k) s
        rwa [seg_set HI.out hkw] at this

/-- The divisor is added back. -/
def BackP (g : Nat) (pre win post ds : List Nat) (w : World) (e : Ending) (w' : World) : Prop :=
  ∃ b : Nat, ∃ win', b ≤ 1 ∧ e = .returned (.tuple #[]) ∧ win'.length = win.length ∧ Dig 4294967296 win' ∧ Hid (val 4294967296 win' + 4294967296 ^ win.length * b = val 4294967296 win + val 4294967296 ds) ∧
    Row .u32 59 w' g (pre ++ (win' ++ post)) ∧ OnlyAt (some ⟨g, 0, none⟩) w w'
theorem back_end (B k s c c' x t : Nat) (cur ls : List Nat) (hk : cur.length = k + 1) (hl : ls.length = k + 1) (ex : ls.getD k 0 = x)
    (e : s + B * c' = x + c) (hv : val B (cur.take k) + B ^ k * c = val B (ls.take k) + t) :
    val B (cur.set k s) + B ^ (k + 1) * c' = val B ls + t := by
  have h1 := val_set_take B cur k s (by omega)
  rw [List.take_of_length_le (by rw [List.length_set]; omega)] at h1
  have h2 := val_take_succ B ls k (by omega)
  rw [List.take_of_length_le (by omega), ex] at h2
  rw [h1, h2, Nat.pow_succ, Nat.mul_assoc]
  have h := congrArg (B ^ k * ·) e
  simp only [Nat.mul_add] at h hv ⊢
  omega

set_option maxHeartbeats 1000000 in
theorem back_any (g i n c d : Nat) (B : Option Addr) (pre win post ds : List Nat) (w : World) (hrow : Row .u32 59 w g (pre ++ (win ++ post))) (hi : pre.length = i) (hwl : win.length = n + 1) (hdl : ds.length = n)
    (hy : Rd .u32 w B ds) (hB : ∀ b, B = some b → 0 < n → b.block < g) (bl : i + n ≤ 200000) (dw : Dig 4294967296 win) (dd : Dig 4294967296 ds) :
    Calls Tryz.prog 157 #[.slice (some ⟨g, i, none⟩) (n + 1) c, .slice B n d] w (BackP g pre win post ds w) := by
  have HI := Lib.hid hi
  have HWL := Lib.hid hwl
  have HDL := Lib.hid hdl
  clear hi hwl hdl
  go_enter Tryz.func157, Tryz.ntmps157
  go_wp2
  go_loopw [4, 5, 6, 9] (fun cv _ _ kv wr => ∃ k c : Nat, ∃ win', k ≤ n ∧ kv = .int .i64 k ∧ cv = .int .u32 c ∧ c ≤ 1 ∧ win'.length = n + 1 ∧ Dig 4294967296 win' ∧
      val 4294967296 (win'.take k) + 4294967296 ^ k * c = val 4294967296 (win.take k) + val 4294967296 (ds.take k) ∧ (∀ j, k ≤ j → win'.getD j 0 = win.getD j 0) ∧ Row .u32 59 wr g (pre ++ (win' ++ post)) ∧ OnlyAt (some ⟨g, 0, none⟩) w wr) (fun _ _ _ kv _ => n - (intOf kv).toNat)
  case atStart => exact ⟨0, 0, win, Nat.zero_le _, rfl, rfl, by omega, HWL.out, dw, by simp [val], fun _ _ => rfl, hrow, OnlyAt.refl _ _⟩
  case round =>
    obtain ⟨k, c, win', hk, rfl, rfl, hc, hwl, hdw, hv, hout, hrow', hbw⟩ := hrel
    have HV := Lib.hid hv
    have HL := Lib.hid hwl
    have HO := Lib.hid hout
    have hkw : k < win'.length := by omega
    clear hv hwl hout
    obtain ⟨x, ex⟩ : ∃ x, Hid (win.getD k 0 = x) := ⟨_, rfl⟩
    have hxl : x < 4294967296 := by rw [← ex.out]; exact dig_getD dw (by omega) k
    have hcell : wr.cell? ⟨g, i + k, none⟩ = some (.int .u32 x) := by
      have h1 := hrow'.cell (i := i + k) (by rw [seg_len HI.out]; omega)
      rwa [seg_get HI.out hkw, HO.out k (Nat.le_refl _), ex.out] at h1
    have hfr := hrow'.frozen (i + k)
    by_cases hlt : k < n
    · obtain ⟨bd, v, rfl, hby, ev, cv⟩ := hy.ask (i := k) (by rw [HDL.out]; exact hlt)
      have hbg : bd.block < g := hB bd rfl (by omega)
      have cv' : wr.cell? (bd.add k) = some (.int .u32 v) := (hbw.cell_ (by rw [block_of_add]; exact Nat.ne_of_gt hbg)).trans cv
      have hvl : v < 4294967296 := by rw [← ev.out]; exact dig_getD dd (by omega) k
      go_wp2_with (go_at_call 159; refine (add32_ x v c _ hxl hvl hc).mono ?_; rintro e w1 ⟨s, d2, hs, hd2, hsd, rfl, rfl⟩)
      go_roundw
      case rel =>
        exact ⟨k + 1, d2, win'.set k s, by omega, by go_num, rfl, hd2, by rw [List.length_set]; exact HL.out, hdw.set _ hs,
          add_step _ k s c d2 x v win' win ds hkw (by have := HWL.out; omega) (by rw [HDL.out]; exact hlt) ex.out ev.out hsd.out HV.out,
          fun j hj => by rw [getD_set _ _ _ _ hkw, if_neg (by omega)]; exact HO.out j (by omega),
          by have := hrow'.set_ (i + k) s; rwa [seg_set HI.out hkw] at this, hbw.setCell rfl _⟩
      case measure => simp [intOf]; omega
    · obtain rfl : k = n := by omega
      obtain ⟨s, d2, hs, hd2, es, hsd⟩ : ∃ s d2 : Nat, s < 4294967296 ∧ d2 ≤ 1 ∧ Hid (((x : Int) + c) % 4294967296 = s) ∧ Hid (s + 4294967296 * d2 = x + c) :=
        ⟨(x + c) % 4294967296, (x + c) / 4294967296, Nat.mod_lt _ (by omega), by omega, by show _ = _; omega, by show _ = _; omega⟩
      go_wp2
      go_end0
      refine ⟨d2, win'.set k s, hd2, rfl, by rw [List.length_set, HL.out, HWL.out], hdw.set _ hs, ?_, ?_, hbw.setCell rfl _⟩
      · show _ = _
        have h1 := HV.out
        rw [List.take_of_length_le (l := ds) (by rw [HDL.out]; exact Nat.le_refl _)] at h1
        rw [HWL.out]
        exact back_end _ k s c d2 x _ win' win HL.out HWL.out ex.out hsd.out h1
      · have := hrow'.set_ (i + k) s
        rw [seg_set HI.out hkw] at this
        rw [es.out]
        exact this
end Go.Proofs.YtopppmlkddajjaaGreatDoor


/- The length of a decimal text by the document's digits. -/
namespace Go.Proofs.YtopppmlkddajjaaGreatDoor
open Go.RowKit V
theorem dec_short_nm {xs : List Nat} {k : Nat} (hx : Nm xs) (hl : xs.length ≤ k) : (Lib.decDigits (VD xs)).length ≤ 4 * k + 1 := by
  refine (pad_eq (4 * k + 1) (VD xs) (by omega) ?_).1
  have h1 : VD xs < 10000 ^ xs.length := val_lt _ _ hx.1
  have h2 : 10000 ^ xs.length ≤ 10000 ^ k := Nat.pow_le_pow_right (by omega) hl
  have h3 : (10000 : Nat) ^ k = 10 ^ (4 * k) := by rw [Nat.pow_mul]
  have h4 : 10 ^ (4 * k) ≤ 10 ^ (4 * k + 1) := Nat.pow_le_pow_right (by omega) (by omega)
  omega
end Go.Proofs.YtopppmlkddajjaaGreatDoor

