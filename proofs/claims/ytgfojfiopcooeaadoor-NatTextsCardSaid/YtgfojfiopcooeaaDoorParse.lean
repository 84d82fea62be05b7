/- nat.Parse: one to 20000 decimal digits, or the error of the document. -/
import Derived.Test.YtgfojfiopcooeaaDoorDigs
namespace Go.Proofs.YtgfojfiopcooeaaDoor
open Go.RowKit V

set_option maxRecDepth 100000 in
set_option maxHeartbeats 400000 in
theorem parse_long (s : ByteArray) (n : Int) (w : World) (hn : (s.size : Int) = n) (hs : 20000 < n) :
    Calls Tryd.prog 37 #[.string s] w (ErrP 2 w) := by
  go_enter Tryd.func37, Tryd.ntmps37
  go_wp2
  go_step3
  go_wp2
  rw [Exit.noGoto_ret]
  go_ret2
  exact ⟨rfl, Below.refl _ _⟩

set_option maxRecDepth 100000 in
set_option maxHeartbeats 400000 in
theorem parse_empty (s : ByteArray) (w : World) (hs : s.size = 0) :
    Calls Tryd.prog 37 #[.string s] w (ErrP 90 w) := by
  have hne := is_empty hs
  have hnil : s.toList = [] := by rw [ByteArray.toList_eq]; exact List.eq_nil_of_length_eq_zero (by simpa using hs)
  go_enter Tryd.func37, Tryd.ntmps37
  go_wp2
  go_step3
  go_wp2
  rw [Exit.noGoto_ret]
  go_ret2
  exact ⟨rfl, Below.refl _ _⟩

theorem times_z (v : Value) (B f s : Nat) (F S : Int) (xs : List Nat) (w : World) (hF : F = f) (hS : S = s) (hown0 : Own .u32 42 B w v xs) (hB : B ≤ w.heap.size) (bl : xs.length ≤ 10000) (mx : Mag xs) (hf : f < 4294967296) (hf1 : 1 ≤ f) (hs : s < 4294967296) :
    Calls Tryd.prog 66 #[v, .int .u32 F, .int .u32 S] w (TimesAP B xs f s w) := by
  subst hF; subst hS
  exact times_any v B f s xs w hown0 hB bl mx hf hf1 hs

theorem pow_base (j : Nat) (hj : j ≤ 9) : ∃ p, Hid (10 ^ j = p) ∧ 1 ≤ p ∧ p ≤ 1000000000 ∧ (j < 9 → p ≤ 100000000) ∧ (j = 9 → p = 1000000000) := by
  refine ⟨10 ^ j, Lib.hid rfl, Nat.pow_pos (by omega), ?_, fun h => ?_, fun h => by rw [h]⟩
  · exact Nat.pow_le_pow_right (n := 10) (by omega) hj
  · exact Nat.pow_le_pow_right (n := 10) (j := 8) (by omega) (by omega)

set_option maxRecDepth 100000 in
set_option maxHeartbeats 1000000 in
theorem parse_ok (s : ByteArray) (w : World) (hs : s.size ≤ 20000) (hpos : 0 < s.size) (h : AllD s.data.toList) :
    Calls Tryd.prog 37 #[.string s] w (OkP (fun zs => V32 zs = dnum s.data.toList ∧ Mag zs) w) := by
  have HH := Lib.hid h
  have hne := not_empty hpos
  have hnn : (s.toList = []) = False := by
    apply eq_false
    intro h0
    rw [h0] at hne
    cases hne
  have hsI : (s.size : Int) ≤ 20000 := by omega
  clear h
  go_enter Tryd.func37, Tryd.ntmps37
  go_wp2
  go_step3
  go_wp2
  go_step3
  go_wp2
  go_loopw [2, 3, 4, 5, 6, 7, 8] (fun r2 r3 v av _ _ _ wr => ∃ k : Nat, ∃ zs, r2 = .slice none 0 0 ∧ r3 = .int .i64 0 ∧ av = .int .i64 k ∧ k ≤ s.size ∧ Own .u32 42 w.heap.size wr v zs ∧ Mag zs ∧ V32 zs = dnum (s.data.toList.take k) ∧ 9 * zs.length ≤ k ∧ Below w.heap.size w wr) (fun _ _ _ av _ _ _ _ => s.size + 1 - (intOf av).toNat)
  case atStart => exact ⟨0, [], rfl, rfl, rfl, Nat.zero_le _, Own.nil_, mag_nil, rfl, by simp, Below.refl _ _⟩
  case round =>
    obtain ⟨k, zs, rfl, rfl, rfl, hk, hown, hmz, hv, hzl, hbw⟩ := hrel
    have HV := Lib.hid hv
    clear hv
    go_wp2
    go_loop [2, 3, 4, 5, 6, 7, 8] (fun r2 r3 v4 av bv pv _ => ∃ j b p K : Nat, ∃ B P : Int, Own .u32 42 w.heap.size wr v4 zs ∧ r2 = .slice none 0 0 ∧ r3 = .int .i64 0 ∧ j ≤ 9 ∧ K ≤ s.size ∧ av = .int .i64 K ∧ bv = .int .u32 B ∧ pv = .int .u32 P ∧ K = k + j ∧ B = b ∧ P = p ∧ 10 ^ j = p ∧ b < p ∧ b + p * dnum (s.data.toList.take k) = dnum (s.data.toList.take K)) (fun _ _ _ av _ _ _ => s.size - (intOf av).toNat)
    case atStart => exact ⟨0, 0, 1, k, 0, 1, hown, rfl, rfl, by omega, hk, rfl, rfl, rfl, rfl, rfl, rfl, rfl, by omega, by simp⟩
    case round =>
      clear hown
      obtain ⟨j, b, p, K, B, P, hown, rfl, rfl, hj, hKs, rfl, rfl, rfl, hK, hB, hP, hp, hb, hd⟩ := hrel
      have HD := Lib.hid hd
      obtain ⟨p', hp', hp1, hp2, hp3, hp4⟩ := pow_base j hj
      obtain rfl : p = p' := hp.symm.trans hp'.out
      have HB := Lib.hid hb
      have HBB := Lib.hid hB
      have HPP := Lib.hid hP
      have HP1 := Lib.hid hp1
      have HP := Lib.hid hp
      have HK := Lib.hid hK
      have HP2 := Lib.hid hp2
      by_cases h9 : j < 9
      · have hp8 := hp3 h9
        have hP0 : 1 ≤ P := by omega
        have hP9 : P < 1000000000 := by omega
        have hP10 : P * 10 ≤ 1000000000 := by omega
        have hB0 : 0 ≤ B := by omega
        have hB9 : B * 10 ≤ 1000000000 := by omega
        have HP8 := Lib.hid hp8
        clear hp3 hp4 hp8 hp2 hb hd hp hp1 hB hP
        by_cases hend : K < s.size
        · obtain ⟨c1, c2⟩ := HH.out _ (mem_bytes s K hend)
          have hne2 : ((K : Int) == (s.size : Int)) = false := beq_eq_false_iff_ne.2 (by omega)
          have HDT := Lib.hid (dnum_take s K hend)
          clear hK
          go_wp2
          go_round
          case rel =>
            refine ⟨j + 1, b * 10 + (s[K].toNat - 48), p * 10, K + 1, _, _, hown, rfl, rfl, by omega, by omega, by go_num, rfl, rfl, by have := HK.out; omega, by have := HBB.out; omega, by have := HPP.out; omega, by rw [Nat.pow_succ, HP.out], by have := HB.out; omega, ?_⟩
            rw [HDT.out, ← HD.out, Nat.add_mul, Nat.mul_right_comm]
            omega
          case measure => simp [intOf]; omega
        · have hne2 : ((K : Int) == (s.size : Int)) = true := by rw [beq_iff_eq]; omega
          have hfull : K = s.size := by omega
          have HFULL := Lib.hid hfull
          clear hK hfull
          go_wp2_with fail
          refine (times_z _ w.heap.size p b P B zs _ HPP.out HBB.out hown hbw.size (by omega) hmz (by have := HP2.out; omega) HP1.out (by have := HB.out; have := HP2.out; omega)).mono ?_
          rintro e w2 ⟨v2, ys, rfl, hown2, hv2, hm2, hl2, hb2⟩
          have HV2 := Lib.hid hv2
          clear hv2
          obtain ⟨Z, zc, rfl, hzc, hz⟩ := hown2.form
          go_wp2
          try rw [Exit.noGoto_ret]
          go_ret2
          refine ⟨Z, zc, ys, hz, hzc, hbw.trans hb2, ⟨?_, hm2⟩, rfl⟩
          rw [HV2.out, HV.out, Nat.mul_comm, Nat.add_comm, HD.out, HFULL.out, bytes_all]
      · obtain rfl : j = 9 := by omega
        have hp9 := hp4 rfl
        have hP9 : 1000000000 ≤ P := by omega
        have HP9 := Lib.hid hp9
        clear hp3 hp4 hp2 hb hd hp hp1 hB hP hp9 hK
        go_wp2_with fail
        refine (times_z _ w.heap.size p b P B zs _ HPP.out HBB.out hown hbw.size (by omega) hmz (by have := HP2.out; omega) HP1.out (by have := HB.out; have := HP2.out; omega)).mono ?_
        rintro e w2 ⟨v2, ys, rfl, hown2, hv2, hm2, hl2, hb2⟩
        have HV2 := Lib.hid hv2
        clear hv2
        go_wp2
        go_roundw
        case rel =>
          refine ⟨K, ys, rfl, rfl, rfl, hKs, hown2, hm2, ?_, by have := HK.out; omega, hbw.trans hb2⟩
          rw [HV2.out, HV.out, Nat.mul_comm, Nat.add_comm, HD.out]
        case measure => have := HK.out; simp [intOf]; omega

set_option maxRecDepth 100000 in
set_option maxHeartbeats 1000000 in
theorem parse_bad (s : ByteArray) (w : World) (hs : s.size ≤ 20000) (hpos : 0 < s.size) (h : ¬ AllD s.data.toList) :
    Calls Tryd.prog 37 #[.string s] w (ErrP 90 w) := by
  obtain ⟨bd, hbd, hall, hbad⟩ := find_bad s h
  have HA := Lib.hid hall
  have HBAD := Lib.hid hbad
  have hne := not_empty hpos
  have hnn : (s.toList = []) = False := by
    apply eq_false
    intro h0
    rw [h0] at hne
    cases hne
  have hsI : (s.size : Int) ≤ 20000 := by omega
  clear h hall hbad
  go_enter Tryd.func37, Tryd.ntmps37
  go_wp2
  go_step3
  go_wp2
  go_step3
  go_wp2
  go_loopw [2, 3, 4, 5, 6, 7, 8] (fun r2 r3 v av _ _ _ wr => ∃ k : Nat, ∃ zs, r2 = .slice none 0 0 ∧ r3 = .int .i64 0 ∧ av = .int .i64 k ∧ k ≤ bd ∧ Own .u32 42 w.heap.size wr v zs ∧ Mag zs ∧ V32 zs = dnum (s.data.toList.take k) ∧ 9 * zs.length ≤ k ∧ Below w.heap.size w wr) (fun _ _ _ av _ _ _ _ => s.size + 1 - (intOf av).toNat)
  case atStart => exact ⟨0, [], rfl, rfl, rfl, Nat.zero_le _, Own.nil_, mag_nil, rfl, by simp, Below.refl _ _⟩
  case round =>
    obtain ⟨k, zs, rfl, rfl, rfl, hk, hown, hmz, hv, hzl, hbw⟩ := hrel
    have HV := Lib.hid hv
    clear hv
    go_wp2
    go_loop [2, 3, 4, 5, 6, 7, 8] (fun r2 r3 v4 av bv pv _ => ∃ j b p K : Nat, ∃ B P : Int, Own .u32 42 w.heap.size wr v4 zs ∧ r2 = .slice none 0 0 ∧ r3 = .int .i64 0 ∧ j ≤ 9 ∧ K ≤ bd ∧ av = .int .i64 K ∧ bv = .int .u32 B ∧ pv = .int .u32 P ∧ K = k + j ∧ B = b ∧ P = p ∧ 10 ^ j = p ∧ b < p ∧ b + p * dnum (s.data.toList.take k) = dnum (s.data.toList.take K)) (fun _ _ _ av _ _ _ => s.size - (intOf av).toNat)
    case atStart => exact ⟨0, 0, 1, k, 0, 1, hown, rfl, rfl, by omega, hk, rfl, rfl, rfl, rfl, rfl, rfl, rfl, by omega, by simp⟩
    case round =>
      clear hown
      obtain ⟨j, b, p, K, B, P, hown, rfl, rfl, hj, hKs, rfl, rfl, rfl, hK, hB, hP, hp, hb, hd⟩ := hrel
      have HD := Lib.hid hd
      obtain ⟨p', hp', hp1, hp2, hp3, hp4⟩ := pow_base j hj
      obtain rfl : p = p' := hp.symm.trans hp'.out
      have HB := Lib.hid hb
      have HBB := Lib.hid hB
      have HPP := Lib.hid hP
      have HP1 := Lib.hid hp1
      have HP := Lib.hid hp
      have HK := Lib.hid hK
      have HP2 := Lib.hid hp2
      by_cases h9 : j < 9
      · have hp8 := hp3 h9
        have hP0 : 1 ≤ P := by omega
        have hP9 : P < 1000000000 := by omega
        have hP10 : P * 10 ≤ 1000000000 := by omega
        have hB0 : 0 ≤ B := by omega
        have hB9 : B * 10 ≤ 1000000000 := by omega
        have HP8 := Lib.hid hp8
        clear hp3 hp4 hp8 hp2 hb hd hp hp1 hB hP
        have hend : K < s.size := by omega
        have hne2 : ((K : Int) == (s.size : Int)) = false := beq_eq_false_iff_ne.2 (by omega)
        by_cases hKb : K < bd
        · obtain ⟨c1, c2⟩ := HA.out K hKb
          have HDT := Lib.hid (dnum_take s K hend)
          clear hK
          go_wp2
          go_round
          case rel =>
            refine ⟨j + 1, b * 10 + (s[K].toNat - 48), p * 10, K + 1, _, _, hown, rfl, rfl, by omega, by omega, by go_num, rfl, rfl, by have := HK.out; omega, by have := HBB.out; omega, by have := HPP.out; omega, by rw [Nat.pow_succ, HP.out], by have := HB.out; omega, ?_⟩
            rw [HDT.out, ← HD.out, Nat.add_mul, Nat.mul_right_comm]
            omega
          case measure => simp [intOf]; omega
        · have hKB : K = bd := by omega
          have hc : (s[K].toNat : Int) < 48 ∨ 57 < (s[K].toNat : Int) := by
            have h1 := HBAD.out
            unfold isD at h1
            subst hKB
            omega
          clear hK hKB
          rcases hc with hc | hc
          · go_wp2
            try rw [Exit.noGoto_ret]
            go_ret2
            exact ⟨rfl, hbw⟩
          · go_wp2
            try rw [Exit.noGoto_ret]
            go_ret2
            exact ⟨rfl, hbw⟩
      · obtain rfl : j = 9 := by omega
        have hp9 := hp4 rfl
        have hP9 : 1000000000 ≤ P := by omega
        have HP9 := Lib.hid hp9
        clear hp3 hp4 hp2 hb hd hp hp1 hB hP hp9 hK
        go_wp2_with fail
        refine (times_z _ w.heap.size p b P B zs _ HPP.out HBB.out hown hbw.size (by omega) hmz (by have := HP2.out; omega) HP1.out (by have := HB.out; have := HP2.out; omega)).mono ?_
        rintro e w2 ⟨v2, ys, rfl, hown2, hv2, hm2, hl2, hb2⟩
        have HV2 := Lib.hid hv2
        clear hv2
        go_wp2
        go_roundw
        case rel =>
          refine ⟨K, ys, rfl, rfl, rfl, hKs, hown2, hm2, ?_, by have := HK.out; omega, hbw.trans hb2⟩
          rw [HV2.out, HV.out, Nat.mul_comm, Nat.add_comm, HD.out]
        case measure => have := HK.out; simp [intOf]; omega
end Go.Proofs.YtgfojfiopcooeaaDoor
