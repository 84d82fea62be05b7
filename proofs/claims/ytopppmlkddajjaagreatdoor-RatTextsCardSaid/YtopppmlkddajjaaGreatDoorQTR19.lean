/- isochroneref02.Parse. -/
import Derived.Test.YtopppmlkddajjaaGreatDoorQTR18
import Derived.Lib.IndexBytes
import Derived.Lib.Explode
namespace Go.Proofs.YtopppmlkddajjaaGreatDoor
open Go.RowKit V

/-- No number and an error; a number and none: of the document. -/
def RefErr (n : Int) (w : World) (e : Ending) (w' : World) : Prop := e = .returned (.tuple #[.agg #[.bool false, .slice none 0 0, .slice none 0 0], .int .i64 n]) ∧ Below w.heap.size w w'
def RefOk (q : Rat) (L : Nat) (w : World) (e : Ending) (w' : World) : Prop :=
  ∃ r : RL, e = .returned (.tuple #[.agg #[.bool r.s, .slice r.N r.ns.length r.nc, .slice r.D r.ds.length r.dc], .int .i64 0]) ∧ r.Ref w' q ∧ r.ns.length ≤ L ∧ r.ds.length ≤ L ∧ Below w.heap.size w w'

theorem vd_one_ : VD [1] = 1 := by simp [VD, val]
theorem nm_ten : Nm [10] := ⟨fun x hx => by simp at hx; omega, fun _ => by simp⟩
theorem rpow_ten (A : Option Addr) (ca n : Nat) (xs : List Nat) (w : World) (hx : Rd .i64 w A xs) (bx : xs.length ≤ 1) (hn : n ≤ 400) (nmx : Nm xs) :
    Calls Tryz.prog 71 #[.slice A xs.length ca, .int .i64 n] w (OutP .i64 (fun zs => VD zs = VD xs ^ n ∧ Nm zs ∧ zs.length ≤ n + 1) w) := by
  have h1 := rd_nat1 w 1
  go_enter Tryz.func71, Tryz.ntmps71
  go_wp2
  go_loopw [5, 8] (fun v iv wr => ∃ i : Nat, ∃ O oc out, i ≤ n ∧ iv = .int .i64 i ∧ v = .slice O (out : List Nat).length oc ∧ out.length ≤ oc ∧ Rd .i64 wr O out ∧ Nm out ∧ VD out = VD xs ^ i ∧ out.length ≤ i + 1 ∧ Below w.heap.size w wr) (fun _ iv _ => n - (intOf iv).toNat)
  case atStart => exact ⟨0, _, _, [1], Nat.zero_le _, rfl, rfl, by simp, h1, nm_one, by simp [VD, val], by simp, (Below.refl _ _).alloc (Nat.le_refl _) _⟩
  case round =>
    obtain ⟨i, O, oc, out, hi, rfl, rfl, hoc, hro, hno, hv, hl, hbw⟩ := hrel
    have HV := Lib.hid hv
    clear hv
    by_cases hlt : i < n
    · have hx1 := hx.below hbw
      go_wp2_with fail
      refine (rmul_any O A oc ca out xs _ hro hx1 (by omega) hno nmx).mono ?_
      rintro e w2 ⟨Z, zc, zs, rfl, hzc, hz, hb2, hv2, hn2, hl2⟩
      have HV2 := Lib.hid hv2
      have hl3 := nm_mul_len hno nmx hn2 hv2
      clear hv2
      go_wp2_with fail
      go_roundw
      case rel => exact ⟨i + 1, Z, zc, zs, by omega, by go_num, rfl, hzc, hz, hn2, by rw [HV2.out, HV.out, Nat.pow_succ], by omega, hbw.trans (hb2.mono hbw.size)⟩
      case measure => simp [intOf]; omega
    · obtain rfl : i = n := by omega
      go_wp2
      go_ret
      exact ⟨O, oc, out, rfl, hoc, hro, hbw, HV.out, hno, hl⟩
theorem byte_at {s : ByteArray} {p q : List UInt8} {c : UInt8} (h : s.data.toList = p ++ c :: q) : s.size = p.length + 1 + q.length := by
  rw [Lib.size_eq, h]; simp; omega
theorem byte_get {s : ByteArray} {l : List UInt8} (h : s.data.toList = l) (k : Nat) (hk : k < s.size) : l[k]? = some s[k] := by
  rw [← h]; exact Lib.data_getElem? s k hk
theorem piece_lo {s : ByteArray} {p q : List UInt8} {c : UInt8} (h : s.data.toList = p ++ c :: q) : (s.extract 0 p.length).data.toList = p := by
  rw [Lib.extract_data, h]; simp
theorem piece_hi {s : ByteArray} {p q : List UInt8} {c : UInt8} (h : s.data.toList = p ++ c :: q) : (s.extract (p.length + 1) s.size).data.toList = q := by
  rw [Lib.extract_to_end, h]; simp
theorem dec_yes {s : ByteArray} {l : List UInt8} (h : s.data.toList = l) (w : World) (hs : s.size ≤ 100000) (hd : Digs l) :
    Calls Tryz.prog 69 #[.string s] w (Plain (.bool true) w) :=
  decimal_yes s w hs (by rw [h]; exact hd.1) (by rw [Lib.size_eq, h]; exact hd.2)
theorem dec_no {s : ByteArray} {l : List UInt8} (h : s.data.toList = l) (w : World) (hs : s.size ≤ 100000) (hd : ¬ Digs l) :
    Calls Tryz.prog 69 #[.string s] w (Plain (.bool false) w) := by
  rcases Nat.eq_zero_or_pos l.length with h0 | h0
  · exact decimal_empty s w (by rw [Lib.size_eq, h]; exact h0)
  · exact decimal_no s w hs (by rw [h]; exact fun h2 => hd ⟨h2, h0⟩)
theorem digits_of {s : ByteArray} {l : List UInt8} (h : s.data.toList = l) (w : World) (hs : s.size ≤ 400) (hd : Digs l) :
    Calls Tryz.prog 70 #[.string s] w (OutP .i64 (fun zs => VD zs = dnum l ∧ Nm zs ∧ zs.length ≤ 403) w) := by
  refine (digits_any s w (by omega) (by rw [h]; exact hd.1)).mono fun e w' h2 => ?_
  obtain ⟨A, c, ys, r1, r2, r3, r4, r5, r6, r7⟩ := h2
  exact ⟨A, c, ys, r1, r2, r3, r4, by rw [r5, h], r6, by omega⟩
set_option maxRecDepth 100000 in
set_option maxHeartbeats 3200000 in
theorem rparse_n_plain_ok (s : ByteArray) (t : List UInt8) (hs : s.data.toList = 45 :: t) (h47 : 47 ∉ t) (h46 : 46 ∉ t) (hd : Digs t) (w : World) (hl : s.size ≤ 200) :
    Calls Tryz.prog 38 #[.string s] w (RefOk (mkRat (sgn true (dnum t)) (1)) 30000 w) := by
  have hbl : Below w.heap.size w (w.alloc (.cells #[.bool false, .slice none 0 0, .slice none 0 0] 30)) := (Below.refl _ _).alloc (Nat.le_refl _) _
  have kr := BlkT.new 30 w (.bool false) (.slice none 0 0) (.slice none 0 0)
  obtain ⟨r, hr⟩ : ∃ r, s.extract 1 s.size = r := ⟨_, rfl⟩
  have hrs : r.data.toList = t := by rw [← hr, Lib.extract_to_end, hs]; rfl
  have hpos : 0 < s.size := by rw [Lib.size_eq, hs]; simp
  have hsz : s.size = t.length + 1 := by rw [Lib.size_eq, hs]; simp
  have hne := not_empty hpos
  have hne2 : (!s.toList.isEmpty) = true := by rw [hne]; rfl
  have h0 : ((s[0].toNat : Int) == 45) = true := by
    have := byte_get hs 0 hpos
    simp at this
    rw [← this]; rfl
  have hrl : r.size ≤ 200 := by rw [Lib.size_eq, hrs]; omega
  have HSR : Hid (s.size - 1 = r.size) := Lib.hid (by rw [Lib.size_eq r, hrs]; omega)
  have hsp : (1 : Int) ≤ s.size := by omega
  have HRR := Lib.hid hr
  clear hr hs hsz
  have HB : Hid (∀ k, ∀ hk : k < r.size, ((r[k].toNat : Int) == 47) = false ∧ ((r[k].toNat : Int) == 46) = false) := Lib.hid (fun k hk => by
    have h1 := byte_get hrs k hk
    have h2 : r[k] ∈ t := List.mem_of_getElem? h1
    refine ⟨beq_eq_false_iff_ne.2 fun h3 => h47 ?_, beq_eq_false_iff_ne.2 fun h3 => h46 ?_⟩
    · rwa [show r[k] = 47 from UInt8.toNat_inj.1 (by have : ((47 : UInt8).toNat) = 47 := rfl; omega)] at h2
    · rwa [show r[k] = 46 from UInt8.toNat_inj.1 (by have : ((46 : UInt8).toNat) = 46 := rfl; omega)] at h2)
  have hwh : r.extract 0 r.size = r := Lib.whole_piece r
  have HWH := Lib.hid hwh
  clear hwh h47 h46
  go_enter Tryz.func38, Tryz.ntmps38
  go_upto_region 5 with (go_quiet (fail))
  try rw [HRR.out]
  rw [HSR.out]
  have hbl : Below w.heap.size w ((w.alloc (.cells #[.bool false, .slice none 0 0, .slice none 0 0] 30)).drewN nq) := below_drew_ hbl nq
  have kr : BlkT 30 ((w.alloc (.cells #[.bool false, .slice none 0 0, .slice none 0 0] 30)).drewN nq) w.heap.size (.bool false) (.slice none 0 0) (.slice none 0 0) := kr
  obtain ⟨w1, hwe⟩ : ∃ x, ((w.alloc (.cells #[.bool false, .slice none 0 0, .slice none 0 0] 30)).drewN nq) = x := ⟨_, rfl⟩
  rw [hwe] at hbl kr ⊢
  clear hwe
  go_wp2
  go_loop [5, 6, 7, 23] (fun a m _ i => ∃ k : Nat, a = .int .i64 r.size ∧ m = .int .u8 0 ∧ k ≤ r.size ∧ i = .int .i64 k) (fun _ _ _ i => r.size - (intOf i).toNat)
  case atStart => exact ⟨0, rfl, rfl, Nat.zero_le _, rfl⟩
  case round =>
    obtain ⟨k, rfl, rfl, hk, rfl⟩ := hrel
    by_cases hlt : k < r.size
    · obtain ⟨h1, h2⟩ := HB.out k hlt
      go_wp2
      go_round
      case rel => exact ⟨k + 1, rfl, rfl, by omega, by go_num⟩
      case measure => simp [intOf]; omega
    · obtain rfl : k = r.size := by omega
      go_upto_region 11 with fail
      have hw1 := hbl
      have kr1 := kr
      try rw [HWH.out]
      go_wp2_with fail
      refine (dec_yes (s := r) hrs _ (by omega) hd).mono ?_
      rintro e w' ⟨rfl, rfl⟩
      go_wp2_with fail
      try rw [HWH.out]
      refine (digits_of (s := r) hrs _ (by omega) hd).mono ?_
      rintro e xX ⟨X, Xc, Xs, rfl, hXc, hX, hbX, hvX, hnX, hlX⟩
      have HVX := Lib.hid hvX
      clear hvX
      have kr3 := kr1.below hbX
      have hw3 := hw1.trans (hbX.mono hw1.size)
      go_upto_region 14 with fail
      have hbo : Below xX.heap.size xX (xX.alloc (.cells #[.int .i64 1] 3)) := (Below.refl _ _).alloc (Nat.le_refl _) _
      have hone := nat1_rd xX _ rfl
      obtain ⟨xO, hwe⟩ : ∃ x, xX.alloc (.cells #[.int .i64 1] 3) = x := ⟨_, rfl⟩
      rw [hwe] at hbo hone ⊢
      clear hwe
      have hXO := hX.below hbo
      have kr4 := kr3.below hbo
      have hw4 := hw3.trans (hbo.mono hw3.size)
      go_wp2_with fail
      refine (rmake true X (some ⟨_, 0, none⟩) Xc 1 Xs [1] _ hXO hone hnX nm_one (by omega) (by simp) (by simp)).mono ?_
      rintro e xM ⟨y, rfl, hy, hya, hyb, hbM⟩
      rw [HVX.out, vd_one_] at hy
      have kr5 := kr4.below hbM
      have hw5 := hw4.trans (hbM.mono hw4.size)
      obtain ⟨a0, a1, a2, a3, a4, a5, a6⟩ := kr5.facts
      go_wp2_with fail
      refine bodyPost_ret (v := .tuple #[.agg #[.bool y.s, .slice y.N y.ns.length y.nc, .slice y.D y.ds.length y.dc], .int .i64 0]) (by simp [results, Tryz.results38, go_sem, a0, a1, a2]) rfl ?_
      exact ⟨y, rfl, hy.put3 kr5 _ _ _, by omega, by (try simp at hyb); omega, below_put3 hw5 (Nat.le_refl _) _ _ _⟩
set_option maxRecDepth 100000 in
set_option maxHeartbeats 3200000 in
theorem rparse_n_plain_bad1 (s : ByteArray) (t : List UInt8) (hs : s.data.toList = 45 :: t) (h47 : 47 ∉ t) (h46 : 46 ∉ t) (hd : ¬ Digs t) (w : World) (hl : s.size ≤ 200) :
    Calls Tryz.prog 38 #[.string s] w (RefErr 90 w) := by
  have hbl : Below w.heap.size w (w.alloc (.cells #[.bool false, .slice none 0 0, .slice none 0 0] 30)) := (Below.refl _ _).alloc (Nat.le_refl _) _
  have kr := BlkT.new 30 w (.bool false) (.slice none 0 0) (.slice none 0 0)
  obtain ⟨r, hr⟩ : ∃ r, s.extract 1 s.size = r := ⟨_, rfl⟩
  have hrs : r.data.toList = t := by rw [← hr, Lib.extract_to_end, hs]; rfl
  have hpos : 0 < s.size := by rw [Lib.size_eq, hs]; simp
  have hsz : s.size = t.length + 1 := by rw [Lib.size_eq, hs]; simp
  have hne := not_empty hpos
  have hne2 : (!s.toList.isEmpty) = true := by rw [hne]; rfl
  have h0 : ((s[0].toNat : Int) == 45) = true := by
    have := byte_get hs 0 hpos
    simp at this
    rw [← this]; rfl
  have hrl : r.size ≤ 200 := by rw [Lib.size_eq, hrs]; omega
  have HSR : Hid (s.size - 1 = r.size) := Lib.hid (by rw [Lib.size_eq r, hrs]; omega)
  have hsp : (1 : Int) ≤ s.size := by omega
  have HRR := Lib.hid hr
  clear hr hs hsz
  have HB : Hid (∀ k, ∀ hk : k < r.size, ((r[k].toNat : Int) == 47) = false ∧ ((r[k].toNat : Int) == 46) = false) := Lib.hid (fun k hk => by
    have h1 := byte_get hrs k hk
    have h2 : r[k] ∈ t := List.mem_of_getElem? h1
    refine ⟨beq_eq_false_iff_ne.2 fun h3 => h47 ?_, beq_eq_false_iff_ne.2 fun h3 => h46 ?_⟩
    · rwa [show r[k] = 47 from UInt8.toNat_inj.1 (by have : ((47 : UInt8).toNat) = 47 := rfl; omega)] at h2
    · rwa [show r[k] = 46 from UInt8.toNat_inj.1 (by have : ((46 : UInt8).toNat) = 46 := rfl; omega)] at h2)
  have hwh : r.extract 0 r.size = r := Lib.whole_piece r
  have HWH := Lib.hid hwh
  clear hwh h47 h46
  go_enter Tryz.func38, Tryz.ntmps38
  go_upto_region 5 with (go_quiet (fail))
  try rw [HRR.out]
  rw [HSR.out]
  have hbl : Below w.heap.size w ((w.alloc (.cells #[.bool false, .slice none 0 0, .slice none 0 0] 30)).drewN nq) := below_drew_ hbl nq
  have kr : BlkT 30 ((w.alloc (.cells #[.bool false, .slice none 0 0, .slice none 0 0] 30)).drewN nq) w.heap.size (.bool false) (.slice none 0 0) (.slice none 0 0) := kr
  obtain ⟨w1, hwe⟩ : ∃ x, ((w.alloc (.cells #[.bool false, .slice none 0 0, .slice none 0 0] 30)).drewN nq) = x := ⟨_, rfl⟩
  rw [hwe] at hbl kr ⊢
  clear hwe
  go_wp2
  go_loop [5, 6, 7, 23] (fun a m _ i => ∃ k : Nat, a = .int .i64 r.size ∧ m = .int .u8 0 ∧ k ≤ r.size ∧ i = .int .i64 k) (fun _ _ _ i => r.size - (intOf i).toNat)
  case atStart => exact ⟨0, rfl, rfl, Nat.zero_le _, rfl⟩
  case round =>
    obtain ⟨k, rfl, rfl, hk, rfl⟩ := hrel
    by_cases hlt : k < r.size
    · obtain ⟨h1, h2⟩ := HB.out k hlt
      go_wp2
      go_round
      case rel => exact ⟨k + 1, rfl, rfl, by omega, by go_num⟩
      case measure => simp [intOf]; omega
    · obtain rfl : k = r.size := by omega
      go_upto_region 11 with fail
      have hw1 := hbl
      have kr1 := kr
      try rw [HWH.out]
      go_wp2_with fail
      refine (dec_no (s := r) hrs _ (by omega) hd).mono ?_
      rintro e w' ⟨rfl, rfl⟩
      obtain ⟨a0, a1, a2, a3, a4, a5, a6⟩ := kr1.facts
      go_wp2_with fail
      refine bodyPost_ret (v := .tuple #[.agg #[.bool false, .slice none 0 0, .slice none 0 0], .int .i64 90]) (by simp [results, Tryz.results38, go_sem, a0, a1, a2]) rfl ?_
      exact ⟨rfl, by first | exact hw1 | exact below_put3 hw1 (Nat.le_refl _) _ _ _⟩
set_option maxRecDepth 100000 in
set_option maxHeartbeats 3200000 in
theorem rparse_n_slash_ok (s : ByteArray) (p q t : List UInt8) (hs : s.data.toList = 45 :: t) (ht : t = p ++ 47 :: q) (h47 : 47 ∉ p) (h46 : 46 ∉ p) (hd : Digs p) (hd2 : Digs q) (hz : 0 < dnum q) (w : World) (hl : s.size ≤ 200) :
    Calls Tryz.prog 38 #[.string s] w (RefOk (mkRat (sgn true (dnum p)) (dnum q)) 30000 w) := by
  have hbl : Below w.heap.size w (w.alloc (.cells #[.bool false, .slice none 0 0, .slice none 0 0] 30)) := (Below.refl _ _).alloc (Nat.le_refl _) _
  have kr := BlkT.new 30 w (.bool false) (.slice none 0 0) (.slice none 0 0)
  obtain ⟨r, hr⟩ : ∃ r, s.extract 1 s.size = r := ⟨_, rfl⟩
  have hrs : r.data.toList = t := by rw [← hr, Lib.extract_to_end, hs]; rfl
  have hpos : 0 < s.size := by rw [Lib.size_eq, hs]; simp
  have hsz : s.size = t.length + 1 := by rw [Lib.size_eq, hs]; simp
  have hne := not_empty hpos
  have hne2 : (!s.toList.isEmpty) = true := by rw [hne]; rfl
  have h0 : ((s[0].toNat : Int) == 45) = true := by
    have := byte_get hs 0 hpos
    simp at this
    rw [← this]; rfl
  have hrl : r.size ≤ 200 := by rw [Lib.size_eq, hrs]; omega
  have HSR : Hid (s.size - 1 = r.size) := Lib.hid (by rw [Lib.size_eq r, hrs]; omega)
  have hsp : (1 : Int) ≤ s.size := by omega
  have HRR := Lib.hid hr
  clear hr hs hsz
  rw [ht] at hrs
  have hsz := byte_at hrs
  obtain ⟨n, hn⟩ : ∃ n, p.length = n := ⟨_, rfl⟩
  have hlo := piece_lo hrs
  have hhi := piece_hi hrs
  rw [hn] at hlo hhi hsz
  have hnl : n < r.size := by omega
  have HB : Hid (∀ k, k < n → ∀ hk : k < r.size, ((r[k].toNat : Int) == 47) = false ∧ ((r[k].toNat : Int) == 46) = false) := Lib.hid (fun k hkn hk => by
    have h1 := byte_get hrs k hk
    rw [List.getElem?_append_left (by omega)] at h1
    have h2 : r[k] ∈ p := List.mem_of_getElem? h1
    refine ⟨beq_eq_false_iff_ne.2 fun h3 => h47 ?_, beq_eq_false_iff_ne.2 fun h3 => h46 ?_⟩
    · rwa [show r[k] = 47 from UInt8.toNat_inj.1 (by have : ((47 : UInt8).toNat) = 47 := rfl; omega)] at h2
    · rwa [show r[k] = 46 from UInt8.toNat_inj.1 (by have : ((46 : UInt8).toNat) = 46 := rfl; omega)] at h2)
  have hc : (r[n].toNat : Int) = 47 := by
    have h1 := byte_get hrs n hnl
    rw [List.getElem?_append_right (by omega), show n - p.length = 0 by omega] at h1
    simp at h1
    rw [← h1]; rfl
  have HC := Lib.hid hc
  have HLO := Lib.hid hlo
  have HHI := Lib.hid hhi
  have HSZ := Lib.hid hsz
  have hls : (r.extract 0 n).size ≤ 200 := by rw [Lib.size_eq, hlo]; omega
  have hhs : (r.extract (n + 1) r.size).size ≤ 200 := by rw [Lib.size_eq, hhi]; omega
  have hi1 : (0 : Int) ≤ (n : Int) := by omega
  have hi2 : (n : Int) ≤ r.size := by omega
  have hi3 : (n : Int) + 1 ≤ r.size := by omega
  clear hc hlo hhi h47 h46 ht hn hsz hrs
  go_enter Tryz.func38, Tryz.ntmps38
  go_upto_region 5 with (go_quiet (fail))
  try rw [HRR.out]
  rw [HSR.out]
  have hbl : Below w.heap.size w ((w.alloc (.cells #[.bool false, .slice none 0 0, .slice none 0 0] 30)).drewN nq) := below_drew_ hbl nq
  have kr : BlkT 30 ((w.alloc (.cells #[.bool false, .slice none 0 0, .slice none 0 0] 30)).drewN nq) w.heap.size (.bool false) (.slice none 0 0) (.slice none 0 0) := kr
  obtain ⟨w1, hwe⟩ : ∃ x, ((w.alloc (.cells #[.bool false, .slice none 0 0, .slice none 0 0] 30)).drewN nq) = x := ⟨_, rfl⟩
  rw [hwe] at hbl kr ⊢
  clear hwe
  go_wp2
  go_loop [5, 6, 7, 23] (fun a m _ i => ∃ k : Nat, a = .int .i64 r.size ∧ m = .int .u8 0 ∧ k ≤ n ∧ i = .int .i64 k) (fun _ _ _ i => r.size - (intOf i).toNat)
  case atStart => exact ⟨0, rfl, rfl, Nat.zero_le _, rfl⟩
  case round =>
    obtain ⟨k, rfl, rfl, hk, rfl⟩ := hrel
    by_cases hlt : k < n
    · obtain ⟨h1, h2⟩ := HB.out k hlt (by omega)
      have hlt2 : k < r.size := by omega
      go_wp2
      go_round
      case rel => exact ⟨k + 1, rfl, rfl, by omega, by go_num⟩
      case measure => simp [intOf]; omega
    · obtain rfl : k = n := by omega
      have hc1 : ((r[k].toNat : Int) == 47) = true := by rw [HC.out]; rfl
      go_upto_region 11 with (go_quiet (fail))
      rw [HC.out]
      have hw1 : Below w.heap.size w (w1.drewN nq) := below_drew_ hbl nq
      have kr1 : BlkT 30 (w1.drewN nq) w.heap.size (.bool false) (.slice none 0 0) (.slice none 0 0) := kr
      obtain ⟨w2, hwe⟩ : ∃ x, w1.drewN nq = x := ⟨_, rfl⟩
      rw [hwe] at hw1 kr1 ⊢
      clear hwe hbl kr
      go_wp2_with fail
      refine (dec_yes (s := (r.extract 0 k)) HLO.out _ (by omega) hd).mono ?_
      rintro e w' ⟨rfl, rfl⟩
      go_wp2_with fail
      refine (dec_yes (s := (r.extract (k + 1) r.size)) HHI.out _ (by omega) hd2).mono ?_
      rintro e w' ⟨rfl, rfl⟩
      go_wp2_with fail
      refine (digits_of (s := (r.extract 0 k)) HLO.out _ (by omega) hd).mono ?_
      rintro e xX ⟨X, Xc, Xs, rfl, hXc, hX, hbX, hvX, hnX, hlX⟩
      have HVX := Lib.hid hvX
      clear hvX
      have kr3 := kr1.below hbX
      have hw3 := hw1.trans (hbX.mono hw1.size)
      go_upto_region 14 with fail
      have hbo : Below xX.heap.size xX (xX.alloc (.cells #[.int .i64 1] 3)) := (Below.refl _ _).alloc (Nat.le_refl _) _
      have hone := nat1_rd xX _ rfl
      obtain ⟨xO, hwe⟩ : ∃ x, xX.alloc (.cells #[.int .i64 1] 3) = x := ⟨_, rfl⟩
      rw [hwe] at hbo hone ⊢
      clear hwe
      have hXO := hX.below hbo
      have kr4 := kr3.below hbo
      have hw4 := hw3.trans (hbo.mono hw3.size)
      go_wp2_with fail
      refine (digits_of (s := (r.extract (k + 1) r.size)) HHI.out _ (by omega) hd2).mono ?_
      rintro e xY ⟨Y, Yc, Ys, rfl, hYc, hY, hbY, hvY, hnY, hlY⟩
      have HVY := Lib.hid hvY
      clear hvY
      have kr5 := kr4.below hbY
      have hw5 := hw4.trans (hbY.mono hw4.size)
      have hXY := hXO.below hbY
      have hy0 : 0 < Ys.length := by rcases Nat.eq_zero_or_pos Ys.length with h | h; (rw [List.eq_nil_of_length_eq_zero h] at HVY; have := HVY.out; simp [VD, val] at this; omega); exact h
      have hy1 : ((Ys.length : Int) == 0) = false := beq_eq_false_iff_ne.2 (by omega)
      go_wp2_with fail
      refine (rmake true X Y Xc Yc Xs Ys _ hXY hY hnX hnY (by omega) (by omega) (hy0)).mono ?_
      rintro e xM ⟨y, rfl, hy, hya, hyb, hbM⟩
      rw [HVX.out, HVY.out] at hy
      have kr6 := kr5.below hbM
      have hw6 := hw5.trans (hbM.mono hw5.size)
      obtain ⟨a0, a1, a2, a3, a4, a5, a6⟩ := kr6.facts
      go_wp2_with fail
      refine bodyPost_ret (v := .tuple #[.agg #[.bool y.s, .slice y.N y.ns.length y.nc, .slice y.D y.ds.length y.dc], .int .i64 0]) (by simp [results, Tryz.results38, go_sem, a0, a1, a2]) rfl ?_
      exact ⟨y, rfl, hy.put3 kr6 _ _ _, by omega, by (try simp at hyb); omega, below_put3 hw6 (Nat.le_refl _) _ _ _⟩
set_option maxRecDepth 100000 in
set_option maxHeartbeats 3200000 in
theorem rparse_n_slash_zero (s : ByteArray) (p q t : List UInt8) (hs : s.data.toList = 45 :: t) (ht : t = p ++ 47 :: q) (h47 : 47 ∉ p) (h46 : 46 ∉ p) (hd : Digs p) (hd2 : Digs q) (hz : dnum q = 0) (w : World) (hl : s.size ≤ 200) :
    Calls Tryz.prog 38 #[.string s] w (RefErr 20 w) := by
  have hbl : Below w.heap.size w (w.alloc (.cells #[.bool false, .slice none 0 0, .slice none 0 0] 30)) := (Below.refl _ _).alloc (Nat.le_refl _) _
  have kr := BlkT.new 30 w (.bool false) (.slice none 0 0) (.slice none 0 0)
  obtain ⟨r, hr⟩ : ∃ r, s.extract 1 s.size = r := ⟨_, rfl⟩
  have hrs : r.data.toList = t := by rw [← hr, Lib.extract_to_end, hs]; rfl
  have hpos : 0 < s.size := by rw [Lib.size_eq, hs]; simp
  have hsz : s.size = t.length + 1 := by rw [Lib.size_eq, hs]; simp
  have hne := not_empty hpos
  have hne2 : (!s.toList.isEmpty) = true := by rw [hne]; rfl
  have h0 : ((s[0].toNat : Int) == 45) = true := by
    have := byte_get hs 0 hpos
    simp at this
    rw [← this]; rfl
  have hrl : r.size ≤ 200 := by rw [Lib.size_eq, hrs]; omega
  have HSR : Hid (s.size - 1 = r.size) := Lib.hid (by rw [Lib.size_eq r, hrs]; omega)
  have hsp : (1 : Int) ≤ s.size := by omega
  have HRR := Lib.hid hr
  clear hr hs hsz
  rw [ht] at hrs
  have hsz := byte_at hrs
  obtain ⟨n, hn⟩ : ∃ n, p.length = n := ⟨_, rfl⟩
  have hlo := piece_lo hrs
  have hhi := piece_hi hrs
  rw [hn] at hlo hhi hsz
  have hnl : n < r.size := by omega
  have HB : Hid (∀ k, k < n → ∀ hk : k < r.size, ((r[k].toNat : Int) == 47) = false ∧ ((r[k].toNat : Int) == 46) = false) := Lib.hid (fun k hkn hk => by
    have h1 := byte_get hrs k hk
    rw [List.getElem?_append_left (by omega)] at h1
    have h2 : r[k] ∈ p := List.mem_of_getElem? h1
    refine ⟨beq_eq_false_iff_ne.2 fun h3 => h47 ?_, beq_eq_false_iff_ne.2 fun h3 => h46 ?_⟩
    · rwa [show r[k] = 47 from UInt8.toNat_inj.1 (by have : ((47 : UInt8).toNat) = 47 := rfl; omega)] at h2
    · rwa [show r[k] = 46 from UInt8.toNat_inj.1 (by have : ((46 : UInt8).toNat) = 46 := rfl; omega)] at h2)
  have hc : (r[n].toNat : Int) = 47 := by
    have h1 := byte_get hrs n hnl
    rw [List.getElem?_append_right (by omega), show n - p.length = 0 by omega] at h1
    simp at h1
    rw [← h1]; rfl
  have HC := Lib.hid hc
  have HLO := Lib.hid hlo
  have HHI := Lib.hid hhi
  have HSZ := Lib.hid hsz
  have hls : (r.extract 0 n).size ≤ 200 := by rw [Lib.size_eq, hlo]; omega
  have hhs : (r.extract (n + 1) r.size).size ≤ 200 := by rw [Lib.size_eq, hhi]; omega
  have hi1 : (0 : Int) ≤ (n : Int) := by omega
  have hi2 : (n : Int) ≤ r.size := by omega
  have hi3 : (n : Int) + 1 ≤ r.size := by omega
  clear hc hlo hhi h47 h46 ht hn hsz hrs
  go_enter Tryz.func38, Tryz.ntmps38
  go_upto_region 5 with (go_quiet (fail))
  try rw [HRR.out]
  rw [HSR.out]
  have hbl : Below w.heap.size w ((w.alloc (.cells #[.bool false, .slice none 0 0, .slice none 0 0] 30)).drewN nq) := below_drew_ hbl nq
  have kr : BlkT 30 ((w.alloc (.cells #[.bool false, .slice none 0 0, .slice none 0 0] 30)).drewN nq) w.heap.size (.bool false) (.slice none 0 0) (.slice none 0 0) := kr
  obtain ⟨w1, hwe⟩ : ∃ x, ((w.alloc (.cells #[.bool false, .slice none 0 0, .slice none 0 0] 30)).drewN nq) = x := ⟨_, rfl⟩
  rw [hwe] at hbl kr ⊢
  clear hwe
  go_wp2
  go_loop [5, 6, 7, 23] (fun a m _ i => ∃ k : Nat, a = .int .i64 r.size ∧ m = .int .u8 0 ∧ k ≤ n ∧ i = .int .i64 k) (fun _ _ _ i => r.size - (intOf i).toNat)
  case atStart => exact ⟨0, rfl, rfl, Nat.zero_le _, rfl⟩
  case round =>
    obtain ⟨k, rfl, rfl, hk, rfl⟩ := hrel
    by_cases hlt : k < n
    · obtain ⟨h1, h2⟩ := HB.out k hlt (by omega)
      have hlt2 : k < r.size := by omega
      go_wp2
      go_round
      case rel => exact ⟨k + 1, rfl, rfl, by omega, by go_num⟩
      case measure => simp [intOf]; omega
    · obtain rfl : k = n := by omega
      have hc1 : ((r[k].toNat : Int) == 47) = true := by rw [HC.out]; rfl
      go_upto_region 11 with (go_quiet (fail))
      rw [HC.out]
      have hw1 : Below w.heap.size w (w1.drewN nq) := below_drew_ hbl nq
      have kr1 : BlkT 30 (w1.drewN nq) w.heap.size (.bool false) (.slice none 0 0) (.slice none 0 0) := kr
      obtain ⟨w2, hwe⟩ : ∃ x, w1.drewN nq = x := ⟨_, rfl⟩
      rw [hwe] at hw1 kr1 ⊢
      clear hwe hbl kr
      go_wp2_with fail
      refine (dec_yes (s := (r.extract 0 k)) HLO.out _ (by omega) hd).mono ?_
      rintro e w' ⟨rfl, rfl⟩
      go_wp2_with fail
      refine (dec_yes (s := (r.extract (k + 1) r.size)) HHI.out _ (by omega) hd2).mono ?_
      rintro e w' ⟨rfl, rfl⟩
      go_wp2_with fail
      refine (digits_of (s := (r.extract 0 k)) HLO.out _ (by omega) hd).mono ?_
      rintro e xX ⟨X, Xc, Xs, rfl, hXc, hX, hbX, hvX, hnX, hlX⟩
      have HVX := Lib.hid hvX
      clear hvX
      have kr3 := kr1.below hbX
      have hw3 := hw1.trans (hbX.mono hw1.size)
      go_upto_region 14 with fail
      have hbo : Below xX.heap.size xX (xX.alloc (.cells #[.int .i64 1] 3)) := (Below.refl _ _).alloc (Nat.le_refl _) _
      have hone := nat1_rd xX _ rfl
      obtain ⟨xO, hwe⟩ : ∃ x, xX.alloc (.cells #[.int .i64 1] 3) = x := ⟨_, rfl⟩
      rw [hwe] at hbo hone ⊢
      clear hwe
      have hXO := hX.below hbo
      have kr4 := kr3.below hbo
      have hw4 := hw3.trans (hbo.mono hw3.size)
      go_wp2_with fail
      refine (digits_of (s := (r.extract (k + 1) r.size)) HHI.out _ (by omega) hd2).mono ?_
      rintro e xY ⟨Y, Yc, Ys, rfl, hYc, hY, hbY, hvY, hnY, hlY⟩
      have HVY := Lib.hid hvY
      clear hvY
      have kr5 := kr4.below hbY
      have hw5 := hw4.trans (hbY.mono hw4.size)
      have hXY := hXO.below hbY
      have hy0 : Ys.length = 0 := by rcases Nat.eq_zero_or_pos Ys.length with h | h; exact h; have := VD_pos hnY h; rw [HVY.out] at this; omega
      obtain ⟨a0, a1, a2, a3, a4, a5, a6⟩ := kr5.facts
      go_wp2_with fail
      refine bodyPost_ret (v := .tuple #[.agg #[.bool false, .slice none 0 0, .slice none 0 0], .int .i64 20]) (by simp [results, Tryz.results38, go_sem, a0, a1, a2]) rfl ?_
      exact ⟨rfl, by first | exact hw5 | exact below_put3 hw5 (Nat.le_refl _) _ _ _⟩
set_option maxRecDepth 100000 in
set_option maxHeartbeats 3200000 in
theorem rparse_n_slash_bad1 (s : ByteArray) (p q t : List UInt8) (hs : s.data.toList = 45 :: t) (ht : t = p ++ 47 :: q) (h47 : 47 ∉ p) (h46 : 46 ∉ p) (hd : ¬ Digs p) (w : World) (hl : s.size ≤ 200) :
    Calls Tryz.prog 38 #[.string s] w (RefErr 90 w) := by
  have hbl : Below w.heap.size w (w.alloc (.cells #[.bool false, .slice none 0 0, .slice none 0 0] 30)) := (Below.refl _ _).alloc (Nat.le_refl _) _
  have kr := BlkT.new 30 w (.bool false) (.slice none 0 0) (.slice none 0 0)
  obtain ⟨r, hr⟩ : ∃ r, s.extract 1 s.size = r := ⟨_, rfl⟩
  have hrs : r.data.toList = t := by rw [← hr, Lib.extract_to_end, hs]; rfl
  have hpos : 0 < s.size := by rw [Lib.size_eq, hs]; simp
  have hsz : s.size = t.length + 1 := by rw [Lib.size_eq, hs]; simp
  have hne := not_empty hpos
  have hne2 : (!s.toList.isEmpty) = true := by rw [hne]; rfl
  have h0 : ((s[0].toNat : Int) == 45) = true := by
    have := byte_get hs 0 hpos
    simp at this
    rw [← this]; rfl
  have hrl : r.size ≤ 200 := by rw [Lib.size_eq, hrs]; omega
  have HSR : Hid (s.size - 1 = r.size) := Lib.hid (by rw [Lib.size_eq r, hrs]; omega)
  have hsp : (1 : Int) ≤ s.size := by omega
  have HRR := Lib.hid hr
  clear hr hs hsz
  rw [ht] at hrs
  have hsz := byte_at hrs
  obtain ⟨n, hn⟩ : ∃ n, p.length = n := ⟨_, rfl⟩
  have hlo := piece_lo hrs
  have hhi := piece_hi hrs
  rw [hn] at hlo hhi hsz
  have hnl : n < r.size := by omega
  have HB : Hid (∀ k, k < n → ∀ hk : k < r.size, ((r[k].toNat : Int) == 47) = false ∧ ((r[k].toNat : Int) == 46) = false) := Lib.hid (fun k hkn hk => by
    have h1 := byte_get hrs k hk
    rw [List.getElem?_append_left (by omega)] at h1
    have h2 : r[k] ∈ p := List.mem_of_getElem? h1
    refine ⟨beq_eq_false_iff_ne.2 fun h3 => h47 ?_, beq_eq_false_iff_ne.2 fun h3 => h46 ?_⟩
    · rwa [show r[k] = 47 from UInt8.toNat_inj.1 (by have : ((47 : UInt8).toNat) = 47 := rfl; omega)] at h2
    · rwa [show r[k] = 46 from UInt8.toNat_inj.1 (by have : ((46 : UInt8).toNat) = 46 := rfl; omega)] at h2)
  have hc : (r[n].toNat : Int) = 47 := by
    have h1 := byte_get hrs n hnl
    rw [List.getElem?_append_right (by omega), show n - p.length = 0 by omega] at h1
    simp at h1
    rw [← h1]; rfl
  have HC := Lib.hid hc
  have HLO := Lib.hid hlo
  have HHI := Lib.hid hhi
  have HSZ := Lib.hid hsz
  have hls : (r.extract 0 n).size ≤ 200 := by rw [Lib.size_eq, hlo]; omega
  have hhs : (r.extract (n + 1) r.size).size ≤ 200 := by rw [Lib.size_eq, hhi]; omega
  have hi1 : (0 : Int) ≤ (n : Int) := by omega
  have hi2 : (n : Int) ≤ r.size := by omega
  have hi3 : (n : Int) + 1 ≤ r.size := by omega
  clear hc hlo hhi h47 h46 ht hn hsz hrs
  go_enter Tryz.func38, Tryz.ntmps38
  go_upto_region 5 with (go_quiet (fail))
  try rw [HRR.out]
  rw [HSR.out]
  have hbl : Below w.heap.size w ((w.alloc (.cells #[.bool false, .slice none 0 0, .slice none 0 0] 30)).drewN nq) := below_drew_ hbl nq
  have kr : BlkT 30 ((w.alloc (.cells #[.bool false, .slice none 0 0, .slice none 0 0] 30)).drewN nq) w.heap.size (.bool false) (.slice none 0 0) (.slice none 0 0) := kr
  obtain ⟨w1, hwe⟩ : ∃ x, ((w.alloc (.cells #[.bool false, .slice none 0 0, .slice none 0 0] 30)).drewN nq) = x := ⟨_, rfl⟩
  rw [hwe] at hbl kr ⊢
  clear hwe
  go_wp2
  go_loop [5, 6, 7, 23] (fun a m _ i => ∃ k : Nat, a = .int .i64 r.size ∧ m = .int .u8 0 ∧ k ≤ n ∧ i = .int .i64 k) (fun _ _ _ i => r.size - (intOf i).toNat)
  case atStart => exact ⟨0, rfl, rfl, Nat.zero_le _, rfl⟩
  case round =>
    obtain ⟨k, rfl, rfl, hk, rfl⟩ := hrel
    by_cases hlt : k < n
    · obtain ⟨h1, h2⟩ := HB.out k hlt (by omega)
      have hlt2 : k < r.size := by omega
      go_wp2
      go_round
      case rel => exact ⟨k + 1, rfl, rfl, by omega, by go_num⟩
      case measure => simp [intOf]; omega
    · obtain rfl : k = n := by omega
      have hc1 : ((r[k].toNat : Int) == 47) = true := by rw [HC.out]; rfl
      go_upto_region 11 with (go_quiet (fail))
      rw [HC.out]
      have hw1 : Below w.heap.size w (w1.drewN nq) := below_drew_ hbl nq
      have kr1 : BlkT 30 (w1.drewN nq) w.heap.size (.bool false) (.slice none 0 0) (.slice none 0 0) := kr
      obtain ⟨w2, hwe⟩ : ∃ x, w1.drewN nq = x := ⟨_, rfl⟩
      rw [hwe] at hw1 kr1 ⊢
      clear hwe hbl kr
      go_wp2_with fail
      refine (dec_no (s := (r.extract 0 k)) HLO.out _ (by omega) hd).mono ?_
      rintro e w' ⟨rfl, rfl⟩
      obtain ⟨a0, a1, a2, a3, a4, a5, a6⟩ := kr1.facts
      go_wp2_with fail
      refine bodyPost_ret (v := .tuple #[.agg #[.bool false, .slice none 0 0, .slice none 0 0], .int .i64 90]) (by simp [results, Tryz.results38, go_sem, a0, a1, a2]) rfl ?_
      exact ⟨rfl, by first | exact hw1 | exact below_put3 hw1 (Nat.le_refl _) _ _ _⟩
set_option maxRecDepth 100000 in
set_option maxHeartbeats 3200000 in
theorem rparse_n_slash_bad2 (s : ByteArray) (p q t : List UInt8) (hs : s.data.toList = 45 :: t) (ht : t = p ++ 47 :: q) (h47 : 47 ∉ p) (h46 : 46 ∉ p) (hd : Digs p) (hd2 : ¬ Digs q) (w : World) (hl : s.size ≤ 200) :
    Calls Tryz.prog 38 #[.string s] w (RefErr 90 w) := by
  have hbl : Below w.heap.size w (w.alloc (.cells #[.bool false, .slice none 0 0, .slice none 0 0] 30)) := (Below.refl _ _).alloc (Nat.le_refl _) _
  have kr := BlkT.new 30 w (.bool false) (.slice none 0 0) (.slice none 0 0)
  obtain ⟨r, hr⟩ : ∃ r, s.extract 1 s.size = r := ⟨_, rfl⟩
  have hrs : r.data.toList = t := by rw [← hr, Lib.extract_to_end, hs]; rfl
  have hpos : 0 < s.size := by rw [Lib.size_eq, hs]; simp
  have hsz : s.size = t.length + 1 := by rw [Lib.size_eq, hs]; simp
  have hne := not_empty hpos
  have hne2 : (!s.toList.isEmpty) = true := by rw [hne]; rfl
  have h0 : ((s[0].toNat : Int) == 45) = true := by
    have := byte_get hs 0 hpos
    simp at this
    rw [← this]; rfl
  have hrl : r.size ≤ 200 := by rw [Lib.size_eq, hrs]; omega
  have HSR : Hid (s.size - 1 = r.size) := Lib.hid (by rw [Lib.size_eq r, hrs]; omega)
  have hsp : (1 : Int) ≤ s.size := by omega
  have HRR := Lib.hid hr
  clear hr hs hsz
  rw [ht] at hrs
  have hsz := byte_at hrs
  obtain ⟨n, hn⟩ : ∃ n, p.length = n := ⟨_, rfl⟩
  have hlo := piece_lo hrs
  have hhi := piece_hi hrs
  rw [hn] at hlo hhi hsz
  have hnl : n < r.size := by omega
  have HB : Hid (∀ k, k < n → ∀ hk : k < r.size, ((r[k].toNat : Int) == 47) = false ∧ ((r[k].toNat : Int) == 46) = false) := Lib.hid (fun k hkn hk => by
    have h1 := byte_get hrs k hk
    rw [List.getElem?_append_left (by omega)] at h1
    have h2 : r[k] ∈ p := List.mem_of_getElem? h1
    refine ⟨beq_eq_false_iff_ne.2 fun h3 => h47 ?_, beq_eq_false_iff_ne.2 fun h3 => h46 ?_⟩
    · rwa [show r[k] = 47 from UInt8.toNat_inj.1 (by have : ((47 : UInt8).toNat) = 47 := rfl; omega)] at h2
    · rwa [show r[k] = 46 from UInt8.toNat_inj.1 (by have : ((46 : UInt8).toNat) = 46 := rfl; omega)] at h2)
  have hc : (r[n].toNat : Int) = 47 := by
    have h1 := byte_get hrs n hnl
    rw [List.getElem?_append_right (by omega), show n - p.length = 0 by omega] at h1
    simp at h1
    rw [← h1]; rfl
  have HC := Lib.hid hc
  have HLO := Lib.hid hlo
  have HHI := Lib.hid hhi
  have HSZ := Lib.hid hsz
  have hls : (r.extract 0 n).size ≤ 200 := by rw [Lib.size_eq, hlo]; omega
  have hhs : (r.extract (n + 1) r.size).size ≤ 200 := by rw [Lib.size_eq, hhi]; omega
  have hi1 : (0 : Int) ≤ (n : Int) := by omega
  have hi2 : (n : Int) ≤ r.size := by omega
  have hi3 : (n : Int) + 1 ≤ r.size := by omega
  clear hc hlo hhi h47 h46 ht hn hsz hrs
  go_enter Tryz.func38, Tryz.ntmps38
  go_upto_region 5 with (go_quiet (fail))
  try rw [HRR.out]
  rw [HSR.out]
  have hbl : Below w.heap.size w ((w.alloc (.cells #[.bool false, .slice none 0 0, .slice none 0 0] 30)).drewN nq) := below_drew_ hbl nq
  have kr : BlkT 30 ((w.alloc (.cells #[.bool false, .slice none 0 0, .slice none 0 0] 30)).drewN nq) w.heap.size (.bool false) (.slice none 0 0) (.slice none 0 0) := kr
  obtain ⟨w1, hwe⟩ : ∃ x, ((w.alloc (.cells #[.bool false, .slice none 0 0, .slice none 0 0] 30)).drewN nq) = x := ⟨_, rfl⟩
  rw [hwe] at hbl kr ⊢
  clear hwe
  go_wp2
  go_loop [5, 6, 7, 23] (fun a m _ i => ∃ k : Nat, a = .int .i64 r.size ∧ m = .int .u8 0 ∧ k ≤ n ∧ i = .int .i64 k) (fun _ _ _ i => r.size - (intOf i).toNat)
  case atStart => exact ⟨0, rfl, rfl, Nat.zero_le _, rfl⟩
  case round =>
    obtain ⟨k, rfl, rfl, hk, rfl⟩ := hrel
    by_cases hlt : k < n
    · obtain ⟨h1, h2⟩ := HB.out k hlt (by omega)
      have hlt2 : k < r.size := by omega
      go_wp2
      go_round
      case rel => exact ⟨k + 1, rfl, rfl, by omega, by go_num⟩
      case measure => simp [intOf]; omega
    · obtain rfl : k = n := by omega
      have hc1 : ((r[k].toNat : Int) == 47) = true := by rw [HC.out]; rfl
      go_upto_region 11 with (go_quiet (fail))
      rw [HC.out]
      have hw1 : Below w.heap.size w (w1.drewN nq) := below_drew_ hbl nq
      have kr1 : BlkT 30 (w1.drewN nq) w.heap.size (.bool false) (.slice none 0 0) (.slice none 0 0) := kr
      obtain ⟨w2, hwe⟩ : ∃ x, w1.drewN nq = x := ⟨_, rfl⟩
      rw [hwe] at hw1 kr1 ⊢
      clear hwe hbl kr
      go_wp2_with fail
      refine (dec_yes (s := (r.extract 0 k)) HLO.out _ (by omega) hd).mono ?_
      rintro e w' ⟨rfl, rfl⟩
      go_wp2_with fail
      refine (dec_no (s := (r.extract (k + 1) r.size)) HHI.out _ (by omega) hd2).mono ?_
      rintro e w' ⟨rfl, rfl⟩
      obtain ⟨a0, a1, a2, a3, a4, a5, a6⟩ := kr1.facts
      go_wp2_with fail
      refine bodyPost_ret (v := .tuple #[.agg #[.bool false, .slice none 0 0, .slice none 0 0], .int .i64 90]) (by simp [results, Tryz.results38, go_sem, a0, a1, a2]) rfl ?_
      exact ⟨rfl, by first | exact hw1 | exact below_put3 hw1 (Nat.le_refl _) _ _ _⟩
set_option maxRecDepth 100000 in
set_option maxHeartbeats 3200000 in
theorem rparse_n_point_ok (s : ByteArray) (p q t : List UInt8) (hs : s.data.toList = 45 :: t) (ht : t = p ++ 46 :: q) (h47 : 47 ∉ p) (h46 : 46 ∉ p) (hd : Digs p) (hd2 : Digs q) (w : World) (hl : s.size ≤ 200) :
    Calls Tryz.prog 38 #[.string s] w (RefOk (mkRat (sgn true (dnum (p ++ q))) (10 ^ q.length)) 30000 w) := by
  have hbl : Below w.heap.size w (w.alloc (.cells #[.bool false, .slice none 0 0, .slice none 0 0] 30)) := (Below.refl _ _).alloc (Nat.le_refl _) _
  have kr := BlkT.new 30 w (.bool false) (.slice none 0 0) (.slice none 0 0)
  obtain ⟨r, hr⟩ : ∃ r, s.extract 1 s.size = r := ⟨_, rfl⟩
  have hrs : r.data.toList = t := by rw [← hr, Lib.extract_to_end, hs]; rfl
  have hpos : 0 < s.size := by rw [Lib.size_eq, hs]; simp
  have hsz : s.size = t.length + 1 := by rw [Lib.size_eq, hs]; simp
  have hne := not_empty hpos
  have hne2 : (!s.toList.isEmpty) = true := by rw [hne]; rfl
  have h0 : ((s[0].toNat : Int) == 45) = true := by
    have := byte_get hs 0 hpos
    simp at this
    rw [← this]; rfl
  have hrl : r.size ≤ 200 := by rw [Lib.size_eq, hrs]; omega
  have HSR : Hid (s.size - 1 = r.size) := Lib.hid (by rw [Lib.size_eq r, hrs]; omega)
  have hsp : (1 : Int) ≤ s.size := by omega
  have HRR := Lib.hid hr
  clear hr hs hsz
  rw [ht] at hrs
  have hsz := byte_at hrs
  obtain ⟨n, hn⟩ : ∃ n, p.length = n := ⟨_, rfl⟩
  have hlo := piece_lo hrs
  have hhi := piece_hi hrs
  rw [hn] at hlo hhi hsz
  have hnl : n < r.size := by omega
  have HB : Hid (∀ k, k < n → ∀ hk : k < r.size, ((r[k].toNat : Int) == 47) = false ∧ ((r[k].toNat : Int) == 46) = false) := Lib.hid (fun k hkn hk => by
    have h1 := byte_get hrs k hk
    rw [List.getElem?_append_left (by omega)] at h1
    have h2 : r[k] ∈ p := List.mem_of_getElem? h1
    refine ⟨beq_eq_false_iff_ne.2 fun h3 => h47 ?_, beq_eq_false_iff_ne.2 fun h3 => h46 ?_⟩
    · rwa [show r[k] = 47 from UInt8.toNat_inj.1 (by have : ((47 : UInt8).toNat) = 47 := rfl; omega)] at h2
    · rwa [show r[k] = 46 from UInt8.toNat_inj.1 (by have : ((46 : UInt8).toNat) = 46 := rfl; omega)] at h2)
  have hc : (r[n].toNat : Int) = 46 := by
    have h1 := byte_get hrs n hnl
    rw [List.getElem?_append_right (by omega), show n - p.length = 0 by omega] at h1
    simp at h1
    rw [← h1]; rfl
  have HC := Lib.hid hc
  have HLO := Lib.hid hlo
  have HHI := Lib.hid hhi
  have HSZ := Lib.hid hsz
  have hls : (r.extract 0 n).size ≤ 200 := by rw [Lib.size_eq, hlo]; omega
  have hhs : (r.extract (n + 1) r.size).size ≤ 200 := by rw [Lib.size_eq, hhi]; omega
  have hi1 : (0 : Int) ≤ (n : Int) := by omega
  have hi2 : (n : Int) ≤ r.size := by omega
  have hi3 : (n : Int) + 1 ≤ r.size := by omega
  clear hc hlo hhi h47 h46 ht hn hsz hrs
  go_enter Tryz.func38, Tryz.ntmps38
  go_upto_region 5 with (go_quiet (fail))
  try rw [HRR.out]
  rw [HSR.out]
  have hbl : Below w.heap.size w ((w.alloc (.cells #[.bool false, .slice none 0 0, .slice none 0 0] 30)).drewN nq) := below_drew_ hbl nq
  have kr : BlkT 30 ((w.alloc (.cells #[.bool false, .slice none 0 0, .slice none 0 0] 30)).drewN nq) w.heap.size (.bool false) (.slice none 0 0) (.slice none 0 0) := kr
  obtain ⟨w1, hwe⟩ : ∃ x, ((w.alloc (.cells #[.bool false, .slice none 0 0, .slice none 0 0] 30)).drewN nq) = x := ⟨_, rfl⟩
  rw [hwe] at hbl kr ⊢
  clear hwe
  go_wp2
  go_loop [5, 6, 7, 23] (fun a m _ i => ∃ k : Nat, a = .int .i64 r.size ∧ m = .int .u8 0 ∧ k ≤ n ∧ i = .int .i64 k) (fun _ _ _ i => r.size - (intOf i).toNat)
  case atStart => exact ⟨0, rfl, rfl, Nat.zero_le _, rfl⟩
  case round =>
    obtain ⟨k, rfl, rfl, hk, rfl⟩ := hrel
    by_cases hlt : k < n
    · obtain ⟨h1, h2⟩ := HB.out k hlt (by omega)
      have hlt2 : k < r.size := by omega
      go_wp2
      go_round
      case rel => exact ⟨k + 1, rfl, rfl, by omega, by go_num⟩
      case measure => simp [intOf]; omega
    · obtain rfl : k = n := by omega
      have hc1 : ((r[k].toNat : Int) == 47) = false := by rw [HC.out]; rfl
      have hc2 : ((r[k].toNat : Int) == 46) = true := by rw [HC.out]; rfl
      go_upto_region 11 with (go_quiet (fail))
      rw [HC.out]
      have hw1 : Below w.heap.size w (w1.drewN nq) := below_drew_ hbl nq
      have kr1 : BlkT 30 (w1.drewN nq) w.heap.size (.bool false) (.slice none 0 0) (.slice none 0 0) := kr
      obtain ⟨w2, hwe⟩ : ∃ x, w1.drewN nq = x := ⟨_, rfl⟩
      rw [hwe] at hw1 kr1 ⊢
      clear hwe hbl kr
      go_wp2_with fail
      refine (dec_yes (s := (r.extract 0 k)) HLO.out _ (by omega) hd).mono ?_
      rintro e w' ⟨rfl, rfl⟩
      go_wp2_with fail
      refine (dec_yes (s := (r.extract (k + 1) r.size)) HHI.out _ (by omega) hd2).mono ?_
      rintro e w' ⟨rfl, rfl⟩
      go_wp2_with fail
      refine (digits_of (s := (r.extract 0 k)) HLO.out _ (by omega) hd).mono ?_
      rintro e xX ⟨X, Xc, Xs, rfl, hXc, hX, hbX, hvX, hnX, hlX⟩
      have HVX := Lib.hid hvX
      clear hvX
      have kr3 := kr1.below hbX
      have hw3 := hw1.trans (hbX.mono hw1.size)
      go_upto_region 14 with fail
      have hbo : Below xX.heap.size xX (xX.alloc (.cells #[.int .i64 1] 3)) := (Below.refl _ _).alloc (Nat.le_refl _) _
      have hone := nat1_rd xX _ rfl
      obtain ⟨xO, hwe⟩ : ∃ x, xX.alloc (.cells #[.int .i64 1] 3) = x := ⟨_, rfl⟩
      rw [hwe] at hbo hone ⊢
      clear hwe
      have hXO := hX.below hbo
      have kr4 := kr3.below hbo
      have hw4 := hw3.trans (hbo.mono hw3.size)
      have f1 := fun W => run_string_add_sum (P := Tryz.prog) W (r.extract 0 k) (r.extract (k + 1) r.size) (by omega)
      have hcat : (r.extract 0 k ++ r.extract (k + 1) r.size).data.toList = p ++ q := by rw [ByteArray.data_append, Array.toList_append, HLO.out, HHI.out]
      obtain ⟨z, hz⟩ : ∃ z, r.extract 0 k ++ r.extract (k + 1) r.size = z := ⟨_, rfl⟩
      rw [hz] at hcat
      simp only [hz] at f1
      have hzs : z.size ≤ 400 := by rw [Lib.size_eq, hcat, List.length_append, ← HLO.out, ← HHI.out, ← Lib.size_eq, ← Lib.size_eq]; omega
      have HCAT := Lib.hid hcat
      have hpq : Digs (p ++ q) := ⟨allD_app.2 ⟨hd.1, hd2.1⟩, by rw [List.length_append]; have := hd.2; omega⟩
      clear hcat hz
      go_upto_region 19 with fail
      have g1 : IntKind.i64.wrap ((k : Int) + 1) = (k : Int) + 1 := IntWalk.i64_in _ ⟨by omega, by omega⟩
      have g2 : (0 : Int) ≤ (k : Int) + 1 := by omega
      have g3 : ((k : Int) + 1).toNat = k + 1 := by omega
      go_region_held3 (fun _ => True) (exact trivial) ((go_at_call 70; (refine (digits_of (s := z) HCAT.out _ (by omega) hpq).mono ?_); rintro e xZ ⟨Z, Zc, Zs, rfl, hZc, hZ, hbZ, hvZ, hnZ, hlZ⟩; have HVZ := Lib.hid hvZ; clear hvZ))
      clear g1 g2 g3
      have hbZ2 : Below xO.heap.size xO xZ := by first | exact hbZ | exact below_of_drew hbZ (Nat.le_refl _) | exact below_of_drewN hbZ (Nat.le_refl _)
      have kr5 := kr4.below hbZ2
      have hw5 := hw4.trans (hbZ2.mono hw4.size)
      go_upto_region 20 with fail
      obtain ⟨m, hm0⟩ : ∃ m, q.length = m := ⟨_, rfl⟩
      have hm := Lib.hid hm0
      clear hm0
      have g4 : Hid ((r.size : Int) - (k : Int) - 1 = (m : Int)) := Lib.hid (by have := HSZ.out; have := hm.out; omega)
      have hm2 : m ≤ 200 := by have := HSZ.out; have := hm.out; omega
      have hbt : Below xZ.heap.size xZ (xZ.alloc (.cells #[.int .i64 10] 3)) := (Below.refl _ _).alloc (Nat.le_refl _) _
      have hten : Rd .i64 (xZ.alloc (.cells #[.int .i64 10] 3)) (some ⟨xZ.heap.size, 0, none⟩) [10] := rd_nat1 xZ 10
      go_wp2_with fail
      rw [g4.out]
      clear g4
      refine (rpow_ten (some ⟨_, 0, none⟩) 1 m [10] _ hten (by simp) (by omega) nm_ten).mono ?_
      rintro e xD ⟨D, Dc, Ds, rfl, hDc, hD, hbD, hvD, hnD, hlD⟩
      rw [show VD [10] = 10 by simp [VD, val]] at hvD
      have HVD := Lib.hid hvD
      clear hvD
      have hbD2 : Below xZ.heap.size xZ xD := hbt.trans (hbD.mono hbt.size)
      have kr6 := kr5.below hbD2
      have hw6 := hw5.trans (hbD2.mono hw5.size)
      have hZ2 := hZ.below hbD2
      have hy0 : 0 < Ds.length := by rcases Nat.eq_zero_or_pos Ds.length with h | h; (rw [List.eq_nil_of_length_eq_zero h] at HVD; have h2 := HVD.out; have h3 : 0 < 10 ^ m := Nat.pow_pos (by omega); simp [VD, val] at h2; omega); exact h
      go_wp2_with fail
      refine (rmake true Z D Zc Dc Zs Ds _ hZ2 hD hnZ hnD (by omega) (by omega) (hy0)).mono ?_
      rintro e xM ⟨y, rfl, hy, hya, hyb, hbM⟩
      rw [HVZ.out, HVD.out, ← hm.out] at hy
      have kr7 := kr6.below hbM
      have hw7 := hw6.trans (hbM.mono hw6.size)
      obtain ⟨a0, a1, a2, a3, a4, a5, a6⟩ := kr7.facts
      go_wp2_with fail
      refine bodyPost_ret (v := .tuple #[.agg #[.bool y.s, .slice y.N y.ns.length y.nc, .slice y.D y.ds.length y.dc], .int .i64 0]) (by simp [results, Tryz.results38, go_sem, a0, a1, a2]) rfl ?_
      exact ⟨y, rfl, hy.put3 kr7 _ _ _, by omega, by (try simp at hyb); omega, below_put3 hw7 (Nat.le_refl _) _ _ _⟩
set_option maxRecDepth 100000 in
set_option maxHeartbeats 3200000 in
theorem rparse_n_point_bad1 (s : ByteArray) (p q t : List UInt8) (hs : s.data.toList = 45 :: t) (ht : t = p ++ 46 :: q) (h47 : 47 ∉ p) (h46 : 46 ∉ p) (hd : ¬ Digs p) (w : World) (hl : s.size ≤ 200) :
    Calls Tryz.prog 38 #[.string s] w (RefErr 90 w) := by
  have hbl : Below w.heap.size w (w.alloc (.cells #[.bool false, .slice none 0 0, .slice none 0 0] 30)) := (Below.refl _ _).alloc (Nat.le_refl _) _
  have kr := BlkT.new 30 w (.bool false) (.slice none 0 0) (.slice none 0 0)
  obtain ⟨r, hr⟩ : ∃ r, s.extract 1 s.size = r := ⟨_, rfl⟩
  have hrs : r.data.toList = t := by rw [← hr, Lib.extract_to_end, hs]; rfl
  have hpos : 0 < s.size := by rw [Lib.size_eq, hs]; simp
  have hsz : s.size = t.length + 1 := by rw [Lib.size_eq, hs]; simp
  have hne := not_empty hpos
  have hne2 : (!s.toList.isEmpty) = true := by rw [hne]; rfl
  have h0 : ((s[0].toNat : Int) == 45) = true := by
    have := byte_get hs 0 hpos
    simp at this
    rw [← this]; rfl
  have hrl : r.size ≤ 200 := by rw [Lib.size_eq, hrs]; omega
  have HSR : Hid (s.size - 1 = r.size) := Lib.hid (by rw [Lib.size_eq r, hrs]; omega)
  have hsp : (1 : Int) ≤ s.size := by omega
  have HRR := Lib.hid hr
  clear hr hs hsz
  rw [ht] at hrs
  have hsz := byte_at hrs
  obtain ⟨n, hn⟩ : ∃ n, p.length = n := ⟨_, rfl⟩
  have hlo := piece_lo hrs
  have hhi := piece_hi hrs
  rw [hn] at hlo hhi hsz
  have hnl : n < r.size := by omega
  have HB : Hid (∀ k, k < n → ∀ hk : k < r.size, ((r[k].toNat : Int) == 47) = false ∧ ((r[k].toNat : Int) == 46) = false) := Lib.hid (fun k hkn hk => by
    have h1 := byte_get hrs k hk
    rw [List.getElem?_append_left (by omega)] at h1
    have h2 : r[k] ∈ p := List.mem_of_getElem? h1
    refine ⟨beq_eq_false_iff_ne.2 fun h3 => h47 ?_, beq_eq_false_iff_ne.2 fun h3 => h46 ?_⟩
    · rwa [show r[k] = 47 from UInt8.toNat_inj.1 (by have : ((47 : UInt8).toNat) = 47 := rfl; omega)] at h2
    · rwa [show r[k] = 46 from UInt8.toNat_inj.1 (by have : ((46 : UInt8).toNat) = 46 := rfl; omega)] at h2)
  have hc : (r[n].toNat : Int) = 46 := by
    have h1 := byte_get hrs n hnl
    rw [List.getElem?_append_right (by omega), show n - p.length = 0 by omega] at h1
    simp at h1
    rw [← h1]; rfl
  have HC := Lib.hid hc
  have HLO := Lib.hid hlo
  have HHI := Lib.hid hhi
  have HSZ := Lib.hid hsz
  have hls : (r.extract 0 n).size ≤ 200 := by rw [Lib.size_eq, hlo]; omega
  have hhs : (r.extract (n + 1) r.size).size ≤ 200 := by rw [Lib.size_eq, hhi]; omega
  have hi1 : (0 : Int) ≤ (n : Int) := by omega
  have hi2 : (n : Int) ≤ r.size := by omega
  have hi3 : (n : Int) + 1 ≤ r.size := by omega
  clear hc hlo hhi h47 h46 ht hn hsz hrs
  go_enter Tryz.func38, Tryz.ntmps38
  go_upto_region 5 with (go_quiet (fail))
  try rw [HRR.out]
  rw [HSR.out]
  have hbl : Below w.heap.size w ((w.alloc (.cells #[.bool false, .slice none 0 0, .slice none 0 0] 30)).drewN nq) := below_drew_ hbl nq
  have kr : BlkT 30 ((w.alloc (.cells #[.bool false, .slice none 0 0, .slice none 0 0] 30)).drewN nq) w.heap.size (.bool false) (.slice none 0 0) (.slice none 0 0) := kr
  obtain ⟨w1, hwe⟩ : ∃ x, ((w.alloc (.cells #[.bool false, .slice none 0 0, .slice none 0 0] 30)).drewN nq) = x := ⟨_, rfl⟩
  rw [hwe] at hbl kr ⊢
  clear hwe
  go_wp2
  go_loop [5, 6, 7, 23] (fun a m _ i => ∃ k : Nat, a = .int .i64 r.size ∧ m = .int .u8 0 ∧ k ≤ n ∧ i = .int .i64 k) (fun _ _ _ i => r.size - (intOf i).toNat)
  case atStart => exact ⟨0, rfl, rfl, Nat.zero_le _, rfl⟩
  case round =>
    obtain ⟨k, rfl, rfl, hk, rfl⟩ := hrel
    by_cases hlt : k < n
    · obtain ⟨h1, h2⟩ := HB.out k hlt (by omega)
      have hlt2 : k < r.size := by omega
      go_wp2
      go_round
      case rel => exact ⟨k + 1, rfl, rfl, by omega, by go_num⟩
      case measure => simp [intOf]; omega
    · obtain rfl : k = n := by omega
      have hc1 : ((r[k].toNat : Int) == 47) = false := by rw [HC.out]; rfl
      have hc2 : ((r[k].toNat : Int) == 46) = true := by rw [HC.out]; rfl
      go_upto_region 11 with (go_quiet (fail))
      rw [HC.out]
      have hw1 : Below w.heap.size w (w1.drewN nq) := below_drew_ hbl nq
      have kr1 : BlkT 30 (w1.drewN nq) w.heap.size (.bool false) (.slice none 0 0) (.slice none 0 0) := kr
      obtain ⟨w2, hwe⟩ : ∃ x, w1.drewN nq = x := ⟨_, rfl⟩
      rw [hwe] at hw1 kr1 ⊢
      clear hwe hbl kr
      go_wp2_with fail
      refine (dec_no (s := (r.extract 0 k)) HLO.out _ (by omega) hd).mono ?_
      rintro e w' ⟨rfl, rfl⟩
      obtain ⟨a0, a1, a2, a3, a4, a5, a6⟩ := kr1.facts
      go_wp2_with fail
      refine bodyPost_ret (v := .tuple #[.agg #[.bool false, .slice none 0 0, .slice none 0 0], .int .i64 90]) (by simp [results, Tryz.results38, go_sem, a0, a1, a2]) rfl ?_
      exact ⟨rfl, by first | exact hw1 | exact below_put3 hw1 (Nat.le_refl _) _ _ _⟩
set_option maxRecDepth 100000 in
set_option maxHeartbeats 3200000 in
theorem rparse_n_point_bad2 (s : ByteArray) (p q t : List UInt8) (hs : s.data.toList = 45 :: t) (ht : t = p ++ 46 :: q) (h47 : 47 ∉ p) (h46 : 46 ∉ p) (hd : Digs p) (hd2 : ¬ Digs q) (w : World) (hl : s.size ≤ 200) :
    Calls Tryz.prog 38 #[.string s] w (RefErr 90 w) := by
  have hbl : Below w.heap.size w (w.alloc (.cells #[.bool false, .slice none 0 0, .slice none 0 0] 30)) := (Below.refl _ _).alloc (Nat.le_refl _) _
  have kr := BlkT.new 30 w (.bool false) (.slice none 0 0) (.slice none 0 0)
  obtain ⟨r, hr⟩ : ∃ r, s.extract 1 s.size = r := ⟨_, rfl⟩
  have hrs : r.data.toList = t := by rw [← hr, Lib.extract_to_end, hs]; rfl
  have hpos : 0 < s.size := by rw [Lib.size_eq, hs]; simp
  have hsz : s.size = t.length + 1 := by rw [Lib.size_eq, hs]; simp
  have hne := not_empty hpos
  have hne2 : (!s.toList.isEmpty) = true := by rw [hne]; rfl
  have h0 : ((s[0].toNat : Int) == 45) = true := by
    have := byte_get hs 0 hpos
    simp at this
    rw [← this]; rfl
  have hrl : r.size ≤ 200 := by rw [Lib.size_eq, hrs]; omega
  have HSR : Hid (s.size - 1 = r.size) := Lib.hid (by rw [Lib.size_eq r, hrs]; omega)
  have hsp : (1 : Int) ≤ s.size := by omega
  have HRR := Lib.hid hr
  clear hr hs hsz
  rw [ht] at hrs
  have hsz := byte_at hrs
  obtain ⟨n, hn⟩ : ∃ n, p.length = n := ⟨_, rfl⟩
  have hlo := piece_lo hrs
  have hhi := piece_hi hrs
  rw [hn] at hlo hhi hsz
  have hnl : n < r.size := by omega
  have HB : Hid (∀ k, k < n → ∀ hk : k < r.size, ((r[k].toNat : Int) == 47) = false ∧ ((r[k].toNat : Int) == 46) = false) := Lib.hid (fun k hkn hk => by
    have h1 := byte_get hrs k hk
    rw [List.getElem?_append_left (by omega)] at h1
    have h2 : r[k] ∈ p := List.mem_of_getElem? h1
    refine ⟨beq_eq_false_iff_ne.2 fun h3 => h47 ?_, beq_eq_false_iff_ne.2 fun h3 => h46 ?_⟩
    · rwa [show r[k] = 47 from UInt8.toNat_inj.1 (by have : ((47 : UInt8).toNat) = 47 := rfl; omega)] at h2
    · rwa [show r[k] = 46 from UInt8.toNat_inj.1 (by have : ((46 : UInt8).toNat) = 46 := rfl; omega)] at h2)
  have hc : (r[n].toNat : Int) = 46 := by
    have h1 := byte_get hrs n hnl
    rw [List.getElem?_append_right (by omega), show n - p.length = 0 by omega] at h1
    simp at h1
    rw [← h1]; rfl
  have HC := Lib.hid hc
  have HLO := Lib.hid hlo
  have HHI := Lib.hid hhi
  have HSZ := Lib.hid hsz
  have hls : (r.extract 0 n).size ≤ 200 := by rw [Lib.size_eq, hlo]; omega
  have hhs : (r.extract (n + 1) r.size).size ≤ 200 := by rw [Lib.size_eq, hhi]; omega
  have hi1 : (0 : Int) ≤ (n : Int) := by omega
  have hi2 : (n : Int) ≤ r.size := by omega
  have hi3 : (n : Int) + 1 ≤ r.size := by omega
  clear hc hlo hhi h47 h46 ht hn hsz hrs
  go_enter Tryz.func38, Tryz.ntmps38
  go_upto_region 5 with (go_quiet (fail))
  try rw [HRR.out]
  rw [HSR.out]
  have hbl : Below w.heap.size w ((w.alloc (.cells #[.bool false, .slice none 0 0, .slice none 0 0] 30)).drewN nq) := below_drew_ hbl nq
  have kr : BlkT 30 ((w.alloc (.cells #[.bool false, .slice none 0 0, .slice none 0 0] 30)).drewN nq) w.heap.size (.bool false) (.slice none 0 0) (.slice none 0 0) := kr
  obtain ⟨w1, hwe⟩ : ∃ x, ((w.alloc (.cells #[.bool false, .slice none 0 0, .slice none 0 0] 30)).drewN nq) = x := ⟨_, rfl⟩
  rw [hwe] at hbl kr ⊢
  clear hwe
  go_wp2
  go_loop [5, 6, 7, 23] (fun a m _ i => ∃ k : Nat, a = .int .i64 r.size ∧ m = .int .u8 0 ∧ k ≤ n ∧ i = .int .i64 k) (fun _ _ _ i => r.size - (intOf i).toNat)
  case atStart => exact ⟨0, rfl, rfl, Nat.zero_le _, rfl⟩
  case round =>
    obtain ⟨k, rfl, rfl, hk, rfl⟩ := hrel
    by_cases hlt : k < n
    · obtain ⟨h1, h2⟩ := HB.out k hlt (by omega)
      have hlt2 : k < r.size := by omega
      go_wp2
      go_round
      case rel => exact ⟨k + 1, rfl, rfl, by omega, by go_num⟩
      case measure => simp [intOf]; omega
    · obtain rfl : k = n := by omega
      have hc1 : ((r[k].toNat : Int) == 47) = false := by rw [HC.out]; rfl
      have hc2 : ((r[k].toNat : Int) == 46) = true := by rw [HC.out]; rfl
      go_upto_region 11 with (go_quiet (fail))
      rw [HC.out]
      have hw1 : Below w.heap.size w (w1.drewN nq) := below_drew_ hbl nq
      have kr1 : BlkT 30 (w1.drewN nq) w.heap.size (.bool false) (.slice none 0 0) (.slice none 0 0) := kr
      obtain ⟨w2, hwe⟩ : ∃ x, w1.drewN nq = x := ⟨_, rfl⟩
      rw [hwe] at hw1 kr1 ⊢
      clear hwe hbl kr
      go_wp2_with fail
      refine (dec_yes (s := (r.extract 0 k)) HLO.out _ (by omega) hd).mono ?_
      rintro e w' ⟨rfl, rfl⟩
      go_wp2_with fail
      refine (dec_no (s := (r.extract (k + 1) r.size)) HHI.out _ (by omega) hd2).mono ?_
      rintro e w' ⟨rfl, rfl⟩
      obtain ⟨a0, a1, a2, a3, a4, a5, a6⟩ := kr1.facts
      go_wp2_with fail
      refine bodyPost_ret (v := .tuple #[.agg #[.bool false, .slice none 0 0, .slice none 0 0], .int .i64 90]) (by simp [results, Tryz.results38, go_sem, a0, a1, a2]) rfl ?_
      exact ⟨rfl, by first | exact hw1 | exact below_put3 hw1 (Nat.le_refl _) _ _ _⟩
set_option maxRecDepth 100000 in
set_option maxHeartbeats 3200000 in
theorem rparse_p_plain_ok (s : ByteArray) (t : List UInt8) (hs : s.data.toList = t) (hpos : 0 < s.size) (hns : ∀ u, t ≠ 45 :: u) (h47 : 47 ∉ t) (h46 : 46 ∉ t) (hd : Digs t) (w : World) (hl : s.size ≤ 200) :
    Calls Tryz.prog 38 #[.string s] w (RefOk (mkRat (sgn false (dnum t)) (1)) 30000 w) := by
  have hbl : Below w.heap.size w (w.alloc (.cells #[.bool false, .slice none 0 0, .slice none 0 0] 30)) := (Below.refl _ _).alloc (Nat.le_refl _) _
  have kr := BlkT.new 30 w (.bool false) (.slice none 0 0) (.slice none 0 0)
  obtain ⟨r, rfl⟩ : ∃ r, r = s := ⟨_, rfl⟩
  have hrs : r.data.toList = t := hs
  have hne := not_empty hpos
  have hne2 : (!r.toList.isEmpty) = true := by rw [hne]; rfl
  have h0 : ((r[0].toNat : Int) == 45) = false := by
    have h1 := byte_get hs 0 hpos
    rw [beq_eq_false_iff_ne]
    intro h2
    have h3 : r[0] = 45 := UInt8.toNat_inj.1 (by have : ((45 : UInt8).toNat) = 45 := rfl; omega)
    rw [h3] at h1
    cases t with
    | nil => simp at h1
    | cons b u => simp at h1; exact hns u (by rw [h1])
  have hrl : r.size ≤ 200 := hl
  clear hs hns
  have HB : Hid (∀ k, ∀ hk : k < r.size, ((r[k].toNat : Int) == 47) = false ∧ ((r[k].toNat : Int) == 46) = false) := Lib.hid (fun k hk => by
    have h1 := byte_get hrs k hk
    have h2 : r[k] ∈ t := List.mem_of_getElem? h1
    refine ⟨beq_eq_false_iff_ne.2 fun h3 => h47 ?_, beq_eq_false_iff_ne.2 fun h3 => h46 ?_⟩
    · rwa [show r[k] = 47 from UInt8.toNat_inj.1 (by have : ((47 : UInt8).toNat) = 47 := rfl; omega)] at h2
    · rwa [show r[k] = 46 from UInt8.toNat_inj.1 (by have : ((46 : UInt8).toNat) = 46 := rfl; omega)] at h2)
  have hwh : r.extract 0 r.size = r := Lib.whole_piece r
  have HWH := Lib.hid hwh
  clear hwh h47 h46
  go_enter Tryz.func38, Tryz.ntmps38
  go_upto_region 5 with fail
  obtain ⟨w1, hwe⟩ : ∃ x, (w.alloc (.cells #[.bool false, .slice none 0 0, .slice none 0 0] 30)) = x := ⟨_, rfl⟩
  rw [hwe] at hbl kr ⊢
  clear hwe
  go_wp2
  go_loop [5, 6, 7, 23] (fun a m _ i => ∃ k : Nat, a = .int .i64 r.size ∧ m = .int .u8 0 ∧ k ≤ r.size ∧ i = .int .i64 k) (fun _ _ _ i => r.size - (intOf i).toNat)
  case atStart => exact ⟨0, rfl, rfl, Nat.zero_le _, rfl⟩
  case round =>
    obtain ⟨k, rfl, rfl, hk, rfl⟩ := hrel
    by_cases hlt : k < r.size
    · obtain ⟨h1, h2⟩ := HB.out k hlt
      go_wp2
      go_round
      case rel => exact ⟨k + 1, rfl, rfl, by omega, by go_num⟩
      case measure => simp [intOf]; omega
    · obtain rfl : k = r.size := by omega
      go_upto_region 11 with fail
      have hw1 := hbl
      have kr1 := kr
      try rw [HWH.out]
      go_wp2_with fail
      refine (dec_yes (s := r) hrs _ (by omega) hd).mono ?_
      rintro e w' ⟨rfl, rfl⟩
      go_wp2_with fail
      try rw [HWH.out]
      refine (digits_of (s := r) hrs _ (by omega) hd).mono ?_
      rintro e xX ⟨X, Xc, Xs, rfl, hXc, hX, hbX, hvX, hnX, hlX⟩
      have HVX := Lib.hid hvX
      clear hvX
      have kr3 := kr1.below hbX
      have hw3 := hw1.trans (hbX.mono hw1.size)
      go_upto_region 14 with fail
      have hbo : Below xX.heap.size xX (xX.alloc (.cells #[.int .i64 1] 3)) := (Below.refl _ _).alloc (Nat.le_refl _) _
      have hone := nat1_rd xX _ rfl
      obtain ⟨xO, hwe⟩ : ∃ x, xX.alloc (.cells #[.int .i64 1] 3) = x := ⟨_, rfl⟩
      rw [hwe] at hbo hone ⊢
      clear hwe
      have hXO := hX.below hbo
      have kr4 := kr3.below hbo
      have hw4 := hw3.trans (hbo.mono hw3.size)
      go_wp2_with fail
      refine (rmake false X (some ⟨_, 0, none⟩) Xc 1 Xs [1] _ hXO hone hnX nm_one (by omega) (by simp) (by simp)).mono ?_
      rintro e xM ⟨y, rfl, hy, hya, hyb, hbM⟩
      rw [HVX.out, vd_one_] at hy
      have kr5 := kr4.below hbM
      have hw5 := hw4.trans (hbM.mono hw4.size)
      obtain ⟨a0, a1, a2, a3, a4, a5, a6⟩ := kr5.facts
      go_wp2_with fail
      refine bodyPost_ret (v := .tuple #[.agg #[.bool y.s, .slice y.N y.ns.length y.nc, .slice y.D y.ds.length y.dc], .int .i64 0]) (by simp [results, Tryz.results38, go_sem, a0, a1, a2]) rfl ?_
      exact ⟨y, rfl, hy.put3 kr5 _ _ _, by omega, by (try simp at hyb); omega, below_put3 hw5 (Nat.le_refl _) _ _ _⟩
set_option maxRecDepth 100000 in
set_option maxHeartbeats 3200000 in
theorem rparse_p_plain_bad1 (s : ByteArray) (t : List UInt8) (hs : s.data.toList = t) (hpos : 0 < s.size) (hns : ∀ u, t ≠ 45 :: u) (h47 : 47 ∉ t) (h46 : 46 ∉ t) (hd : ¬ Digs t) (w : World) (hl : s.size ≤ 200) :
    Calls Tryz.prog 38 #[.string s] w (RefErr 90 w) := by
  have hbl : Below w.heap.size w (w.alloc (.cells #[.bool false, .slice none 0 0, .slice none 0 0] 30)) := (Below.refl _ _).alloc (Nat.le_refl _) _
  have kr := BlkT.new 30 w (.bool false) (.slice none 0 0) (.slice none 0 0)
  obtain ⟨r, rfl⟩ : ∃ r, r = s := ⟨_, rfl⟩
  have hrs : r.data.toList = t := hs
  have hne := not_empty hpos
  have hne2 : (!r.toList.isEmpty) = true := by rw [hne]; rfl
  have h0 : ((r[0].toNat : Int) == 45) = false := by
    have h1 := byte_get hs 0 hpos
    rw [beq_eq_false_iff_ne]
    intro h2
    have h3 : r[0] = 45 := UInt8.toNat_inj.1 (by have : ((45 : UInt8).toNat) = 45 := rfl; omega)
    rw [h3] at h1
    cases t with
    | nil => simp at h1
    | cons b u => simp at h1; exact hns u (by rw [h1])
  have hrl : r.size ≤ 200 := hl
  clear hs hns
  have HB : Hid (∀ k, ∀ hk : k < r.size, ((r[k].toNat : Int) == 47) = false ∧ ((r[k].toNat : Int) == 46) = false) := Lib.hid (fun k hk => by
    have h1 := byte_get hrs k hk
    have h2 : r[k] ∈ t := List.mem_of_getElem? h1
    refine ⟨beq_eq_false_iff_ne.2 fun h3 => h47 ?_, beq_eq_false_iff_ne.2 fun h3 => h46 ?_⟩
    · rwa [show r[k] = 47 from UInt8.toNat_inj.1 (by have : ((47 : UInt8).toNat) = 47 := rfl; omega)] at h2
    · rwa [show r[k] = 46 from UInt8.toNat_inj.1 (by have : ((46 : UInt8).toNat) = 46 := rfl; omega)] at h2)
  have hwh : r.extract 0 r.size = r := Lib.whole_piece r
  have HWH := Lib.hid hwh
  clear hwh h47 h46
  go_enter Tryz.func38, Tryz.ntmps38
  go_upto_region 5 with fail
  obtain ⟨w1, hwe⟩ : ∃ x, (w.alloc (.cells #[.bool false, .slice none 0 0, .slice none 0 0] 30)) = x := ⟨_, rfl⟩
  rw [hwe] at hbl kr ⊢
  clear hwe
  go_wp2
  go_loop [5, 6, 7, 23] (fun a m _ i => ∃ k : Nat, a = .int .i64 r.size ∧ m = .int .u8 0 ∧ k ≤ r.size ∧ i = .int .i64 k) (fun _ _ _ i => r.size - (intOf i).toNat)
  case atStart => exact ⟨0, rfl, rfl, Nat.zero_le _, rfl⟩
  case round =>
    obtain ⟨k, rfl, rfl, hk, rfl⟩ := hrel
    by_cases hlt : k < r.size
    · obtain ⟨h1, h2⟩ := HB.out k hlt
      go_wp2
      go_round
      case rel => exact ⟨k + 1, rfl, rfl, by omega, by go_num⟩
      case measure => simp [intOf]; omega
    · obtain rfl : k = r.size := by omega
      go_upto_region 11 with fail
      have hw1 := hbl
      have kr1 := kr
      try rw [HWH.out]
      go_wp2_with fail
      refine (dec_no (s := r) hrs _ (by omega) hd).mono ?_
      rintro e w' ⟨rfl, rfl⟩
      obtain ⟨a0, a1, a2, a3, a4, a5, a6⟩ := kr1.facts
      go_wp2_with fail
      refine bodyPost_ret (v := .tuple #[.agg #[.bool false, .slice none 0 0, .slice none 0 0], .int .i64 90]) (by simp [results, Tryz.results38, go_sem, a0, a1, a2]) rfl ?_
      exact ⟨rfl, by first | exact hw1 | exact below_put3 hw1 (Nat.le_refl _) _ _ _⟩
set_option maxRecDepth 100000 in
set_option maxHeartbeats 3200000 in
theorem rparse_p_slash_ok (s : ByteArray) (p q t : List UInt8) (hs : s.data.toList = t) (hpos : 0 < s.size) (hns : ∀ u, t ≠ 45 :: u) (ht : t = p ++ 47 :: q) (h47 : 47 ∉ p) (h46 : 46 ∉ p) (hd : Digs p) (hd2 : Digs q) (hz : 0 < dnum q) (w : World) (hl : s.size ≤ 200) :
    Calls Tryz.prog 38 #[.string s] w (RefOk (mkRat (sgn false (dnum p)) (dnum q)) 30000 w) := by
  have hbl : Below w.heap.size w (w.alloc (.cells #[.bool false, .slice none 0 0, .slice none 0 0] 30)) := (Below.refl _ _).alloc (Nat.le_refl _) _
  have kr := BlkT.new 30 w (.bool false) (.slice none 0 0) (.slice none 0 0)
  obtain ⟨r, rfl⟩ : ∃ r, r = s := ⟨_, rfl⟩
  have hrs : r.data.toList = t := hs
  have hne := not_empty hpos
  have hne2 : (!r.toList.isEmpty) = true := by rw [hne]; rfl
  have h0 : ((r[0].toNat : Int) == 45) = false := by
    have h1 := byte_get hs 0 hpos
    rw [beq_eq_false_iff_ne]
    intro h2
    have h3 : r[0] = 45 := UInt8.toNat_inj.1 (by have : ((45 : UInt8).toNat) = 45 := rfl; omega)
    rw [h3] at h1
    cases t with
    | nil => simp at h1
    | cons b u => simp at h1; exact hns u (by rw [h1])
  have hrl : r.size ≤ 200 := hl
  clear hs hns
  rw [ht] at hrs
  have hsz := byte_at hrs
  obtain ⟨n, hn⟩ : ∃ n, p.length = n := ⟨_, rfl⟩
  have hlo := piece_lo hrs
  have hhi := piece_hi hrs
  rw [hn] at hlo hhi hsz
  have hnl : n < r.size := by omega
  have HB : Hid (∀ k, k < n → ∀ hk : k < r.size, ((r[k].toNat : Int) == 47) = false ∧ ((r[k].toNat : Int) == 46) = false) := Lib.hid (fun k hkn hk => by
    have h1 := byte_get hrs k hk
    rw [List.getElem?_append_left (by omega)] at h1
    have h2 : r[k] ∈ p := List.mem_of_getElem? h1
    refine ⟨beq_eq_false_iff_ne.2 fun h3 => h47 ?_, beq_eq_false_iff_ne.2 fun h3 => h46 ?_⟩
    · rwa [show r[k] = 47 from UInt8.toNat_inj.1 (by have : ((47 : UInt8).toNat) = 47 := rfl; omega)] at h2
    · rwa [show r[k] = 46 from UInt8.toNat_inj.1 (by have : ((46 : UInt8).toNat) = 46 := rfl; omega)] at h2)
  have hc : (r[n].toNat : Int) = 47 := by
    have h1 := byte_get hrs n hnl
    rw [List.getElem?_append_right (by omega), show n - p.length = 0 by omega] at h1
    simp at h1
    rw [← h1]; rfl
  have HC := Lib.hid hc
  have HLO := Lib.hid hlo
  have HHI := Lib.hid hhi
  have HSZ := Lib.hid hsz
  have hls : (r.extract 0 n).size ≤ 200 := by rw [Lib.size_eq, hlo]; omega
  have hhs : (r.extract (n + 1) r.size).size ≤ 200 := by rw [Lib.size_eq, hhi]; omega
  have hi1 : (0 : Int) ≤ (n : Int) := by omega
  have hi2 : (n : Int) ≤ r.size := by omega
  have hi3 : (n : Int) + 1 ≤ r.size := by omega
  clear hc hlo hhi h47 h46 ht hn hsz hrs
  go_enter Tryz.func38, Tryz.ntmps38
  go_upto_region 5 with fail
  obtain ⟨w1, hwe⟩ : ∃ x, (w.alloc (.cells #[.bool false, .slice none 0 0, .slice none 0 0] 30)) = x := ⟨_, rfl⟩
  rw [hwe] at hbl kr ⊢
  clear hwe
  go_wp2
  go_loop [5, 6, 7, 23] (fun a m _ i => ∃ k : Nat, a = .int .i64 r.size ∧ m = .int .u8 0 ∧ k ≤ n ∧ i = .int .i64 k) (fun _ _ _ i => r.size - (intOf i).toNat)
  case atStart => exact ⟨0, rfl, rfl, Nat.zero_le _, rfl⟩
  case round =>
    obtain ⟨k, rfl, rfl, hk, rfl⟩ := hrel
    by_cases hlt : k < n
    · obtain ⟨h1, h2⟩ := HB.out k hlt (by omega)
      have hlt2 : k < r.size := by omega
      go_wp2
      go_round
      case rel => exact ⟨k + 1, rfl, rfl, by omega, by go_num⟩
      case measure => simp [intOf]; omega
    · obtain rfl : k = n := by omega
      have hc1 : ((r[k].toNat : Int) == 47) = true := by rw [HC.out]; rfl
      go_upto_region 11 with (go_quiet (fail))
      rw [HC.out]
      have hw1 : Below w.heap.size w (w1.drewN nq) := below_drew_ hbl nq
      have kr1 : BlkT 30 (w1.drewN nq) w.heap.size (.bool false) (.slice none 0 0) (.slice none 0 0) := kr
      obtain ⟨w2, hwe⟩ : ∃ x, w1.drewN nq = x := ⟨_, rfl⟩
      rw [hwe] at hw1 kr1 ⊢
      clear hwe hbl kr
      go_wp2_with fail
      refine (dec_yes (s := (r.extract 0 k)) HLO.out _ (by omega) hd).mono ?_
      rintro e w' ⟨rfl, rfl⟩
      go_wp2_with fail
      refine (dec_yes (s := (r.extract (k + 1) r.size)) HHI.out _ (by omega) hd2).mono ?_
      rintro e w' ⟨rfl, rfl⟩
      go_wp2_with fail
      refine (digits_of (s := (r.extract 0 k)) HLO.out _ (by omega) hd).mono ?_
      rintro e xX ⟨X, Xc, Xs, rfl, hXc, hX, hbX, hvX, hnX, hlX⟩
      have HVX := Lib.hid hvX
      clear hvX
      have kr3 := kr1.below hbX
      have hw3 := hw1.trans (hbX.mono hw1.size)
      go_upto_region 14 with fail
      have hbo : Below xX.heap.size xX (xX.alloc (.cells #[.int .i64 1] 3)) := (Below.refl _ _).alloc (Nat.le_refl _) _
      have hone := nat1_rd xX _ rfl
      obtain ⟨xO, hwe⟩ : ∃ x, xX.alloc (.cells #[.int .i64 1] 3) = x := ⟨_, rfl⟩
      rw [hwe] at hbo hone ⊢
      clear hwe
      have hXO := hX.below hbo
      have kr4 := kr3.below hbo
      have hw4 := hw3.trans (hbo.mono hw3.size)
      go_wp2_with fail
      refine (digits_of (s := (r.extract (k + 1) r.size)) HHI.out _ (by omega) hd2).mono ?_
      rintro e xY ⟨Y, Yc, Ys, rfl, hYc, hY, hbY, hvY, hnY, hlY⟩
      have HVY := Lib.hid hvY
      clear hvY
      have kr5 := kr4.below hbY
      have hw5 := hw4.trans (hbY.mono hw4.size)
      have hXY := hXO.below hbY
      have hy0 : 0 < Ys.length := by rcases Nat.eq_zero_or_pos Ys.length with h | h; (rw [List.eq_nil_of_length_eq_zero h] at HVY; have := HVY.out; simp [VD, val] at this; omega); exact h
      have hy1 : ((Ys.length : Int) == 0) = false := beq_eq_false_iff_ne.2 (by omega)
      go_wp2_with fail
      refine (rmake false X Y Xc Yc Xs Ys _ hXY hY hnX hnY (by omega) (by omega) (hy0)).mono ?_
      rintro e xM ⟨y, rfl, hy, hya, hyb, hbM⟩
      rw [HVX.out, HVY.out] at hy
      have kr6 := kr5.below hbM
      have hw6 := hw5.trans (hbM.mono hw5.size)
      obtain ⟨a0, a1, a2, a3, a4, a5, a6⟩ := kr6.facts
      go_wp2_with fail
      refine bodyPost_ret (v := .tuple #[.agg #[.bool y.s, .slice y.N y.ns.length y.nc, .slice y.D y.ds.length y.dc], .int .i64 0]) (by simp [results, Tryz.results38, go_sem, a0, a1, a2]) rfl ?_
      exact ⟨y, rfl, hy.put3 kr6 _ _ _, by omega, by (try simp at hyb); omega, below_put3 hw6 (Nat.le_refl _) _ _ _⟩
set_option maxRecDepth 100000 in
set_option maxHeartbeats 3200000 in
theorem rparse_p_slash_zero (s : ByteArray) (p q t : List UInt8) (hs : s.data.toList = t) (hpos : 0 < s.size) (hns : ∀ u, t ≠ 45 :: u) (ht : t = p ++ 47 :: q) (h47 : 47 ∉ p) (h46 : 46 ∉ p) (hd : Digs p) (hd2 : Digs q) (hz : dnum q = 0) (w : World) (hl : s.size ≤ 200) :
    Calls Tryz.prog 38 #[.string s] w (RefErr 20 w) := by
  have hbl : Below w.heap.size w (w.alloc (.cells #[.bool false, .slice none 0 0, .slice none 0 0] 30)) := (Below.refl _ _).alloc (Nat.le_refl _) _
  have kr := BlkT.new 30 w (.bool false) (.slice none 0 0) (.slice none 0 0)
  obtain ⟨r, rfl⟩ : ∃ r, r = s := ⟨_, rfl⟩
  have hrs : r.data.toList = t := hs
  have hne := not_empty hpos
  have hne2 : (!r.toList.isEmpty) = true := by rw [hne]; rfl
  have h0 : ((r[0].toNat : Int) == 45) = false := by
    have h1 := byte_get hs 0 hpos
    rw [beq_eq_false_iff_ne]
    intro h2
    have h3 : r[0] = 45 := UInt8.toNat_inj.1 (by have : ((45 : UInt8).toNat) = 45 := rfl; omega)
    rw [h3] at h1
    cases t with
    | nil => simp at h1
    | cons b u => simp at h1; exact hns u (by rw [h1])
  have hrl : r.size ≤ 200 := hl
  clear hs hns
  rw [ht] at hrs
  have hsz := byte_at hrs
  obtain ⟨n, hn⟩ : ∃ n, p.length = n := ⟨_, rfl⟩
  have hlo := piece_lo hrs
  have hhi := piece_hi hrs
  rw [hn] at hlo hhi hsz
  have hnl : n < r.size := by omega
  have HB : Hid (∀ k, k < n → ∀ hk : k < r.size, ((r[k].toNat : Int) == 47) = false ∧ ((r[k].toNat : Int) == 46) = false) := Lib.hid (fun k hkn hk => by
    have h1 := byte_get hrs k hk
    rw [List.getElem?_append_left (by omega)] at h1
    have h2 : r[k] ∈ p := List.mem_of_getElem? h1
    refine ⟨beq_eq_false_iff_ne.2 fun h3 => h47 ?_, beq_eq_false_iff_ne.2 fun h3 => h46 ?_⟩
    · rwa [show r[k] = 47 from UInt8.toNat_inj.1 (by have : ((47 : UInt8).toNat) = 47 := rfl; omega)] at h2
    · rwa [show r[k] = 46 from UInt8.toNat_inj.1 (by have : ((46 : UInt8).toNat) = 46 := rfl; omega)] at h2)
  have hc : (r[n].toNat : Int) = 47 := by
    have h1 := byte_get hrs n hnl
    rw [List.getElem?_append_right (by omega), show n - p.length = 0 by omega] at h1
    simp at h1
    rw [← h1]; rfl
  have HC := Lib.hid hc
  have HLO := Lib.hid hlo
  have HHI := Lib.hid hhi
  have HSZ := Lib.hid hsz
  have hls : (r.extract 0 n).size ≤ 200 := by rw [Lib.size_eq, hlo]; omega
  have hhs : (r.extract (n + 1) r.size).size ≤ 200 := by rw [Lib.size_eq, hhi]; omega
  have hi1 : (0 : Int) ≤ (n : Int) := by omega
  have hi2 : (n : Int) ≤ r.size := by omega
  have hi3 : (n : Int) + 1 ≤ r.size := by omega
  clear hc hlo hhi h47 h46 ht hn hsz hrs
  go_enter Tryz.func38, Tryz.ntmps38
  go_upto_region 5 with fail
  obtain ⟨w1, hwe⟩ : ∃ x, (w.alloc (.cells #[.bool false, .slice none 0 0, .slice none 0 0] 30)) = x := ⟨_, rfl⟩
  rw [hwe] at hbl kr ⊢
  clear hwe
  go_wp2
  go_loop [5, 6, 7, 23] (fun a m _ i => ∃ k : Nat, a = .int .i64 r.size ∧ m = .int .u8 0 ∧ k ≤ n ∧ i = .int .i64 k) (fun _ _ _ i => r.size - (intOf i).toNat)
  case atStart => exact ⟨0, rfl, rfl, Nat.zero_le _, rfl⟩
  case round =>
    obtain ⟨k, rfl, rfl, hk, rfl⟩ := hrel
    by_cases hlt : k < n
    · obtain ⟨h1, h2⟩ := HB.out k hlt (by omega)
      have hlt2 : k < r.size := by omega
      go_wp2
      go_round
      case rel => exact ⟨k + 1, rfl, rfl, by omega, by go_num⟩
      case measure => simp [intOf]; omega
    · obtain rfl : k = n := by omega
      have hc1 : ((r[k].toNat : Int) == 47) = true := by rw [HC.out]; rfl
      go_upto_region 11 with (go_quiet (fail))
      rw [HC.out]
      have hw1 : Below w.heap.size w (w1.drewN nq) := below_drew_ hbl nq
      have kr1 : BlkT 30 (w1.drewN nq) w.heap.size (.bool false) (.slice none 0 0) (.slice none 0 0) := kr
      obtain ⟨w2, hwe⟩ : ∃ x, w1.drewN nq = x := ⟨_, rfl⟩
      rw [hwe] at hw1 kr1 ⊢
      clear hwe hbl kr
      go_wp2_with fail
      refine (dec_yes (s := (r.extract 0 k)) HLO.out _ (by omega) hd).mono ?_
      rintro e w' ⟨rfl, rfl⟩
      go_wp2_with fail
      refine (dec_yes (s := (r.extract (k + 1) r.size)) HHI.out _ (by omega) hd2).mono ?_
      rintro e w' ⟨rfl, rfl⟩
      go_wp2_with fail
      refine (digits_of (s := (r.extract 0 k)) HLO.out _ (by omega) hd).mono ?_
      rintro e xX ⟨X, Xc, Xs, rfl, hXc, hX, hbX, hvX, hnX, hlX⟩
      have HVX := Lib.hid hvX
      clear hvX
      have kr3 := kr1.below hbX
      have hw3 := hw1.trans (hbX.mono hw1.size)
      go_upto_region 14 with fail
      have hbo : Below xX.heap.size xX (xX.alloc (.cells #[.int .i64 1] 3)) := (Below.refl _ _).alloc (Nat.le_refl _) _
      have hone := nat1_rd xX _ rfl
      obtain ⟨xO, hwe⟩ : ∃ x, xX.alloc (.cells #[.int .i64 1] 3) = x := ⟨_, rfl⟩
      rw [hwe] at hbo hone ⊢
      clear hwe
      have hXO := hX.below hbo
      have kr4 := kr3.below hbo
      have hw4 := hw3.trans (hbo.mono hw3.size)
      go_wp2_with fail
      refine (digits_of (s := (r.extract (k + 1) r.size)) HHI.out _ (by omega) hd2).mono ?_
      rintro e xY ⟨Y, Yc, Ys, rfl, hYc, hY, hbY, hvY, hnY, hlY⟩
      have HVY := Lib.hid hvY
      clear hvY
      have kr5 := kr4.below hbY
      have hw5 := hw4.trans (hbY.mono hw4.size)
      have hXY := hXO.below hbY
      have hy0 : Ys.length = 0 := by rcases Nat.eq_zero_or_pos Ys.length with h | h; exact h; have := VD_pos hnY h; rw [HVY.out] at this; omega
      obtain ⟨a0, a1, a2, a3, a4, a5, a6⟩ := kr5.facts
      go_wp2_with fail
      refine bodyPost_ret (v := .tuple #[.agg #[.bool false, .slice none 0 0, .slice none 0 0], .int .i64 20]) (by simp [results, Tryz.results38, go_sem, a0, a1, a2]) rfl ?_
      exact ⟨rfl, by first | exact hw5 | exact below_put3 hw5 (Nat.le_refl _) _ _ _⟩
set_option maxRecDepth 100000 in
set_option maxHeartbeats 3200000 in
theorem rparse_p_slash_bad1 (s : ByteArray) (p q t : List UInt8) (hs : s.data.toList = t) (hpos : 0 < s.size) (hns : ∀ u, t ≠ 45 :: u) (ht : t = p ++ 47 :: q) (h47 : 47 ∉ p) (h46 : 46 ∉ p) (hd : ¬ Digs p) (w : World) (hl : s.size ≤ 200) :
    Calls Tryz.prog 38 #[.string s] w (RefErr 90 w) := by
  have hbl : Below w.heap.size w (w.alloc (.cells #[.bool false, .slice none 0 0, .slice none 0 0] 30)) := (Below.refl _ _).alloc (Nat.le_refl _) _
  have kr := BlkT.new 30 w (.bool false) (.slice none 0 0) (.slice none 0 0)
  obtain ⟨r, rfl⟩ : ∃ r, r = s := ⟨_, rfl⟩
  have hrs : r.data.toList = t := hs
  have hne := not_empty hpos
  have hne2 : (!r.toList.isEmpty) = true := by rw [hne]; rfl
  have h0 : ((r[0].toNat : Int) == 45) = false := by
    have h1 := byte_get hs 0 hpos
    rw [beq_eq_false_iff_ne]
    intro h2
    have h3 : r[0] = 45 := UInt8.toNat_inj.1 (by have : ((45 : UInt8).toNat) = 45 := rfl; omega)
    rw [h3] at h1
    cases t with
    | nil => simp at h1
    | cons b u => simp at h1; exact hns u (by rw [h1])
  have hrl : r.size ≤ 200 := hl
  clear hs hns
  rw [ht] at hrs
  have hsz := byte_at hrs
  obtain ⟨n, hn⟩ : ∃ n, p.length = n := ⟨_, rfl⟩
  have hlo := piece_lo hrs
  have hhi := piece_hi hrs
  rw [hn] at hlo hhi hsz
  have hnl : n < r.size := by omega
  have HB : Hid (∀ k, k < n → ∀ hk : k < r.size, ((r[k].toNat : Int) == 47) = false ∧ ((r[k].toNat : Int) == 46) = false) := Lib.hid (fun k hkn hk => by
    have h1 := byte_get hrs k hk
    rw [List.getElem?_append_left (by omega)] at h1
    have h2 : r[k] ∈ p := List.mem_of_getElem? h1
    refine ⟨beq_eq_false_iff_ne.2 fun h3 => h47 ?_, beq_eq_false_iff_ne.2 fun h3 => h46 ?_⟩
    · rwa [show r[k] = 47 from UInt8.toNat_inj.1 (by have : ((47 : UInt8).toNat) = 47 := rfl; omega)] at h2
    · rwa [show r[k] = 46 from UInt8.toNat_inj.1 (by have : ((46 : UInt8).toNat) = 46 := rfl; omega)] at h2)
  have hc : (r[n].toNat : Int) = 47 := by
    have h1 := byte_get hrs n hnl
    rw [List.getElem?_append_right (by omega), show n - p.length = 0 by omega] at h1
    simp at h1
    rw [← h1]; rfl
  have HC := Lib.hid hc
  have HLO := Lib.hid hlo
  have HHI := Lib.hid hhi
  have HSZ := Lib.hid hsz
  have hls : (r.extract 0 n).size ≤ 200 := by rw [Lib.size_eq, hlo]; omega
  have hhs : (r.extract (n + 1) r.size).size ≤ 200 := by rw [Lib.size_eq, hhi]; omega
  have hi1 : (0 : Int) ≤ (n : Int) := by omega
  have hi2 : (n : Int) ≤ r.size := by omega
  have hi3 : (n : Int) + 1 ≤ r.size := by omega
  clear hc hlo hhi h47 h46 ht hn hsz hrs
  go_enter Tryz.func38, Tryz.ntmps38
  go_upto_region 5 with fail
  obtain ⟨w1, hwe⟩ : ∃ x, (w.alloc (.cells #[.bool false, .slice none 0 0, .slice none 0 0] 30)) = x := ⟨_, rfl⟩
  rw [hwe] at hbl kr ⊢
  clear hwe
  go_wp2
  go_loop [5, 6, 7, 23] (fun a m _ i => ∃ k : Nat, a = .int .i64 r.size ∧ m = .int .u8 0 ∧ k ≤ n ∧ i = .int .i64 k) (fun _ _ _ i => r.size - (intOf i).toNat)
  case atStart => exact ⟨0, rfl, rfl, Nat.zero_le _, rfl⟩
  case round =>
    obtain ⟨k, rfl, rfl, hk, rfl⟩ := hrel
    by_cases hlt : k < n
    · obtain ⟨h1, h2⟩ := HB.out k hlt (by omega)
      have hlt2 : k < r.size := by omega
      go_wp2
      go_round
      case rel => exact ⟨k + 1, rfl, rfl, by omega, by go_num⟩
      case measure => simp [intOf]; omega
    · obtain rfl : k = n := by omega
      have hc1 : ((r[k].toNat : Int) == 47) = true := by rw [HC.out]; rfl
      go_upto_region 11 with (go_quiet (fail))
      rw [HC.out]
      have hw1 : Below w.heap.size w (w1.drewN nq) := below_drew_ hbl nq
      have kr1 : BlkT 30 (w1.drewN nq) w.heap.size (.bool false) (.slice none 0 0) (.slice none 0 0) := kr
      obtain ⟨w2, hwe⟩ : ∃ x, w1.drewN nq = x := ⟨_, rfl⟩
      rw [hwe] at hw1 kr1 ⊢
      clear hwe hbl kr
      go_wp2_with fail
      refine (dec_no (s := (r.extract 0 k)) HLO.out _ (by omega) hd).mono ?_
      rintro e w' ⟨rfl, rfl⟩
      obtain ⟨a0, a1, a2, a3, a4, a5, a6⟩ := kr1.facts
      go_wp2_with fail
      refine bodyPost_ret (v := .tuple #[.agg #[.bool false, .slice none 0 0, .slice none 0 0], .int .i64 90]) (by simp [results, Tryz.results38, go_sem, a0, a1, a2]) rfl ?_
      exact ⟨rfl, by first | exact hw1 | exact below_put3 hw1 (Nat.le_refl _) _ _ _⟩
set_option maxRecDepth 100000 in
set_option maxHeartbeats 3200000 in
theorem rparse_p_slash_bad2 (s : ByteArray) (p q t : List UInt8) (hs : s.data.toList = t) (hpos : 0 < s.size) (hns : ∀ u, t ≠ 45 :: u) (ht : t = p ++ 47 :: q) (h47 : 47 ∉ p) (h46 : 46 ∉ p) (hd : Digs p) (hd2 : ¬ Digs q) (w : World) (hl : s.size ≤ 200) :
    Calls Tryz.prog 38 #[.string s] w (RefErr 90 w) := by
  have hbl : Below w.heap.size w (w.alloc (.cells #[.bool false, .slice none 0 0, .slice none 0 0] 30)) := (Below.refl _ _).alloc (Nat.le_refl _) _
  have kr := BlkT.new 30 w (.bool false) (.slice none 0 0) (.slice none 0 0)
  obtain ⟨r, rfl⟩ : ∃ r, r = s := ⟨_, rfl⟩
  have hrs : r.data.toList = t := hs
  have hne := not_empty hpos
  have hne2 : (!r.toList.isEmpty) = true := by rw [hne]; rfl
  have h0 : ((r[0].toNat : Int) == 45) = false := by
    have h1 := byte_get hs 0 hpos
    rw [beq_eq_false_iff_ne]
    intro h2
    have h3 : r[0] = 45 := UInt8.toNat_inj.1 (by have : ((45 : UInt8).toNat) = 45 := rfl; omega)
    rw [h3] at h1
    cases t with
    | nil => simp at h1
    | cons b u => simp at h1; exact hns u (by rw [h1])
  have hrl : r.size ≤ 200 := hl
  clear hs hns
  rw [ht] at hrs
  have hsz := byte_at hrs
  obtain ⟨n, hn⟩ : ∃ n, p.length = n := ⟨_, rfl⟩
  have hlo := piece_lo hrs
  have hhi := piece_hi hrs
  rw [hn] at hlo hhi hsz
  have hnl : n < r.size := by omega
  have HB : Hid (∀ k, k < n → ∀ hk : k < r.size, ((r[k].toNat : Int) == 47) = false ∧ ((r[k].toNat : Int) == 46) = false) := Lib.hid (fun k hkn hk => by
    have h1 := byte_get hrs k hk
    rw [List.getElem?_append_left (by omega)] at h1
    have h2 : r[k] ∈ p := List.mem_of_getElem? h1
    refine ⟨beq_eq_false_iff_ne.2 fun h3 => h47 ?_, beq_eq_false_iff_ne.2 fun h3 => h46 ?_⟩
    · rwa [show r[k] = 47 from UInt8.toNat_inj.1 (by have : ((47 : UInt8).toNat) = 47 := rfl; omega)] at h2
    · rwa [show r[k] = 46 from UInt8.toNat_inj.1 (by have : ((46 : UInt8).toNat) = 46 := rfl; omega)] at h2)
  have hc : (r[n].toNat : Int) = 47 := by
    have h1 := byte_get hrs n hnl
    rw [List.getElem?_append_right (by omega), show n - p.length = 0 by omega] at h1
    simp at h1
    rw [← h1]; rfl
  have HC := Lib.hid hc
  have HLO := Lib.hid hlo
  have HHI := Lib.hid hhi
  have HSZ := Lib.hid hsz
  have hls : (r.extract 0 n).size ≤ 200 := by rw [Lib.size_eq, hlo]; omega
  have hhs : (r.extract (n + 1) r.size).size ≤ 200 := by rw [Lib.size_eq, hhi]; omega
  have hi1 : (0 : Int) ≤ (n : Int) := by omega
  have hi2 : (n : Int) ≤ r.size := by omega
  have hi3 : (n : Int) + 1 ≤ r.size := by omega
  clear hc hlo hhi h47 h46 ht hn hsz hrs
  go_enter Tryz.func38, Tryz.ntmps38
  go_upto_region 5 with fail
  obtain ⟨w1, hwe⟩ : ∃ x, (w.alloc (.cells #[.bool false, .slice none 0 0, .slice none 0 0] 30)) = x := ⟨_, rfl⟩
  rw [hwe] at hbl kr ⊢
  clear hwe
  go_wp2
  go_loop [5, 6, 7, 23] (fun a m _ i => ∃ k : Nat, a = .int .i64 r.size ∧ m = .int .u8 0 ∧ k ≤ n ∧ i = .int .i64 k) (fun _ _ _ i => r.size - (intOf i).toNat)
  case atStart => exact ⟨0, rfl, rfl, Nat.zero_le _, rfl⟩
  case round =>
    obtain ⟨k, rfl, rfl, hk, rfl⟩ := hrel
    by_cases hlt : k < n
    · obtain ⟨h1, h2⟩ := HB.out k hlt (by omega)
      have hlt2 : k < r.size := by omega
      go_wp2
      go_round
      case rel => exact ⟨k + 1, rfl, rfl, by omega, by go_num⟩
      case measure => simp [intOf]; omega
    · obtain rfl : k = n := by omega
      have hc1 : ((r[k].toNat : Int) == 47) = true := by rw [HC.out]; rfl
      go_upto_region 11 with (go_quiet (fail))
      rw [HC.out]
      have hw1 : Below w.heap.size w (w1.drewN nq) := below_drew_ hbl nq
      have kr1 : BlkT 30 (w1.drewN nq) w.heap.size (.bool false) (.slice none 0 0) (.slice none 0 0) := kr
      obtain ⟨w2, hwe⟩ : ∃ x, w1.drewN nq = x := ⟨_, rfl⟩
      rw [hwe] at hw1 kr1 ⊢
      clear hwe hbl kr
      go_wp2_with fail
      refine (dec_yes (s := (r.extract 0 k)) HLO.out _ (by omega) hd).mono ?_
      rintro e w' ⟨rfl, rfl⟩
      go_wp2_with fail
      refine (dec_no (s := (r.extract (k + 1) r.size)) HHI.out _ (by omega) hd2).mono ?_
      rintro e w' ⟨rfl, rfl⟩
      obtain ⟨a0, a1, a2, a3, a4, a5, a6⟩ := kr1.facts
      go_wp2_with fail
      refine bodyPost_ret (v := .tuple #[.agg #[.bool false, .slice none 0 0, .slice none 0 0], .int .i64 90]) (by simp [results, Tryz.results38, go_sem, a0, a1, a2]) rfl ?_
      exact ⟨rfl, by first | exact hw1 | exact below_put3 hw1 (Nat.le_refl _) _ _ _⟩
set_option maxRecDepth 100000 in
set_option maxHeartbeats 3200000 in
theorem rparse_p_point_ok (s : ByteArray) (p q t : List UInt8) (hs : s.data.toList = t) (hpos : 0 < s.size) (hns : ∀ u, t ≠ 45 :: u) (ht : t = p ++ 46 :: q) (h47 : 47 ∉ p) (h46 : 46 ∉ p) (hd : Digs p) (hd2 : Digs q) (w : World) (hl : s.size ≤ 200) :
    Calls Tryz.prog 38 #[.string s] w (RefOk (mkRat (sgn false (dnum (p ++ q))) (10 ^ q.length)) 30000 w) := by
  have hbl : Below w.heap.size w (w.alloc (.cells #[.bool false, .slice none 0 0, .slice none 0 0] 30)) := (Below.refl _ _).alloc (Nat.le_refl _) _
  have kr := BlkT.new 30 w (.bool false) (.slice none 0 0) (.slice none 0 0)
  obtain ⟨r, rfl⟩ : ∃ r, r = s := ⟨_, rfl⟩
  have hrs : r.data.toList = t := hs
  have hne := not_empty hpos
  have hne2 : (!r.toList.isEmpty) = true := by rw [hne]; rfl
  have h0 : ((r[0].toNat : Int) == 45) = false := by
    have h1 := byte_get hs 0 hpos
    rw [beq_eq_false_iff_ne]
    intro h2
    have h3 : r[0] = 45 := UInt8.toNat_inj.1 (by have : ((45 : UInt8).toNat) = 45 := rfl; omega)
    rw [h3] at h1
    cases t with
    | nil => simp at h1
    | cons b u => simp at h1; exact hns u (by rw [h1])
  have hrl : r.size ≤ 200 := hl
  clear hs hns
  rw [ht] at hrs
  have hsz := byte_at hrs
  obtain ⟨n, hn⟩ : ∃ n, p.length = n := ⟨_, rfl⟩
  have hlo := piece_lo hrs
  have hhi := piece_hi hrs
  rw [hn] at hlo hhi hsz
  have hnl : n < r.size := by omega
  have HB : Hid (∀ k, k < n → ∀ hk : k < r.size, ((r[k].toNat : Int) == 47) = false ∧ ((r[k].toNat : Int) == 46) = false) := Lib.hid (fun k hkn hk => by
    have h1 := byte_get hrs k hk
    rw [List.getElem?_append_left (by omega)] at h1
    have h2 : r[k] ∈ p := List.mem_of_getElem? h1
    refine ⟨beq_eq_false_iff_ne.2 fun h3 => h47 ?_, beq_eq_false_iff_ne.2 fun h3 => h46 ?_⟩
    · rwa [show r[k] = 47 from UInt8.toNat_inj.1 (by have : ((47 : UInt8).toNat) = 47 := rfl; omega)] at h2
    · rwa [show r[k] = 46 from UInt8.toNat_inj.1 (by have : ((46 : UInt8).toNat) = 46 := rfl; omega)] at h2)
  have hc : (r[n].toNat : Int) = 46 := by
    have h1 := byte_get hrs n hnl
    rw [List.getElem?_append_right (by omega), show n - p.length = 0 by omega] at h1
    simp at h1
    rw [← h1]; rfl
  have HC := Lib.hid hc
  have HLO := Lib.hid hlo
  have HHI := Lib.hid hhi
  have HSZ := Lib.hid hsz
  have hls : (r.extract 0 n).size ≤ 200 := by rw [Lib.size_eq, hlo]; omega
  have hhs : (r.extract (n + 1) r.size).size ≤ 200 := by rw [Lib.size_eq, hhi]; omega
  have hi1 : (0 : Int) ≤ (n : Int) := by omega
  have hi2 : (n : Int) ≤ r.size := by omega
  have hi3 : (n : Int) + 1 ≤ r.size := by omega
  clear hc hlo hhi h47 h46 ht hn hsz hrs
  go_enter Tryz.func38, Tryz.ntmps38
  go_upto_region 5 with fail
  obtain ⟨w1, hwe⟩ : ∃ x, (w.alloc (.cells #[.bool false, .slice none 0 0, .slice none 0 0] 30)) = x := ⟨_, rfl⟩
  rw [hwe] at hbl kr ⊢
  clear hwe
  go_wp2
  go_loop [5, 6, 7, 23] (fun a m _ i => ∃ k : Nat, a = .int .i64 r.size ∧ m = .int .u8 0 ∧ k ≤ n ∧ i = .int .i64 k) (fun _ _ _ i => r.size - (intOf i).toNat)
  case atStart => exact ⟨0, rfl, rfl, Nat.zero_le _, rfl⟩
  case round =>
    obtain ⟨k, rfl, rfl, hk, rfl⟩ := hrel
    by_cases hlt : k < n
    · obtain ⟨h1, h2⟩ := HB.out k hlt (by omega)
      have hlt2 : k < r.size := by omega
      go_wp2
      go_round
      case rel => exact ⟨k + 1, rfl, rfl, by omega, by go_num⟩
      case measure => simp [intOf]; omega
    · obtain rfl : k = n := by omega
      have hc1 : ((r[k].toNat : Int) == 47) = false := by rw [HC.out]; rfl
      have hc2 : ((r[k].toNat : Int) == 46) = true := by rw [HC.out]; rfl
      go_upto_region 11 with (go_quiet (fail))
      rw [HC.out]
      have hw1 : Below w.heap.size w (w1.drewN nq) := below_drew_ hbl nq
      have kr1 : BlkT 30 (w1.drewN nq) w.heap.size (.bool false) (.slice none 0 0) (.slice none 0 0) := kr
      obtain ⟨w2, hwe⟩ : ∃ x, w1.drewN nq = x := ⟨_, rfl⟩
      rw [hwe] at hw1 kr1 ⊢
      clear hwe hbl kr
      go_wp2_with fail
      refine (dec_yes (s := (r.extract 0 k)) HLO.out _ (by omega) hd).mono ?_
      rintro e w' ⟨rfl, rfl⟩
      go_wp2_with fail
      refine (dec_yes (s := (r.extract (k + 1) r.size)) HHI.out _ (by omega) hd2).mono ?_
      rintro e w' ⟨rfl, rfl⟩
      go_wp2_with fail
      refine (digits_of (s := (r.extract 0 k)) HLO.out _ (by omega) hd).mono ?_
      rintro e xX ⟨X, Xc, Xs, rfl, hXc, hX, hbX, hvX, hnX, hlX⟩
      have HVX := Lib.hid hvX
      clear hvX
      have kr3 := kr1.below hbX
      have hw3 := hw1.trans (hbX.mono hw1.size)
      go_upto_region 14 with fail
      have hbo : Below xX.heap.size xX (xX.alloc (.cells #[.int .i64 1] 3)) := (Below.refl _ _).alloc (Nat.le_refl _) _
      have hone := nat1_rd xX _ rfl
      obtain ⟨xO, hwe⟩ : ∃ x, xX.alloc (.cells #[.int .i64 1] 3) = x := ⟨_, rfl⟩
      rw [hwe] at hbo hone ⊢
      clear hwe
      have hXO := hX.below hbo
      have kr4 := kr3.below hbo
      have hw4 := hw3.trans (hbo.mono hw3.size)
      have f1 := fun W => run_string_add_sum (P := Tryz.prog) W (r.extract 0 k) (r.extract (k + 1) r.size) (by omega)
      have hcat : (r.extract 0 k ++ r.extract (k + 1) r.size).data.toList = p ++ q := by rw [ByteArray.data_append, Array.toList_append, HLO.out, HHI.out]
      obtain ⟨z, hz⟩ : ∃ z, r.extract 0 k ++ r.extract (k + 1) r.size = z := ⟨_, rfl⟩
      rw [hz] at hcat
      simp only [hz] at f1
      have hzs : z.size ≤ 400 := by rw [Lib.size_eq, hcat, List.length_append, ← HLO.out, ← HHI.out, ← Lib.size_eq, ← Lib.size_eq]; omega
      have HCAT := Lib.hid hcat
      have hpq : Digs (p ++ q) := ⟨allD_app.2 ⟨hd.1, hd2.1⟩, by rw [List.length_append]; have := hd.2; omega⟩
      clear hcat hz
      go_upto_region 19 with fail
      have g1 : IntKind.i64.wrap ((k : Int) + 1) = (k : Int) + 1 := IntWalk.i64_in _ ⟨by omega, by omega⟩
      have g2 : (0 : Int) ≤ (k : Int) + 1 := by omega
      have g3 : ((k : Int) + 1).toNat = k + 1 := by omega
      go_region_held3 (fun _ => True) (exact trivial) ((go_at_call 70; (refine (digits_of (s := z) HCAT.out _ (by omega) hpq).mono ?_); rintro e xZ ⟨Z, Zc, Zs, rfl, hZc, hZ, hbZ, hvZ, hnZ, hlZ⟩; have HVZ := Lib.hid hvZ; clear hvZ))
      clear g1 g2 g3
      have hbZ2 : Below xO.heap.size xO xZ := by first | exact hbZ | exact below_of_drew hbZ (Nat.le_refl _) | exact below_of_drewN hbZ (Nat.le_refl _)
      have kr5 := kr4.below hbZ2
      have hw5 := hw4.trans (hbZ2.mono hw4.size)
      go_upto_region 20 with fail
      obtain ⟨m, hm0⟩ : ∃ m, q.length = m := ⟨_, rfl⟩
      have hm := Lib.hid hm0
      clear hm0
      have g4 : Hid ((r.size : Int) - (k : Int) - 1 = (m : Int)) := Lib.hid (by have := HSZ.out; have := hm.out; omega)
      have hm2 : m ≤ 200 := by have := HSZ.out; have := hm.out; omega
      have hbt : Below xZ.heap.size xZ (xZ.alloc (.cells #[.int .i64 10] 3)) := (Below.refl _ _).alloc (Nat.le_refl _) _
      have hten : Rd .i64 (xZ.alloc (.cells #[.int .i64 10] 3)) (some ⟨xZ.heap.size, 0, none⟩) [10] := rd_nat1 xZ 10
      go_wp2_with fail
      rw [g4.out]
      clear g4
      refine (rpow_ten (some ⟨_, 0, none⟩) 1 m [10] _ hten (by simp) (by omega) nm_ten).mono ?_
      rintro e xD ⟨D, Dc, Ds, rfl, hDc, hD, hbD, hvD, hnD, hlD⟩
      rw [show VD [10] = 10 by simp [VD, val]] at hvD
      have HVD := Lib.hid hvD
      clear hvD
      have hbD2 : Below xZ.heap.size xZ xD := hbt.trans (hbD.mono hbt.size)
      have kr6 := kr5.below hbD2
      have hw6 := hw5.trans (hbD2.mono hw5.size)
      have hZ2 := hZ.below hbD2
      have hy0 : 0 < Ds.length := by rcases Nat.eq_zero_or_pos Ds.length with h | h; (rw [List.eq_nil_of_length_eq_zero h] at HVD; have h2 := HVD.out; have h3 : 0 < 10 ^ m := Nat.pow_pos (by omega); simp [VD, val] at h2; omega); exact h
      go_wp2_with fail
      refine (rmake false Z D Zc Dc Zs Ds _ hZ2 hD hnZ hnD (by omega) (by omega) (hy0)).mono ?_
      rintro e xM ⟨y, rfl, hy, hya, hyb, hbM⟩
      rw [HVZ.out, HVD.out, ← hm.out] at hy
      have kr7 := kr6.below hbM
      have hw7 := hw6.trans (hbM.mono hw6.size)
      obtain ⟨a0, a1, a2, a3, a4, a5, a6⟩ := kr7.facts
      go_wp2_with fail
      refine bodyPost_ret (v := .tuple #[.agg #[.bool y.s, .slice y.N y.ns.length y.nc, .slice y.D y.ds.length y.dc], .int .i64 0]) (by simp [results, Tryz.results38, go_sem, a0, a1, a2]) rfl ?_
      exact ⟨y, rfl, hy.put3 kr7 _ _ _, by omega, by (try simp at hyb); omega, below_put3 hw7 (Nat.le_refl _) _ _ _⟩
set_option maxRecDepth 100000 in
set_option maxHeartbeats 3200000 in
theorem rparse_p_point_bad1 (s : ByteArray) (p q t : List UInt8) (hs : s.data.toList = t) (hpos : 0 < s.size) (hns : ∀ u, t ≠ 45 :: u) (ht : t = p ++ 46 :: q) (h47 : 47 ∉ p) (h46 : 46 ∉ p) (hd : ¬ Digs p) (w : World) (hl : s.size ≤ 200) :
    Calls Tryz.prog 38 #[.string s] w (RefErr 90 w) := by
  have hbl : Below w.heap.size w (w.alloc (.cells #[.bool false, .slice none 0 0, .slice none 0 0] 30)) := (Below.refl _ _).alloc (Nat.le_refl _) _
  have kr := BlkT.new 30 w (.bool false) (.slice none 0 0) (.slice none 0 0)
  obtain ⟨r, rfl⟩ : ∃ r, r = s := ⟨_, rfl⟩
  have hrs : r.data.toList = t := hs
  have hne := not_empty hpos
  have hne2 : (!r.toList.isEmpty) = true := by rw [hne]; rfl
  have h0 : ((r[0].toNat : Int) == 45) = false := by
    have h1 := byte_get hs 0 hpos
    rw [beq_eq_false_iff_ne]
    intro h2
    have h3 : r[0] = 45 := UInt8.toNat_inj.1 (by have : ((45 : UInt8).toNat) = 45 := rfl; omega)
    rw [h3] at h1
    cases t with
    | nil => simp at h1
    | cons b u => simp at h1; exact hns u (by rw [h1])
  have hrl : r.size ≤ 200 := hl
  clear hs hns
  rw [ht] at hrs
  have hsz := byte_at hrs
  obtain ⟨n, hn⟩ : ∃ n, p.length = n := ⟨_, rfl⟩
  have hlo := piece_lo hrs
  have hhi := piece_hi hrs
  rw [hn] at hlo hhi hsz
  have hnl : n < r.size := by omega
  have HB : Hid (∀ k, k < n → ∀ hk : k < r.size, ((r[k].toNat : Int) == 47) = false ∧ ((r[k].toNat : Int) == 46) = false) := Lib.hid (fun k hkn hk => by
    have h1 := byte_get hrs k hk
    rw [List.getElem?_append_left (by omega)] at h1
    have h2 : r[k] ∈ p := List.mem_of_getElem? h1
    refine ⟨beq_eq_false_iff_ne.2 fun h3 => h47 ?_, beq_eq_false_iff_ne.2 fun h3 => h46 ?_⟩
    · rwa [show r[k] = 47 from UInt8.toNat_inj.1 (by have : ((47 : UInt8).toNat) = 47 := rfl; omega)] at h2
    · rwa [show r[k] = 46 from UInt8.toNat_inj.1 (by have : ((46 : UInt8).toNat) = 46 := rfl; omega)] at h2)
  have hc : (r[n].toNat : Int) = 46 := by
    have h1 := byte_get hrs n hnl
    rw [List.getElem?_append_right (by omega), show n - p.length = 0 by omega] at h1
    simp at h1
    rw [← h1]; rfl
  have HC := Lib.hid hc
  have HLO := Lib.hid hlo
  have HHI := Lib.hid hhi
  have HSZ := Lib.hid hsz
  have hls : (r.extract 0 n).size ≤ 200 := by rw [Lib.size_eq, hlo]; omega
  have hhs : (r.extract (n + 1) r.size).size ≤ 200 := by rw [Lib.size_eq, hhi]; omega
  have hi1 : (0 : Int) ≤ (n : Int) := by omega
  have hi2 : (n : Int) ≤ r.size := by omega
  have hi3 : (n : Int) + 1 ≤ r.size := by omega
  clear hc hlo hhi h47 h46 ht hn hsz hrs
  go_enter Tryz.func38, Tryz.ntmps38
  go_upto_region 5 with fail
  obtain ⟨w1, hwe⟩ : ∃ x, (w.alloc (.cells #[.bool false, .slice none 0 0, .slice none 0 0] 30)) = x := ⟨_, rfl⟩
  rw [hwe] at hbl kr ⊢
  clear hwe
  go_wp2
  go_loop [5, 6, 7, 23] (fun a m _ i => ∃ k : Nat, a = .int .i64 r.size ∧ m = .int .u8 0 ∧ k ≤ n ∧ i = .int .i64 k) (fun _ _ _ i => r.size - (intOf i).toNat)
  case atStart => exact ⟨0, rfl, rfl, Nat.zero_le _, rfl⟩
  case round =>
    obtain ⟨k, rfl, rfl, hk, rfl⟩ := hrel
    by_cases hlt : k < n
    · obtain ⟨h1, h2⟩ := HB.out k hlt (by omega)
      have hlt2 : k < r.size := by omega
      go_wp2
      go_round
      case rel => exact ⟨k + 1, rfl, rfl, by omega, by go_num⟩
      case measure => simp [intOf]; omega
    · obtain rfl : k = n := by omega
      have hc1 : ((r[k].toNat : Int) == 47) = false := by rw [HC.out]; rfl
      have hc2 : ((r[k].toNat : Int) == 46) = true := by rw [HC.out]; rfl
      go_upto_region 11 with (go_quiet (fail))
      rw [HC.out]
      have hw1 : Below w.heap.size w (w1.drewN nq) := below_drew_ hbl nq
      have kr1 : BlkT 30 (w1.drewN nq) w.heap.size (.bool false) (.slice none 0 0) (.slice none 0 0) := kr
      obtain ⟨w2, hwe⟩ : ∃ x, w1.drewN nq = x := ⟨_, rfl⟩
      rw [hwe] at hw1 kr1 ⊢
      clear hwe hbl kr
      go_wp2_with fail
      refine (dec_no (s := (r.extract 0 k)) HLO.out _ (by omega) hd).mono ?_
      rintro e w' ⟨rfl, rfl⟩
      obtain ⟨a0, a1, a2, a3, a4, a5, a6⟩ := kr1.facts
      go_wp2_with fail
      refine bodyPost_ret (v := .tuple #[.agg #[.bool false, .slice none 0 0, .slice none 0 0], .int .i64 90]) (by simp [results, Tryz.results38, go_sem, a0, a1, a2]) rfl ?_
      exact ⟨rfl, by first | exact hw1 | exact below_put3 hw1 (Nat.le_refl _) _ _ _⟩
set_option maxRecDepth 100000 in
set_option maxHeartbeats 3200000 in
theorem rparse_p_point_bad2 (s : ByteArray) (p q t : List UInt8) (hs : s.data.toList = t) (hpos : 0 < s.size) (hns : ∀ u, t ≠ 45 :: u) (ht : t = p ++ 46 :: q) (h47 : 47 ∉ p) (h46 : 46 ∉ p) (hd : Digs p) (hd2 : ¬ Digs q) (w : World) (hl : s.size ≤ 200) :
    Calls Tryz.prog 38 #[.string s] w (RefErr 90 w) := by
  have hbl : Below w.heap.size w (w.alloc (.cells #[.bool false, .slice none 0 0, .slice none 0 0] 30)) := (Below.refl _ _).alloc (Nat.le_refl _) _
  have kr := BlkT.new 30 w (.bool false) (.slice none 0 0) (.slice none 0 0)
  obtain ⟨r, rfl⟩ : ∃ r, r = s := ⟨_, rfl⟩
  have hrs : r.data.toList = t := hs
  have hne := not_empty hpos
  have hne2 : (!r.toList.isEmpty) = true := by rw [hne]; rfl
  have h0 : ((r[0].toNat : Int) == 45) = false := by
    have h1 := byte_get hs 0 hpos
    rw [beq_eq_false_iff_ne]
    intro h2
    have h3 : r[0] = 45 := UInt8.toNat_inj.1 (by have : ((45 : UInt8).toNat) = 45 := rfl; omega)
    rw [h3] at h1
    cases t with
    | nil => simp at h1
    | cons b u => simp at h1; exact hns u (by rw [h1])
  have hrl : r.size ≤ 200 := hl
  clear hs hns
  rw [ht] at hrs
  have hsz := byte_at hrs
  obtain ⟨n, hn⟩ : ∃ n, p.length = n := ⟨_, rfl⟩
  have hlo := piece_lo hrs
  have hhi := piece_hi hrs
  rw [hn] at hlo hhi hsz
  have hnl : n < r.size := by omega
  have HB : Hid (∀ k, k < n → ∀ hk : k < r.size, ((r[k].toNat : Int) == 47) = false ∧ ((r[k].toNat : Int) == 46) = false) := Lib.hid (fun k hkn hk => by
    have h1 := byte_get hrs k hk
    rw [List.getElem?_append_left (by omega)] at h1
    have h2 : r[k] ∈ p := List.mem_of_getElem? h1
    refine ⟨beq_eq_false_iff_ne.2 fun h3 => h47 ?_, beq_eq_false_iff_ne.2 fun h3 => h46 ?_⟩
    · rwa [show r[k] = 47 from UInt8.toNat_inj.1 (by have : ((47 : UInt8).toNat) = 47 := rfl; omega)] at h2
    · rwa [show r[k] = 46 from UInt8.toNat_inj.1 (by have : ((46 : UInt8).toNat) = 46 := rfl; omega)] at h2)
  have hc : (r[n].toNat : Int) = 46 := by
    have h1 := byte_get hrs n hnl
    rw [List.getElem?_append_right (by omega), show n - p.length = 0 by omega] at h1
    simp at h1
    rw [← h1]; rfl
  have HC := Lib.hid hc
  have HLO := Lib.hid hlo
  have HHI := Lib.hid hhi
  have HSZ := Lib.hid hsz
  have hls : (r.extract 0 n).size ≤ 200 := by rw [Lib.size_eq, hlo]; omega
  have hhs : (r.extract (n + 1) r.size).size ≤ 200 := by rw [Lib.size_eq, hhi]; omega
  have hi1 : (0 : Int) ≤ (n : Int) := by omega
  have hi2 : (n : Int) ≤ r.size := by omega
  have hi3 : (n : Int) + 1 ≤ r.size := by omega
  clear hc hlo hhi h47 h46 ht hn hsz hrs
  go_enter Tryz.func38, Tryz.ntmps38
  go_upto_region 5 with fail
  obtain ⟨w1, hwe⟩ : ∃ x, (w.alloc (.cells #[.bool false, .slice none 0 0, .slice none 0 0] 30)) = x := ⟨_, rfl⟩
  rw [hwe] at hbl kr ⊢
  clear hwe
  go_wp2
  go_loop [5, 6, 7, 23] (fun a m _ i => ∃ k : Nat, a = .int .i64 r.size ∧ m = .int .u8 0 ∧ k ≤ n ∧ i = .int .i64 k) (fun _ _ _ i => r.size - (intOf i).toNat)
  case atStart => exact ⟨0, rfl, rfl, Nat.zero_le _, rfl⟩
  case round =>
    obtain ⟨k, rfl, rfl, hk, rfl⟩ := hrel
    by_cases hlt : k < n
    · obtain ⟨h1, h2⟩ := HB.out k hlt (by omega)
      have hlt2 : k < r.size := by omega
      go_wp2
      go_round
      case rel => exact ⟨k + 1, rfl, rfl, by omega, by go_num⟩
      case measure => simp [intOf]; omega
    · obtain rfl : k = n := by omega
      have hc1 : ((r[k].toNat : Int) == 47) = false := by rw [HC.out]; rfl
      have hc2 : ((r[k].toNat : Int) == 46) = true := by rw [HC.out]; rfl
      go_upto_region 11 with (go_quiet (fail))
      rw [HC.out]
      have hw1 : Below w.heap.size w (w1.drewN nq) := below_drew_ hbl nq
      have kr1 : BlkT 30 (w1.drewN nq) w.heap.size (.bool false) (.slice none 0 0) (.slice none 0 0) := kr
      obtain ⟨w2, hwe⟩ : ∃ x, w1.drewN nq = x := ⟨_, rfl⟩
      rw [hwe] at hw1 kr1 ⊢
      clear hwe hbl kr
      go_wp2_with fail
      refine (dec_yes (s := (r.extract 0 k)) HLO.out _ (by omega) hd).mono ?_
      rintro e w' ⟨rfl, rfl⟩
      go_wp2_with fail
      refine (dec_no (s := (r.extract (k + 1) r.size)) HHI.out _ (by omega) hd2).mono ?_
      rintro e w' ⟨rfl, rfl⟩
      obtain ⟨a0, a1, a2, a3, a4, a5, a6⟩ := kr1.facts
      go_wp2_with fail
      refine bodyPost_ret (v := .tuple #[.agg #[.bool false, .slice none 0 0, .slice none 0 0], .int .i64 90]) (by simp [results, Tryz.results38, go_sem, a0, a1, a2]) rfl ?_
      exact ⟨rfl, by first | exact hw1 | exact below_put3 hw1 (Nat.le_refl _) _ _ _⟩
end Go.Proofs.YtopppmlkddajjaaGreatDoor

