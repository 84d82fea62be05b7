/- Plain facts about monomials with coefficient 1. -/
import Derived.Test.YtlbfoclhkdlafaaGreatDoorPMR41
namespace Go.Proofs.YtlbfoclhkdlafaaGreatDoor
open Go.RowKit V

theorem oneE_len (bs : List Nat) (k : Nat) : (oneE bs k).length = k := by simp [oneE]
theorem oneE_le (bs : List Nat) (k : Nat) : ∀ x ∈ oneE bs k, x ≤ 23 := fun x hx => by
  obtain ⟨j, _, rfl⟩ := List.mem_map.1 hx
  exact oneX_le bs j
theorem oneE_get (bs : List Nat) {k i : Nat} : (oneE bs k).getD i 0 ≤ 23 := by
  rw [List.getD_eq_getElem?_getD]
  cases h : (oneE bs k)[i]? with
  | none => simp
  | some x => exact oneE_le bs k x (List.mem_of_getElem? h)
/-- The monomial. -/
def oneM (bs : List Nat) (k : Nat) : Nat := packL (oneE bs k)
theorem oneM_lt (bs : List Nat) {k : Nat} (hk : k ≤ 8) : oneM bs k < 18446744073709551616 := packL_lt (by rw [oneE_len]; exact hk) fun x hx => by have := oneE_le bs k x hx; omega
theorem oneM_ex (bs : List Nat) {k i : Nat} (hk : k ≤ 8) (hi : i < 8) : ex (oneM bs k) i ≤ 23 := by
  rcases Nat.lt_or_ge i k with h | h
  · have h1 := packTo_ex (oneE bs k) (fun x hx => by have := oneE_le bs k x hx; omega) k hk i h
    have h2 : oneM bs k = packTo (oneE bs k) k := by unfold oneM packL; rw [oneE_len]
    rw [h2, h1]
    exact oneE_get bs
  · have ho := on_packL (xs := oneE bs k) (by rw [oneE_len]; exact hk)
    rw [oneE_len] at ho
    have := ex_on ho h hi
    unfold oneM
    omega
theorem oneM_deg (bs : List Nat) {k : Nat} (hk : k ≤ 8) : deg (oneM bs k) = (oneE bs k).sum := deg_packL (by rw [oneE_len]; exact hk) fun x hx => by have := oneE_le bs k x hx; omega
theorem oneM_on (bs : List Nat) {k : Nat} (hk : k ≤ 8) : On k (oneM bs k) := by
  have ho := on_packL (xs := oneE bs k) (by rw [oneE_len]; exact hk)
  rwa [oneE_len] at ho
theorem oneM_add (cs bs : List Nat) {k : Nat} (hk : k ≤ 8) : (oneM cs k + oneM bs k < 18446744073709551616) ∧ deg (oneM cs k + oneM bs k) = (oneE cs k).sum + (oneE bs k).sum ∧ On k (oneM cs k + oneM bs k) := by
  have hd : ∀ i, i < 8 → ex (oneM cs k) i + ex (oneM bs k) i < 256 := fun i hi => by have := oneM_ex cs hk hi; have := oneM_ex bs hk hi; omega
  have he : ∀ i, i < 8 → ex (oneM cs k + oneM bs k) i = ex (oneM cs k) i + ex (oneM bs k) i := fun i hi => ex_add (oneM_lt cs hk) (oneM_lt bs hk) hd hi
  have hz : ∀ j, j < 8 → ((List.range 8).map fun j => ex (oneM cs k) j + ex (oneM bs k) j).getD j 0 = (exL (oneM cs k) 8).getD j 0 + (exL (oneM bs k) 8).getD j 0 := fun j hj => by
    rw [exL_get _ 8 j hj, exL_get _ 8 j hj, List.getD_eq_getElem?_getD, List.getElem?_map, List.getElem?_range hj]
    rfl
  have h1 := packTo_add (exL (oneM cs k) 8) (exL (oneM bs k) 8) ((List.range 8).map fun j => ex (oneM cs k) j + ex (oneM bs k) j) 8 hz
  rw [packTo_self (oneM_lt cs hk), packTo_self (oneM_lt bs hk)] at h1
  have h2 := packTo_lt ((List.range 8).map fun j => ex (oneM cs k) j + ex (oneM bs k) j) (fun x hx => by
    obtain ⟨j, hj, rfl⟩ := List.mem_map.1 hx
    exact hd j (List.mem_range.1 hj)) 8 (Nat.le_refl _)
  refine ⟨by omega, ?_, ?_⟩
  · rw [← oneM_deg cs hk, ← oneM_deg bs hk]
    have key : ∀ j, j ≤ 8 → degTo (oneM cs k + oneM bs k) j = degTo (oneM cs k) j + degTo (oneM bs k) j := fun j => by
      induction j with
      | zero => intro _; rfl
      | succ j ih =>
        intro hj
        simp only [degTo]
        rw [ih (by omega), he j (by omega)]
        omega
    exact key 8 (Nat.le_refl _)
  · have ha := oneM_on cs hk
    have hb := oneM_on bs hk
    unfold On at ha hb ⊢
    rw [Nat.add_mod, ha, hb]
    exact Nat.zero_mod _
theorem one_val {w : World} {X : Option Addr} {ms : List MM} {k : Nat} {bs : List Nat} (h : PRaw w X ms [(oneE bs k).map fun (x : Nat) => (x : Int)]) (hm : ∀ m ∈ ms, m.c.Is w 1 ∧ m.c.ns.length ≤ 1 ∧ m.c.ds.length ≤ 1) (hk : k ≤ 8) :
    PVal k ms [(oneE bs k).map fun (x : Nat) => (x : Int)] ↔ (oneE bs k).sum ≤ 40 := by
  have hl : ms.length = 1 := h.hs.1
  constructor
  · intro hv
    obtain ⟨m, hm0⟩ : ∃ m, ms[0]? = some m := ⟨ms[0]'(by omega), List.getElem?_eq_getElem (by omega)⟩
    have h1 := (hv.all.good 0 _ m (by omega) rfl hm0).1.2.2
    rw [sum_cast] at h1
    omega
  · intro hs
    refine ⟨by omega, by omega, by omega, fun j e m hj he hm0 => ?_, fun j a b hj => by omega⟩
    have hj0 : j = 0 := by omega
    subst hj0
    injection he with he
    subst he
    obtain ⟨h1, l1, l2⟩ := hm m (List.mem_of_getElem? hm0)
    have hv := h1.okv (by omega) (by omega)
    refine ⟨EV.of_nat (oneE_len bs k) hs, ?_, by omega, by omega, hv⟩
    rcases Nat.eq_zero_or_pos m.c.ns.length with h0 | h0
    · exfalso
      have hz := h1.q.2.1
      rw [List.eq_nil_of_length_eq_zero h0] at hz
      exact absurd hz (by decide)
    · exact h0
theorem one_poly {w : World} {X : Option Addr} {ms : List MM} {k : Nat} {bs : List Nat} (h : PRaw w X ms [(oneE bs k).map fun (x : Nat) => (x : Int)]) (hm : ∀ m ∈ ms, m.c.Is w 1 ∧ m.c.ns.length ≤ 1 ∧ m.c.ds.length ≤ 1) :
    polyOf ms [(oneE bs k).map fun (x : Nat) => (x : Int)] = [(oneM bs k, 1)] := by
  have hl : ms.length = 1 := h.hs.1
  obtain ⟨m, rfl⟩ : ∃ m, ms = [m] := by
    match ms, hl with
    | [m], _ => exact ⟨m, rfl⟩
  obtain ⟨h1, l1, l2⟩ := hm m (by simp)
  have h2 := h1.raw_.is (h1.okv (by omega) (by omega))
  have e1 : mkRat (sgn m.c.s (V32 m.c.ns)) (V32 m.c.ds) = 1 := by
    have q1 := h2.q
    have q2 := h1.q
    have hsn : ∀ {p q : Rat}, QOf m.c.s (V32 m.c.ns) (V32 m.c.ds) p → QOf m.c.s (V32 m.c.ns) (V32 m.c.ds) q → p = q := fun {p q} hp hq => by
      obtain ⟨a1, a2, a3⟩ := hp
      obtain ⟨b1, b2, b3⟩ := hq
      refine Rat.ext ?_ (by omega)
      rw [a1] at b1
      have : (p.num < 0) ↔ (q.num < 0) := by simpa using b1
      omega
    exact hsn q1 q2
  have e2 : ((oneE bs k).map fun (x : Nat) => (x : Int)).map Int.toNat = oneE bs k := by
    rw [List.map_map]
    conv => rhs; rw [← List.map_id (oneE bs k)]
    exact List.map_congr_left fun x _ => Int.toNat_natCast x
  show [(packL _, mkRat _ _)] = _
  rw [e1, e2]
  rfl
theorem nf_one1 (M : Nat) : NF [(M, (1 : Rat))] := ⟨List.pairwise_singleton _ _, fun t ht => by simp at ht; rw [ht]; show (1 : Rat) ≠ 0; decide⟩
theorem nfOf_one (M : Nat) : nfOf [(M, (1 : Rat))] = [(M, 1)] := nf_ext (nf_nfOf _) (nf_one1 M) fun k => cf_nfOf k _
theorem mulA_one (a b : Nat) : mulA [(a, (1 : Rat))] [(b, 1)] = [(a + b, 1)] := by
  show [(a + b, (1 : Rat) * 1)] = _
  rw [Rat.mul_one]
theorem one_prod {cs bs : List Nat} {k : Nat} (hk : k ≤ 8) : ProdOk awSum 1 [(oneM cs k, 1)] [(oneM bs k, 1)] := by
  refine ⟨fun f hf u hu => ?_, fun j x hj hx f hf u hu => ?_, ⟨0, Nat.le_refl _, rfl⟩, fun f hf u hu => ?_, Nat.le_refl 1⟩
  · simp at hf hu
    rw [hf, hu]
    exact mulOk_11
  · simp at hf hu
    obtain ⟨n, hn, rfl⟩ := hx
    rw [hf, hu, Rat.mul_one]
    refine ⟨addOk_n1 n (by omega), n + 1, by omega, ?_⟩
    rw [show (((n + 1 : Nat) : Int) : Rat) = (((n : Int) + 1 : Int) : Rat) by rfl, Rat.intCast_add]
    rfl
  · simp at hf hu
    rw [hf, hu]
    exact (oneM_add cs bs hk).1
theorem wfits_1 : WFits 1 200 := wfits_small (by decide) (by decide)
end Go.Proofs.YtlbfoclhkdlafaaGreatDoor


/- isochronelaw03.PolyLimits answers true for all arguments: the walk. -/
attribute [local go_sem ↓] Go.wp_at_zero Go.wp_at_succ
namespace Go.Proofs.YtlbfoclhkdlafaaGreatDoor
open Go.RowKit V

theorem one_small {w : World} {ms : List MM} (h : ∀ m ∈ ms, m.c.Is w 1 ∧ m.c.ns.length ≤ 1 ∧ m.c.ds.length ≤ 1) : ∀ m ∈ ms, 4 * m.c.ns.length ≤ 4 ∧ 4 * m.c.ds.length ≤ 4 := fun m hm => by have := h m hm; omega
set_option maxRecDepth 100000 in
set_option maxHeartbeats 12800000 in
theorem plimits_row (x : Nat) (hx : x < 256) (A B : Option Addr) (c d : Nat) (cs bs : List Nat) (w : World) (ha : Rd .u8 w A cs) (hb : Rd .u8 w B bs) (htab : Lib.TabBelow Tryz.prog w.heap.size w "internal/strconv.uint64pow10" .u64 Lib.pow10Tab) :
    Calls Tryz.prog 7 #[.int .u8 x, .slice A cs.length c, .slice B bs.length d] w (Yes w) := by
  have HT := Lib.hid htab
  have HA := Lib.hid ha
  have HB := Lib.hid hb
  clear htab ha hb
  have hw8 : IntKind.i64.wrap (x : Int) = (x : Int) := IntWalk.i64_in _ (by omega)
  obtain ⟨y, hy⟩ : ∃ y, x % 8 = y := ⟨_, rfl⟩
  obtain ⟨k, hk⟩ : ∃ k, y + 1 = k := ⟨_, rfl⟩
  have hk8 : k ≤ 8 := by omega
  have hk1 : 1 ≤ k := by omega
  have hm1 : (x : Int) % 8 = (y : Int) := by omega
  have hm2 : (x : Int).tmod 8 = (y : Int) := by rw [Int.tmod_eq_emod_of_nonneg (by omega)]; omega
  have hm3 : (y : Int) + 1 = (k : Int) := by omega
  clear hk hy
  go_enter Tryz.func7, Tryz.ntmps7
  go_wp2_with fail
  refine (pawake _ (fun w' h => HT.out w' h)).mono ?_
  rintro e w1 ⟨rfl, hb1⟩
  clear HT
  go_upto_region 4 with fail
  obtain ⟨wo, rfl⟩ : ∃ z : World, z = w1 := ⟨_, rfl⟩
  have HP := Lib.hid (pone1 k A c cs wo (HA.out.below hb1) hk8)
  go_wp2_with fail
  refine HP.out.mono ?_
  rintro e w2 ⟨X, xc, ms, rfl, hml, hmc, hmr, hmn, hb2⟩
  have hw2 := hb1.trans (hb2.mono hb1.size)
  have HML := Lib.hid hml
  clear HP hb2 hml
  go_upto_region 5 with fail
  obtain ⟨w3, hw3⟩ : ∃ z, w2.alloc (.cells #[.int .i64 k, .slice X ms.length xc] 24) = z := ⟨_, rfl⟩
  have kpw3 : Blk2c 24 w3 w2.heap.size (.int .i64 k) (.slice X ms.length xc) := by rw [← hw3]; exact Blk2c.new 24 w2 _ _
  have hbw3 : Below w2.heap.size w2 w3 := by rw [← hw3]; exact (Below.refl _ _).alloc (Nat.le_refl _) _
  rw [hw3]
  clear hw3
  have hw3 := hw2.trans (hbw3.mono hw2.size)
  have HP := Lib.hid (pone1 k B d bs w3 (HB.out.below hw3) hk8)
  go_wp2_with fail
  refine HP.out.mono ?_
  rintro e w4 ⟨Y, yc, ns, rfl, hnl, hnc, hnr, hnn, hb4⟩
  have HNL := Lib.hid hnl
  clear HP hnl
  go_upto_region 6 with fail
  obtain ⟨w5, hw5⟩ : ∃ z, w4.alloc (.cells #[.int .i64 k, .slice Y ns.length yc] 24) = z := ⟨_, rfl⟩
  have kqw5 : Blk2c 24 w5 w4.heap.size (.int .i64 k) (.slice Y ns.length yc) := by rw [← hw5]; exact Blk2c.new 24 w4 _ _
  have hbw5 : Below w4.heap.size w4 w5 := by rw [← hw5]; exact (Below.refl _ _).alloc (Nat.le_refl _) _
  rw [hw5]
  clear hw5
  have hb35 := hb4.trans (hbw5.mono hb4.size)
  have hb25 := hbw3.trans (hb35.mono hbw3.size)
  have hw5 := hw2.trans (hb25.mono hw2.size)
  have kp5 := kpw3.below hb35
  have hpr := hmr.below hb25
  have hqr := hnr.below hbw5
  have hpn : ∀ m ∈ ms, m.c.Is w5 1 ∧ m.c.ns.length ≤ 1 ∧ m.c.ds.length ≤ 1 := fun m hm => ⟨(hmn m hm).1.below hb25, (hmn m hm).2⟩
  have hqn : ∀ m ∈ ns, m.c.Is w5 1 ∧ m.c.ns.length ≤ 1 ∧ m.c.ds.length ≤ 1 := fun m hm => ⟨(hnn m hm).1.below hbw5, (hnn m hm).2⟩
  have HPR := Lib.hid hpr
  have HQR := Lib.hid hqr
  have HPN := Lib.hid hpn
  have HQN := Lib.hid hqn
  have HV1 := Lib.hid (one_val hpr hpn hk8)
  have HV2 := Lib.hid (one_val hqr hqn hk8)
  have HS1 : Hid ((oneE cs k).sum ≤ 1000) := by show (oneE cs k).sum ≤ 1000; rw [← oneS_sum]; have := oneS_le cs k; omega
  have HS2 : Hid ((oneE bs k).sum ≤ 1000) := by show (oneE bs k).sum ≤ 1000; rw [← oneS_sum]; have := oneS_le bs k; omega
  obtain ⟨s1, hs1⟩ : ∃ s, (oneE cs k).sum = s := ⟨_, rfl⟩
  obtain ⟨s2, hs2⟩ : ∃ s, (oneE bs k).sum = s := ⟨_, rfl⟩
  rw [hs1] at HV1 HS1 ⊢
  rw [hs2] at HV2 HS2 ⊢
  have HSA := Lib.hid hs1
  have HSB := Lib.hid hs2
  have h1000 := HS1.out
  have h2000 := HS2.out
  clear hs1 hs2 hmr hnr hmn hnn hpr hqr hpn hqn kpw3 hb35 hw3 hb4 hbw3
  obtain ⟨p0, p1, p2, p3, p4⟩ := kp5.facts
  obtain ⟨q0, q1, q2, q3, q4⟩ := kqw5.facts
  have hvp : ∀ (v : Bool), (v = true ↔ s1 ≤ 40) → ∀ W, Below w5.heap.size w5 W → Calls Tryz.prog 40 #[.agg #[.int .i64 k, .slice X ms.length xc]] W (Gives (.bool v) W) := fun v hv W hW => pvalid k X xc ms _ W (HPR.out.below hW) v (hv.trans HV1.out.symm)
  have hvq : ∀ (v : Bool), (v = true ↔ s2 ≤ 40) → ∀ W, Below w5.heap.size w5 W → Calls Tryz.prog 40 #[.agg #[.int .i64 k, .slice Y ns.length yc]] W (Gives (.bool v) W) := fun v hv W hW => pvalid k Y yc ns _ W (HQR.out.below hW) v (hv.trans HV2.out.symm)
  have HVP := Lib.hid hvp
  have HVQ := Lib.hid hvq
  clear hvp hvq
  by_cases h1 : s1 ≤ 40
  · have h1i : ¬ (40 : Int) < (s1 : Int) := by omega
    have h1j : (s1 : Int) ≤ 40 := by omega
    by_cases h2 : s2 ≤ 40
    · have h2i : ¬ (40 : Int) < (s2 : Int) := by omega
      obtain ⟨hpa, hpi⟩ := HPR.out.poly (HV1.out.2 h1)
      obtain ⟨hqa, hqi⟩ := HQR.out.poly (HV2.out.2 h2)
      rw [one_poly HPR.out HPN.out] at hpa hpi
      rw [one_poly HQR.out HQN.out] at hqa hqi
      have hnf : nfOf (mulA [(oneM cs k, (1 : Rat))] [(oneM bs k, 1)]) = [(oneM cs k + oneM bs k, 1)] := by rw [mulA_one, nfOf_one]
      have hadd := oneM_add cs bs hk8
      have hfits : ((∀ t ∈ [(oneM cs k + oneM bs k, (1 : Rat))], TFits t.1 t.2) ∧ [(oneM cs k + oneM bs k, (1 : Rat))].length ≤ 4000) ↔ s1 + s2 ≤ 40 := by
        rw [HSA.out, HSB.out] at hadd
        constructor
        · intro h
          have := (h.1 _ (List.mem_singleton.2 rfl)).1
          rw [hadd.2.1] at this
          exact this
        · intro h
          refine ⟨fun t ht => ?_, by show 1 ≤ 4000; omega⟩
          rw [List.mem_singleton.1 ht]
          exact ⟨by rw [hadd.2.1]; exact h, wfits_1⟩
      have HMU := Lib.hid (pmul_ok k X Y xc yc ms ns [(oneM cs k, 1)] [(oneM bs k, 1)] awSum 1 w5 hpa hqa hpi hqi (one_prod hk8) (fun f hf u hu => by rw [List.mem_singleton.1 hf, List.mem_singleton.1 hu]; exact mulOk_11) (by rw [hnf]; intro t ht; rw [List.mem_singleton.1 ht]; exact hadd.1))
      rw [hnf, hfits] at HMU
      have HADD := Lib.hid hadd
      clear hpa hqa hpi hqi hnf hadd hfits HS1 HS2 HVP HVQ
      go_wp2_with fail
      refine HMU.out.mono ?_
      rintro e w6 (⟨hfit, M, mc, rs, rfl, hrc, hat, hb6⟩ | ⟨hnf, rfl, hb6⟩)
      · have h3i : ¬ (40 : Int) < (s1 : Int) + (s2 : Int) := by omega
        have HAT := Lib.hid hat.ard
        have hrl : rs.length = 1 := hat.hs.1
        have HRL := Lib.hid hrl
        clear hat hrl p0 p1 p2 p3 p4 q0 q1 q2 q3 q4 HMU
        obtain ⟨w7, hw7⟩ : ∃ z, w6.alloc (.cells #[.int .i64 k, .slice M rs.length mc] 24) = z := ⟨_, rfl⟩
        have km7 : Blk2c 24 w7 w6.heap.size (.int .i64 k) (.slice M rs.length mc) := by rw [← hw7]; exact Blk2c.new 24 w6 _ _
        have hb67 : Below w6.heap.size w6 w7 := by rw [← hw7]; exact (Below.refl _ _).alloc (Nat.le_refl _) _
        have hb57 := hb6.trans (hb67.mono hb6.size)
        have kp7 := kp5.below hb57
        have kq7 := kqw5.below hb57
        have HAT7 := Lib.hid (HAT.out.below hb67)
        have HPR7 := Lib.hid (HPR.out.below hb57)
        have HQR7 := Lib.hid (HQR.out.below hb57)
        have hw7w := hw5.trans (hb57.mono hw5.size)
        have HPO := Lib.hid (one_poly HPR.out HPN.out)
        have HQO := Lib.hid (one_poly HQR.out HQN.out)
        have HEX : Hid (∀ i, i < 8 → ex (oneM bs k) i + ex (oneM cs k) i < 256) := fun i hi => by have := oneM_ex bs hk8 hi; have := oneM_ex cs hk8 hi; omega
        have HDN : Hid (DN [(oneM bs k + oneM cs k, (1 : Rat) * 1)]) := by show DN _; rw [Rat.mul_one]; exact (nf_one1 _).dn
        have HWD : Hid (Words [(oneM bs k + oneM cs k, (1 : Rat) * 1)]) := fun t ht => by rw [List.mem_singleton.1 ht]; show oneM bs k + oneM cs k < _; rw [Nat.add_comm]; exact HADD.out.1
        have HEQ : Hid ([(oneM cs k + oneM bs k, (1 : Rat))] = nfOf [(oneM bs k + oneM cs k, (1 : Rat) * 1)]) := by show _ = _; rw [Rat.mul_one, nfOf_one, Nat.add_comm]
        go_upto_region 11 with fail
        try rw [hw7]
        clear hw7
        obtain ⟨m0, m1, _, _, _⟩ := km7.facts
        obtain ⟨p0, p1, _, _, _⟩ := kp7.facts
        obtain ⟨q0, q1, _, _, _⟩ := kq7.facts
        go_region_held3 (fun w' => w'.cell? ⟨w6.heap.size, 0, none⟩ = some (.int .i64 k) ∧ w'.cell? ⟨w6.heap.size, 1, none⟩ = some (.slice M rs.length mc) ∧ w'.cell? ⟨w2.heap.size, 0, none⟩ = some (.int .i64 k) ∧ w'.cell? ⟨w2.heap.size, 1, none⟩ = some (.slice X ms.length xc) ∧ w'.cell? ⟨w4.heap.size, 0, none⟩ = some (.int .i64 k) ∧ w'.cell? ⟨w4.heap.size, 1, none⟩ = some (.slice Y ns.length yc)) (first | (with_reducible exact ⟨‹_›, ‹_›, ‹_›, ‹_›, ‹_›, ‹_›⟩) | go_keep)
          (first
          | (go_at_call_of 11 (Value.agg #[.int .i64 k, .slice X ms.length xc])
             refine (pof k X xc ms _ _ (HPR7.out.below (by first | exact Below.refl _ _ | exact below_drew_ (Below.refl _ _) 1)) (HV1.out.2 h1) 4 (one_small HPN.out)).mono ?_
             rintro e wa ⟨P1, p1c, ts, rfl, hp1c, hp1, hba⟩
             have hba7 : Below w7.heap.size w7 wa := by first | exact below_of_drew hba (Nat.le_refl _) | exact hba
             have kma := km7.below hba7
             have kpa := kp7.below hba7
             have kqa := kq7.below hba7
             obtain ⟨m0a, m1a, _, _, _⟩ := kma.facts
             obtain ⟨p0a, p1a, _, _, _⟩ := kpa.facts
             obtain ⟨q0a, q1a, _, _, _⟩ := kqa.facts)
          | (go_at_call_of 11 (Value.agg #[.int .i64 k, .slice Y ns.length yc])
             refine (pof k Y yc ns _ _ (HQR7.out.below hba7) (HV2.out.2 h2) 4 (one_small HQN.out)).mono ?_
             rintro e wb ⟨Q1, q1c, us, rfl, hq1c, hq1, hbb⟩
             have kmb := kma.below hbb
             have kpb := kpa.below hbb
             have kqb := kqa.below hbb
             obtain ⟨m0b, m1b, _, _, _⟩ := kmb.facts
             obtain ⟨p0b, p1b, _, _, _⟩ := kpb.facts
             obtain ⟨q0b, q1b, _, _, _⟩ := kqb.facts)
          | (go_at_call 20
             refine (pmul1 P1 Q1 p1c q1c 4 ts us (oneM cs k) (oneM bs k) 1 1 _ (by rw [← HPO.out]; exact hp1.below hbb) (by rw [← HQO.out]; exact hq1) (by omega) HEX.out (oneM_lt cs hk8) (oneM_lt bs hk8) (by rw [Rat.mul_one]; decide)).mono ?_
             rintro e wc ⟨R1, r1c, vs, rfl, hr1c, hr1, hbc⟩
             have kmc := kmb.below hbc
             have kpc := kpb.below hbc
             have kqc := kqb.below hbc
             obtain ⟨m0c, m1c, _, _, _⟩ := kmc.facts
             obtain ⟨p0c, p1c, _, _, _⟩ := kpc.facts
             obtain ⟨q0c, q1c, _, _, _⟩ := kqc.facts)
          | (go_at_call 17
             refine (pis_yes k M R1 mc r1c rs vs _ _ 9 _ (HAT7.out.below ((hba7.trans (hbb.mono hba7.size)).trans (hbc.mono (hba7.trans (hbb.mono hba7.size)).size))) hr1 HDN.out HWD.out hk8 (by omega) (by have := hr1.hs.1; rw [this]; show 1 ≤ 4000; omega) (by have := HRL.out; omega) HEQ.out).mono ?_
             rintro e wd ⟨rfl, hbd⟩
             have kmd := kmc.below hbd
             have kpd := kpc.below hbd
             have kqd := kqc.below hbd
             obtain ⟨m0d, m1d, _, _, _⟩ := kmd.facts
             obtain ⟨p0d, p1d, _, _, _⟩ := kpd.facts
             obtain ⟨q0d, q1d, _, _, _⟩ := kqd.facts))
        all_goals
          go_wp2_with fail
          go_ret
          exact ⟨rfl, hw7w.trans ((((hba7.trans (hbb.mono hba7.size)).trans (hbc.mono (hba7.trans (hbb.mono hba7.size)).size)).trans (hbd.mono ((hba7.trans (hbb.mono hba7.size)).trans (hbc.mono (hba7.trans (hbb.mono hba7.size)).size)).size)).mono hw7w.size)⟩
      · have h3i : (40 : Int) < (s1 : Int) + (s2 : Int) := by omega
        clear p0 p1 p2 p3 p4 q0 q1 q2 q3 q4 HMU
        have kz := Blk2c.new 24 w6 (.int .i64 0) (.slice none 0 0)
        obtain ⟨z0, z1, z2, z3, z4⟩ := kz.facts
        go_wp2_with fail
        refine (pnone0 _).mono ?_
        rintro e w7 ⟨rfl, hb7⟩
        have hw6 := hw5.trans (hb6.mono hw5.size)
        go_wp2_with fail
        go_ret
        exact ⟨rfl, hw6.trans ((((Below.refl _ _).alloc (Nat.le_refl _) _).trans (hb7.mono (by simp))).mono hw6.size)⟩
    · have h2i : (40 : Int) < (s2 : Int) := by omega
      have h2j : ¬ (s2 : Int) ≤ 40 := by omega
      have HA1 := Lib.hid (HVP.out true ⟨fun _ => h1, fun _ => rfl⟩)
      have HA2 := Lib.hid (HVQ.out false ⟨fun hh => (by cases hh), fun hh => absurd hh h2⟩)
      go_wp2_with fail
      refine (HA1.out _ (Below.refl _ _)).mono ?_
      rintro e w6 ⟨rfl, hb6⟩
      clear p0 p1 p2 p3 p4 q0 q1 q2 q3 q4
      obtain ⟨q0, q1, q2, q3, q4⟩ := (kqw5.below hb6).facts
      go_wp2_with fail
      refine (HA2.out _ hb6).mono ?_
      rintro e w7 ⟨rfl, hb7⟩
      go_wp2_with fail
      go_ret
      exact ⟨by simp [h2j], (hw5.trans (hb6.mono hw5.size)).trans (hb7.mono (hw5.trans (hb6.mono hw5.size)).size)⟩
  · have h1i : (40 : Int) < (s1 : Int) := by omega
    have h1j : ¬ (s1 : Int) ≤ 40 := by omega
    have HA1 := Lib.hid (HVP.out false ⟨fun hh => (by cases hh), fun hh => absurd hh h1⟩)
    by_cases h2 : s2 ≤ 40
    · have h2j : (s2 : Int) ≤ 40 := by omega
      have HA2 := Lib.hid (HVQ.out true ⟨fun _ => h2, fun _ => rfl⟩)
      go_wp2_with fail
      refine (HA1.out _ (Below.refl _ _)).mono ?_
      rintro e w6 ⟨rfl, hb6⟩
      clear p0 p1 p2 p3 p4 q0 q1 q2 q3 q4
      obtain ⟨q0, q1, q2, q3, q4⟩ := (kqw5.below hb6).facts
      go_wp2_with fail
      refine (HA2.out _ hb6).mono ?_
      rintro e w7 ⟨rfl, hb7⟩
      go_wp2_with fail
      go_ret
      exact ⟨by simp [h1j], (hw5.trans (hb6.mono hw5.size)).trans (hb7.mono (hw5.trans (hb6.mono hw5.size)).size)⟩
    · have h2j : ¬ (s2 : Int) ≤ 40 := by omega
      have HA2 := Lib.hid (HVQ.out false ⟨fun hh => (by cases hh), fun hh => absurd hh h2⟩)
      go_wp2_with fail
      refine (HA1.out _ (Below.refl _ _)).mono ?_
      rintro e w6 ⟨rfl, hb6⟩
      clear p0 p1 p2 p3 p4 q0 q1 q2 q3 q4
      obtain ⟨q0, q1, q2, q3, q4⟩ := (kqw5.below hb6).facts
      go_wp2_with fail
      refine (HA2.out _ hb6).mono ?_
      rintro e w7 ⟨rfl, hb7⟩
      go_wp2_with fail
      go_ret
      exact ⟨by simp [h1j, h2j], (hw5.trans (hb6.mono hw5.size)).trans (hb7.mono (hw5.trans (hb6.mono hw5.size)).size)⟩
end Go.Proofs.YtlbfoclhkdlafaaGreatDoor

