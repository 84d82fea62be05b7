/- poly.Valid. -/
import Derived.Test.YtlbfoclhkdlafaaGreatDoorPMR27
attribute [local go_sem ↓] Go.wp_at_zero Go.wp_at_succ
namespace Go.Proofs.YtlbfoclhkdlafaaGreatDoor
open Go.RowKit V

/-- A polynomial as a caller may hand it in: what its terms hold. -/
def RHolds (w : World) (ms : List MM) (es : List (List Int)) : Prop := ms.length = es.length ∧ ∀ (j : Nat) (m : MM), ms[j]? = some m → ∃ e, es[j]? = some e ∧ RdI w m.X e ∧ m.n = e.length ∧ m.n ≤ m.xc ∧ m.c.Raw w
structure PRaw (w : World) (A : Option Addr) (ms : List MM) (es : List (List Int)) : Prop where
  rd : MRd w A ms
  hs : RHolds w ms es
theorem PRaw.below {w w' : World} {A : Option Addr} {ms : List MM} {es : List (List Int)} (h : PRaw w A ms es) (hb : Below w.heap.size w w') : PRaw w' A ms es :=
  ⟨h.rd.below hb, h.hs.1, fun j m hm => by obtain ⟨e, h1, h2, h3, h4, h5⟩ := h.hs.2 j m hm; exact ⟨e, h1, h2.below hb, h3, h4, h5.below hb⟩⟩
/-- The first k terms are good. -/
structure PVto (n : Int) (ms : List MM) (es : List (List Int)) (k : Nat) : Prop where
  good : ∀ j e m, j < k → es[j]? = some e → ms[j]? = some m → EV n e ∧ m.c.CV
  desc : ∀ j a b, j + 1 < k → es[j]? = some a → es[j + 1]? = some b → 0 < lexI a b
/-- The polynomial is valid. -/
structure PVal (n : Int) (ms : List MM) (es : List (List Int)) : Prop where
  lo : 0 ≤ n
  hi : n ≤ 8
  len : ms.length ≤ 4000
  all : PVto n ms es ms.length
theorem PVto.zero (n : Int) (ms : List MM) (es : List (List Int)) : PVto n ms es 0 := ⟨fun j e m h => by omega, fun j a b h => by omega⟩
theorem PVto.succ {n : Int} {ms : List MM} {es : List (List Int)} {k : Nat} (h : PVto n ms es k) {e : List Int} {m : MM} (he : es[k]? = some e) (hm : ms[k]? = some m) (h1 : EV n e) (h2 : m.c.CV) (h3 : ∀ j a, k = j + 1 → es[j]? = some a → 0 < lexI a e) : PVto n ms es (k + 1) := by
  refine ⟨fun j e' m' hj he' hm' => ?_, fun j a b hj ha hb => ?_⟩
  · rcases Nat.lt_or_ge j k with hlt | hge
    · exact h.good j e' m' hlt he' hm'
    · obtain rfl : j = k := by omega
      rw [he] at he'; rw [hm] at hm'
      cases he'; cases hm'
      exact ⟨h1, h2⟩
  · rcases Nat.lt_or_ge (j + 1) k with hlt | hge
    · exact h.desc j a b hlt ha hb
    · obtain rfl : k = j + 1 := by omega
      rw [he] at hb
      cases hb
      exact h3 j a rfl ha
theorem not_false_of {v : Bool} {P : Prop} (hv : v = true ↔ P) (h : ¬ P) : v = false := by
  cases hb : v with
  | false => rfl
  | true => exact absurd (hv.1 hb) h
set_option maxRecDepth 100000 in
set_option maxHeartbeats 1600000 in
theorem pvalid (n : Int) (A : Option Addr) (c : Nat) (ms : List MM) (es : List (List Int)) (w : World) (h : PRaw w A ms es) (v : Bool) (hv : v = true ↔ PVal n ms es) :
    Calls Tryz.prog 40 #[.agg #[.int .i64 n, .slice A ms.length c]] w (Gives (.bool v) w) := by
  have HV := Lib.hid hv
  clear hv
  have HC := Lib.hid (pisCount n)
  have hb0 : Below w.heap.size w (w.alloc (.cells #[.int .i64 n, .slice A ms.length c] 24)) := (Below.refl _ _).alloc (Nat.le_refl _) _
  have kp := Blk2c.new 24 w (.int .i64 n) (.slice A ms.length c)
  by_cases hn : 0 ≤ n ∧ n ≤ 8
  · rw [decide_eq_true hn] at HC
    by_cases hl : ms.length ≤ 4000
    · have h8 := hn.2
      have HN := Lib.hid hn
      clear hn
      go_enter Tryz.func40, Tryz.ntmps40
      go_wp2_with fail
      refine (HC.out _).mono ?_
      rintro e0 w1 ⟨rfl, rfl⟩
      go_wp2
      go_loopw [3, 4, 18] (fun _ _ i wr => ∃ k : Nat, k ≤ ms.length ∧ i = .int .i64 k ∧ Hid (PVto n ms es k) ∧ Below w.heap.size w wr ∧ Blk2c 24 wr w.heap.size (.int .i64 n) (.slice A ms.length c)) (fun _ _ i _ => ms.length - (intOf i).toNat)
      case atStart => exact ⟨0, Nat.zero_le _, rfl, PVto.zero _ _ _, hb0, kp⟩
      case round =>
        obtain ⟨k, hk, rfl, HTO, hbw, kp1⟩ := hrel
        clear hb0 kp
        by_cases hlt : k < ms.length
        · obtain ⟨ad, m, rfl, hb, hm, hc⟩ := (h.below hbw).rd.ask hlt
          obtain ⟨e, he, hre, hme, hmc, hraw⟩ := (h.below hbw).hs.2 _ m hm.out
          have HE := Lib.hid he
          obtain ⟨c0, c1, c2, c3⟩ := hc
          have kb := Blk4.new 79 wr (.slice m.X e.length m.xc) (.bool m.c.s) (.slice m.c.N m.c.ns.length m.c.nc) (.slice m.c.D m.c.ds.length m.c.dc)
          have hb1 : Below wr.heap.size wr (wr.alloc (.cells #[.slice m.X e.length m.xc, .bool m.c.s, .slice m.c.N m.c.ns.length m.c.nc, .slice m.c.D m.c.ds.length m.c.dc] 79)) := (Below.refl _ _).alloc (Nat.le_refl _) _
          rw [hme] at c0
          clear he hmc
          obtain ⟨q0, q1, q2, q3, hplt⟩ := kp1.facts
          have hne1 : ¬ wr.heap.size = w.heap.size := by omega
          have hne2 : ¬ w.heap.size = wr.heap.size := by omega
          by_cases hE : EV n e
          · by_cases hC : m.c.CV
            · clear HC
              go_wp2_with fail
              refine (pvalidExps n m.X m.xc e _ (hre.below hb1) h8 true ⟨fun _ => hE, fun _ => rfl⟩).mono ?_
              rintro e0 w2 ⟨rfl, rfl⟩
              go_wp2_with fail
              refine (pvalidCoef m.c _ (hraw.below hb1) true ⟨fun _ => hC, fun _ => rfl⟩).mono ?_
              rintro e0 w2 ⟨rfl, hb2⟩
              have hb12 := hb1.trans (hb2.mono hb1.size)
              have kp2 := kp1.below hb12
              have kb2 := kb.below hb2
              have hw2 := hbw.trans (hb12.mono hbw.size)
              obtain ⟨p0, p1, p2, p3, p4⟩ := kp2.facts
              obtain ⟨a0, a1, a2, a3, a4, a5, a6, a7, a8⟩ := kb2.facts
              clear c0 c1 c2 c3 q0 q1 q2 q3
              go_upto_region 8 with fail
              by_cases hk0 : k = 0
              · have hT : decide (0 < k) = false := decide_eq_false (by omega)
                have HK0 := Lib.hid hk0
                clear hk0
                refine wp_region_held_drew (S := fun w' => w'.cell? ⟨w.heap.size, 1, none⟩ = some (.slice (some ad) ms.length c)) (by kernel_rfl) ?_ (fun hHeld => ?_)
                · first | exact ⟨‹_›⟩ | go_keep
                refine wpAnyH_take (i := 0) (v := ?v0) rfl (by kernel_rfl) (by kernel_rfl) (by kernel_rfl) (fun _ _ _ h => h) (Or.inl ⟨by rfl, ?hy0⟩) (by assumption) ?rest0
                case hy0 =>
                  intro w hSw
                  (try dsimp only at hSw)
                  go_simp
                  all_goals with_reducible rfl
                simp only [Act.put, List.getElem_toArray, List.getElem_cons_zero, List.setIfInBounds_toArray, List.set_cons_zero, List.set_cons_succ]
                refine wpAnyH_take (i := 1) (v := ?v1) rfl (by kernel_rfl) (by kernel_rfl) (by kernel_rfl) (fun _ _ _ h => h) (Or.inl ⟨by rfl, ?hy1⟩) (by assumption) ?rest1
                case hy1 =>
                  intro w hSw
                  (try dsimp only at hSw)
                  go_simp
                  all_goals with_reducible rfl
                simp only [Act.put, List.getElem_toArray, List.getElem_cons_zero, List.getElem_cons_succ, List.setIfInBounds_toArray, List.set_cons_zero, List.set_cons_succ]
                refine wpAnyH_take (i := 2) (v := ?v2) rfl (by kernel_rfl) (by kernel_rfl) (by kernel_rfl) (fun _ _ _ h => h) (Or.inl ⟨by rfl, ?hy2⟩) (by assumption) ?rest2
                case hy2 =>
                  intro w hSw
                  (try dsimp only at hSw)
                  go_simp
                  all_goals with_reducible rfl
                simp only [Act.put, List.getElem_toArray, List.getElem_cons_zero, List.getElem_cons_succ, List.setIfInBounds_toArray, List.set_cons_zero, List.set_cons_succ]
                refine wpAnyH_take (i := 3) (v := undef) rfl (by kernel_rfl) (by kernel_rfl) (by kernel_rfl) (fun _ _ _ h => h) (Or.inr ⟨by rfl, rfl⟩) (by assumption) ?rest3
                simp only [Act.put, List.getElem_toArray, List.getElem_cons_zero, List.getElem_cons_succ, List.setIfInBounds_toArray, List.set_cons_zero, List.set_cons_succ]
                refine wpAnyH_take (i := 4) (v := undef) rfl (by kernel_rfl) (by kernel_rfl) (by kernel_rfl) (fun _ _ _ h => h) (Or.inr ⟨by rfl, rfl⟩) (by assumption) ?rest4
                simp only [Act.put, List.getElem_toArray, List.getElem_cons_zero, List.getElem_cons_succ, List.setIfInBounds_toArray, List.set_cons_zero, List.set_cons_succ]
                refine wpAnyH_take (i := 5) (v := undef) rfl (by kernel_rfl) (by kernel_rfl) (by kernel_rfl) (fun _ _ _ h => h) (Or.inr ⟨by rfl, rfl⟩) (by assumption) ?rest5
                simp only [Act.put, List.getElem_toArray, List.getElem_cons_zero, List.getElem_cons_succ, List.setIfInBounds_toArray, List.set_cons_zero, List.set_cons_succ]
                refine wpAnyH_take (i := 6) (v := undef) rfl (by kernel_rfl) (by kernel_rfl) (by kernel_rfl) (fun _ _ _ h => h) (Or.inr ⟨by rfl, rfl⟩) (by assumption) ?rest6
                simp only [Act.put, List.getElem_toArray, List.getElem_cons_zero, List.getElem_cons_succ, List.setIfInBounds_toArray, List.set_cons_zero, List.set_cons_succ]
                refine wpAnyH_take (i := 7) (v := undef) rfl (by kernel_rfl) (by kernel_rfl) (by kernel_rfl) (fun _ _ _ h => h) (Or.inr ⟨by rfl, rfl⟩) (by assumption) ?rest7
                simp only [Act.put, List.getElem_toArray, List.getElem_cons_zero, List.getElem_cons_succ, List.setIfInBounds_toArray, List.set_cons_zero, List.set_cons_succ]
                refine wpAnyH_take (i := 8) (v := undef) rfl (by kernel_rfl) (by kernel_rfl) (by kernel_rfl) (fun _ _ _ h => h) (Or.inr ⟨by rfl, rfl⟩) (by assumption) ?rest8
                simp only [Act.put, List.getElem_toArray, List.getElem_cons_zero, List.getElem_cons_succ, List.setIfInBounds_toArray, List.set_cons_zero, List.set_cons_succ]
                refine wpAnyH_take (i := 9) (v := undef) rfl (by kernel_rfl) (by kernel_rfl) (by kernel_rfl) (fun _ _ _ h => h) (Or.inr ⟨by rfl, rfl⟩) (by assumption) ?rest9
                simp only [Act.put, List.getElem_toArray, List.getElem_cons_zero, List.getElem_cons_succ, List.setIfInBounds_toArray, List.set_cons_zero, List.set_cons_succ]
                refine wpAnyH_take (i := 10) (v := undef) rfl (by kernel_rfl) (by kernel_rfl) (by kernel_rfl) (fun _ _ _ h => h) (Or.inr ⟨by rfl, rfl⟩) (by assumption) ?rest10
                simp only [Act.put, List.getElem_toArray, List.getElem_cons_zero, List.getElem_cons_succ, List.setIfInBounds_toArray, List.set_cons_zero, List.set_cons_succ]
                refine wpAnyH_take (i := 11) (v := undef) rfl (by kernel_rfl) (by kernel_rfl) (by kernel_rfl) (fun _ _ _ h => h) (Or.inr ⟨by rfl, rfl⟩) (by assumption) ?rest11
                simp only [Act.put, List.getElem_toArray, List.getElem_cons_zero, List.getElem_cons_succ, List.setIfInBounds_toArray, List.set_cons_zero, List.set_cons_succ]
                refine wpAnyH_take (i := 12) (v := undef) rfl (by kernel_rfl) (by kernel_rfl) (by kernel_rfl) (fun _ _ _ h => h) (Or.inr ⟨by rfl, rfl⟩) (by assumption) ?rest12
                simp only [Act.put, List.getElem_toArray, List.getElem_cons_zero, List.getElem_cons_succ, List.setIfInBounds_toArray, List.set_cons_zero, List.set_cons_succ]
                refine wpAnyH_take (i := 13) (v := undef) rfl (by kernel_rfl) (by kernel_rfl) (by kernel_rfl) (fun _ _ _ h => h) (Or.inr ⟨by rfl, rfl⟩) (by assumption) ?rest13
                simp only [Act.put, List.getElem_toArray, List.getElem_cons_zero, List.getElem_cons_succ, List.setIfInBounds_toArray, List.set_cons_zero, List.set_cons_succ]
                refine wpAnyH_take (i := 14) (v := ?v14) rfl (by kernel_rfl) (by kernel_rfl) (by kernel_rfl) (fun _ _ _ h => h) (Or.inl ⟨by rfl, ?hy14⟩) (by assumption) ?rest14
                case hy14 =>
                  intro w hSw
                  (try dsimp only at hSw)
                  go_simp
                  all_goals with_reducible rfl
                simp only [Act.put, List.getElem_toArray, List.getElem_cons_zero, List.getElem_cons_succ, List.setIfInBounds_toArray, List.set_cons_zero, List.set_cons_succ]
                refine wpAnyH_done (by kernel_rfl) ?_ _
                go_wp2
                go_roundw
                case rel => exact ⟨k + 1, by omega, by go_num, HTO.out.succ HE.out hm.out hE hC (fun j a hj => by have := HK0.out; omega), by first | exact hw2 | exact below_drew_ hw2 1, by first | exact kp2 | exact kp2.below (below_drew_ (Below.refl _ _) 1)⟩
                case measure => simp [intOf]; omega
              · have hT : decide (0 < k) = true := decide_eq_true (by omega)
                obtain ⟨j, hj⟩ : ∃ j, k = j + 1 := ⟨k - 1, by omega⟩
                have hsub : (k : Int) - 1 = (j : Int) := by omega
                have hwr : IntKind.i64.wrap ((k : Int) - 1) = (j : Int) := by rw [hsub]; exact IntWalk.i64_in _ ⟨by omega, by omega⟩
                clear hsub
                have hjl : j < ms.length := by omega
                have hj0 : (0 : Int) ≤ (j : Int) := Int.natCast_nonneg _
                have hj1 : (j : Int) < (ms.length : Int) := by omega
                have HJ := Lib.hid hj
                clear hj
                obtain ⟨ad', m', e2, hb', hm', hc'⟩ := (h.below hw2).rd.ask hjl
                cases e2
                obtain ⟨e', he', hre', hme', hmc', hraw'⟩ := (h.below hw2).hs.2 _ m' hm'.out
                have HE' := Lib.hid he'
                obtain ⟨d0, d1, d2, d3⟩ := hc'
                rw [hme'] at d0
                clear he' hmc' hme' hraw'
                have hre2 := hre.below hb12
                have hel : e.length ≤ 1000000 := by have := hE.1; omega
                have hel' : e'.length ≤ 1000000 := by have := (HTO.out.good j e' m' (by have := HJ.out; omega) HE'.out hm'.out).1.1; omega
                have HCMP := Lib.hid (fun W (b1 : Below w2.heap.size w2 W) => pcompare m'.X m.X m'.xc m.xc e' e W (hre'.below b1) (hre2.below b1) hel' hel)
                by_cases hlx : 0 < lexI e' e
                · have HLX := Lib.hid hlx
                  generalize hlg : lexI e' e = y at hlx HCMP
                  go_region_held3 (fun w' => w'.cell? ⟨w.heap.size, 1, none⟩ = some (.slice (some ad) ms.length c) ∧ w'.cell? (ad.add (j * 4)) = some (.slice m'.X e'.length m'.xc) ∧ w'.cell? ⟨wr.heap.size, 0, none⟩ = some (.slice m.X e.length m.xc)) (first | (with_reducible exact ⟨‹_›, ‹_›, ‹_›⟩) | go_keep)
                    ((go_at_call 86
                      refine (HCMP.out _ (by first | exact Below.refl _ _ | exact below_drew_ (Below.refl _ _) 1)).mono ?_
                      rintro e0 w3_ ⟨rfl, hw3⟩
                      have hbq : Below w2.heap.size w2 w3_ := by first | (rw [← hw3]; exact Below.refl _ _) | (rw [← hw3]; exact below_drew_ (Below.refl _ _) 1)
                      have s1 := (kp2.below hbq).facts.c1
                      have s2 := (hbq.cell (by rw [block_of_add]; exact hb')).trans d0
                      have s3 := (kb2.below hbq).facts.c0
                      clear hw3))
                  all_goals
                    go_wp2
                    go_roundw
                    case rel => exact ⟨k + 1, by omega, by go_num, HTO.out.succ HE.out hm.out hE hC (fun i a hi ha => by obtain rfl : i = j := by { have := HJ.out; omega }; rw [HE'.out] at ha; cases ha; exact HLX.out), hw2.trans (hbq.mono hw2.size), kp2.below hbq⟩
                    case measure => simp [intOf]; omega
                · obtain rfl : v = false := not_false_of HV.out fun hp => hlx (hp.all.desc j e' e (by have := HJ.out; omega) HE'.out (by rw [← HJ.out]; exact HE.out))
                  generalize hlg : lexI e' e = y at hlx HCMP
                  go_region_held3 (fun w' => w'.cell? ⟨w.heap.size, 1, none⟩ = some (.slice (some ad) ms.length c) ∧ w'.cell? (ad.add (j * 4)) = some (.slice m'.X e'.length m'.xc) ∧ w'.cell? ⟨wr.heap.size, 0, none⟩ = some (.slice m.X e.length m.xc)) (first | (with_reducible exact ⟨‹_›, ‹_›, ‹_›⟩) | go_keep)
                    ((go_at_call 86
                      refine (HCMP.out _ (by first | exact Below.refl _ _ | exact below_drew_ (Below.refl _ _) 1)).mono ?_
                      rintro e0 w3_ ⟨rfl, hw3⟩
                      have hbq : Below w2.heap.size w2 w3_ := by first | (rw [← hw3]; exact Below.refl _ _) | (rw [← hw3]; exact below_drew_ (Below.refl _ _) 1)
                      have s1 := (kp2.below hbq).facts.c1
                      have s2 := (hbq.cell (by rw [block_of_add]; exact hb')).trans d0
                      have s3 := (kb2.below hbq).facts.c0
                      clear hw3))
                  all_goals
                    go_wp2
                    go_ret
                    exact ⟨rfl, hw2.trans (hbq.mono hw2.size)⟩
            · obtain rfl : v = false := not_false_of HV.out fun hp => hC (hp.all.good k e m hlt HE.out hm.out).2
              clear HC
              go_wp2_with fail
              refine (pvalidExps n m.X m.xc e _ (hre.below hb1) h8 true ⟨fun _ => hE, fun _ => rfl⟩).mono ?_
              rintro e0 w2 ⟨rfl, rfl⟩
              go_wp2_with fail
              refine (pvalidCoef m.c _ (hraw.below hb1) false ⟨fun hh => (by cases hh), fun hh => absurd hh hC⟩).mono ?_
              rintro e0 w2 ⟨rfl, hb2⟩
              go_wp2
              go_ret
              exact ⟨rfl, hbw.trans ((hb1.trans (hb2.mono hb1.size)).mono hbw.size)⟩
          · obtain rfl : v = false := not_false_of HV.out fun hp => hE (hp.all.good k e m hlt HE.out hm.out).1
            clear HC
            go_wp2_with fail
            refine (pvalidExps n m.X m.xc e _ (hre.below hb1) h8 false ⟨fun hh => (by cases hh), fun hh => absurd hh hE⟩).mono ?_
            rintro e0 w2 ⟨rfl, rfl⟩
            go_wp2
            go_ret
            exact ⟨rfl, hbw.trans (hb1.mono hbw.size)⟩
        · obtain rfl : k = ms.length := by omega
          obtain rfl : v = true := HV.out.2 ⟨HN.out.1, HN.out.2, hl, HTO.out⟩
          go_wp2
          go_ret
          exact ⟨rfl, hbw⟩
    · obtain rfl : v = false := not_false_of HV.out fun hp => hl hp.len
      go_enter Tryz.func40, Tryz.ntmps40
      go_wp2_with fail
      refine (HC.out _).mono ?_
      rintro e0 w1 ⟨rfl, rfl⟩
      go_wp2
      go_ret
      exact ⟨rfl, hb0⟩
  · rw [decide_eq_false hn] at HC
    obtain rfl : v = false := not_false_of HV.out fun hp => hn ⟨hp.lo, hp.hi⟩
    go_enter Tryz.func40, Tryz.ntmps40
    go_wp2_with fail
    refine (HC.out _).mono ?_
    rintro e0 w1 ⟨rfl, rfl⟩
    go_wp2
    go_ret
    exact ⟨rfl, hb0⟩
end Go.Proofs.YtlbfoclhkdlafaaGreatDoor


/- A polynomial in normal form, unpacked and stored, is valid. -/
namespace Go.Proofs.YtlbfoclhkdlafaaGreatDoor
open Go.RowKit V

/-- The exponents as signed words. -/
def exI (m n : Nat) : List Int := (exL m n).map fun (x : Nat) => (x : Int)
theorem exI_len (m n : Nat) : (exI m n).length = n := by rw [exI, List.length_map, exL_len]
theorem exI_get (m n k : Nat) (h : k < n) : (exI m n)[k]? = some ((ex m k : Nat) : Int) := by
  rw [exI, List.getElem?_map, exL, List.getElem?_map, List.getElem?_range h]
  rfl
theorem div_step (a k : Nat) (h : k < 8) : a / 256 ^ (7 - k) = 256 * (a / 256 ^ (8 - k)) + ex a k := by
  have e : 8 - k = (7 - k) + 1 := by omega
  unfold ex
  rw [e, Nat.pow_succ, ← Nat.div_div_eq_div_mul]
  omega
theorem lex_pos {n a b : Nat} (hn : n ≤ 8) (hab : b / 256 ^ (8 - n) < a / 256 ^ (8 - n)) : ∀ j k, k + j = n → a / 256 ^ (8 - k) = b / 256 ^ (8 - k) → 0 < lexI ((exI a n).drop k) ((exI b n).drop k)
  | 0, k, h, e => by
    have : k = n := by omega
    subst this
    omega
  | j + 1, k, h, e => by
    have hk : k < n := by omega
    rw [lexI_step (exI_get a n k hk) (exI_get b n k hk)]
    have ha := div_step a k (by omega)
    have hb := div_step b k (by omega)
    rw [e] at ha
    by_cases h1 : ex a k < ex b k
    · exfalso
      have hlt : a / 256 ^ (7 - k) ≤ b / 256 ^ (7 - k) := by omega
      have key : ∀ x : Nat, x / 256 ^ (8 - n) = x / 256 ^ (8 - n) := fun _ => rfl
      have hlt2 : a / 256 ^ (7 - k) < b / 256 ^ (7 - k) := by omega
      -- a < b, so the quotients are in order
      have hab2 : a < b := by
        rcases Nat.lt_or_ge a b with h | h
        · exact h
        · have := Nat.div_le_div_right (c := 256 ^ (7 - k)) h
          omega
      have := Nat.div_le_div_right (c := 256 ^ (8 - n)) (Nat.le_of_lt hab2)
      omega
    · by_cases h2 : ex b k < ex a k
      · rw [if_neg (by omega), if_pos (by omega)]
        decide
      · rw [if_neg (by omega), if_neg (by omega)]
        refine lex_pos hn hab j (k + 1) (by omega) ?_
        have e3 : 8 - (k + 1) = 7 - k := by omega
        rw [e3, ha, hb]
        omega
/-- Only the first n variables stand in the monomial. -/
def On (n m : Nat) : Prop := m % 256 ^ (8 - n) = 0
theorem lex_on {n a b : Nat} (hn : n ≤ 8) (ha : a < 18446744073709551616) (hb : b < 18446744073709551616) (oa : On n a) (ob : On n b) (h : b < a) : 0 < lexI (exI a n) (exI b n) := by
  have e : b / 256 ^ (8 - n) < a / 256 ^ (8 - n) := by
    rcases Nat.lt_or_ge (b / 256 ^ (8 - n)) (a / 256 ^ (8 - n)) with h1 | h1
    · exact h1
    · have e1 := Nat.div_add_mod a (256 ^ (8 - n))
      have e2 := Nat.div_add_mod b (256 ^ (8 - n))
      unfold On at oa ob
      rw [oa] at e1
      rw [ob] at e2
      have := Nat.mul_le_mul_left (256 ^ (8 - n)) h1
      omega
  exact lex_pos hn e n 0 (by omega) (by rw [Nat.div_eq_of_lt (by simpa using ha), Nat.div_eq_of_lt (by simpa using hb)])
theorem exL_sum (m : Nat) : ∀ n, (exL m n).sum = degTo m n
  | 0 => rfl
  | n + 1 => by
    rw [exL_succ, List.sum_append, exL_sum m n]
    simp [degTo]
theorem degTo_mono (m : Nat) : ∀ {n k : Nat}, n ≤ k → degTo m n ≤ degTo m k
  | n, 0, h => by
    have : n = 0 := by omega
    subst this
    exact Nat.le_refl _
  | n, k + 1, h => by
    rcases Nat.lt_or_ge n (k + 1) with h1 | h1
    · have := degTo_mono m (n := n) (k := k) (by omega)
      simp only [degTo]
      omega
    · have : n = k + 1 := by omega
      subst this
      exact Nat.le_refl _
/-- A polynomial in n variables, in normal form, of limited size. -/
structure PIn (n : Nat) (p : PL) : Prop where
  nv : n ≤ 8
  nf : NF p
  len : p.length ≤ 4000
  fits : ∀ t ∈ p, TFits t.1 t.2
  words : Words p
  on : ∀ t ∈ p, On n t.1
theorem up_get (n : Nat) (p : PL) {j : Nat} {e : List Nat} {q : Rat} (h : (up n p)[j]? = some (e, q)) : ∃ m, p[j]? = some (m, q) ∧ e = exL m n := by
  rw [up, List.getElem?_map] at h
  cases hp : p[j]? with
  | none => rw [hp] at h; cases h
  | some t =>
    rw [hp] at h
    simp only [Option.map_some, Option.some.injEq, Prod.mk.injEq] at h
    exact ⟨t.1, by rw [← h.2], h.1.symm⟩
theorem RL.Is.raw_ {w : World} {a : RL} {q : Rat} (h : a.Is w q) : a.Raw w := ⟨h.rn, h.rd, h.cn, h.cd, h.mn.1, h.md.1⟩
theorem ARd.raw {w : World} {A : Option Addr} {ms : List MM} {n : Nat} {p : PL} (h : ARd w A ms (up n p)) : PRaw w A ms (p.map fun t => exI t.1 n) := by
  refine ⟨h.rd, by rw [h.hs.1, up, List.length_map, List.length_map], fun j m hm => ?_⟩
  obtain ⟨es, q, h1, h2, h3, h4, h5, _⟩ := h.hs.2 j m hm
  obtain ⟨x, h6, rfl⟩ := up_get n p h1
  exact ⟨exI x n, by rw [List.getElem?_map, h6]; rfl, h2.ints, by rw [h3, exL_len, exI_len], h4, h5.raw_⟩
theorem ARd.val {w : World} {A : Option Addr} {ms : List MM} {n : Nat} {p : PL} (h : ARd w A ms (up n p)) (hp : PIn n p) : PVal n ms (p.map fun t => exI t.1 n) := by
  have hl : ms.length = p.length := by rw [h.hs.1, up, List.length_map]
  have hnv := hp.nv
  refine ⟨by omega, by omega, by rw [hl]; exact hp.len, fun j e m _ he hm => ?_, fun j a b _ ha hb => ?_⟩
  · obtain ⟨es, q, h1, h2, h3, h4, h5, l1, l2⟩ := h.hs.2 j m hm
    obtain ⟨x, h6, rfl⟩ := up_get n p h1
    rw [List.getElem?_map, h6] at he
    injection he with he
    subst he
    have hx := List.mem_of_getElem? h6
    refine ⟨EV.of_nat (exL_len x n) ?_, ?_, l1, l2, h5.okv (by omega) (by omega)⟩
    · rw [exL_sum]
      exact Nat.le_trans (degTo_mono x hp.nv) (hp.fits _ hx).1
    · rcases Nat.eq_zero_or_pos m.c.ns.length with h0 | h0
      · exfalso
        have hz := h5.q.2.1
        rw [List.eq_nil_of_length_eq_zero h0] at hz
        have : q = 0 := by
          have hz2 : q.num.natAbs = 0 := by rw [← hz]; rfl
          exact Rat.num_eq_zero.1 (Int.natAbs_eq_zero.1 hz2)
        exact hp.nf.nz _ hx this
      · exact h0
  · rw [List.getElem?_map] at ha hb
    cases h1 : p[j]? with
    | none => rw [h1] at ha; cases ha
    | some x =>
      cases h2 : p[j + 1]? with
      | none => rw [h2] at hb; cases hb
      | some y =>
        rw [h1] at ha
        rw [h2] at hb
        injection ha with ha
        injection hb with hb
        subst ha hb
        obtain ⟨i1, e1⟩ := List.getElem?_eq_some_iff.1 h1
        obtain ⟨i2, e2⟩ := List.getElem?_eq_some_iff.1 h2
        have hlt := List.pairwise_iff_getElem.1 hp.nf.desc j (j + 1) i1 i2 (by omega)
        rw [e1, e2] at hlt
        exact lex_on hp.nv (hp.words _ (List.mem_of_getElem? h1)) (hp.words _ (List.mem_of_getElem? h2)) (hp.on _ (List.mem_of_getElem? h1)) (hp.on _ (List.mem_of_getElem? h2)) hlt
theorem packTo_exL {m n : Nat} (hm : m < 18446744073709551616) (hn : n ≤ 8) : ∀ k, k ≤ n → packTo (exL m n) k = 256 ^ (8 - k) * (m / 256 ^ (8 - k))
  | 0, _ => by
    show 0 = _
    rw [Nat.div_eq_of_lt (by simpa using hm), Nat.mul_zero]
  | k + 1, h => by
    have ih := packTo_exL hm hn k (by omega)
    simp only [packTo]
    rw [ih, exL_get m n k (by omega)]
    have e := div_step m k (by omega)
    have e1 : 8 - (k + 1) = 7 - k := by omega
    have e2 : 256 ^ (8 - k) = 256 ^ (7 - k) * 256 := by rw [← Nat.pow_succ]; congr 1; omega
    rw [e1, e, Nat.mul_add, e2, Nat.mul_assoc, Nat.mul_comm (ex m k)]
theorem pk_up {n : Nat} {p : PL} (h : PIn n p) : pk (up n p) = p := by
  unfold pk up
  rw [List.map_map]
  conv => rhs; rw [← List.map_id p]
  refine List.map_congr_left fun t ht => ?_
  · show (packL (exL t.1 n), t.2) = t
    have hl : packL (exL t.1 n) = t.1 := by
      unfold packL
      rw [exL_len, packTo_exL (h.words t ht) h.nv n (Nat.le_refl _)]
      have := Nat.div_add_mod t.1 (256 ^ (8 - n))
      have ho := h.on t ht
      unfold On at ho
      omega
    rw [hl]
theorem eok_up {n : Nat} {p : PL} (h : PIn n p) : EOk n (up n p) := ⟨h.nv, fun t ht => by
  obtain ⟨x, hx, rfl⟩ := List.mem_map.1 ht
  exact ⟨exL_len _ _, by
    show (exL x.1 n).sum ≤ 40
    rw [exL_sum]
    exact Nat.le_trans (degTo_mono x.1 h.nv) (h.fits x hx).1⟩⟩
end Go.Proofs.YtlbfoclhkdlafaaGreatDoor


/- The exponents of the reference: arrays of eight ints; before, Total. -/
attribute [local go_sem ↓] Go.wp_at_zero Go.wp_at_succ
namespace Go.Proofs.YtlbfoclhkdlafaaGreatDoor
open Go.RowKit V

/-- An array of ints, xs a value and in a block of its own. -/
abbrev arrV (xs : List Int) : Array Value := (xs.map (Value.int .i64)).toArray
def IRow (w : World) (g : Nat) (xs : List Int) : Prop := w.heap[g]? = some (.cells (arrV xs) 80 (0, 0))
theorem IRow.new (w : World) (xs : List Int) : IRow (w.alloc (.cells (arrV xs) 80)) w.heap.size xs := heap_alloc_new w _
theorem IRow.lt {w : World} {g : Nat} {xs : List Int} (h : IRow w g xs) : g < w.heap.size := by
  rcases Nat.lt_or_ge g w.heap.size with hlt | hge
  · exact hlt
  · unfold IRow at h; rw [Array.getElem?_eq_none hge] at h; cases h
theorem IRow.below {w w' : World} {g : Nat} {xs : List Int} (h : IRow w g xs) (hb : Below w.heap.size w w') : IRow w' g xs := (hb.block g h.lt).trans h
theorem IRow.alloc {w : World} {g : Nat} {xs : List Int} (h : IRow w g xs) (o : Obj) : IRow (w.alloc o) g xs := (Below.heap_alloc w o g h.lt).trans h
theorem IRow.cell {w : World} {g : Nat} {xs : List Int} (h : IRow w g xs) {k : Nat} {x : Int} (hk : xs[k]? = some x) : w.cell? ⟨g, k, none⟩ = some (.int .i64 x) := by
  rw [cell_of_row w g k _ _ (0, 0) h, List.getElem?_toArray, List.getElem?_map, hk]
  rfl
theorem IRow.frozen {w : World} {g : Nat} {xs : List Int} (h : IRow w g xs) (k : Nat) : w.frozen? ⟨g, k, none⟩ = false := by
  unfold IRow at h
  simp [World.frozen?, h]
theorem lexI_same : ∀ xs : List Int, lexI xs xs = 0
  | [] => rfl
  | x :: r => by rw [lexI, if_neg (by omega), if_neg (by omega), lexI_same r]
set_option maxRecDepth 100000 in
set_option maxHeartbeats 1600000 in
theorem pbefore (xs ys : List Int) (w : World) (la : xs.length = 8) (lb : ys.length = 8) :
    Calls Tryz.prog 87 #[.agg (arrV xs), .agg (arrV ys)] w (Gives (.bool (decide (0 < lexI xs ys))) w) := by
  have h1 := (IRow.new w xs).alloc (.cells (arrV ys) 80)
  have h2 := IRow.new (w.alloc (.cells (arrV xs) 80)) ys
  rw [show (w.alloc (.cells (arrV xs) 80)).heap.size = w.heap.size + 1 by simp] at h2
  have hb : Below w.heap.size w ((w.alloc (.cells (arrV xs) 80)).alloc (.cells (arrV ys) 80)) := ((Below.refl _ _).alloc (Nat.le_refl _) _).alloc (by simp) _
  obtain ⟨X, hX⟩ : ∃ X, arrV xs = X := ⟨_, rfl⟩
  obtain ⟨Y, hY⟩ : ∃ Y, arrV ys = Y := ⟨_, rfl⟩
  rw [hX, hY] at h1 h2 hb
  rw [hX, hY]
  clear hX hY
  obtain ⟨w1, hw1⟩ : ∃ x, (w.alloc (.cells X 80)).alloc (.cells Y 80) = x := ⟨_, rfl⟩
  rw [hw1] at h1 h2 hb
  have H1 := Lib.hid h1
  have H2 := Lib.hid h2
  have HW := Lib.hid hw1
  clear h1 h2 hw1
  go_enter Tryz.func87, Tryz.ntmps87
  go_wp2
  rw [HW.out]
  go_loopw [5, 6] (fun _ si wr => ∃ k : Nat, k ≤ 8 ∧ si = .int .i64 k ∧ Hid (lexI xs ys = lexI (xs.drop k) (ys.drop k)) ∧ Below w.heap.size w wr ∧ Below w1.heap.size w1 wr) (fun _ si _ => 8 - (intOf si).toNat)
  case atStart => exact ⟨0, by omega, rfl, rfl, hb, Below.refl _ _⟩
  case round =>
    obtain ⟨k, hk, rfl, hlex, hbw, hbw1⟩ := hrel
    by_cases hlt : k < 8
    · obtain ⟨a, ha⟩ : ∃ a, xs[k]? = some a := ⟨_, List.getElem?_eq_getElem (by omega)⟩
      obtain ⟨b, hb'⟩ : ∃ b, ys[k]? = some b := ⟨_, List.getElem?_eq_getElem (by omega)⟩
      have c1 := (H1.out.below hbw1).cell ha
      have c2 := (H2.out.below hbw1).cell hb'
      have HST := Lib.hid (lexI_step ha hb')
      clear ha hb'
      rcases Int.lt_trichotomy a b with hab | hab | hab
      · have HL : Hid (lexI xs ys = -1) := by show _ = _; rw [hlex.out, HST.out, if_pos hab]
        have hne : ¬ a = b := by omega
        go_upto_region 4 with fail
        go_region
        go_wp2_with fail
        go_region
        go_wp2_with fail
        go_ret
        exact ⟨by show Ending.returned (.bool (decide (b < a))) = _; rw [HL.out, decide_eq_false (by omega)]; rfl, hbw.drew.drew⟩
      · subst hab
        have HL : Hid (lexI xs ys = lexI (xs.drop (k + 1)) (ys.drop (k + 1))) := by show _ = _; rw [hlex.out, HST.out, if_neg (by omega), if_neg (by omega)]
        go_upto_region 4 with fail
        go_region
        go_wp2_with fail
        go_roundw
        case rel => exact ⟨k + 1, by omega, by go_num, HL, hbw.drew, hbw1.drew⟩
        case measure => simp [intOf]; omega
      · have HL : Hid (lexI xs ys = 1) := by show _ = _; rw [hlex.out, HST.out, if_neg (by omega), if_pos hab]
        have hne : ¬ a = b := by omega
        go_upto_region 4 with fail
        go_region
        go_wp2_with fail
        go_region
        go_wp2_with fail
        go_ret
        exact ⟨by rw [HL.out]; rfl, hbw.drew.drew⟩
    · obtain rfl : k = 8 := by omega
      have h0 : lexI xs ys = 0 := by
        rw [hlex.out, List.drop_eq_nil_of_le (by omega), List.drop_eq_nil_of_le (by omega)]
        rfl
      have H0 := Lib.hid h0
      clear h0
      go_wp2
      go_ret
      exact ⟨by rw [H0.out]; rfl, hbw⟩
end Go.Proofs.YtlbfoclhkdlafaaGreatDoor


/- isochroneref03.Valid, both ways; None. -/
attribute [local go_sem ↓] Go.wp_at_zero Go.wp_at_succ
namespace Go.Proofs.YtlbfoclhkdlafaaGreatDoor
open Go.RowKit V

/-- Exponents filled up to eight. -/
def fillI (e : List Int) (i : Nat) : List Int := e.take i ++ List.replicate (8 - i) 0
def pad (e : List Int) : List Int := fillI e e.length
theorem fillI_len {e : List Int} {i : Nat} (h : i ≤ e.length) (h8 : e.length ≤ 8) : (fillI e i).length = 8 := by
  rw [fillI, List.length_append, List.length_take, List.length_replicate]
  omega
theorem IRow.set_ {w : World} {g : Nat} {xs : List Int} (h : IRow w g xs) (i : Nat) (x : Int) : IRow (w.setCell ⟨g, i, none⟩ (.int .i64 x)) g (xs.set i x) := by
  unfold IRow at h ⊢
  simp [World.setCell, Array.getElem?_modify, h, arrV, List.map_set]
theorem IRow.far {w : World} {g : Nat} {xs : List Int} (h : IRow w g xs) {y i : Nat} (hne : g ≠ y) (u : Value) : IRow (w.setCell ⟨y, i, none⟩ u) g xs := (Below.heap_setCell w ⟨y, i, none⟩ u g hne).trans h
theorem eight {xs : List Int} (h : xs.length = 8) : ∃ a b c d e f g i, xs = [a, b, c, d, e, f, g, i] := by
  match xs, h with
  | [a, b, c, d, e, f, g, i], _ => exact ⟨a, b, c, d, e, f, g, i, rfl⟩
end Go.Proofs.YtlbfoclhkdlafaaGreatDoor


/- A valid polynomial that a caller hands in is one in normal form. -/
namespace Go.Proofs.YtlbfoclhkdlafaaGreatDoor
open Go.RowKit V

theorem packTo_mul (xs : List Nat) : ∀ k, k ≤ 8 → packTo xs k % 256 ^ (8 - k) = 0
  | 0, _ => by simp [packTo]
  | k + 1, h => by
    have ih := packTo_mul xs k (by omega)
    have e1 : 8 - (k + 1) = 7 - k := by omega
    have e2 : 256 ^ (8 - k) = 256 ^ (7 - k) * 256 := by rw [← Nat.pow_succ]; congr 1; omega
    rw [e2] at ih
    rw [e1]
    obtain ⟨q, hq⟩ := Nat.dvd_of_mod_eq_zero ih
    simp only [packTo]
    rw [hq, Nat.mul_assoc, Nat.mul_comm (xs.getD k 0), ← Nat.mul_add]
    exact Nat.mul_mod_right _ _
theorem packTo_ex (xs : List Nat) (hx : ∀ x ∈ xs, x < 256) : ∀ k, k ≤ 8 → ∀ i, i < k → ex (packTo xs k) i = xs.getD i 0
  | 0, _, i, hi => by omega
  | k + 1, h, i, hi => by
    have hd : xs.getD k 0 < 256 := dig_getD hx (by omega) k
    have hm := packTo_mul xs k (by omega)
    have e2 : 256 ^ (8 - k) = 256 ^ (7 - k) * 256 := by rw [← Nat.pow_succ]; congr 1; omega
    obtain ⟨q, hq⟩ := Nat.dvd_of_mod_eq_zero hm
    have hp : 0 < 256 ^ (7 - k) := Nat.pow_pos (by omega)
    simp only [packTo]
    rcases Nat.lt_or_ge i k with hlt | hge
    · have ih := packTo_ex xs hx k (by omega) i hlt
      rw [← ih]
      unfold ex
      have e3 : 256 ^ (7 - i) = 256 ^ (8 - k) * 256 ^ (k - 1 - i) := by rw [← Nat.pow_add]; congr 1; omega
      rw [e3, ← Nat.div_div_eq_div_mul, ← Nat.div_div_eq_div_mul, hq]
      congr 2
      have h8 : 0 < 256 ^ (8 - k) := Nat.pow_pos (by omega)
      rw [Nat.mul_add_div h8, Nat.mul_div_cancel_left _ h8, Nat.div_eq_of_lt, Nat.add_zero]
      rw [e2, Nat.mul_comm]
      exact (Nat.mul_lt_mul_left hp).2 hd
    · obtain rfl : i = k := by omega
      unfold ex
      rw [hq, e2, Nat.mul_assoc, Nat.mul_comm (xs.getD i 0), ← Nat.mul_add, Nat.mul_div_cancel_left _ hp]
      omega
theorem exL_packL {xs : List Nat} (hl : xs.length ≤ 8) (hx : ∀ x ∈ xs, x < 256) : exL (packL xs) xs.length = xs := by
  refine List.ext_getElem (by rw [exL_len]) fun i h1 h2 => ?_
  have h3 := packTo_ex xs hx xs.length hl i h2
  have h4 := exL_get (packL xs) xs.length i h2
  rw [List.getD_eq_getElem?_getD, List.getElem?_eq_getElem h1] at h4
  rw [List.getD_eq_getElem?_getD, List.getElem?_eq_getElem h2] at h3
  exact h4.trans h3
theorem on_packL {xs : List Nat} (hl : xs.length ≤ 8) : On xs.length (packL xs) := packTo_mul xs xs.length hl
theorem packL_lt {xs : List Nat} (hl : xs.length ≤ 8) (hx : ∀ x ∈ xs, x < 256) : packL xs < 18446744073709551616 := packTo_lt xs hx _ hl
theorem ex_on {n m i : Nat} (ho : On n m) (h1 : n ≤ i) (h2 : i < 8) : ex m i = 0 := by
  unfold ex
  unfold On at ho
  obtain ⟨q, rfl⟩ := Nat.dvd_of_mod_eq_zero ho
  have e : 256 ^ (8 - n) = 256 ^ (7 - i) * (256 * 256 ^ (i - n)) := by
    rw [← Nat.pow_succ', ← Nat.pow_add]; congr 1; omega
  rw [e, Nat.mul_assoc, Nat.mul_div_cancel_left _ (Nat.pow_pos (by omega)), Nat.mul_assoc, Nat.mul_mod_right]
theorem degTo_on {n m : Nat} (ho : On n m) : ∀ k, n ≤ k → k ≤ 8 → degTo m k = degTo m n
  | 0, h, _ => by obtain rfl : n = 0 := by omega
                  rfl
  | k + 1, h, h8 => by
    rcases Nat.lt_or_ge k n with hlt | hge
    · obtain rfl : n = k + 1 := by omega
      rfl
    · show degTo m k + ex m k = _
      rw [degTo_on ho k hge (by omega), ex_on ho hge (by omega), Nat.add_zero]
theorem deg_packL {xs : List Nat} (hl : xs.length ≤ 8) (hx : ∀ x ∈ xs, x < 256) : deg (packL xs) = xs.sum := by
  unfold deg
  rw [degTo_on (on_packL hl) 8 hl (Nat.le_refl _), ← exL_sum, exL_packL hl hx]
theorem lexI_anti : ∀ {a b : List Int}, 0 < lexI a b → 0 < lexI b a → False
  | [], [], h1, _ => by simp [lexI] at h1
  | [], _ :: _, h1, _ => by simp [lexI] at h1
  | _ :: _, [], _, h2 => by simp [lexI] at h2
  | x :: r, y :: s, h1, h2 => by
    rw [lexI] at h1 h2
    split at h1
    · omega
    · split at h1
      · rw [if_pos (by omega)] at h2; omega
      · rw [if_neg (by omega), if_neg (by omega)] at h2
        exact lexI_anti h1 h2
theorem on_lex {n a b : Nat} (hn : n ≤ 8) (ha : a < 18446744073709551616) (hb : b < 18446744073709551616) (oa : On n a) (ob : On n b) (h : 0 < lexI (exI a n) (exI b n)) : b < a := by
  rcases Nat.lt_trichotomy a b with h1 | h1 | h1
  · exact (lexI_anti h (lex_on hn hb ha ob oa h1)).elim
  · rw [h1, lexI_same] at h; omega
  · exact h1
/-- The polynomial that a caller hands in. -/
def polyOf (ms : List MM) (es : List (List Int)) : PL := List.zipWith (fun m e => (packL (e.map Int.toNat), mkRat (sgn m.c.s (V32 m.c.ns)) (V32 m.c.ds))) ms es
theorem polyOf_get {ms : List MM} {es : List (List Int)} {j : Nat} {m : MM} {e : List Int} (hm : ms[j]? = some m) (he : es[j]? = some e) : (polyOf ms es)[j]? = some (packL (e.map Int.toNat), mkRat (sgn m.c.s (V32 m.c.ns)) (V32 m.c.ds)) := by
  rw [polyOf, List.getElem?_zipWith, hm, he]
theorem EV.toNat {n : Int} {e : List Int} (h : EV n e) : e = (e.map Int.toNat).map (fun (x : Nat) => (x : Int)) ∧ ((e.map Int.toNat).length : Int) = n ∧ (e.map Int.toNat).sum ≤ 40 := by
  obtain ⟨ns, rfl, h2, h3⟩ := h.nat
  have e1 : (ns.map (fun (x : Nat) => (x : Int))).map Int.toNat = ns := by
    rw [List.map_map]
    conv => rhs; rw [← List.map_id ns]
    exact List.map_congr_left fun x _ => Int.toNat_natCast x
  rw [e1]
  exact ⟨rfl, h2, h3⟩
theorem fits_of_len {w : World} {r : RL} {q : Rat} (h : r.Is w q) (l1 : r.ns.length ≤ 200) (l2 : r.ds.length ≤ 200) : WFits q 200 := by
  obtain ⟨_, h2, h3⟩ := h.q
  exact ⟨by rw [← h2]; exact V32_lt h.mn l1, .inr (by rw [← h3]; exact V32_lt h.md l2)⟩
theorem PRaw.poly {w : World} {A : Option Addr} {n : Nat} {ms : List MM} {es : List (List Int)} (h : PRaw w A ms es) (hv : PVal n ms es) : ARd w A ms (up n (polyOf ms es)) ∧ PIn n (polyOf ms es) := by
  have hn : n ≤ 8 := by have := hv.hi; omega
  have hll : ms.length = es.length := h.hs.1
  have hpl : (polyOf ms es).length = ms.length := by rw [polyOf, List.length_zipWith]; omega
  have key : ∀ (j : Nat) (m : MM), ms[j]? = some m → ∃ (xs : List Nat) (q : Rat), es[j]? = some (xs.map fun (x : Nat) => (x : Int)) ∧ (polyOf ms es)[j]? = some (packL xs, q) ∧ xs.length = n ∧ xs.sum ≤ 40 ∧ (∀ x ∈ xs, x < 256) ∧
      Rd .i64 w m.X xs ∧ m.n = n ∧ m.n ≤ m.xc ∧ m.c.Is w q ∧ m.c.ns.length ≤ 200 ∧ m.c.ds.length ≤ 200 ∧ q ≠ 0 := fun j m hm => by
    obtain ⟨e, h1, h2, h3, h4, h5⟩ := h.hs.2 j m hm
    have hj := (List.getElem?_eq_some_iff.1 hm).1
    obtain ⟨g1, g2⟩ := hv.all.good j e m hj h1 hm
    obtain ⟨e1, e2, e3⟩ := g1.toNat
    obtain ⟨p1, l1, l2, vv⟩ := g2
    have hq := h5.is vv
    refine ⟨e.map Int.toNat, _, by rw [h1]; exact congrArg some e1, polyOf_get hm h1, by omega, e3, fun x hx => by have := le_sum hx; omega, ?_, ?_, h4, hq, l1, l2, fun h0 => ?_⟩
    · rw [e1] at h2; exact h2.rd
    · rw [h3]
      have e4 : (e.map Int.toNat).length = e.length := List.length_map _
      omega
    · have h6 := hq.q.2.1
      rw [h0] at h6
      have h7 : 0 < V32 m.c.ns := V32_pos hq.mn p1
      rw [h6] at h7
      exact absurd h7 (by decide)
  have hat : ∀ (j : Nat) (t : Nat × Rat), (polyOf ms es)[j]? = some t → ∃ m, ms[j]? = some m := fun j t ht => by
    have hj := (List.getElem?_eq_some_iff.1 ht).1
    exact ⟨ms[j]'(by omega), List.getElem?_eq_getElem (by omega)⟩
  refine ⟨⟨h.rd, by rw [up, List.length_map, hpl], fun j m hm => ?_⟩, hn, ⟨?_, fun t ht => ?_⟩, by rw [hpl]; exact hv.len, fun t ht => ?_, fun t ht => ?_, fun t ht => ?_⟩
  · obtain ⟨xs, q, k1, k2, k3, k4, k5, k6, k7, k8, k9, l1, l2, _⟩ := key j m hm
    refine ⟨xs, q, ?_, k6, by omega, k8, k9, l1, l2⟩
    rw [up, List.getElem?_map, k2]
    show some (exL (packL xs) n, q) = some (xs, q)
    rw [← k3, exL_packL (by omega) k5]
  · refine List.pairwise_iff_getElem.2 fun i j hi hj hij => ?_
    -- consecutive terms descend, so all do
    have step : ∀ (a : Nat) (h1 : a < (polyOf ms es).length) (h2 : a + 1 < (polyOf ms es).length), (polyOf ms es)[a + 1].1 < (polyOf ms es)[a].1 := fun a h1 h2 => by
      obtain ⟨m1, hm1⟩ := hat a _ (List.getElem?_eq_getElem h1)
      obtain ⟨m2, hm2⟩ := hat (a + 1) _ (List.getElem?_eq_getElem h2)
      obtain ⟨xs, q, k1, k2, k3, k4, k5, _⟩ := key a m1 hm1
      obtain ⟨ys, r, j1, j2, j3, j4, j5, _⟩ := key (a + 1) m2 hm2
      have e1 := List.getElem?_eq_getElem h1
      have e2 := List.getElem?_eq_getElem h2
      rw [k2] at e1
      rw [j2] at e2
      injection e1 with e1
      injection e2 with e2
      rw [← e1, ← e2]
      have hd := hv.all.desc a _ _ (by omega) k1 j1
      have x1 : exI (packL xs) n = xs.map fun (x : Nat) => (x : Int) := by rw [exI, ← k3, exL_packL (by omega) k5]
      have x2 : exI (packL ys) n = ys.map fun (x : Nat) => (x : Int) := by rw [exI, ← j3, exL_packL (by omega) j5]
      refine on_lex hn (packL_lt (by omega) k5) (packL_lt (by omega) j5) ?_ ?_ (by rw [x1, x2]; exact hd)
      · have := on_packL (xs := xs) (by omega); rwa [k3] at this
      · have := on_packL (xs := ys) (by omega); rwa [j3] at this
    have all : ∀ (d a : Nat) (h1 : a < (polyOf ms es).length) (h2 : a + (d + 1) < (polyOf ms es).length), (polyOf ms es)[a + (d + 1)].1 < (polyOf ms es)[a].1 := fun d => by
      induction d with
      | zero => exact fun a h1 h2 => step a h1 h2
      | succ d ih => exact fun a h1 h2 => Nat.lt_trans (step (a + (d + 1)) (by omega) (by omega)) (ih a h1 (by omega))
    have := all (j - i - 1) i hi (by omega)
    have e : i + (j - i - 1 + 1) = j := by omega
    simpa only [e] using this
  all_goals
    obtain ⟨j, hj⟩ := List.getElem?_of_mem ht
    obtain ⟨m, hm⟩ := hat j t hj
    obtain ⟨xs, q, k1, k2, k3, k4, k5, k6, k7, k8, k9, l1, l2, k10⟩ := key j m hm
    rw [hj] at k2
    injection k2 with k2
    subst k2
  · exact k10
  · exact ⟨by rw [deg_packL (by omega) k5]; exact k4, fits_of_len k9 l1 l2⟩
  · exact packL_lt (by omega) k5
  · have := on_packL (xs := xs) (by omega); rwa [k3] at this
end Go.Proofs.YtlbfoclhkdlafaaGreatDoor

