/- poly.Valid. -/
import Derived.Test.YtgemlnnpnlpbeaaGreatDoorPFR25
attribute [local go_sem ↓] Go.wp_at_zero Go.wp_at_succ
namespace Go.Proofs.YtgemlnnpnlpbeaaGreatDoor
open Go.RowKit V

/-- A polynomial as a caller may hand it in: what its terms hold. -/
def RHolds (w : World) (ms : List MM) (es : List (List Int)) : Prop := ms.length = es.length ∧ ∀ (j : Nat) (m : MM), ms[j]? = some m → ∃ e, es[j]? = some e ∧ RdI w m.X e ∧ m.n = e.length ∧ m.n ≤ m.xc ∧ m.c.Raw w
structure PRaw (w : World) (A : Option Addr) (ms : List MM) (es : List (List Int)) : Prop where
  rd : MRd w A ms
  hs : RHolds w ms es
theorem PRaw.below {w w' : World} {A : Option Addr} {ms : List MM} {es : List (List Int)} (h : PRaw w A ms es) (hb : Below w.heap.size w w') : PRaw w' A ms es :=
  ⟨h.rd.below hb, h.hs.1, fun j m hm => by obtain ⟨e, h1, h2, h3, h4, h5⟩ := h.hs.2 j m hm; exact ⟨e, h1, h2.below hb, h3, h4, h5.below hb⟩⟩
/-- The first k terms are good. -/
structure PVto (n : Int) (ms : List MM) (es : List (List Int)) (k : Nat) : Prop where
  good : ∀ j e m, j < k → es[j]? = some e → ms[j]? = some m → EV n e ∧ m.c.CV
  desc : ∀ j a b, j + 1 < k → es[j]? = some a → es[j + 1]? = some b → 0 < lexI a b
/-- The polynomial is valid. -/
structure PVal (n : Int) (ms : List MM) (es : List (List Int)) : Prop where
  lo : 0 ≤ n
  hi : n ≤ 8
  len : ms.length ≤ 4000
  all : PVto n ms es ms.length
theorem PVto.zero (n : Int) (ms : List MM) (es : List (List Int)) : PVto n ms es 0 := ⟨fun j e m h => by omega, fun j a b h => by omega⟩
theorem PVto.succ {n : Int} {ms : List MM} {es : List (List Int)} {k : Nat} (h : PVto n ms es k) {e : List Int} {m : MM} (he : es[k]? = some e) (hm : ms[k]? = some m) (h1 : EV n e) (h2 : m.c.CV) (h3 : ∀ j a, k = j + 1 → es[j]? = some a → 0 < lexI a e) : PVto n ms es (k + 1) := by
  refine ⟨fun j e' m' hj he' hm' => ?_, fun j a b hj ha hb => ?_⟩
  · rcases Nat.lt_or_ge j k with hlt | hge
    · exact h.good j e' m' hlt he' hm'
    · obtain rfl : j = k := by omega
      rw [he] at he'; rw [hm] at hm'
      cases he'; cases hm'
      exact ⟨h1, h2⟩
  · rcases Nat.lt_or_ge (j + 1) k with hlt | hge
    · exact h.desc j a b hlt ha hb
    · obtain rfl : k = j + 1 := by omega
      rw [he] at hb
      cases hb
      exact h3 j a rfl ha
theorem not_false_of {v : Bool} {P : Prop} (hv : v = true ↔ P) (h : ¬ P) : v = false := by
  cases hb : v with
  | false => rfl
  | true => exact absurd (hv.1 hb) h
set_option maxRecDepth 100000 in
set_option maxHeartbeats 1600000 in
theorem pvalid (n : Int) (A : Option Addr) (c : Nat) (ms : List MM) (es : List (List Int)) (w : World) (h : PRaw w A ms es) (v : Bool) (hv : v = true ↔ PVal n ms es) :
    Calls Tryz.prog 40 #[.agg #[.int .i64 n, .slice A ms.length c]] w (Gives (.bool v) w) := by
  have HV := Lib.hid hv
  clear hv
  have HC := Lib.hid (pisCount n)
  have hb0 : Below w.heap.size w (w.alloc (.cells #[.int .i64 n, .slice A ms.length c] 24)) := (Below.refl _ _).alloc (Nat.le_refl _) _
  have kp := Blk2c.new 24 w (.int .i64 n) (.slice A ms.length c)
  by_cases hn : 0 ≤ n ∧ n ≤ 8
  · rw [decide_eq_true hn] at HC
    by_cases hl : ms.length ≤ 4000
    · have h8 := hn.2
      have HN := Lib.hid hn
      clear hn
      go_enter Tryz.func40, Tryz.ntmps40
      go_wp2_with fail
      refine (HC.out _).mono ?_
      rintro e0 w1 ⟨rfl, rfl⟩
      go_wp2
      go_loopw [3, 4, 18] (fun _ _ i wr => ∃ k : Nat, k ≤ ms.length ∧ i = .int .i64 k ∧ Hid (PVto n ms es k) ∧ Below w.heap.size w wr ∧ Blk2c 24 wr w.heap.size (.int .i64 n) (.slice A ms.length c)) (fun _ _ i _ => ms.length - (intOf i).toNat)
      case atStart => exact ⟨0, Nat.zero_le _, rfl, PVto.zero _ _ _, hb0, kp⟩
      case round =>
        obtain ⟨k, hk, rfl, HTO, hbw, kp1⟩ := hrel
        clear hb0 kp
        by_cases hlt : k < ms.length
        · obtain ⟨ad, m, rfl, hb, hm, hc⟩ := (h.below hbw).rd.ask hlt
          obtain ⟨e, he, hre, hme, hmc, hraw⟩ := (h.below hbw).hs.2 _ m hm.out
          have HE := Lib.hid he
          obtain ⟨c0, c1, c2, c3⟩ := hc
          have kb := Blk4.new 79 wr (.slice m.X e.length m.xc) (.bool m.c.s) (.slice m.c.N m.c.ns.length m.c.nc) (.slice m.c.D m.c.ds.length m.c.dc)
          have hb1 : Below wr.heap.size wr (wr.alloc (.cells #[.slice m.X e.length m.xc, .bool m.c.s, .slice m.c.N m.c.ns.length m.c.nc, .slice m.c.D m.c.ds.length m.c.dc] 79)) := (Below.refl _ _).alloc (Nat.le_refl _) _
          rw [hme] at c0
          clear he hmc
          obtain ⟨q0, q1, q2, q3, hplt⟩ := kp1.facts
          have hne1 : ¬ wr.heap.size = w.heap.size := by omega
          have hne2 : ¬ w.heap.size = wr.heap.size := by omega
          by_cases hE : EV n e
          · by_cases hC : m.c.CV
            · clear HC
              go_wp2_with fail
              refine (pvalidExps n m.X m.xc e _ (hre.below hb1) h8 true ⟨fun _ => hE, fun _ => rfl⟩).mono ?_
              rintro e0 w2 ⟨rfl, rfl⟩
              go_wp2_with fail
              refine (pvalidCoef m.c _ (hraw.below hb1) true ⟨fun _ => hC, fun _ => rfl⟩).mono ?_
              rintro e0 w2 ⟨rfl, hb2⟩
              have hb12 := hb1.trans (hb2.mono hb1.size)
              have kp2 := kp1.below hb12
              have kb2 := kb.below hb2
              have hw2 := hbw.trans (hb12.mono hbw.size)
              obtain ⟨p0, p1, p2, p3, p4⟩ := kp2.facts
              obtain ⟨a0, a1, a2, a3, a4, a5, a6, a7, a8⟩ := kb2.facts
              clear c0 c1 c2 c3 q0 q1 q2 q3
              go_upto_region 8 with fail
              by_cases hk0 : k = 0
              · have hT : decide (0 < k) = false := decide_eq_false (by omega)
                have HK0 := Lib.hid hk0
                clear hk0
                refine wp_region_held_drew (S := fun w' => w'.cell? ⟨w.heap.size, 1, none⟩ = some (.slice (some ad) ms.length c)) (by kernel_rfl) ?_ (fun hHeld => ?_)
                · first | exact ⟨‹_›⟩ | go_keep
                refine wpAnyH_take (i := 0) (v := ?v0) rfl (by kernel_rfl) (by kernel_rfl) (by kernel_rfl) (fun _ _ _ h => h) (Or.inl ⟨by rfl, ?hy0⟩) (by assumption) ?rest0
                case hy0 =>
                  intro w hSw
                  (try dsimp only at hSw)
                  go_simp
                  all_goals with_reducible rfl
                simp only [Act.put, List.getElem_toArray, List.getElem_cons_zero, List.setIfInBounds_toArray, List.set_cons_zero, List.set_cons_succ]
                refine wpAnyH_take (i := 1) (v := ?v1) rfl (by kernel_rfl) (by kernel_rfl) (by kernel_rfl) (fun _ _ _ h => h) (Or.inl ⟨by rfl, ?hy1⟩) (by assumption) ?rest1
                case hy1 =>
                  intro w hSw
                  (try dsimp only at hSw)
                  go_simp
                  all_goals with_reducible rfl
                simp only [Act.put, List.getElem_toArray, List.getElem_cons_zero, List.getElem_cons_succ, List.setIfInBounds_toArray, List.set_cons_zero, List.set_cons_succ]
                refine wpAnyH_take (i := 2) (v := ?v2) rfl (by kernel_rfl) (by kernel_rfl) (by kernel_rfl) (fun _ _ _ h => h) (Or.inl ⟨by rfl, ?hy2⟩) (by assumption) ?rest2
                case hy2 =>
                  intro w hSw
                  (try dsimp only at hSw)
                  go_simp
                  all_goals with_reducible rfl
                simp only [Act.put, List.getElem_toArray, List.getElem_cons_zero, List.getElem_cons_succ, List.setIfInBounds_toArray, List.set_cons_zero, List.set_cons_succ]
                refine wpAnyH_take (i := 3) (v := undef) rfl (by kernel_rfl) (by kernel_rfl) (by kernel_rfl) (fun _ _ _ h => h) (Or.inr ⟨by rfl, rfl⟩) (by assumption) ?rest3
                simp only [Act.put, List.getElem_toArray, List.getElem_cons_zero, List.getElem_cons_succ, List.setIfInBounds_toArray, List.set_cons_zero, List.set_cons_succ]
                refine wpAnyH_take (i := 4) (v := undef) rfl (by kernel_rfl) (by kernel_rfl) (by kernel_rfl) (fun _ _ _ h => h) (Or.inr ⟨by rfl, rfl⟩) (by assumption) ?rest4
                simp only [Act.put, List.getElem_toArray, List.getElem_cons_zero, List.getElem_cons_succ, List.setIfInBounds_toArray, List.set_cons_zero, List.set_cons_succ]
                refine wpAnyH_take (i := 5) (v := undef) rfl (by kernel_rfl) (by kernel_rfl) (by kernel_rfl) (fun _ _ _ h => h) (Or.inr ⟨by rfl, rfl⟩) (by assumption) ?rest5
                simp only [Act.put, List.getElem_toArray, List.getElem_cons_zero, List.getElem_cons_succ, List.setIfInBounds_toArray, List.set_cons_zero, List.set_cons_succ]
                refine wpAnyH_take (i := 6) (v := undef) rfl (by kernel_rfl) (by kernel_rfl) (by kernel_rfl) (fun _ _ _ h => h) (Or.inr ⟨by rfl, rfl⟩) (by assumption) ?rest6
                simp only [Act.put, List.getElem_toArray, List.getElem_cons_zero, List.getElem_cons_succ, List.setIfInBounds_toArray, List.set_cons_zero, List.set_cons_succ]
                refine wpAnyH_take (i := 7) (v := undef) rfl (by kernel_rfl) (by kernel_rfl) (by kernel_rfl) (fun _ _ _ h => h) (Or.inr ⟨by rfl, rfl⟩) (by assumption) ?rest7
                simp only [Act.put, List.getElem_toArray, List.getElem_cons_zero, List.getElem_cons_succ, List.setIfInBounds_toArray, List.set_cons_zero, List.set_cons_succ]
                refine wpAnyH_take (i := 8) (v := undef) rfl (by kernel_rfl) (by kernel_rfl) (by kernel_rfl) (fun _ _ _ h => h) (Or.inr ⟨by rfl, rfl⟩) (by assumption) ?rest8
                simp only [Act.put, List.getElem_toArray, List.getElem_cons_zero, List.getElem_cons_succ, List.setIfInBounds_toArray, List.set_cons_zero, List.set_cons_succ]
                refine wpAnyH_take (i := 9) (v := undef) rfl (by kernel_rfl) (by kernel_rfl) (by kernel_rfl) (fun _ _ _ h => h) (Or.inr ⟨by rfl, rfl⟩) (by assumption) ?rest9
                simp only [Act.put, List.getElem_toArray, List.getElem_cons_zero, List.getElem_cons_succ, List.setIfInBounds_toArray, List.set_cons_zero, List.set_cons_succ]
                refine wpAnyH_take (i := 10) (v := undef) rfl (by kernel_rfl) (by kernel_rfl) (by kernel_rfl) (fun _ _ _ h => h) (Or.inr ⟨by rfl, rfl⟩) (by assumption) ?rest10
                simp only [Act.put, List.getElem_toArray, List.getElem_cons_zero, List.getElem_cons_succ, List.setIfInBounds_toArray, List.set_cons_zero, List.set_cons_succ]
                refine wpAnyH_take (i := 11) (v := undef) rfl (by kernel_rfl) (by kernel_rfl) (by kernel_rfl) (fun _ _ _ h => h) (Or.inr ⟨by rfl, rfl⟩) (by assumption) ?rest11
                simp only [Act.put, List.getElem_toArray, List.getElem_cons_zero, List.getElem_cons_succ, List.setIfInBounds_toArray, List.set_cons_zero, List.set_cons_succ]
                refine wpAnyH_take (i := 12) (v := undef) rfl (by kernel_rfl) (by kernel_rfl) (by kernel_rfl) (fun _ _ _ h => h) (Or.inr ⟨by rfl, rfl⟩) (by assumption) ?rest12
                simp only [Act.put, List.getElem_toArray, List.getElem_cons_zero, List.getElem_cons_succ, List.setIfInBounds_toArray, List.set_cons_zero, List.set_cons_succ]
                refine wpAnyH_take (i := 13) (v := undef) rfl (by kernel_rfl) (by kernel_rfl) (by kernel_rfl) (fun _ _ _ h => h) (Or.inr ⟨by rfl, rfl⟩) (by assumption) ?rest13
                simp only [Act.put, List.getElem_toArray, List.getElem_cons_zero, List.getElem_cons_succ, List.setIfInBounds_toArray, List.set_cons_zero, List.set_cons_succ]
                refine wpAnyH_take (i := 14) (v := ?v14) rfl (by kernel_rfl) (by kernel_rfl) (by kernel_rfl) (fun _ _ _ h => h) (Or.inl ⟨by rfl, ?hy14⟩) (by assumption) ?rest14
                case hy14 =>
                  intro w hSw
                  (try dsimp only at hSw)
                  go_simp
                  all_goals with_reducible rfl
                simp only [Act.put, List.getElem_toArray, List.getElem_cons_zero, List.getElem_cons_succ, List.setIfInBounds_toArray, List.set_cons_zero, List.set_cons_succ]
                refine wpAnyH_done (by kernel_rfl) ?_ _
                go_wp2
                go_roundw
                case rel => exact ⟨k + 1, by omega, by go_num, HTO.out.succ HE.out hm.out hE hC (fun j a hj => by have := HK0.out; omega), by first | exact hw2 | exact below_drew_ hw2 1, by first | exact kp2 | exact kp2.below (below_drew_ (Below.refl _ _) 1)⟩
                case measure => simp [intOf]; omega
              · have hT : decide (0 < k) = true := decide_eq_true (by omega)
                obtain ⟨j, hj⟩ : ∃ j, k = j + 1 := ⟨k - 1, by omega⟩
                have hsub : (k : Int) - 1 = (j : Int) := by omega
                have hwr : IntKind.i64.wrap ((k : Int) - 1) = (j : Int) := by rw [hsub]; exact IntWalk.i64_in _ ⟨by omega, by omega⟩
                clear hsub
                have hjl : j < ms.length := by omega
                have hj0 : (0 : Int) ≤ (j : Int) := Int.natCast_nonneg _
                have hj1 : (j : Int) < (ms.length : Int) := by omega
                have HJ := Lib.hid hj
                clear hj
                obtain ⟨ad', m', e2, hb', hm', hc'⟩ := (h.below hw2).rd.ask hjl
                cases e2
                obtain ⟨e', he', hre', hme', hmc', hraw'⟩ := (h.below hw2).hs.2 _ m' hm'.out
                have HE' := Lib.hid he'
                obtain ⟨d0, d1, d2, d3⟩ := hc'
                rw [hme'] at d0
                clear he' hmc' hme' hraw'
                have hre2 := hre.below hb12
                have hel : e.length ≤ 1000000 := by have := hE.1; omega
                have hel' : e'.length ≤ 1000000 := by have := (HTO.out.good j e' m' (by have := HJ.out; omega) HE'.out hm'.out).1.1; omega
                have HCMP := Lib.hid (fun W (b1 : Below w2.heap.size w2 W) => pcompare m'.X m.X m'.xc m.xc e' e W (hre'.below b1) (hre2.below b1) hel' hel)
                by_cases hlx : 0 < lexI e' e
                · have HLX := Lib.hid hlx
                  generalize hlg : lexI e' e = y at hlx HCMP
                  go_region_held3 (fun w' => w'.cell? ⟨w.heap.size, 1, none⟩ = some (.slice (some ad) ms.length c) ∧ w'.cell? (ad.add (j * 4)) = some (.slice m'.X e'.length m'.xc) ∧ w'.cell? ⟨wr.heap.size, 0, none⟩ = some (.slice m.X e.length m.xc)) (first | (with_reducible exact ⟨‹_›, ‹_›, ‹_›⟩) | go_keep)
                    ((go_at_call 86
                      refine (HCMP.out _ (by first | exact Below.refl _ _ | exact below_drew_ (Below.refl _ _) 1)).mono ?_
                      rintro e0 w3_ ⟨rfl, hw3⟩
                      have hbq : Below w2.heap.size w2 w3_ := by first | (rw [← hw3]; exact Below.refl _ _) | (rw [← hw3]; exact below_drew_ (Below.refl _ _) 1)
                      have s1 := (kp2.below hbq).facts.c1
                      have s2 := (hbq.cell (by rw [block_of_add]; exact hb')).trans d0
                      have s3 := (kb2.below hbq).facts.c0
                      clear hw3))
                  all_goals
                    go_wp2
                    go_roundw
                    case rel => exact ⟨k + 1, by omega, by go_num, HTO.out.succ HE.out hm.out hE hC (fun i a hi ha => by obtain rfl : i = j := by { have := HJ.out; omega }; rw [HE'.out] at ha; cases ha; exact HLX.out), hw2.trans (hbq.mono hw2.size), kp2.below hbq⟩
                    case measure => simp [intOf]; omega
                · obtain rfl : v = false := not_false_of HV.out fun hp => hlx (hp.all.desc j e' e (by have := HJ.out; omega) HE'.out (by rw [← HJ.out]; exact HE.out))
                  generalize hlg : lexI e' e = y at hlx HCMP
                  go_region_held3 (fun w' => w'.cell? ⟨w.heap.size, 1, none⟩ = some (.slice (some ad) ms.length c) ∧ w'.cell? (ad.add (j * 4)) = some (.slice m'.X e'.length m'.xc) ∧ w'.cell? ⟨wr.heap.size, 0, none⟩ = some (.slice m.X e.length m.xc)) (first | (with_reducible exact ⟨‹_›, ‹_›, ‹_›⟩) | go_keep)
                    ((go_at_call 86
                      refine (HCMP.out _ (by first | exact Below.refl _ _ | exact below_drew_ (Below.refl _ _) 1)).mono ?_
                      rintro e0 w3_ ⟨rfl, hw3⟩
                      have hbq : Below w2.heap.size w2 w3_ := by first | (rw [← hw3]; exact Below.refl _ _) | (rw [← hw3]; exact below_drew_ (Below.refl _ _) 1)
                      have s1 := (kp2.below hbq).facts.c1
                      have s2 := (hbq.cell (by rw [block_of_add]; exact hb')).trans d0
                      have s3 := (kb2.below hbq).facts.c0
                      clear hw3))
                  all_goals
                    go_wp2
                    go_ret
                    exact ⟨rfl, hw2.trans (hbq.mono hw2.size)⟩
            · obtain rfl : v = false := not_false_of HV.out fun hp => hC (hp.all.good k e m hlt HE.out hm.out).2
              clear HC
              go_wp2_with fail
              refine (pvalidExps n m.X m.xc e _ (hre.below hb1) h8 true ⟨fun _ => hE, fun _ => rfl⟩).mono ?_
              rintro e0 w2 ⟨rfl, rfl⟩
              go_wp2_with fail
              refine (pvalidCoef m.c _ (hraw.below hb1) false ⟨fun hh => (by cases hh), fun hh => absurd hh hC⟩).mono ?_
              rintro e0 w2 ⟨rfl, hb2⟩
              go_wp2
              go_ret
              exact ⟨rfl, hbw.trans ((hb1.trans (hb2.mono hb1.size)).mono hbw.size)⟩
          · obtain rfl : v = false := not_false_of HV.out fun hp => hE (hp.all.good k e m hlt HE.out hm.out).1
            clear HC
            go_wp2_with fail
            refine (pvalidExps n m.X m.xc e _ (hre.below hb1) h8 false ⟨fun hh => (by cases hh), fun hh => absurd hh hE⟩).mono ?_
            rintro e0 w2 ⟨rfl, rfl⟩
            go_wp2
            go_ret
            exact ⟨rfl, hbw.trans (hb1.mono hbw.size)⟩
        · obtain rfl : k = ms.length := by omega
          obtain rfl : v = true := HV.out.2 ⟨HN.out.1, HN.out.2, hl, HTO.out⟩
          go_wp2
          go_ret
          exact ⟨rfl, hbw⟩
    · obtain rfl : v = false := not_false_of HV.out fun hp => hl hp.len
      go_enter Tryz.func40, Tryz.ntmps40
      go_wp2_with fail
      refine (HC.out _).mono ?_
      rintro e0 w1 ⟨rfl, rfl⟩
      go_wp2
      go_ret
      exact ⟨rfl, hb0⟩
  · rw [decide_eq_false hn] at HC
    obtain rfl : v = false := not_false_of HV.out fun hp => hn ⟨hp.lo, hp.hi⟩
    go_enter Tryz.func40, Tryz.ntmps40
    go_wp2_with fail
    refine (HC.out _).mono ?_
    rintro e0 w1 ⟨rfl, rfl⟩
    go_wp2
    go_ret
    exact ⟨rfl, hb0⟩
end Go.Proofs.YtgemlnnpnlpbeaaGreatDoor

