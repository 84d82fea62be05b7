/- isochroneref03.Valid, both ways; None. -/
import Derived.Test.YtgemlnnpnlpbeaaGreatDoorPFR26
attribute [local go_sem ↓] Go.wp_at_zero Go.wp_at_succ
namespace Go.Proofs.YtgemlnnpnlpbeaaGreatDoor
open Go.RowKit V

/-- Exponents filled up to eight. -/
def fillI (e : List Int) (i : Nat) : List Int := e.take i ++ List.replicate (8 - i) 0
def pad (e : List Int) : List Int := fillI e e.length
theorem fillI_len {e : List Int} {i : Nat} (h : i ≤ e.length) (h8 : e.length ≤ 8) : (fillI e i).length = 8 := by
  rw [fillI, List.length_append, List.length_take, List.length_replicate]
  omega
theorem fillI_get {e : List Int} {i : Nat} (h : i < e.length) (h8 : e.length ≤ 8) : (fillI e i)[i]? = some 0 := by
  rw [fillI, List.getElem?_append_right (by rw [List.length_take]; omega), List.length_take, List.getElem?_replicate, if_pos (by omega)]
theorem fillI_set {e : List Int} {i : Nat} {x : Int} (hx : e[i]? = some x) (h8 : e.length ≤ 8) : (fillI e i).set i x = fillI e (i + 1) := by
  have hi := (List.getElem?_eq_some_iff.1 hx).1
  have e1 : 8 - i = (8 - (i + 1)) + 1 := by omega
  rw [fillI, fillI, List.set_append_right _ _ (by rw [List.length_take]; omega), List.length_take, Nat.min_eq_left (by omega), Nat.sub_self, e1, List.replicate_succ, List.set_cons_zero, List.take_add_one, hx]
  simp
theorem lexI_app (z : List Int) : ∀ {a b : List Int}, a.length = b.length → lexI (a ++ z) (b ++ z) = lexI a b
  | [], [], _ => lexI_same z
  | [], _ :: _, h => by simp at h
  | _ :: _, [], h => by simp at h
  | x :: r, y :: s, h => by
    rw [List.cons_append, List.cons_append, lexI, lexI, lexI_app z (by simpa using h)]
theorem lexI_pad {a b : List Int} (h : a.length = b.length) : lexI (pad a) (pad b) = lexI a b := by
  rw [pad, pad, fillI, fillI, List.take_length, List.take_length, h]
  exact lexI_app _ h
theorem sum_zeros : ∀ n : Nat, (List.replicate n (0 : Int)).sum = 0
  | 0 => rfl
  | n + 1 => by rw [List.replicate_succ, List.sum_cons, sum_zeros n]; rfl
theorem sum_pad (e : List Int) : (pad e).sum = e.sum := by
  rw [pad, fillI, List.take_length, List.sum_append, sum_zeros, Int.add_zero]
theorem exp_pad {e : List Int} (h : ∀ x ∈ e, Exp x) : ∀ x ∈ pad e, Exp x := fun x hx => by
  rw [pad, fillI, List.take_length] at hx
  rcases List.mem_append.1 hx with hx | hx
  · exact h x hx
  · rw [(List.mem_replicate.1 hx).2]
    exact ⟨by omega, by omega⟩
theorem IRow.set_ {w : World} {g : Nat} {xs : List Int} (h : IRow w g xs) (i : Nat) (x : Int) : IRow (w.setCell ⟨g, i, none⟩ (.int .i64 x)) g (xs.set i x) := by
  unfold IRow at h ⊢
  simp [World.setCell, Array.getElem?_modify, h, arrV, List.map_set]
theorem IRow.far {w : World} {g : Nat} {xs : List Int} (h : IRow w g xs) {y i : Nat} (hne : g ≠ y) (u : Value) : IRow (w.setCell ⟨y, i, none⟩ u) g xs := (Below.heap_setCell w ⟨y, i, none⟩ u g hne).trans h
theorem eight {xs : List Int} (h : xs.length = 8) : ∃ a b c d e f g i, xs = [a, b, c, d, e, f, g, i] := by
  match xs, h with
  | [a, b, c, d, e, f, g, i], _ => exact ⟨a, b, c, d, e, f, g, i, rfl⟩
/-- Eight cells written. -/
abbrev put8 (w : World) (g : Nat) (y0 y1 y2 y3 y4 y5 y6 y7 : Int) : World := (((((((w.setCell ⟨g, 0, none⟩ (.int .i64 y0)).setCell ⟨g, 1, none⟩ (.int .i64 y1)).setCell ⟨g, 2, none⟩ (.int .i64 y2)).setCell ⟨g, 3, none⟩ (.int .i64 y3)).setCell ⟨g, 4, none⟩ (.int .i64 y4)).setCell ⟨g, 5, none⟩ (.int .i64 y5)).setCell ⟨g, 6, none⟩ (.int .i64 y6)).setCell ⟨g, 7, none⟩ (.int .i64 y7)
theorem IRow.put8 {w : World} {g : Nat} {z0 z1 z2 z3 z4 z5 z6 z7 : Int} (h : IRow w g [z0, z1, z2, z3, z4, z5, z6, z7]) (y0 y1 y2 y3 y4 y5 y6 y7 : Int) : IRow (Go.Proofs.YtgemlnnpnlpbeaaGreatDoor.put8 w g y0 y1 y2 y3 y4 y5 y6 y7) g [y0, y1, y2, y3, y4, y5, y6, y7] :=
  (((((((h.set_ 0 y0).set_ 1 y1).set_ 2 y2).set_ 3 y3).set_ 4 y4).set_ 5 y5).set_ 6 y6).set_ 7 y7
theorem below_put8 {B : Nat} {a w : World} (h : Below B a w) {g : Nat} (hg : B ≤ g) (y0 y1 y2 y3 y4 y5 y6 y7 : Int) : Below B a (put8 w g y0 y1 y2 y3 y4 y5 y6 y7) :=
  (((((((h.setCell (p := ⟨g, 0, none⟩) hg _).setCell (p := ⟨g, 1, none⟩) hg _).setCell (p := ⟨g, 2, none⟩) hg _).setCell (p := ⟨g, 3, none⟩) hg _).setCell (p := ⟨g, 4, none⟩) hg _).setCell (p := ⟨g, 5, none⟩) hg _).setCell (p := ⟨g, 6, none⟩) hg _).setCell (p := ⟨g, 7, none⟩) hg _
theorem PVto.bad {n : Int} {ms : List MM} {es : List (List Int)} {k : Nat} {e : List Int} {m : MM} (hk : k < ms.length) (he : es[k]? = some e) (hm : ms[k]? = some m) (h : ¬ (EV n e ∧ m.c.CV)) : ¬ PVal n ms es := fun hp => h (hp.all.good k e m hk he hm)
set_option maxRecDepth 100000 in
set_option maxHeartbeats 6400000 in
theorem prvalid (n : Int) (A : Option Addr) (c : Nat) (ms : List MM) (es : List (List Int)) (w : World) (h : PRaw w A ms es) (v : Bool) (hv : v = true ↔ PVal n ms es) :
    Calls Tryz.prog 41 #[.agg #[.int .i64 n, .slice A ms.length c]] w (Gives (.bool v) w) := by
  have HV := Lib.hid hv
  have HF := Lib.hid (fun (h : ¬ PVal n ms es) => not_false_of hv h)
  have HH := Lib.hid h
  clear hv h
  have hb0 : Below w.heap.size w (w.alloc (.cells #[.int .i64 n, .slice A ms.length c] 24)) := (Below.refl _ _).alloc (Nat.le_refl _) _
  have kp := Blk2c.new 24 w (.int .i64 n) (.slice A ms.length c)
  by_cases hn0 : n < 0
  · have hvf : v = false := HF.out (fun h => by have := h.lo; omega)
    subst hvf
    go_enter Tryz.func41, Tryz.ntmps41
    go_wp2
    go_ret
    exact ⟨rfl, hb0⟩
  · by_cases hn8 : 8 < n
    · have hvf : v = false := HF.out (fun h => by have := h.hi; omega)
      subst hvf
      go_enter Tryz.func41, Tryz.ntmps41
      go_wp2
      go_ret
      exact ⟨rfl, hb0⟩
    · by_cases hl : 4000 < ms.length
      · have hvf : v = false := HF.out (fun h => by have := h.len; omega)
        subst hvf
        have hl2 : (4000 : Int) < (ms.length : Int) := by omega
        go_enter Tryz.func41, Tryz.ntmps41
        go_wp2
        go_ret
        exact ⟨rfl, hb0⟩
      · have hl2 : ¬ (4000 : Int) < (ms.length : Int) := by omega
        have HZ := Lib.hid (IRow.new (w.alloc (.cells #[.int .i64 n, .slice A ms.length c] 24)) [0, 0, 0, 0, 0, 0, 0, 0])
        rw [show (w.alloc (.cells #[.int .i64 n, .slice A ms.length c] 24)).heap.size = w.heap.size + 1 by simp] at HZ
        go_enter Tryz.func41, Tryz.ntmps41
        go_wp2
        go_loopw [26] (fun si wr => ∃ (k : Nat) (L : List Int), k ≤ ms.length ∧ si = .int .i64 k ∧ Hid (PVto n ms es k) ∧ Hid (IRow wr (w.heap.size + 1) L) ∧ L.length = 8 ∧ Hid (∀ j a, k = j + 1 → es[j]? = some a → L = pad a) ∧ Blk2c 24 wr w.heap.size (.int .i64 n) (.slice A ms.length c) ∧ Below w.heap.size w wr) (fun si _ => ms.length - (intOf si).toNat)
        case atStart => exact ⟨0, [0, 0, 0, 0, 0, 0, 0, 0], by omega, rfl, PVto.zero _ _ _, HZ, rfl, fun j a h => by omega, kp.alloc _, hb0.alloc (by simp) _⟩
        case round =>
          obtain ⟨k, L, hk, rfl, hto, hlast, hL8, hpad, kp1, hbw⟩ := hrel
          clear hb0 kp
          by_cases hlt : k < ms.length
          · obtain ⟨ad, m, rfl, hb, hm, hc⟩ := (HH.out.below hbw).rd.ask hlt
            obtain ⟨e, he, hre, hme, hmc, hraw⟩ := (HH.out.below hbw).hs.2 _ m hm.out
            obtain ⟨c0, c1, c2, c3⟩ := hc
            rw [hme] at c0
            have HE := Lib.hid he
            have HMM := Lib.hid hm.out
            have HBAD := Lib.hid (fun (hh : ¬ (EV n e ∧ m.c.CV)) => HF.out (PVto.bad hlt he hm.out hh))
            have HKB := Lib.hid (Blk4.new 79 wr (.slice m.X e.length m.xc) (.bool m.c.s) (.slice m.c.N m.c.ns.length m.c.nc) (.slice m.c.D m.c.ds.length m.c.dc))
            have hq : Below wr.heap.size wr (wr.alloc (.cells #[.slice m.X e.length m.xc, .bool m.c.s, .slice m.c.N m.c.ns.length m.c.nc, .slice m.c.D m.c.ds.length m.c.dc] 79)) := (Below.refl _ _).alloc (Nat.le_refl _) _
            have HRE := Lib.hid (hre.below hq)
            have HRAW := Lib.hid (hraw.below hq)
            have HKP := Lib.hid (kp1.below hq)
            have HLA := Lib.hid (hlast.out.below hq)
            have HW1 := Lib.hid (hbw.trans (hq.mono hbw.size))
            have hplt := kp1.lt
            obtain ⟨b0, b1, b2, b3, b4, b5, b6, b7, b8⟩ := HKB.out.facts
            obtain ⟨q0, q1, q2, q3, q4⟩ := HKP.out.facts
            have HTG := Lib.hid hb
            clear he hre hraw hmc kp1 hq hm hme hb hlast
            obtain ⟨W, hW⟩ : ∃ x, wr.alloc (.cells #[.slice m.X e.length m.xc, .bool m.c.s, .slice m.c.N m.c.ns.length m.c.nc, .slice m.c.D m.c.ds.length m.c.dc] 79) = x := ⟨_, rfl⟩
            rw [hW] at HKB HRE HRAW HKP HLA HW1 b0 b1 b2 b3 b4 b5 b6 b7 b8 q0 q1 q2 q3 q4
            have HWE := Lib.hid hW
            clear hW
            go_upto_region 7 with fail
            rw [HWE.out]
            clear HWE c0 c1 c2 c3
            by_cases hlen : (e.length : Int) = n
            · obtain rfl := hlen
              have ht : ((e.length : Int) != (e.length : Int)) = false := by simp
              by_cases hsh : m.c.ns.length ≤ 200 ∧ m.c.ds.length ≤ 200
              · have HSY := Lib.hid (fun W => qshort_yes m.c.s m.c.N m.c.D m.c.ns.length m.c.nc m.c.ds.length m.c.dc 200 W hsh.1 hsh.2)
                have HSH := Lib.hid hsh
                clear hsh
                by_cases hval : m.c.Val
                · have HVL := Lib.hid (fun W (h : m.c.Raw W) => rqvalid m.c.s m.c.N m.c.D m.c.nc m.c.dc m.c.ns m.c.ds W h.rn h.rd h.dn h.dd true ⟨fun _ => hval, fun _ => rfl⟩)
                  have HVA := Lib.hid hval
                  clear hval
                  go_wp2_with fail
                  refine (HSY.out _).mono ?_
                  rintro e1 W1 ⟨rfl, hb1⟩
                  obtain ⟨b0, b1, b2, b3, b4, b5, b6, b7, b8⟩ := (HKB.out.below hb1).facts
                  go_wp2_with fail
                  refine (HVL.out _ (HRAW.out.below hb1)).mono ?_
                  rintro e1 W2 ⟨rfl, hb2⟩
                  have hb12 := hb1.trans (hb2.mono hb1.size)
                  have HKB2 := Lib.hid (HKB.out.below hb12)
                  have HRE2 := Lib.hid (HRE.out.below hb12)
                  have HKP2 := Lib.hid (HKP.out.below hb12)
                  have HLA2 := Lib.hid (HLA.out.below hb12)
                  have HW2 := Lib.hid (HW1.out.trans (hb12.mono HW1.out.size))
                  clear hb1 hb2 hb12 b0 b1 b2 b3 b4 b5 b6 b7 b8 q0 q1 q2 q3 q4 HKB HRE HRAW HKP HLA HSY HVL
                  obtain ⟨b0, b1, b2, b3, b4, b5, b6, b7, b8⟩ := HKB2.out.facts
                  by_cases hz : m.c.ns.length = 0
                  · have hvf : v = false := HBAD.out (fun h => by have := h.2.1; omega)
                    subst hvf
                    have hze : ((m.c.ns.length : Int) == 0) = true := by rw [beq_iff_eq]; omega
                    have HZ0 := Lib.hid hz
                    clear hz
                    go_wp2_with fail
                    go_ret
                    exact ⟨rfl, HW2.out⟩
                  · have hze : ((m.c.ns.length : Int) == 0) = false := by rw [beq_eq_false_iff_ne]; omega
                    have HCV : Hid m.c.CV := ⟨by omega, HSH.out.1, HSH.out.2, HVA.out⟩
                    have he8 : e.length ≤ 8 := by omega
                    have HEB := Lib.hid (IRow.new W2 (fillI e 0))
                    have hq2 : Below W2.heap.size W2 (W2.alloc (.cells (arrV (fillI e 0)) 80)) := (Below.refl _ _).alloc (Nat.le_refl _) _
                    have HRE3 := Lib.hid (HRE2.out.below hq2)
                    have HKP3 := Lib.hid (HKP2.out.below hq2)
                    have HLA3 := Lib.hid (HLA2.out.below hq2)
                    have HW3 := Lib.hid (HW2.out.trans (hq2.mono HW2.out.size))
                    have hs3 := HW2.out.size
                    have hs4 := HLA2.out.lt
                    have hs5 := HKP2.out.lt
                    clear hq2 hz
                    go_wp2_with fail
                    go_loopw [59] (fun si wq => ∃ i : Nat, i ≤ e.length ∧ si = .int .i64 i ∧ Hid (∀ x ∈ e.take i, Exp x) ∧ Hid (IRow wq W2.heap.size (fillI e i)) ∧ Below W2.heap.size W2 wq ∧ Below w.heap.size w wq) (fun si _ => e.length - (intOf si).toNat)
                    case atStart => exact ⟨0, by omega, rfl, fun x hx => by simp at hx, HEB, (Below.refl _ _).alloc (Nat.le_refl _) _, HW3.out⟩
                    case round =>
                      obtain ⟨i, hi, rfl, hex, heb, hw2q, hwq⟩ := hrel
                      by_cases hil : i < e.length
                      · obtain ⟨ad2, x, hAX, hb2, hx, hxc⟩ := (HRE2.out.below hw2q).ask hil
                        have HXX := Lib.hid hx.out
                        by_cases hx0 : x < 0
                        · have hvf : v = false := HBAD.out (fun h => by have := (h.1.2.1 x (List.mem_of_getElem? hx.out)).1; omega)
                          subst hvf
                          go_wp2_with fail
                          go_ret
                          exact ⟨rfl, hwq⟩
                        · by_cases hx40 : 40 < x
                          · have hvf : v = false := HBAD.out (fun h => by have := (h.1.2.1 x (List.mem_of_getElem? hx.out)).2; omega)
                            subst hvf
                            go_wp2_with fail
                            go_ret
                            exact ⟨rfl, hwq⟩
                          · have ec := heb.out.cell (fillI_get hil he8)
                            have ef := heb.out.frozen i
                            have hi8 : i < 8 := by omega
                            have HN := Lib.hid (heb.out.set_ i x)
                            rw [fillI_set HXX.out he8] at HN
                            have HEX2 : Hid (∀ y ∈ e.take (i + 1), Exp y) := fun y hy => by
                              rw [List.take_add_one, HXX.out] at hy
                              rcases List.mem_append.1 hy with hy | hy
                              · exact hex.out y hy
                              · simp at hy
                                rw [hy]
                                exact ⟨by omega, by omega⟩
                            clear hx
                            go_wp2_with fail
                            go_roundw
                            case rel => exact ⟨i + 1, by omega, by go_num, HEX2, HN, hw2q.setCell (p := ⟨W2.heap.size, i, none⟩) (Nat.le_refl _) _, hwq.setCell (p := ⟨W2.heap.size, i, none⟩) hs3 _⟩
                            case measure => simp [intOf]; omega
                      · obtain rfl : i = e.length := by omega
                        have HEX := Lib.hid hex.out
                        rw [List.take_length] at HEX
                        have HLQ := Lib.hid (HLA2.out.below hw2q)
                        have HKQ := Lib.hid (HKP2.out.below hw2q)
                        obtain ⟨y0, y1, y2, y3, y4, y5, y6, y7, hy⟩ := eight (fillI_len (Nat.le_refl e.length) he8)
                        obtain ⟨z0, z1, z2, z3, z4, z5, z6, z7, hz8⟩ := eight hL8
                        have HPY : Hid (pad e = [y0, y1, y2, y3, y4, y5, y6, y7]) := hy
                        have HEY := Lib.hid (exp_pad HEX.out)
                        rw [HPY.out] at HEY
                        have HSU := Lib.hid (sum_pad e)
                        rw [HPY.out] at HSU
                        rw [hy] at heb
                        rw [hz8] at HLQ hpad
                        have HTOT := Lib.hid (fun W => ptotal [y0, y1, y2, y3, y4, y5, y6, y7] W rfl HEY.out)
                        have HBEF := Lib.hid (fun W => pbefore [z0, z1, z2, z3, z4, z5, z6, z7] [y0, y1, y2, y3, y4, y5, y6, y7] W rfl rfl)
                        rw [HSU.out] at HTOT
                        clear hy hz8 hex
                        have c0 := heb.out.cell (k := 0) rfl
                        have c1 := heb.out.cell (k := 1) rfl
                        have c2 := heb.out.cell (k := 2) rfl
                        have c3 := heb.out.cell (k := 3) rfl
                        have c4 := heb.out.cell (k := 4) rfl
                        have c5 := heb.out.cell (k := 5) rfl
                        have c6 := heb.out.cell (k := 6) rfl
                        have c7 := heb.out.cell (k := 7) rfl
                        go_wp2_with fail
                        refine (HTOT.out _).mono ?_
                        rintro e1 W5 ⟨rfl, hb5⟩
                        have HE5 := Lib.hid (heb.out.below hb5)
                        have HL5 := Lib.hid (HLQ.out.below hb5)
                        have HK5 := Lib.hid (HKQ.out.below hb5)
                        have HW5 := Lib.hid (hwq.trans (hb5.mono hwq.size))
                        clear hb5 c0 c1 c2 c3 c4 c5 c6 c7
                        by_cases hsum : 40 < e.sum
                        · have hvf : v = false := HBAD.out (fun h => by have := h.1.2.2; omega)
                          subst hvf
                          go_wp2_with fail
                          go_ret
                          exact ⟨rfl, HW5.out⟩
                        · by_cases hk0 : k = 0
                          · have HK0 := Lib.hid hk0
                            have hkz : ¬ (0 : Int) < (k : Int) := by omega
                            have HDESC : Hid (∀ j a, k = j + 1 → es[j]? = some a → 0 < lexI a e) := fun j a hj => by have := HK0.out; omega
                            clear hk0
                            have c0 := HE5.out.cell (k := 0) rfl
                            have c1 := HE5.out.cell (k := 1) rfl
                            have c2 := HE5.out.cell (k := 2) rfl
                            have c3 := HE5.out.cell (k := 3) rfl
                            have c4 := HE5.out.cell (k := 4) rfl
                            have c5 := HE5.out.cell (k := 5) rfl
                            have c6 := HE5.out.cell (k := 6) rfl
                            have c7 := HE5.out.cell (k := 7) rfl
                            have d0 := HL5.out.cell (k := 0) rfl
                            have d1 := HL5.out.cell (k := 1) rfl
                            have d2 := HL5.out.cell (k := 2) rfl
                            have d3 := HL5.out.cell (k := 3) rfl
                            have d4 := HL5.out.cell (k := 4) rfl
                            have d5 := HL5.out.cell (k := 5) rfl
                            have d6 := HL5.out.cell (k := 6) rfl
                            have d7 := HL5.out.cell (k := 7) rfl
                            have f0 := HL5.out.frozen 0
                            have f1 := HL5.out.frozen 1
                            have f2 := HL5.out.frozen 2
                            have f3 := HL5.out.frozen 3
                            have f4 := HL5.out.frozen 4
                            have f5 := HL5.out.frozen 5
                            have f6 := HL5.out.frozen 6
                            have f7 := HL5.out.frozen 7
                            go_wp2_with fail
                            go_roundw
                            case rel =>
                              refine ⟨k + 1, [y0, y1, y2, y3, y4, y5, y6, y7], by omega, by go_num, hto.out.succ HE.out HMM.out ⟨rfl, HEX.out, by omega⟩ HCV.out HDESC.out, HL5.out.put8 y0 y1 y2 y3 y4 y5 y6 y7, rfl, fun j a hj ha => ?_, ?_, below_put8 HW5.out (by omega) y0 y1 y2 y3 y4 y5 y6 y7⟩
                              · obtain rfl : j = k := by omega
                                rw [HE.out] at ha
                                injection ha with ha
                                rw [← ha]
                                exact HPY.out.symm
                              · exact ((((((((HK5.out).far (by omega) _).far (by omega) _).far (by omega) _).far (by omega) _).far (by omega) _).far (by omega) _).far (by omega) _).far (by omega) _
                            case measure => simp [intOf]; omega
                          · have hkz : (0 : Int) < (k : Int) := by omega
                            obtain ⟨a, ha⟩ : ∃ a, es[k - 1]? = some a := ⟨_, List.getElem?_eq_getElem (by have := HH.out.hs.1; omega)⟩
                            have HLA5 : Hid ([z0, z1, z2, z3, z4, z5, z6, z7] = pad a) := hpad.out (k - 1) a (by omega) ha
                            have HAL : Hid (a.length = e.length) := by
                              obtain ⟨m', hm'⟩ : ∃ m', ms[k - 1]? = some m' := ⟨_, List.getElem?_eq_getElem (by omega)⟩
                              have h1 := ((hto.out.good (k - 1) a m' (by omega) ha hm').1).1
                              show _ = _
                              omega
                            have HLX : Hid (lexI [z0, z1, z2, z3, z4, z5, z6, z7] [y0, y1, y2, y3, y4, y5, y6, y7] = lexI a e) := by
                              show _ = _
                              rw [HLA5.out, ← HPY.out]
                              exact lexI_pad HAL.out
                            have HAK := Lib.hid ha
                            rw [HLX.out] at HBEF
                            clear hk0 ha
                            by_cases hord : 0 < lexI a e
                            · rw [decide_eq_true hord] at HBEF
                              have HDESC : Hid (∀ j a', k = j + 1 → es[j]? = some a' → 0 < lexI a' e) := fun j a' hj ha' => by
                                obtain rfl : j = k - 1 := by omega
                                rw [HAK.out] at ha'
                                injection ha' with ha'
                                rw [← ha']
                                exact hord
                              clear hord
                              have c0 := HE5.out.cell (k := 0) rfl
                              have c1 := HE5.out.cell (k := 1) rfl
                              have c2 := HE5.out.cell (k := 2) rfl
                              have c3 := HE5.out.cell (k := 3) rfl
                              have c4 := HE5.out.cell (k := 4) rfl
                              have c5 := HE5.out.cell (k := 5) rfl
                              have c6 := HE5.out.cell (k := 6) rfl
                              have c7 := HE5.out.cell (k := 7) rfl
                              have d0 := HL5.out.cell (k := 0) rfl
                              have d1 := HL5.out.cell (k := 1) rfl
                              have d2 := HL5.out.cell (k := 2) rfl
                              have d3 := HL5.out.cell (k := 3) rfl
                              have d4 := HL5.out.cell (k := 4) rfl
                              have d5 := HL5.out.cell (k := 5) rfl
                              have d6 := HL5.out.cell (k := 6) rfl
                              have d7 := HL5.out.cell (k := 7) rfl
                              go_wp2_with fail
                              refine (HBEF.out _).mono ?_
                              rintro e1 W6 ⟨rfl, hb6⟩
                              have HE6 := Lib.hid (HE5.out.below hb6)
                              have HL6 := Lib.hid (HL5.out.below hb6)
                              have HK6 := Lib.hid (HK5.out.below hb6)
                              have HW6 := Lib.hid (HW5.out.trans (hb6.mono HW5.out.size))
                              clear hb6 c0 c1 c2 c3 c4 c5 c6 c7 d0 d1 d2 d3 d4 d5 d6 d7
                              have c0 := HE6.out.cell (k := 0) rfl
                              have c1 := HE6.out.cell (k := 1) rfl
                              have c2 := HE6.out.cell (k := 2) rfl
                              have c3 := HE6.out.cell (k := 3) rfl
                              have c4 := HE6.out.cell (k := 4) rfl
                              have c5 := HE6.out.cell (k := 5) rfl
                              have c6 := HE6.out.cell (k := 6) rfl
                              have c7 := HE6.out.cell (k := 7) rfl
                              have d0 := HL6.out.cell (k := 0) rfl
                              have d1 := HL6.out.cell (k := 1) rfl
                              have d2 := HL6.out.cell (k := 2) rfl
                              have d3 := HL6.out.cell (k := 3) rfl
                              have d4 := HL6.out.cell (k := 4) rfl
                              have d5 := HL6.out.cell (k := 5) rfl
                              have d6 := HL6.out.cell (k := 6) rfl
                              have d7 := HL6.out.cell (k := 7) rfl
                              have f0 := HL6.out.frozen 0
                              have f1 := HL6.out.frozen 1
                              have f2 := HL6.out.frozen 2
                              have f3 := HL6.out.frozen 3
                              have f4 := HL6.out.frozen 4
                              have f5 := HL6.out.frozen 5
                              have f6 := HL6.out.frozen 6
                              have f7 := HL6.out.frozen 7
                              go_wp2_with fail
                              go_roundw
                              case rel =>
                                refine ⟨k + 1, [y0, y1, y2, y3, y4, y5, y6, y7], by omega, by go_num, hto.out.succ HE.out HMM.out ⟨rfl, HEX.out, by omega⟩ HCV.out HDESC.out, HL6.out.put8 y0 y1 y2 y3 y4 y5 y6 y7, rfl, fun j a hj ha => ?_, ?_, below_put8 HW6.out (by omega) y0 y1 y2 y3 y4 y5 y6 y7⟩
                                · obtain rfl : j = k := by omega
                                  rw [HE.out] at ha
                                  injection ha with ha
                                  rw [← ha]
                                  exact HPY.out.symm
                                · exact ((((((((HK6.out).far (by omega) _).far (by omega) _).far (by omega) _).far (by omega) _).far (by omega) _).far (by omega) _).far (by omega) _).far (by omega) _
                              case measure => simp [intOf]; omega
                            · rw [decide_eq_false hord] at HBEF
                              have hvf : v = false := HF.out (fun h => hord (by
                                have h1 := h.all.desc (k - 1) a e (by omega) HAK.out (by rw [show k - 1 + 1 = k by omega]; exact HE.out)
                                exact h1))
                              subst hvf
                              clear hord
                              have c0 := HE5.out.cell (k := 0) rfl
                              have c1 := HE5.out.cell (k := 1) rfl
                              have c2 := HE5.out.cell (k := 2) rfl
                              have c3 := HE5.out.cell (k := 3) rfl
                              have c4 := HE5.out.cell (k := 4) rfl
                              have c5 := HE5.out.cell (k := 5) rfl
                              have c6 := HE5.out.cell (k := 6) rfl
                              have c7 := HE5.out.cell (k := 7) rfl
                              have d0 := HL5.out.cell (k := 0) rfl
                              have d1 := HL5.out.cell (k := 1) rfl
                              have d2 := HL5.out.cell (k := 2) rfl
                              have d3 := HL5.out.cell (k := 3) rfl
                              have d4 := HL5.out.cell (k := 4) rfl
                              have d5 := HL5.out.cell (k := 5) rfl
                              have d6 := HL5.out.cell (k := 6) rfl
                              have d7 := HL5.out.cell (k := 7) rfl
                              go_wp2_with fail
                              refine (HBEF.out _).mono ?_
                              rintro e1 W6 ⟨rfl, hb6⟩
                              have HW6 := Lib.hid (HW5.out.trans (hb6.mono HW5.out.size))
                              go_wp2_with fail
                              go_ret
                              exact ⟨rfl, HW6.out⟩
                · have hvf : v = false := HBAD.out (fun h => hval h.2.2.2.2)
                  subst hvf
                  have HVL := Lib.hid (fun W (h : m.c.Raw W) => rqvalid m.c.s m.c.N m.c.D m.c.nc m.c.dc m.c.ns m.c.ds W h.rn h.rd h.dn h.dd false ⟨fun h => (by cases h), fun h => absurd h hval⟩)
                  go_wp2_with fail
                  refine (HSY.out _).mono ?_
                  rintro e1 W1 ⟨rfl, hb1⟩
                  obtain ⟨b0, b1, b2, b3, b4, b5, b6, b7, b8⟩ := (HKB.out.below hb1).facts
                  go_wp2_with fail
                  refine (HVL.out _ (HRAW.out.below hb1)).mono ?_
                  rintro e1 W2 ⟨rfl, hb2⟩
                  have HW2 := Lib.hid (HW1.out.trans ((hb1.trans (hb2.mono hb1.size)).mono HW1.out.size))
                  go_wp2_with fail
                  go_ret
                  exact ⟨rfl, HW2.out⟩
              · have hvf : v = false := HBAD.out (fun h => hsh ⟨h.2.2.1, h.2.2.2.1⟩)
                subst hvf
                have HSN := Lib.hid (fun W => qshort_no m.c.s m.c.N m.c.D m.c.ns.length m.c.nc m.c.ds.length m.c.dc 200 W hsh)
                clear hsh
                go_wp2_with fail
                refine (HSN.out _).mono ?_
                rintro e1 W1 ⟨rfl, hb1⟩
                have HW2 := Lib.hid (HW1.out.trans (hb1.mono HW1.out.size))
                go_wp2_with fail
                go_ret
                exact ⟨rfl, HW2.out⟩
            · have hvf : v = false := HBAD.out (fun h => hlen h.1.1)
              subst hvf
              have ht : ((e.length : Int) != n) = true := by rw [bne_iff_ne]; exact hlen
              go_wp2_with fail
              go_ret
              exact ⟨rfl, HW1.out⟩
          · obtain rfl : k = ms.length := by omega
            have hvt : v = true := HV.out.2 ⟨by omega, by omega, by omega, hto.out⟩
            subst hvt
            go_wp2
            go_ret
            exact ⟨rfl, hbw⟩
end Go.Proofs.YtgemlnnpnlpbeaaGreatDoor


/- isochroneref03.None of nothing, isochronelaw03.long, region 5's kin. -/
attribute [local go_sem ↓] Go.wp_at_zero Go.wp_at_succ
namespace Go.Proofs.YtgemlnnpnlpbeaaGreatDoor
open Go.RowKit V

theorem PRaw.drew {w : World} {A : Option Addr} {ms : List MM} {es : List (List Int)} (h : PRaw w A ms es) : PRaw w.drew A ms es := h.below (below_drew_ (Below.refl _ _) 1)
theorem PRaw.alloc {w : World} {A : Option Addr} {ms : List MM} {es : List (List Int)} (h : PRaw w A ms es) (o : Obj) : PRaw (w.alloc o) A ms es := h.below ((Below.refl _ _).alloc (Nat.le_refl _) o)
set_option maxRecDepth 100000 in
set_option maxHeartbeats 800000 in
theorem pnone0 (w : World) : Calls Tryz.prog 32 #[.agg #[.int .i64 0, .slice none 0 0]] w (Yes w) := by
  have hb0 : Below w.heap.size w (w.alloc (.cells #[.int .i64 0, .slice none 0 0] 24)) := (Below.refl _ _).alloc (Nat.le_refl _) _
  go_enter Tryz.func32, Tryz.ntmps32
  go_wp2
  go_ret
  exact ⟨rfl, hb0⟩
set_option maxRecDepth 100000 in
set_option maxHeartbeats 3200000 in
theorem plong (n : Int) (A : Option Addr) (c : Nat) (ms : List MM) (es : List (List Int)) (w : World) (h : PRaw w A ms es) (h30 : ms.length ≤ 30) :
    Calls Tryz.prog 39 #[.agg #[.int .i64 n, .slice A ms.length c]] w fun e w' => ∃ b : Bool, e = .returned (.bool b) ∧ Below w.heap.size w w' := by
  have HH := Lib.hid h
  clear h
  have hb0 : Below w.heap.size w (w.alloc (.cells #[.int .i64 n, .slice A ms.length c] 24)) := (Below.refl _ _).alloc (Nat.le_refl _) _
  go_enter Tryz.func39, Tryz.ntmps39
  go_wp2
  go_loopw [8] (fun si wr => ∃ (k : Nat), k ≤ ms.length ∧ si = .int .i64 k ∧ Below w.heap.size w wr) (fun si _ => ms.length - (intOf si).toNat)
  case atStart => exact ⟨0, by omega, rfl, hb0⟩
  case round =>
    obtain ⟨k, hk, rfl, hbw⟩ := hrel
    clear hb0
    by_cases hlt : k < ms.length
    · obtain ⟨ad, m, rfl, hb, hm, hc⟩ := (HH.out.below hbw).rd.ask hlt
      obtain ⟨c0, c1, c2, c3⟩ := hc
      have HKB := Lib.hid (Blk4.new 79 wr (.slice m.X m.n m.xc) (.bool m.c.s) (.slice m.c.N m.c.ns.length m.c.nc) (.slice m.c.D m.c.ds.length m.c.dc))
      have hq : Below wr.heap.size wr (wr.alloc (.cells #[.slice m.X m.n m.xc, .bool m.c.s, .slice m.c.N m.c.ns.length m.c.nc, .slice m.c.D m.c.ds.length m.c.dc] 79)) := (Below.refl _ _).alloc (Nat.le_refl _) _
      have HW1 := Lib.hid (hbw.trans (hq.mono hbw.size))
      obtain ⟨b0, b1, b2, b3, b4, b5, b6, b7, b8⟩ := HKB.out.facts
      have HTG := Lib.hid hb
      clear hq hm hb
      obtain ⟨W, hW⟩ : ∃ x, wr.alloc (.cells #[.slice m.X m.n m.xc, .bool m.c.s, .slice m.c.N m.c.ns.length m.c.nc, .slice m.c.D m.c.ds.length m.c.dc] 79) = x := ⟨_, rfl⟩
      rw [hW] at HKB HW1 b0 b1 b2 b3 b4 b5 b6 b7 b8
      have HWE := Lib.hid hW
      clear hW
      go_upto_region 4 with fail
      rw [HWE.out]
      clear HWE c0 c1 c2 c3
      by_cases hsh : m.c.ns.length ≤ 3 ∧ m.c.ds.length ≤ 3
      · have HSY := Lib.hid (qshort_yes m.c.s m.c.N m.c.D m.c.ns.length m.c.nc m.c.ds.length m.c.dc 3 W hsh.1 hsh.2)
        clear hsh
        go_wp2_with fail
        refine HSY.out.mono ?_
        rintro e1 W1 ⟨rfl, hb1⟩
        obtain ⟨b0, b1, b2, b3, b4, b5, b6, b7, b8⟩ := (HKB.out.below hb1).facts
        have HW2 := Lib.hid (HW1.out.trans (hb1.mono HW1.out.size))
        clear hb1 HSY
        by_cases hl : (12 : Int) < (m.n : Int)
        · go_wp2_with fail
          go_ret
          exact ⟨true, rfl, HW2.out⟩
        · go_wp2_with fail
          go_roundw
          case rel => exact ⟨k + 1, by omega, by go_num, HW2.out⟩
          case measure => simp [intOf]; omega
      · have HSN := Lib.hid (qshort_no m.c.s m.c.N m.c.D m.c.ns.length m.c.nc m.c.ds.length m.c.dc 3 W hsh)
        clear hsh
        go_wp2_with fail
        refine HSN.out.mono ?_
        rintro e1 W1 ⟨rfl, hb1⟩
        have HW2 := Lib.hid (HW1.out.trans (hb1.mono HW1.out.size))
        go_wp2_with fail
        go_ret
        exact ⟨true, rfl, HW2.out⟩
    · obtain rfl : k = ms.length := by omega
      go_wp2
      go_ret
      exact ⟨false, rfl, hbw⟩
end Go.Proofs.YtgemlnnpnlpbeaaGreatDoor


/- poly.checkPair; poly.Var refused. -/
attribute [local go_sem ↓] Go.wp_at_zero Go.wp_at_succ
namespace Go.Proofs.YtgemlnnpnlpbeaaGreatDoor
open Go.RowKit V

set_option maxRecDepth 100000 in
set_option maxHeartbeats 400000 in
theorem ppair_form1 (n n2 : Int) (A B : Option Addr) (c d : Nat) (ms ms2 : List MM) (es es2 : List (List Int)) (w : World) (h : PRaw w A ms es) (h2 : PRaw w B ms2 es2) (hv : ¬ PVal n ms es) :
    Calls Tryz.prog 51 #[.agg #[.int .i64 n, .slice A ms.length c], .agg #[.int .i64 n2, .slice B ms2.length d]] w (Gives (.int .i64 3) w) := by
  have hb0 : Below w.heap.size w ((w.alloc (.cells #[.int .i64 n, .slice A ms.length c] 24)).alloc (.cells #[.int .i64 n2, .slice B ms2.length d] 24)) := ((Below.refl _ _).alloc (Nat.le_refl _) _).alloc (by simp) _
  have k1 := (Blk2c.new 24 w (.int .i64 n) (.slice A ms.length c)).alloc (.cells #[.int .i64 n2, .slice B ms2.length d] 24)
  have k2 : Blk2c 24 ((w.alloc (.cells #[.int .i64 n, .slice A ms.length c] 24)).alloc (.cells #[.int .i64 n2, .slice B ms2.length d] 24)) (w.heap.size + 1) (.int .i64 n2) (.slice B ms2.length d) := by
    have := Blk2c.new 24 (w.alloc (.cells #[.int .i64 n, .slice A ms.length c] 24)) (.int .i64 n2) (.slice B ms2.length d)
    simpa using this
  go_enter Tryz.func51, Tryz.ntmps51
  go_wp2_with fail
  refine (pvalid n A c ms es _ (h.below hb0) false ⟨fun hh => (by cases hh), fun hh => absurd hh hv⟩).mono ?_
  rintro e w1 ⟨rfl, hb1⟩
  have hb2 := hb0.trans (hb1.mono hb0.size)
  have j1 := k1.below hb1
  have j2 := k2.below hb1
  obtain ⟨p0, p1, p2, p3, p4⟩ := j1.facts
  obtain ⟨q0, q1, q2, q3, q4⟩ := j2.facts
  have h2' := h2.below hb2
  go_wp2
  go_ret
  exact ⟨rfl, hb2⟩
set_option maxRecDepth 100000 in
set_option maxHeartbeats 400000 in
theorem ppair_form2 (n n2 : Int) (A B : Option Addr) (c d : Nat) (ms ms2 : List MM) (es es2 : List (List Int)) (w : World) (h : PRaw w A ms es) (h2 : PRaw w B ms2 es2) (hv : PVal n ms es) (hv2 : ¬ PVal n2 ms2 es2) :
    Calls Tryz.prog 51 #[.agg #[.int .i64 n, .slice A ms.length c], .agg #[.int .i64 n2, .slice B ms2.length d]] w (Gives (.int .i64 3) w) := by
  have hb0 : Below w.heap.size w ((w.alloc (.cells #[.int .i64 n, .slice A ms.length c] 24)).alloc (.cells #[.int .i64 n2, .slice B ms2.length d] 24)) := ((Below.refl _ _).alloc (Nat.le_refl _) _).alloc (by simp) _
  have k1 := (Blk2c.new 24 w (.int .i64 n) (.slice A ms.length c)).alloc (.cells #[.int .i64 n2, .slice B ms2.length d] 24)
  have k2 : Blk2c 24 ((w.alloc (.cells #[.int .i64 n, .slice A ms.length c] 24)).alloc (.cells #[.int .i64 n2, .slice B ms2.length d] 24)) (w.heap.size + 1) (.int .i64 n2) (.slice B ms2.length d) := by
    have := Blk2c.new 24 (w.alloc (.cells #[.int .i64 n, .slice A ms.length c] 24)) (.int .i64 n2) (.slice B ms2.length d)
    simpa using this
  go_enter Tryz.func51, Tryz.ntmps51
  go_wp2_with fail
  refine (pvalid n A c ms es _ (h.below hb0) true ⟨fun _ => hv, fun _ => rfl⟩).mono ?_
  rintro e w1 ⟨rfl, hb1⟩
  have hb2 := hb0.trans (hb1.mono hb0.size)
  have j1 := k1.below hb1
  have j2 := k2.below hb1
  obtain ⟨p0, p1, p2, p3, p4⟩ := j1.facts
  obtain ⟨q0, q1, q2, q3, q4⟩ := j2.facts
  have h2' := h2.below hb2
  go_wp2_with fail
  refine (pvalid n2 B d ms2 es2 _ h2' false ⟨fun hh => (by cases hh), fun hh => absurd hh hv2⟩).mono ?_
  rintro e w2 ⟨rfl, hb3⟩
  have hb4 := hb2.trans (hb3.mono hb2.size)
  obtain ⟨r0, r1, r2, r3, r4⟩ := (j1.below hb3).facts
  obtain ⟨s0, s1, s2, s3, s4⟩ := (j2.below hb3).facts
  clear p0 p1 p2 p3 p4 q0 q1 q2 q3 q4
  go_wp2
  go_ret
  exact ⟨rfl, hb4⟩
set_option maxRecDepth 100000 in
set_option maxHeartbeats 400000 in
theorem ppair_range (n n2 : Int) (A B : Option Addr) (c d : Nat) (ms ms2 : List MM) (es es2 : List (List Int)) (w : World) (h : PRaw w A ms es) (h2 : PRaw w B ms2 es2) (hv : PVal n ms es) (hv2 : PVal n2 ms2 es2) (hne : ¬ n = n2) :
    Calls Tryz.prog 51 #[.agg #[.int .i64 n, .slice A ms.length c], .agg #[.int .i64 n2, .slice B ms2.length d]] w (Gives (.int .i64 1) w) := by
  have hb0 : Below w.heap.size w ((w.alloc (.cells #[.int .i64 n, .slice A ms.length c] 24)).alloc (.cells #[.int .i64 n2, .slice B ms2.length d] 24)) := ((Below.refl _ _).alloc (Nat.le_refl _) _).alloc (by simp) _
  have k1 := (Blk2c.new 24 w (.int .i64 n) (.slice A ms.length c)).alloc (.cells #[.int .i64 n2, .slice B ms2.length d] 24)
  have k2 : Blk2c 24 ((w.alloc (.cells #[.int .i64 n, .slice A ms.length c] 24)).alloc (.cells #[.int .i64 n2, .slice B ms2.length d] 24)) (w.heap.size + 1) (.int .i64 n2) (.slice B ms2.length d) := by
    have := Blk2c.new 24 (w.alloc (.cells #[.int .i64 n, .slice A ms.length c] 24)) (.int .i64 n2) (.slice B ms2.length d)
    simpa using this
  go_enter Tryz.func51, Tryz.ntmps51
  go_wp2_with fail
  refine (pvalid n A c ms es _ (h.below hb0) true ⟨fun _ => hv, fun _ => rfl⟩).mono ?_
  rintro e w1 ⟨rfl, hb1⟩
  have hb2 := hb0.trans (hb1.mono hb0.size)
  have j1 := k1.below hb1
  have j2 := k2.below hb1
  obtain ⟨p0, p1, p2, p3, p4⟩ := j1.facts
  obtain ⟨q0, q1, q2, q3, q4⟩ := j2.facts
  have h2' := h2.below hb2
  go_wp2_with fail
  refine (pvalid n2 B d ms2 es2 _ h2' true ⟨fun _ => hv2, fun _ => rfl⟩).mono ?_
  rintro e w2 ⟨rfl, hb3⟩
  have hb4 := hb2.trans (hb3.mono hb2.size)
  obtain ⟨r0, r1, r2, r3, r4⟩ := (j1.below hb3).facts
  obtain ⟨s0, s1, s2, s3, s4⟩ := (j2.below hb3).facts
  clear p0 p1 p2 p3 p4 q0 q1 q2 q3 q4
  have hq : (n == n2) = false := beq_eq_false_iff_ne.2 hne
  go_wp2
  go_ret
  exact ⟨rfl, hb4⟩
set_option maxRecDepth 100000 in
set_option maxHeartbeats 1600000 in
theorem ppair_ok (n : Int) (A B : Option Addr) (c d : Nat) (ms ms2 : List MM) (es es2 : List (List Int)) (w : World) (h : PRaw w A ms es) (h2 : PRaw w B ms2 es2) (hv : PVal n ms es) (hv2 : PVal n ms2 es2) :
    Calls Tryz.prog 51 #[.agg #[.int .i64 n, .slice A ms.length c], .agg #[.int .i64 n, .slice B ms2.length d]] w (Gives (.int .i64 0) w) := by
  have hb0 : Below w.heap.size w ((w.alloc (.cells #[.int .i64 n, .slice A ms.length c] 24)).alloc (.cells #[.int .i64 n, .slice B ms2.length d] 24)) := ((Below.refl _ _).alloc (Nat.le_refl _) _).alloc (by simp) _
  have k1 := (Blk2c.new 24 w (.int .i64 n) (.slice A ms.length c)).alloc (.cells #[.int .i64 n, .slice B ms2.length d] 24)
  have k2 : Blk2c 24 ((w.alloc (.cells #[.int .i64 n, .slice A ms.length c] 24)).alloc (.cells #[.int .i64 n, .slice B ms2.length d] 24)) (w.heap.size + 1) (.int .i64 n) (.slice B ms2.length d) := by
    have := Blk2c.new 24 (w.alloc (.cells #[.int .i64 n, .slice A ms.length c] 24)) (.int .i64 n) (.slice B ms2.length d)
    simpa using this
  go_enter Tryz.func51, Tryz.ntmps51
  go_wp2_with fail
  refine (pvalid n A c ms es _ (h.below hb0) true ⟨fun _ => hv, fun _ => rfl⟩).mono ?_
  rintro e w1 ⟨rfl, hb1⟩
  have hb2 := hb0.trans (hb1.mono hb0.size)
  have j1 := k1.below hb1
  have j2 := k2.below hb1
  obtain ⟨p0, p1, p2, p3, p4⟩ := j1.facts
  obtain ⟨q0, q1, q2, q3, q4⟩ := j2.facts
  have h2' := h2.below hb2
  go_wp2_with fail
  refine (pvalid n B d ms2 es2 _ h2' true ⟨fun _ => hv2, fun _ => rfl⟩).mono ?_
  rintro e w2 ⟨rfl, hb3⟩
  have hb4 := hb2.trans (hb3.mono hb2.size)
  obtain ⟨r0, r1, r2, r3, r4⟩ := (j1.below hb3).facts
  obtain ⟨s0, s1, s2, s3, s4⟩ := (j2.below hb3).facts
  clear p0 p1 p2 p3 p4 q0 q1 q2 q3 q4
  go_wp2
  go_ret
  exact ⟨rfl, hb4⟩
set_option maxRecDepth 100000 in
set_option maxHeartbeats 400000 in
theorem pvar_range (n i : Int) (w : World) (hbad : ¬ (0 ≤ n ∧ n ≤ 8) ∨ ((0 ≤ n ∧ n ≤ 8) ∧ (i < 0 ∨ (0 ≤ i ∧ n ≤ i)))) :
    Calls Tryz.prog 31 #[.int .i64 n, .int .i64 i] w (PolyErr 1 w) := by
  have HC := Lib.hid (pisCount n)
  have hb0 : Below w.heap.size w (w.alloc (.cells #[.int .i64 0, .slice none 0 0] 24)) := (Below.refl _ _).alloc (Nat.le_refl _) _
  obtain ⟨p0, p1, p2, p3, p4⟩ := (Blk2c.new 24 w (.int .i64 0) (.slice none 0 0)).facts
  rcases hbad with hn | ⟨hn, hi | ⟨h0, hi⟩⟩
  · rw [decide_eq_false hn] at HC
    go_enter Tryz.func31, Tryz.ntmps31
    go_wp2_with fail
    refine (HC.out _).mono ?_
    rintro e w1 ⟨rfl, rfl⟩
    go_wp2_with fail
    refine bodyPost_ret (v := .tuple #[.agg #[.int .i64 0, .slice none 0 0], .int .i64 1]) (by simp [results, Tryz.results31, go_sem, p0, p1]) rfl ?_
    exact ⟨rfl, hb0⟩
  · rw [decide_eq_true hn] at HC
    go_enter Tryz.func31, Tryz.ntmps31
    go_wp2_with fail
    refine (HC.out _).mono ?_
    rintro e w1 ⟨rfl, rfl⟩
    go_wp2_with fail
    refine bodyPost_ret (v := .tuple #[.agg #[.int .i64 0, .slice none 0 0], .int .i64 1]) (by simp [results, Tryz.results31, go_sem, p0, p1]) rfl ?_
    exact ⟨rfl, hb0⟩
  · rw [decide_eq_true hn] at HC
    go_enter Tryz.func31, Tryz.ntmps31
    go_wp2_with fail
    refine (HC.out _).mono ?_
    rintro e w1 ⟨rfl, rfl⟩
    go_wp2_with fail
    refine bodyPost_ret (v := .tuple #[.agg #[.int .i64 0, .slice none 0 0], .int .i64 1]) (by simp [results, Tryz.results31, go_sem, p0, p1]) rfl ?_
    exact ⟨rfl, hb0⟩
end Go.Proofs.YtgemlnnpnlpbeaaGreatDoor

