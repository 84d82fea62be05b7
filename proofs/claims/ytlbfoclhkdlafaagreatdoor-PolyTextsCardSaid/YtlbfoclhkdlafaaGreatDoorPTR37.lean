/- isochroneref03.Text of a valid polynomial. -/
import Derived.Test.YtlbfoclhkdlafaaGreatDoorPTR36
attribute [local go_sem ↓] Go.wp_at_zero Go.wp_at_succ
namespace Go.Proofs.YtlbfoclhkdlafaaGreatDoor
open Go.RowKit V

theorem textTo_pos {p : AL} {k : Nat} (h : k < p.length) : 0 < (textTo p (k + 1)).length := by
  have e : textTo p (k + 1) = textTo p k ++ (if 0 < k then [32, 43, 32] else []) ++ (match p[k]? with | some t => termText t | none => []) := rfl
  rw [e, List.getElem?_eq_getElem h]
  have h2 : 0 < (termText p[k]).length := by
    have hd : ∀ n, 0 < (Lib.decDigits n).length := fun n => by
      rw [Lib.decDigits]
      split
      · exact Nat.succ_pos _
      · rw [List.length_append]
        exact Nat.succ_pos _
    have h3 := hd p[k].2.num.natAbs
    show 0 < (ratText _ _ _ ++ _).length
    have h4 : 0 < (ratText (decide (p[k].2.num < 0)) p[k].2.num.natAbs p[k].2.den).length := by
      unfold ratText
      split <;> (simp only [List.length_append]; omega)
    rw [List.length_append]
    omega
  simp only [List.length_append]
  omega
set_option maxRecDepth 100000 in
set_option maxHeartbeats 6400000 in
theorem prtext (n : Nat) (A : Option Addr) (c : Nat) (ms : List MM) (P : PL) (w : World) (ha : ARd w A ms (up n P)) (hP : PIn n P) (h1000 : ms.length ≤ 1000) :
    Calls Tryz.prog 38 #[.agg #[.int .i64 n, .slice A ms.length c]] w (Gives (.string ⟨(polyText (up n P)).toArray⟩) w) := by
  have hb0 : Below w.heap.size w (w.alloc (.cells #[.int .i64 n, .slice A ms.length c] 24)) := (Below.refl _ _).alloc (Nat.le_refl _) _
  have HA := Lib.hid ha
  have HEO := Lib.hid (eok_up hP)
  have HL := Lib.hid ha.hs.1
  clear ha hP
  go_enter Tryz.func38, Tryz.ntmps38
  go_wp2
  go_loopw [3, 4, 6, 7, 11] (fun s3 _ _ _ si wr => ∃ (k : Nat) (t : List UInt8), k ≤ ms.length ∧ si = .int .i64 k ∧ s3 = .string ⟨t.toArray⟩ ∧ Hid (t = textTo (up n P) k) ∧ t.length ≤ 5000 * k ∧ Below w.heap.size w wr) (fun _ _ _ _ si _ => ms.length - (intOf si).toNat)
  case atStart => exact ⟨0, [], by omega, rfl, rfl, rfl, by simp, hb0⟩
  case round =>
    obtain ⟨k, t, hk, rfl, rfl, ht, htl, hbw⟩ := hrel
    clear hb0
    by_cases hlt : k < ms.length
    · obtain ⟨ad, m, rfl, hbl, hm, hc⟩ := (HA.out.below hbw).rd.ask hlt
      obtain ⟨es, q, hp, hrd, hmn, hmc, his, l1, l2⟩ := HA.out.hs.2 k m hm.out
      obtain ⟨c0, c1, c2, c3⟩ := hc
      have hes := HEO.out.2 _ (List.mem_of_getElem? hp)
      have hel : es.length ≤ 8 := by rw [hes.1]; exact HEO.out.1
      have hes40 : ∀ x ∈ es, x ≤ 40 := fun x hx => Nat.le_trans (le_sum hx) hes.2
      obtain ⟨rt, hrt⟩ : ∃ r, ratText m.c.s (V32 m.c.ns) (V32 m.c.ds) = r := ⟨_, rfl⟩
      have HTT : Hid (termText (es, q) = rt ++ facTo es es.length) := by
        show ratText _ _ _ ++ _ = _
        rw [← hrt, his.q.1, his.q.2.1, his.q.2.2]
      have HRQ : Hid (∀ (r : RL) (v : World), r.Ref v q → ratText r.s (VD r.ns) (VD r.ds) = rt) := fun r v hr => by
        rw [← hrt, his.q.1, his.q.2.1, his.q.2.2, hr.q.1, hr.q.2.1, hr.q.2.2]
      have hrl : rt.length ≤ 4002 := by
        rw [← hrt]
        have h1 := dec_short his.mn l1 (by omega)
        have h2 := dec_short his.md l2 (by omega)
        exact ratText_len (by omega) (by omega)
      have HG : Hid (∀ i, es.getD i 0 < 100) := fun i => by
        rw [List.getD_eq_getElem?_getD]
        cases h : es[i]? with
        | none => simp
        | some x => have := hes40 x (List.mem_of_getElem? h); simp; omega
      have HPK := Lib.hid hp
      rw [hmn] at c0
      obtain ⟨XA, hXA⟩ : ∃ a, m.X = a := ⟨_, rfl⟩
      rw [hXA] at c0 hrd
      have HXA := Lib.hid hXA
      clear hXA HXA
      have HKB := Lib.hid (Blk4.new 79 wr (.slice XA es.length m.xc) (.bool m.c.s) (.slice m.c.N m.c.ns.length m.c.nc) (.slice m.c.D m.c.ds.length m.c.dc))
      obtain ⟨W, hW⟩ : ∃ x, wr.alloc (.cells #[.slice XA es.length m.xc, .bool m.c.s, .slice m.c.N m.c.ns.length m.c.nc, .slice m.c.D m.c.ds.length m.c.dc] 79) = x := ⟨_, rfl⟩
      have HBW : Hid (Below wr.heap.size wr W) := by rw [← hW]; exact (Below.refl _ _).alloc (Nat.le_refl _) _
      have HW0 := Lib.hid (hbw.trans (HBW.out.mono hbw.size))
      rw [hW] at HKB
      have HWE := Lib.hid hW
      have HX1 := Lib.hid (qof m.c q W (his.below (HW0.out)) (by omega) (by omega))
      have HRD := Lib.hid hrd
      have HL1 := Lib.hid (And.intro l1 l2)
      clear hrt hp hmn hW hes hes40 hrd his hmc l1 l2
      go_upto_region 5 with fail
      rw [HWE.out]
      clear HWE c0 c1 c2 c3
      obtain ⟨b0, b1, b2, b3, b4, b5, b6, b7, b8⟩ := HKB.out.facts
      by_cases hk0 : k = 0
      · have HKP := Lib.hid hk0
        have ht0 : Hid (t = []) := by rw [ht.out, hk0]; rfl
        have hkz : (k : Int) = 0 := by omega
        clear hk0
        obtain ⟨u, hu⟩ : ∃ u, Hid (t = u) := ⟨_, Lib.hid rfl⟩
        have hul : u.length ≤ 5000 * k + 3 := by rw [← hu.out]; omega
        have HUT := Lib.hid hu.out
        have hul : t.length ≤ 5000 * k + 3 := by omega
        have f1 := fun W => run_string_add_lists (P := Tryz.prog) W t rt (by omega) (by omega)
        go_wp2_with fail
        refine HX1.out.mono ?_
        rintro e v1 ⟨r, rfl, hr, rl1, rl2, hv1⟩
        have HX2 := Lib.hid (rtextq r q v1 hr (by have := HL1.out.1; omega) (by have := HL1.out.2; omega))
        rw [HRQ.out r v1 hr] at HX2
        have HK1 := Lib.hid (HKB.out.below hv1)
        have HW1 := Lib.hid (HW0.out.trans (hv1.mono HW0.out.size))
        clear hr rl1 rl2 hv1 b0 b1 b2 b3 b4 b5 b6 b7 b8 HX1
        go_wp2_with fail
        refine HX2.out.mono ?_
        rintro e v2 ⟨rfl, hv2⟩
        have HK2 := Lib.hid (HK1.out.below hv2)
        have HW2 := Lib.hid (HW1.out.trans (hv2.mono HW1.out.size))
        have HR2 := Lib.hid (HRD.out.below HW2.out)
        clear hv2 HX2 HK1
        obtain ⟨b0, b1, b2, b3, b4, b5, b6, b7, b8⟩ := HK2.out.facts
        obtain ⟨y, hy⟩ : ∃ y, Hid (t ++ rt = y) := ⟨_, Lib.hid rfl⟩
        have hyl : y.length ≤ 5000 * k + 4005 := by rw [← hy.out, List.length_append]; omega
        rw [hy.out] at f1
        go_wp2_with fail
        go_loopw [3, 6, 7, 29] (fun s3 _ _ si wq => ∃ (i : Nat) (g : List UInt8), i ≤ es.length ∧ si = .int .i64 i ∧ s3 = .string ⟨(y ++ g).toArray⟩ ∧ Hid (g = facTo es i) ∧ Below v2.heap.size v2 wq) (fun _ _ _ si _ => es.length - (intOf si).toNat)
        case atStart => exact ⟨0, [], by omega, rfl, by simp, rfl, Below.refl _ _⟩
        case round =>
          obtain ⟨i, g, hi, rfl, rfl, hg, hbq⟩ := hrel
          clear f1 b0 b1 b2 b3 b4 b5 b6 b7 b8
          by_cases hil : i < es.length
          · obtain ⟨ad2, x, rfl, hb2, he, hc2⟩ := (HR2.out.below hbq).ask hil
            have hxd : es.getD i 0 = x := he.out
            have hx100 := HG.out i
            rw [hxd] at hx100
            have hgl : g.length ≤ 56 := by rw [hg.out]; have := facTo_len es HG.out i (by omega); omega
            have HI := Lib.hid (fun W => Tryz.strconv_Itoa_small i (by omega) W)
            have HK := Lib.hid (fun W => Tryz.strconv_Itoa_small x (by omega) W)
            have hd1 := dec2 (n := i) (by omega)
            have hd2 := dec2 (n := x) (by omega)
            have HXD := Lib.hid hxd
            obtain ⟨X, hX⟩ : ∃ X, Hid (Lib.decDigits i = X) := ⟨_, rfl⟩
            obtain ⟨Y, hY⟩ : ∃ Y, Hid (Lib.decDigits x = Y) := ⟨_, rfl⟩
            rw [hX.out] at HI hd1
            rw [hY.out] at HK hd2
            clear hxd
            have g1 := fun W => run_string_add_lists (P := Tryz.prog) W [42, 120] X (by simp) (by omega)
            have g2 := fun W => run_string_add_lists (P := Tryz.prog) W (y ++ g) ([42, 120] ++ X) (by rw [List.length_append]; omega) (by simp; omega)
            have g3 := fun W => run_string_add_lists (P := Tryz.prog) W [94] Y (by simp) (by omega)
            have g4 := fun W => run_string_add_lists (P := Tryz.prog) W (y ++ g ++ ([42, 120] ++ X)) ([94] ++ Y) (by simp only [List.length_append, List.length_cons, List.length_nil]; omega) (by simp; omega)
            simp only [List.cons_append, List.nil_append] at g1 g2 g3
            simp only [List.cons_append, List.nil_append, List.append_assoc] at g4
            by_cases h1 : x = 1
            · subst h1
              go_wp2_with fail
              refine (HI.out _).mono ?_
              rintro e w2 ⟨rfl, rfl⟩
              go_wp2_with fail
              go_roundw
              case rel => exact ⟨i + 1, g ++ ([42, 120] ++ X), by omega, by go_num, by simp, by show _ = _ ++ _; rw [HXD.out, ← hg.out, facOne, if_pos rfl, hX.out], hbq⟩
              case measure => simp [intOf]; omega
            · by_cases h2 : 1 < x
              · have H2 := Lib.hid h2
                have h20 : 0 < x := by omega
                go_wp2_with fail
                refine (HI.out _).mono ?_
                rintro e w2 ⟨rfl, rfl⟩
                go_wp2_with fail
                refine (HK.out _).mono ?_
                rintro e w2 ⟨rfl, rfl⟩
                go_wp2_with fail
                go_roundw
                case rel => exact ⟨i + 1, g ++ ([42, 120] ++ X ++ [94] ++ Y), by omega, by go_num, by simp, by show _ = _ ++ _; rw [HXD.out, ← hg.out, facOne, if_neg h1, if_pos H2.out, hX.out, hY.out], hbq⟩
                case measure => simp [intOf]; omega
              · have h3 : x = 0 := by omega
                subst h3
                go_wp2_with fail
                go_roundw
                case rel => exact ⟨i + 1, g, by omega, by go_num, rfl, by show _ = _ ++ _; rw [HXD.out, ← hg.out, facOne, if_neg (by omega), if_neg (by omega), List.append_nil], hbq⟩
                case measure => simp [intOf]; omega
          · obtain rfl : i = es.length := by omega
            have hgl : g.length ≤ 56 := by rw [hg.out]; have := facTo_len es HG.out es.length (by omega); omega
            have HW3 := Lib.hid (HW2.out.trans (hbq.mono HW2.out.size))
            go_wp2_with fail
            go_roundw
            case rel => exact ⟨k + 1, y ++ g, by omega, by go_num, rfl, (by show _ = textTo _ k ++ _ ++ _; rw [HPK.out, if_neg (by have := HKP.out; omega), List.append_nil, ← ht.out, ← hy.out, hg.out]; show _ = _ ++ termText _; rw [HTT.out]; simp), by rw [List.length_append]; omega, HW3.out⟩
            case measure => simp [intOf]; omega
      · have HKP := Lib.hid (show 0 < k by omega)
        have hkp : (0 : Int) < k := by omega
        clear hk0
        have f0 := fun W => run_string_add_lists (P := Tryz.prog) W t [32, 43, 32] (by omega) (by simp)
        obtain ⟨u, hu⟩ : ∃ u, Hid (t ++ [32, 43, 32] = u) := ⟨_, Lib.hid rfl⟩
        have hul : u.length ≤ 5000 * k + 3 := by rw [← hu.out]; simp only [List.length_append, List.length_cons, List.length_nil]; omega
        rw [hu.out] at f0
        have f1 := fun W => run_string_add_lists (P := Tryz.prog) W u rt (by omega) (by omega)
        go_wp2_with fail
        refine HX1.out.mono ?_
        rintro e v1 ⟨r, rfl, hr, rl1, rl2, hv1⟩
        have HX2 := Lib.hid (rtextq r q v1 hr (by have := HL1.out.1; omega) (by have := HL1.out.2; omega))
        rw [HRQ.out r v1 hr] at HX2
        have HK1 := Lib.hid (HKB.out.below hv1)
        have HW1 := Lib.hid (HW0.out.trans (hv1.mono HW0.out.size))
        clear hr rl1 rl2 hv1 b0 b1 b2 b3 b4 b5 b6 b7 b8 HX1
        go_wp2_with fail
        refine HX2.out.mono ?_
        rintro e v2 ⟨rfl, hv2⟩
        have HK2 := Lib.hid (HK1.out.below hv2)
        have HW2 := Lib.hid (HW1.out.trans (hv2.mono HW1.out.size))
        have HR2 := Lib.hid (HRD.out.below HW2.out)
        clear hv2 HX2 HK1
        obtain ⟨b0, b1, b2, b3, b4, b5, b6, b7, b8⟩ := HK2.out.facts
        obtain ⟨y, hy⟩ : ∃ y, Hid (u ++ rt = y) := ⟨_, Lib.hid rfl⟩
        have hyl : y.length ≤ 5000 * k + 4005 := by rw [← hy.out, List.length_append]; omega
        rw [hy.out] at f1
        go_wp2_with fail
        go_loopw [3, 6, 7, 29] (fun s3 _ _ si wq => ∃ (i : Nat) (g : List UInt8), i ≤ es.length ∧ si = .int .i64 i ∧ s3 = .string ⟨(y ++ g).toArray⟩ ∧ Hid (g = facTo es i) ∧ Below v2.heap.size v2 wq) (fun _ _ _ si _ => es.length - (intOf si).toNat)
        case atStart => exact ⟨0, [], by omega, rfl, by simp, rfl, Below.refl _ _⟩
        case round =>
          obtain ⟨i, g, hi, rfl, rfl, hg, hbq⟩ := hrel
          clear f1 f0 b0 b1 b2 b3 b4 b5 b6 b7 b8
          by_cases hil : i < es.length
          · obtain ⟨ad2, x, rfl, hb2, he, hc2⟩ := (HR2.out.below hbq).ask hil
            have hxd : es.getD i 0 = x := he.out
            have hx100 := HG.out i
            rw [hxd] at hx100
            have hgl : g.length ≤ 56 := by rw [hg.out]; have := facTo_len es HG.out i (by omega); omega
            have HI := Lib.hid (fun W => Tryz.strconv_Itoa_small i (by omega) W)
            have HK := Lib.hid (fun W => Tryz.strconv_Itoa_small x (by omega) W)
            have hd1 := dec2 (n := i) (by omega)
            have hd2 := dec2 (n := x) (by omega)
            have HXD := Lib.hid hxd
            obtain ⟨X, hX⟩ : ∃ X, Hid (Lib.decDigits i = X) := ⟨_, rfl⟩
            obtain ⟨Y, hY⟩ : ∃ Y, Hid (Lib.decDigits x = Y) := ⟨_, rfl⟩
            rw [hX.out] at HI hd1
            rw [hY.out] at HK hd2
            clear hxd
            have g1 := fun W => run_string_add_lists (P := Tryz.prog) W [42, 120] X (by simp) (by omega)
            have g2 := fun W => run_string_add_lists (P := Tryz.prog) W (y ++ g) ([42, 120] ++ X) (by rw [List.length_append]; omega) (by simp; omega)
            have g3 := fun W => run_string_add_lists (P := Tryz.prog) W [94] Y (by simp) (by omega)
            have g4 := fun W => run_string_add_lists (P := Tryz.prog) W (y ++ g ++ ([42, 120] ++ X)) ([94] ++ Y) (by simp only [List.length_append, List.length_cons, List.length_nil]; omega) (by simp; omega)
            simp only [List.cons_append, List.nil_append] at g1 g2 g3
            simp only [List.cons_append, List.nil_append, List.append_assoc] at g4
            by_cases h1 : x = 1
            · subst h1
              go_wp2_with fail
              refine (HI.out _).mono ?_
              rintro e w2 ⟨rfl, rfl⟩
              go_wp2_with fail
              go_roundw
              case rel => exact ⟨i + 1, g ++ ([42, 120] ++ X), by omega, by go_num, by simp, by show _ = _ ++ _; rw [HXD.out, ← hg.out, facOne, if_pos rfl, hX.out], hbq⟩
              case measure => simp [intOf]; omega
            · by_cases h2 : 1 < x
              · have H2 := Lib.hid h2
                have h20 : 0 < x := by omega
                go_wp2_with fail
                refine (HI.out _).mono ?_
                rintro e w2 ⟨rfl, rfl⟩
                go_wp2_with fail
                refine (HK.out _).mono ?_
                rintro e w2 ⟨rfl, rfl⟩
                go_wp2_with fail
                go_roundw
                case rel => exact ⟨i + 1, g ++ ([42, 120] ++ X ++ [94] ++ Y), by omega, by go_num, by simp, by show _ = _ ++ _; rw [HXD.out, ← hg.out, facOne, if_neg h1, if_pos H2.out, hX.out, hY.out], hbq⟩
                case measure => simp [intOf]; omega
              · have h3 : x = 0 := by omega
                subst h3
                go_wp2_with fail
                go_roundw
                case rel => exact ⟨i + 1, g, by omega, by go_num, rfl, by show _ = _ ++ _; rw [HXD.out, ← hg.out, facOne, if_neg (by omega), if_neg (by omega), List.append_nil], hbq⟩
                case measure => simp [intOf]; omega
          · obtain rfl : i = es.length := by omega
            have hgl : g.length ≤ 56 := by rw [hg.out]; have := facTo_len es HG.out es.length (by omega); omega
            have HW3 := Lib.hid (HW2.out.trans (hbq.mono HW2.out.size))
            go_wp2_with fail
            go_roundw
            case rel => exact ⟨k + 1, y ++ g, by omega, by go_num, rfl, (by show _ = textTo _ k ++ _ ++ _; rw [HPK.out, if_pos HKP.out, ← ht.out, ← hy.out, ← hu.out, hg.out]; show _ = _ ++ termText _; rw [HTT.out]; simp), by rw [List.length_append]; omega, HW3.out⟩
            case measure => simp [intOf]; omega
    · obtain rfl : k = ms.length := by omega
      by_cases h0 : ms.length = 0
      · have hpt : Hid (polyText (up n P) = [48]) := if_pos (by rw [← HL.out]; exact h0)
        have ht0 : t = [] := by rw [ht.out, h0]; rfl
        subst ht0
        go_wp2
        go_ret
        exact ⟨by rw [hpt.out]; rfl, hbw⟩
      · have hpt : Hid (polyText (up n P) = textTo (up n P) ms.length) := by
          show polyText _ = _
          rw [polyText, if_neg (by rw [← HL.out]; exact h0), ← HL.out]
        have htp : 0 < t.length := by
          rw [ht.out]
          obtain ⟨j, hj⟩ : ∃ j, ms.length = j + 1 := ⟨ms.length - 1, by omega⟩
          rw [hj]
          exact textTo_pos (by rw [← HL.out]; omega)
        obtain ⟨a, r, rfl⟩ : ∃ a r, t = a :: r := by
          cases t with
          | nil => simp at htp
          | cons a r => exact ⟨a, r, rfl⟩
        have hne : ((⟨(a :: r).toArray⟩ : ByteArray) == ⟨#[]⟩) = false := rfl
        go_wp2
        go_ret
        exact ⟨by rw [hpt.out, ← ht.out]; rfl, hbw⟩
end Go.Proofs.YtlbfoclhkdlafaaGreatDoor


/- isochronelaw03.small; isochronelaw03.PolyTexts answers true for all arguments: the walk. -/
attribute [local go_sem ↓] Go.wp_at_zero Go.wp_at_succ
namespace Go.Proofs.YtlbfoclhkdlafaaGreatDoor
open Go.RowKit V

theorem psm1 (n : Int) (A : Option Addr) (c : Nat) (ms : List MM) (es : List (List Int)) (w : World) (h : PRaw w A ms es) (v : Bool) (hv : v = true ↔ Sm n ms es 12 8 2) :
    Calls Tryz.prog 48 #[.agg #[.int .i64 n, .slice A ms.length c], .int .i64 12, .int .i64 8, .int .i64 2] w (Gives (.bool v) w) := psmall n A c ms es 12 8 2 w h (by omega) v hv
set_option maxRecDepth 100000 in
set_option maxHeartbeats 1600000 in
theorem psm (n n2 : Int) (A B : Option Addr) (c d : Nat) (ms ms2 : List MM) (es es2 : List (List Int)) (w : World) (h : PRaw w A ms es) (h2 : PRaw w B ms2 es2) (v : Bool) (hv : v = true ↔ n = n2 ∧ Sm n ms es 12 8 2 ∧ Sm n2 ms2 es2 12 8 2) :
    Calls Tryz.prog 9 #[.agg #[.int .i64 n, .slice A ms.length c], .agg #[.int .i64 n2, .slice B ms2.length d]] w (Gives (.bool v) w) := by
  have HV := Lib.hid hv
  have HF := Lib.hid (fun (h : ¬ (n = n2 ∧ Sm n ms es 12 8 2 ∧ Sm n2 ms2 es2 12 8 2)) => not_false_of hv h)
  clear hv
  obtain ⟨ka, kb, hb0⟩ := pboxes2 w (.int .i64 n) (.slice A ms.length c) (.int .i64 n2) (.slice B ms2.length d)
  go_enter Tryz.func9, Tryz.ntmps9
  go_upto_region 1 with fail
  obtain ⟨w1, hw1⟩ : ∃ x, (w.alloc (.cells #[.int .i64 n, .slice A ms.length c] 24)).alloc (.cells #[.int .i64 n2, .slice B ms2.length d] 24) = x := ⟨_, rfl⟩
  rw [hw1] at ka kb hb0 ⊢
  clear hw1
  have HA := Lib.hid (h.below hb0)
  have HB := Lib.hid (h2.below hb0)
  clear h h2
  obtain ⟨a0, a1, a2, a3, a4⟩ := ka.facts
  obtain ⟨b0, b1, b2, b3, b4⟩ := kb.facts
  by_cases hn : n = n2
  · subst hn
    by_cases hs : Sm n ms es 12 8 2
    · have HS := Lib.hid hs
      have H1 := Lib.hid (psm1 n A c ms es w1 HA.out true ⟨fun _ => hs, fun _ => rfl⟩)
      clear hs
      by_cases hs2 : Sm n ms2 es2 12 8 2
      · have hvt : v = true := HV.out.2 ⟨rfl, HS.out, hs2⟩
        subst hvt
        have H2 := Lib.hid (fun W (hW : Below w1.heap.size w1 W) => psm1 n B d ms2 es2 W (HB.out.below hW) true ⟨fun _ => hs2, fun _ => rfl⟩)
        clear hs2
        go_wp2_with fail
        refine H1.out.mono ?_
        rintro e w2 ⟨rfl, hb2⟩
        clear a0 a1 a2 a3 a4 b0 b1 b2 b3 b4
        obtain ⟨b0, b1, b2, b3, b4⟩ := (kb.below hb2).facts
        go_wp2_with fail
        refine (H2.out _ hb2).mono ?_
        rintro e w3 ⟨rfl, hb3⟩
        go_wp2_with fail
        go_ret
        exact ⟨rfl, (hb0.trans (hb2.mono hb0.size)).trans (hb3.mono (hb0.trans (hb2.mono hb0.size)).size)⟩
      · have hvf : v = false := HF.out (fun h => hs2 h.2.2)
        subst hvf
        have H2 := Lib.hid (fun W (hW : Below w1.heap.size w1 W) => psm1 n B d ms2 es2 W (HB.out.below hW) false ⟨fun hh => (by cases hh), fun hh => absurd hh hs2⟩)
        clear hs2
        go_wp2_with fail
        refine H1.out.mono ?_
        rintro e w2 ⟨rfl, hb2⟩
        clear a0 a1 a2 a3 a4 b0 b1 b2 b3 b4
        obtain ⟨b0, b1, b2, b3, b4⟩ := (kb.below hb2).facts
        go_wp2_with fail
        refine (H2.out _ hb2).mono ?_
        rintro e w3 ⟨rfl, hb3⟩
        go_wp2_with fail
        go_ret
        exact ⟨rfl, (hb0.trans (hb2.mono hb0.size)).trans (hb3.mono (hb0.trans (hb2.mono hb0.size)).size)⟩
    · have hvf : v = false := HF.out (fun h => hs h.2.1)
      subst hvf
      have H1 := Lib.hid (psm1 n A c ms es w1 HA.out false ⟨fun hh => (by cases hh), fun hh => absurd hh hs⟩)
      clear hs
      go_wp2_with fail
      refine H1.out.mono ?_
      rintro e w2 ⟨rfl, hb2⟩
      go_wp2_with fail
      go_ret
      exact ⟨rfl, hb0.trans (hb2.mono hb0.size)⟩
  · have hvf : v = false := HF.out (fun h => hn h.1)
    subst hvf
    go_wp2_with fail
    go_ret
    exact ⟨rfl, hb0⟩
set_option maxRecDepth 100000 in
set_option maxHeartbeats 1600000 in
theorem ptexts_row (n : Int) (A : Option Addr) (c : Nat) (ms : List MM) (es : List (List Int)) (w : World) (ha : PRaw w A ms es) (htab : Lib.TabBelow Tryz.prog w.heap.size w "internal/strconv.uint64pow10" .u64 Lib.pow10Tab) :
    Calls Tryz.prog 5 #[.agg #[.int .i64 n, .slice A ms.length c]] w (Yes w) := by
  have HT := Lib.hid htab
  have HA := Lib.hid ha
  clear htab ha
  have hb1 : Below w.heap.size w (w.alloc (.cells #[.int .i64 n, .slice A ms.length c] 24)) := (Below.refl _ _).alloc (Nat.le_refl _) _
  have k1 := Blk2c.new 24 w (.int .i64 n) (.slice A ms.length c)
  go_enter Tryz.func5, Tryz.ntmps5
  go_upto_region 1 with fail
  obtain ⟨w1, hw1⟩ : ∃ x, w.alloc (.cells #[.int .i64 n, .slice A ms.length c] 24) = x := ⟨_, rfl⟩
  rw [hw1] at k1 hb1 ⊢
  clear hw1
  go_wp2_with fail
  refine (pawake _ (fun w' h => HT.out w' (hb1.trans (h.mono hb1.size)))).mono ?_
  rintro e w2 ⟨rfl, hb2⟩
  have hbb := hb1.trans (hb2.mono hb1.size)
  have k2 := k1.below hb2
  obtain ⟨a0, a1, a2, a3, a4⟩ := k2.facts
  clear k1 hb1 hb2
  by_cases hs : Sm n ms es 12 8 2
  · have H1 := Lib.hid (psm n n A A c c ms ms es es w2 (HA.out.below hbb) (HA.out.below hbb) true ⟨fun _ => ⟨rfl, hs, hs⟩, fun _ => rfl⟩)
    have h12 := hs.len
    obtain ⟨N, hN⟩ := Int.eq_ofNat_of_zero_le hs.val.lo
    have HS := Lib.hid hs
    clear hs
    subst hN
    obtain ⟨hp1, hp2⟩ := HA.out.poly HS.out.val
    have HP1 := Lib.hid hp1
    have HP2 := Lib.hid hp2
    clear hp1 hp2
    go_wp2_with fail
    refine H1.out.mono ?_
    rintro e w3 ⟨rfl, hb3⟩
    have hb3w := hbb.trans (hb3.mono hbb.size)
    have k3 := k2.below hb3
    clear a0 a1 a2 a3 a4 hb3
    obtain ⟨a0, a1, a2, a3, a4⟩ := k3.facts
    have H2 := Lib.hid (ptext N A c ms (polyOf ms es) w3 (HP1.out.below hb3w) HP2.out (fun w' h => HT.out w' (hb3w.trans (h.mono hb3w.size))))
    go_wp2_with fail
    refine H2.out.mono ?_
    rintro e w4 ⟨rfl, hb4⟩
    have hb4w := hb3w.trans (hb4.mono hb3w.size)
    have k4 := k3.below hb4
    clear a0 a1 a2 a3 a4 hb4
    obtain ⟨a0, a1, a2, a3, a4⟩ := k4.facts
    have H3 := Lib.hid (prtext N A c ms (polyOf ms es) w4 (HP1.out.below hb4w) HP2.out (by omega))
    go_wp2_with fail
    refine H3.out.mono ?_
    rintro e w5 ⟨rfl, hb5⟩
    go_wp2_with fail
    go_ret
    exact ⟨rfl, hb4w.trans (hb5.mono hb4w.size)⟩
  · have H1 := Lib.hid (psm n n A A c c ms ms es es w2 (HA.out.below hbb) (HA.out.below hbb) false ⟨fun hh => (by cases hh), fun hh => absurd hh.2.1 hs⟩)
    clear hs
    go_wp2_with fail
    refine H1.out.mono ?_
    rintro e w3 ⟨rfl, hb3⟩
    go_wp2_with fail
    go_ret
    exact ⟨rfl, hbb.trans (hb3.mono hbb.size)⟩
end Go.Proofs.YtlbfoclhkdlafaaGreatDoor

