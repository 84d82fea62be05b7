/- rat.Text: sign, numerator, denominator in decimal digits. -/
import Derived.Test.YtopppmlkddajjaaGreatDoorQFR16
namespace Go.Proofs.YtopppmlkddajjaaGreatDoor
open Go.RowKit V

/-- The text of a number. -/
def ratText (s : Bool) (n d : Nat) : List UInt8 := (if s then [45] else []) ++ Lib.decDigits n ++ (if d = 1 then [] else 47 :: Lib.decDigits d)

set_option maxHeartbeats 1600000 in
theorem qtext (a : RL) (q : Rat) (w : World) (ha : a.Is w q) (l1 : a.ns.length ≤ 4096) (l2 : a.ds.length ≤ 4096)
    (htab : Lib.TabBelow Tryz.prog w.heap.size w "internal/strconv.uint64pow10" .u64 Lib.pow10Tab) :
    Calls Tryz.prog 34 #[.agg #[.bool a.s, .slice a.N a.ns.length a.nc, .slice a.D a.ds.length a.dc]] w
      (Gives (.tuple #[.string ⟨(ratText a.s (V32 a.ns) (V32 a.ds)).toArray⟩, .int .i64 0]) w) := by
  obtain ⟨s, N, nc, ns, D, dc, ds⟩ := a
  dsimp only at l1 l2 ⊢
  obtain ⟨o, ho⟩ : ∃ o, Hid (decide (V32 ds = 1) = o) := ⟨_, Lib.hid rfl⟩
  have HT := Lib.hid htab
  clear htab
  have mn : Mag ns := ha.mn
  have md : Mag ds := ha.md
  have hk := Blk3.new w (.bool s) (.slice N ns.length nc) (.slice D ds.length dc)
  have HV := Lib.hid (qvalid_yes ⟨s, N, nc, ns, D, dc, ds⟩ q _ (ha.below ((Below.refl _ _).alloc (Nat.le_refl w.heap.size) (.cells #[.bool s, .slice N ns.length nc, .slice D ds.length dc] 24))) l1 l2)
  have hX := dec_short mn l1 (by omega)
  have hY := dec_short md l2 (by omega)
  obtain ⟨X, hXe⟩ : ∃ X, Hid (Lib.decDigits (V32 ns) = X) := ⟨_, Lib.hid rfl⟩
  obtain ⟨Y, hYe⟩ : ∃ Y, Hid (Lib.decDigits (V32 ds) = Y) := ⟨_, Lib.hid rfl⟩
  rw [hXe.out] at hX
  rw [hYe.out] at hY
  have f1 := fun W => run_string_add_lists (P := Tryz.prog) W [45] X (by simp) (by omega)
  have f2 := fun W => run_string_add_lists (P := Tryz.prog) W [47] Y (by simp) (by omega)
  have f3 := fun W => run_string_add_lists (P := Tryz.prog) W X ([47] ++ Y) (by omega) (by simp; omega)
  have f4 := fun W => run_string_add_lists (P := Tryz.prog) W ([45] ++ X) ([47] ++ Y) (by simp; omega) (by simp; omega)
  simp only [List.cons_append, List.nil_append] at f1 f2 f3 f4
  cases s <;> cases o
  all_goals
    go_enter Tryz.func34, Tryz.ntmps34
    go_wp2_with fail
    refine HV.out.mono ?_
    rintro e w1 ⟨rfl, hb1⟩
    have hk1 := hk.below hb1
    have hw1 : Below w.heap.size w w1 := ((Below.refl _ _).alloc (Nat.le_refl _) _).trans (hb1.mono (by simp))
    have rn1 : Rd .u32 w1 N ns := ha.rn.below hw1
    have rd1 : Rd .u32 w1 D ds := ha.rd.below hw1
    have HT1 : Hid (Lib.TabBelow Tryz.prog w1.heap.size w1 "internal/strconv.uint64pow10" .u64 Lib.pow10Tab) := fun w' h => HT.out w' (hw1.trans (h.mono hw1.size))
    obtain ⟨a0, a1, a2, a3, a4, a5, a6⟩ := hk1.facts
    clear hb1
    go_wp2_with fail
    refine (text_any N nc ns _ rn1 mn l1 HT1.out).mono ?_
    rintro e w2 ⟨he, hb2⟩
    rw [hXe.out] at he
    subst he
    have hk2 := hk1.below hb2
    have hw2 := hw1.trans (hb2.mono hw1.size)
    have rd2 := rd1.below hb2
    have HT2 : Hid (Lib.TabBelow Tryz.prog w2.heap.size w2 "internal/strconv.uint64pow10" .u64 Lib.pow10Tab) := fun w' h => HT.out w' (hw2.trans (h.mono hw2.size))
    clear a0 a1 a2 a3 a4 a5 a6 hb2 hk1 rn1 rd1
    obtain ⟨a0, a1, a2, a3, a4, a5, a6⟩ := hk2.facts
    go_wp2_with fail
    refine (isone_any D dc ds _ rd2 (by omega) md).mono ?_
    rintro e w3 ⟨he, n3, hwe⟩
    rw [ho.out] at he
    subst he
    have hb3 : Below w2.heap.size w2 w3 := by rw [hwe]; exact below_drew_ (Below.refl _ _) n3
    have hk3 := hk2.below hb3
    have hw3 := hw2.trans (hb3.mono hw2.size)
    have rd3 := rd2.below hb3
    have HT3 : Hid (Lib.TabBelow Tryz.prog w3.heap.size w3 "internal/strconv.uint64pow10" .u64 Lib.pow10Tab) := fun w' h => HT.out w' (hw3.trans (h.mono hw3.size))
    clear a0 a1 a2 a3 a4 a5 a6 hb3 hk2 hwe rd2
    obtain ⟨a0, a1, a2, a3, a4, a5, a6⟩ := hk3.facts
    go_wp2_with fail
    first
      | (go_ret2
         exact ⟨by unfold ratText; rw [hXe.out, of_decide_eq_true ho.out]; simp, hw3⟩)
      | (refine (text_any D dc ds _ rd3 md l2 HT3.out).mono ?_
         rintro e w4 ⟨he, hb4⟩
         rw [hYe.out] at he
         subst he
         go_wp2_with fail
         go_ret2
         exact ⟨by unfold ratText; rw [hXe.out, hYe.out, if_neg (of_decide_eq_false ho.out)]; simp, hw3.trans (hb4.mono hw3.size)⟩)
end Go.Proofs.YtopppmlkddajjaaGreatDoor


/- isochronelaw02.awake answers true. -/
namespace Go.Proofs.YtopppmlkddajjaaGreatDoor
open Go.RowKit V

theorem half_third : mkRat 1 2 + mkRat 1 3 = mkRat 5 6 := by
  rw [mkRat_add _ _ _ _ (by omega) (by omega)]; rfl
theorem text_56 : ratText false 5 6 = [53, 47, 54] := by
  unfold ratText
  simp [Lib.decDigits]
theorem q56 {s : Bool} {n d : Nat} (h : QOf s n d (mkRat 1 2 + mkRat 1 3)) : s = false ∧ n = 5 ∧ d = 6 := by
  rw [half_third] at h
  exact h.inj (QOf.mk_ (neg := false) (n := 5) (d := 6) (by omega) (by decide) (by simp))

theorem lit_at (W : World) (k : Nat) (xs : List Nat) (h : W.heap.size = k) : Rd .u32 (lit W xs) (some ⟨k, 0, none⟩) xs := h ▸ lit_rd W xs
/-- Two numbers as the check lays them. -/
theorem lits_is (W : World) (k n d : Nat) (o : Obj) (h : W.heap.size = k) (hn : 0 < n) (hn2 : n < 4294967296) (hd : 0 < d) (hd2 : d < 4294967296) (hc : Nat.Coprime n d) :
    RL.Is ((lit (lit W [n]) [d]).alloc o) ⟨false, some ⟨k, 0, none⟩, 1, [n], some ⟨k + 1, 0, none⟩, 1, [d]⟩ (mkRat n d) := by
  refine ⟨((lit_at W k [n] h).alloc _).alloc _, (lit_at (lit W [n]) (k + 1) [d] (by rw [lit_size, h])).alloc _, mag_one n hn2 (by omega), mag_one d hd2 (by omega), Nat.le_refl _, Nat.le_refl _, ?_⟩
  show QOf false (V32 [n]) (V32 [d]) _
  rw [V32_one, V32_one]
  exact QOf.mk_ (neg := false) hd hc (fun _ => rfl)

set_option maxRecDepth 100000 in
set_option maxHeartbeats 800000 in
theorem qawake_yes (w : World) (htab : Lib.TabBelow Tryz.prog w.heap.size w "internal/strconv.uint64pow10" .u64 Lib.pow10Tab) :
    Calls Tryz.prog 6 #[] w (Yes w) := by
  have HT := Lib.hid htab
  clear htab
  have h1 := fun o => lits_is w w.heap.size 1 2 o rfl (by omega) (by omega) (by omega) (by omega) (by decide)
  have hb1 : ∀ o, Below w.heap.size w ((lit (lit w [1]) [2]).alloc o) := fun o => (((Below.refl _ _).alloc (Nat.le_refl _) _).alloc (by simp) _).alloc (by simp; omega) _
  have hs1 : ∀ o, ((lit (lit w [1]) [2]).alloc o).heap.size = w.heap.size + 1 + 1 + 1 := fun o => by simp
  have HH := Lib.hid h1
  have HB := Lib.hid hb1
  have HS := Lib.hid hs1
  clear h1 hb1 hs1
  go_enter Tryz.func6, Tryz.ntmps6
  go_wp2_with fail
  obtain ⟨W, hW, hWB, hWS⟩ : ∃ W, W = (lit (lit w [1]) [2]).alloc (.cells #[.bool false, .slice (some ⟨w.heap.size, 0, none⟩) 1 1, .slice (some ⟨w.heap.size + 1, 0, none⟩) 1 1] 24) ∧ Below w.heap.size w W ∧ W.heap.size = w.heap.size + 1 + 1 + 1 := ⟨_, rfl, HB.out _, HS.out _⟩
  have ha : RL.Is W ⟨false, some ⟨w.heap.size, 0, none⟩, 1, [1], some ⟨w.heap.size + 1, 0, none⟩, 1, [2]⟩ (mkRat 1 2) := by rw [hW]; exact HH.out _
  have hcb := fun o => lits_is W (w.heap.size + 1 + 1 + 1) 1 3 o hWS (by omega) (by omega) (by omega) (by omega) (by decide)
  have hbb : ∀ o, Below W.heap.size W ((lit (lit W [1]) [3]).alloc o) := fun o => (((Below.refl _ _).alloc (Nat.le_refl _) _).alloc (by simp) _).alloc (by simp; omega) _
  refine (Add_same ⟨false, some ⟨w.heap.size, 0, none⟩, 1, [1], some ⟨w.heap.size + 1, 0, none⟩, 1, [2]⟩ ⟨false, some ⟨w.heap.size + 1 + 1 + 1, 0, none⟩, 1, [1], some ⟨w.heap.size + 1 + 1 + 1 + 1, 0, none⟩, 1, [3]⟩ (mkRat 1 2) (mkRat 1 3) _ (by rw [hW] at ha hbb; exact ha.below (hbb _)) (by rw [hW] at hcb; exact hcb _) (by simp) rfl).mono ?_
  rintro e w1 ⟨r, rfl, hr, hl1, hl2, hb⟩
  have hw1 : Below w.heap.size w w1 := by
    refine Below.trans ?_ (hb.mono ?_)
    · exact hWB.trans (by rw [hW] at hbb ⊢; exact (hbb _).mono (by simp; omega))
    · simp; omega
  clear hb hbb hcb ha hW hWB hWS HH HB HS
  go_wp2_with fail
  have hbx : Below w1.heap.size w1 (w1.alloc (.cells #[.bool r.s, .slice r.N r.ns.length r.nc, .slice r.D r.ds.length r.dc] 24)) := (Below.refl _ _).alloc (Nat.le_refl _) _
  refine (qtext r _ _ (hr.below hbx) (by simp at hl1; omega) (by simp at hl2; omega) (fun w' h => HT.out w' ((hw1.trans (hbx.mono hw1.size)).trans (h.mono (by have := hw1.size; simp; omega))))).mono ?_
  rintro e w2 ⟨he, hb2⟩
  obtain ⟨e1, e2, e3⟩ := q56 hr.q
  rw [e1, e2, e3, text_56] at he
  subst he
  have hw2 := (hw1.trans (hbx.mono hw1.size)).trans (hb2.mono (by have := hw1.size; simp; omega))
  clear e1 e2 e3 hb2 hbx
  go_wp2_with fail
  go_ret
  exact ⟨rfl, hw2⟩
end Go.Proofs.YtopppmlkddajjaaGreatDoor


/- isochroneref02.Zero and Make. -/
namespace Go.Proofs.YtopppmlkddajjaaGreatDoor
open Go.RowKit V

theorem qof_zero (s : Bool) (d : Nat) : QOf false 0 1 (mkRat (sgn s 0) d) := by
  have e : mkRat (sgn s 0) d = mkRat (sgn false 0) 1 := by cases s <;> simp [sgn]
  rw [e]
  exact QOf.mk_ (by omega) (by decide) (fun _ => rfl)
theorem nat1_rd (w : World) (k : Nat) (h : w.heap.size = k) : Rd .i64 (w.alloc (.cells #[.int .i64 1] 3)) (some ⟨k, 0, none⟩) [1] := h ▸ rd_nat1 w 1

set_option maxHeartbeats 400000 in
theorem qzero (q : Rat) (hq : QOf false 0 1 q) (w : World) : Calls Tryz.prog 33 #[] w (RefP q 0 1 w) := by
  go_enter Tryz.func33, Tryz.ntmps33
  go_wp2
  exact bodyPost_ret (v := .agg #[.bool false, .slice (some ⟨w.heap.size + 1, 0, none⟩) 0 0, .slice (some ⟨w.heap.size + 1 + 1, 0, none⟩) 1 1]) (by simp [results, Tryz.results33, go_sem]) rfl
    ⟨⟨false, some ⟨w.heap.size + 1, 0, none⟩, 0, [], some ⟨w.heap.size + 1 + 1, 0, none⟩, 1, [1]⟩, rfl, ⟨Rd.nil_, nat1_rd _ _ (by simp), nm_nil, nm_one, by simpa [VD, val] using hq⟩, Nat.le_refl _, Nat.le_refl _, (((Below.refl _ _).alloc (Nat.le_refl _) _).alloc (by simp) _).alloc (by simp; omega) _⟩

theorem len1_val {xs : List Nat} (h : xs.length = 1) {x : Nat} (e : xs.getD 0 0 = x) : VD xs = x := by
  rw [one_of_len h, e]; unfold VD; simp [val]
/-- The test whether a number is 1, part by part. -/
def OneQ (xs : List Nat) (A : Option Addr) (w : World) (p : Bool) : Prop :=
  (p = false ∧ ((xs.length : Int) == 1) = false) ∨ (∃ ad x, A = some ad ∧ xs.length = 1 ∧ VD xs = x ∧ ((x : Int) == 1) = p ∧ w.cell? ad = some (.int .i64 (x : Nat)))
theorem oneQ {xs : List Nat} {A : Option Addr} {w : World} (h : Rd .i64 w A xs) : ∃ p, OneQ xs A w p ∧ (p = true → VD xs = 1) := by
  by_cases h1 : xs.length = 1
  · obtain ⟨ad, x, hA, _, ex, hc⟩ := h.ask (i := 0) (by omega)
    rw [add_zero_] at hc
    have hv := len1_val h1 ex.out
    refine ⟨_, .inr ⟨ad, x, hA, h1, hv, rfl, hc⟩, fun h => ?_⟩
    rw [hv]
    have := eq_of_beq h
    omega
  · exact ⟨false, .inl ⟨rfl, beq_eq_false_iff_ne.2 (by omega)⟩, fun h => by cases h⟩

set_option maxRecDepth 100000 in
set_option maxHeartbeats 3200000 in
theorem rmake (s : Bool) (N D : Option Addr) (nc dc : Nat) (ns ds : List Nat) (w : World) (hn : Rd .i64 w N ns) (hd : Rd .i64 w D ds) (mn : Nm ns) (md : Nm ds) (l1 : ns.length ≤ 10000) (l2 : ds.length ≤ 10000) (hpos : 0 < ds.length) :
    Calls Tryz.prog 51 #[.bool s, .slice N ns.length nc, .slice D ds.length dc] w (RefP (mkRat (sgn s (VD ns)) (VD ds)) ns.length (max 1 ds.length) w) := by
  have hdp := VD_pos md hpos
  by_cases h0 : ns.length = 0
  · obtain rfl : ns = [] := List.eq_nil_of_length_eq_zero h0
    have kr := BlkT.new 30 w (.bool false) (.slice none 0 0) (.slice none 0 0)
    have hq : QOf false 0 1 (mkRat (sgn s (VD [])) (VD ds)) := by have := qof_zero s (VD ds); simpa [VD, val] using this
    go_enter Tryz.func51, Tryz.ntmps51
    go_wp2_with fail
    refine (qzero _ hq _).mono ?_
    rintro e w1 ⟨r, rfl, hr, hl1, hl2, hb1⟩
    have kr1 := kr.below hb1
    have hw1 : Below w.heap.size w w1 := ((Below.refl _ _).alloc (Nat.le_refl _) _).trans (hb1.mono (by simp))
    obtain ⟨c0, c1, c2, c3, c4, c5, c6⟩ := kr1.facts
    go_wp2_with fail
    refine bodyPost_ret (v := .agg #[.bool r.s, .slice r.N r.ns.length r.nc, .slice r.D r.ds.length r.dc]) (by simp [results, Tryz.results51, go_sem, c0, c1, c2]) rfl ?_
    exact RefP.put r hr kr1 (Nat.le_refl _) hw1 (by simpa using hl1) (by omega)
  · have hne : ((ns.length : Int) == 0) = false := beq_eq_false_iff_ne.2 (by omega)
    have hnp := VD_pos mn (by omega)
    have hn1 : Rd .i64 (w.alloc (.cells #[.bool false, .slice none 0 0, .slice none 0 0] 30)) N ns := hn.alloc _
    have hd1 : Rd .i64 (w.alloc (.cells #[.bool false, .slice none 0 0, .slice none 0 0] 30)) D ds := hd.alloc _
    have hw1 : Below w.heap.size w (w.alloc (.cells #[.bool false, .slice none 0 0, .slice none 0 0] 30)) := (Below.refl _ _).alloc (Nat.le_refl _) _
    have kr1 := BlkT.new 30 w (.bool false) (.slice none 0 0) (.slice none 0 0)
    obtain ⟨p, hp, hp1⟩ := oneQ hd1
    have HP1 := Lib.hid hp1
    clear hp1
    have hsame : ∀ w', Below w.heap.size w w' → VD ds = 1 ∨ Nat.gcd (VD ns) (VD ds) = 1 → RL.Ref w' ⟨s, N, nc, ns, D, dc, ds⟩ (mkRat (sgn s (VD ns)) (VD ds)) := fun w' hb h => by
      refine ⟨hn.below hb, hd.below hb, mn, md, QOf.mk_ hdp ?_ (fun h => by dsimp only at h; omega)⟩
      rcases h with h | h
      · dsimp only; rw [h]; exact Nat.gcd_one_right _
      · exact h
    have HSAME := Lib.hid hsame
    clear hsame
    cases p
    · rcases hp with ⟨_, hp⟩ | ⟨ad, x, rfl, hp1, hp2, hp, hp3⟩
      all_goals
        first
          | have hpl : ((ds.length : Int) == 1) = true := by simp [hp1]
          | skip
        first
          | (have HPQ := Lib.hid hp1
             clear hp1 hp2)
          | skip
        go_enter Tryz.func51, Tryz.ntmps51
        go_wp2_with fail
        refine (rgcd_any N _ nc dc ns ds _ hn1 hd1 (by omega) (by omega) mn md).mono ?_
        rintro e w2 ⟨G, gc, gl, rfl, hG, hng, hlg, hvg, hb2⟩
        have kr2 := kr1.below hb2
        have hn2 := hn1.below hb2
        have hd2 := hd1.below hb2
        have hw2 := hw1.trans (hb2.mono hw1.size)
        have hgp : 0 < VD gl := by rw [hvg.out]; exact Nat.gcd_pos_of_pos_left _ hnp
        have hgl : 0 < gl.length := by
          rcases Nat.eq_zero_or_pos gl.length with h | h
          · rw [List.eq_nil_of_length_eq_zero h] at hgp; simp [VD, val] at hgp
          · exact h
        have HGP := Lib.hid hgp
        obtain ⟨p2, hq, hq1⟩ := oneQ hG
        have HQ1 := Lib.hid hq1
        clear hq1 hb2 kr1 hn1 hd1 hw1 hgp hnp hdp hp
        cases p2
        · rcases hq with ⟨_, hq⟩ | ⟨gd, y, rfl, hq1, hq2, hq, hq3⟩
          all_goals
            first
              | have hql : ((gl.length : Int) == 1) = true := by simp [hq1]
              | skip
            first
              | (have HQQ := Lib.hid hq1
                 clear hq1 hq2)
              | skip
            go_wp2_with (go_quiet (fail))
            refine (rdiv_any N _ nc gc ns gl _ hn2 hG (by omega) mn hng hgl).mono ?_
            rintro e w3 ⟨X, xc, xs, X2, xc2, xs2, rfl, hX, hX2, mx, mx2, hdm, hlt, hb3⟩
            have kr3 := kr2.below hb3
            have hd3 := hd2.below hb3
            have hG3 := hG.below hb3
            have hw3 := hw2.trans (hb3.mono hw2.size)
            have hxv : Hid (VD xs = VD ns / VD gl) := (div_uniq hdm.out hlt.out).1
            have hxl : xs.length ≤ ns.length := mn.len_le mx (by rw [hxv.out]; exact Nat.div_le_self _ _)
            clear hb3 hX2 mx2 hdm hlt kr2 hw2 hd2 hq
            go_wp2_with fail
            refine (rdiv_any _ _ dc gc ds gl _ hd3 hG3 (by omega) md hng hgl).mono ?_
            rintro e w4 ⟨Y, yc, ys, Y2, yc2, ys2, rfl, hY, hY2, my, my2, hdm, hlt, hb4⟩
            have kr4 := kr3.below hb4
            have hX4 := hX.below hb4
            have hw4 := hw3.trans (hb4.mono hw3.size)
            have hyv : Hid (VD ys = VD ds / VD gl) := (div_uniq hdm.out hlt.out).1
            have hyl : ys.length ≤ ds.length := md.len_le my (by rw [hyv.out]; exact Nat.div_le_self _ _)
            clear hb4 hY2 my2 hdm hlt kr3 hw3 hd3 hX hG3
            obtain ⟨c0, c1, c2, c3, c4, c5, c6⟩ := kr4.facts
            go_wp2_with fail
            refine bodyPost_ret (v := .agg #[.bool s, .slice X xs.length xc, .slice Y ys.length yc]) (by simp [results, Tryz.results51, go_sem, c0, c1, c2]) rfl ?_
            refine RefP.put ⟨s, X, xc, xs, Y, yc, ys⟩ ⟨hX4, hY, mx, my, ?_⟩ kr4 (Nat.le_refl _) hw4 hxl (Nat.le_trans hyl (Nat.le_max_right _ _))
            have hqr := QOf.red (neg := s) (n := VD ns) (d := VD ds) (VD_pos md hpos)
            have hqp : 0 < VD ns / Nat.gcd (VD ns) (VD ds) := Nat.div_pos (Nat.gcd_le_left _ (VD_pos mn (by omega))) (Nat.gcd_pos_of_pos_right _ (VD_pos md hpos))
            rw [decide_eq_true hqp, Bool.and_true, ← hvg.out, ← hxv.out, ← hyv.out] at hqr
            exact hqr
        · rcases hq with ⟨hqf, _⟩ | ⟨gd, y, rfl, hq1, hq2, hq, hq3⟩
          · cases hqf
          · have hql : ((gl.length : Int) == 1) = true := by simp [hq1]
            have HQQ := Lib.hid hq1
            clear hq1 hq2
            obtain ⟨c0, c1, c2, c3, c4, c5, c6⟩ := kr2.facts
            go_wp2_with (go_quiet (fail))
            have hres := RefP.put ⟨s, N, nc, ns, _, dc, ds⟩ (HSAME.out _ hw2 (.inr (by rw [← hvg.out]; exact HQ1.out trivial))) kr2 (Nat.le_refl _) hw2 (Nat.le_refl _) (Nat.le_max_right 1 _)
            first
              | exact bodyPost_ret (v := .agg #[.bool s, .slice N ns.length nc, .slice D ds.length dc]) (by simp [results, Tryz.results51, go_sem, c0, c1, c2]) rfl hres
              | exact bodyPost_ret (v := .agg #[.bool s, .slice N ns.length nc, .slice (some ad) ds.length dc]) (by simp [results, Tryz.results51, go_sem, c0, c1, c2]) rfl hres
    · rcases hp with ⟨hpf, _⟩ | ⟨ad, x, rfl, hp1, hp2, hp, hp3⟩
      · cases hpf
      · have hpl : ((ds.length : Int) == 1) = true := by simp [hp1]
        have HP := Lib.hid hp1
        clear hp1 hp2
        go_enter Tryz.func51, Tryz.ntmps51
        go_wp2_with (go_quiet (fail))
        refine bodyPost_ret (v := .agg #[.bool s, .slice N ns.length nc, .slice (some ad) ds.length dc]) (by simp [results, Tryz.results51, go_sem]) rfl ?_
        refine ⟨⟨s, N, nc, ns, some ad, dc, ds⟩, rfl, HSAME.out _ ((Below.refl _ _).alloc (Nat.le_refl _) _) (.inl (HP1.out trivial)), Nat.le_refl _, Nat.le_max_right _ _, (Below.refl _ _).alloc (Nat.le_refl _) _⟩
end Go.Proofs.YtopppmlkddajjaaGreatDoor


/- isochroneref02: Sign, One, Mul, Div, Pow. -/
namespace Go.Proofs.YtopppmlkddajjaaGreatDoor
open Go.RowKit V

theorem boxes3 (t : TypeId) (w : World) (a b c a2 b2 c2 r s u : Value) : BlkT t (((w.alloc (.cells #[a, b, c] t)).alloc (.cells #[a2, b2, c2] t)).alloc (.cells #[r, s, u] t)) w.heap.size a b c ∧
    BlkT t (((w.alloc (.cells #[a, b, c] t)).alloc (.cells #[a2, b2, c2] t)).alloc (.cells #[r, s, u] t)) (w.heap.size + 1) a2 b2 c2 ∧
    BlkT t (((w.alloc (.cells #[a, b, c] t)).alloc (.cells #[a2, b2, c2] t)).alloc (.cells #[r, s, u] t)) (w.heap.size + 1 + 1) r s u ∧
    Below w.heap.size w (((w.alloc (.cells #[a, b, c] t)).alloc (.cells #[a2, b2, c2] t)).alloc (.cells #[r, s, u] t)) := by
  obtain ⟨h1, h2, h3⟩ := boxes2 t t w a b c a2 b2 c2
  refine ⟨h1.alloc _, h2.alloc _, ?_, h3.alloc (by simp; omega) _⟩
  have := BlkT.new t ((w.alloc (.cells #[a, b, c] t)).alloc (.cells #[a2, b2, c2] t)) r s u
  rwa [show ((w.alloc (.cells #[a, b, c] t)).alloc (.cells #[a2, b2, c2] t)).heap.size = w.heap.size + 1 + 1 by simp] at this
theorem len_of_VD {xs : List Nat} (h : 0 < VD xs) : 0 < xs.length := by
  rcases Nat.eq_zero_or_pos xs.length with h0 | h0
  · rw [List.eq_nil_of_length_eq_zero h0] at h; simp [VD, val] at h
  · exact h0
theorem RL.Ref.inv {w : World} {b : RL} {q : Rat} (h : b.Ref w q) (hn : 0 < VD b.ns) : RL.Ref w ⟨b.s, b.D, b.dc, b.ds, b.N, b.nc, b.ns⟩ q⁻¹ := by
  have h1 := inv_q h.q hn
  have h2 : 0 < VD b.ds := h.q.pos
  rw [decide_eq_true h2, Bool.and_true] at h1
  exact ⟨h.rd, h.rn, h.md, h.mn, h1⟩
set_option maxHeartbeats 400000 in
theorem rsign (s : Bool) (N D : Option Addr) (n nc d dc : Nat) (w : World) : Calls Tryz.prog 24 #[.agg #[.bool s, .slice N n nc, .slice D d dc]] w (Gives (.int .i64 (sgnI s n)) w) := by
  have hb : Below w.heap.size w (w.alloc (.cells #[.bool s, .slice N n nc, .slice D d dc] 30)) := (Below.refl _ _).alloc (Nat.le_refl _) _
  by_cases h0 : n = 0
  · subst h0
    go_enter Tryz.func24, Tryz.ntmps24
    go_wp2
    go_ret
    exact ⟨rfl, hb⟩
  · have hne : ((n : Int) == 0) = false := beq_eq_false_iff_ne.2 (by omega)
    have h1 : sgnI true n = -1 := by simp [sgnI, h0]
    have h2 : sgnI false n = 1 := by simp [sgnI, h0]
    cases s
    · rw [h2]
      go_enter Tryz.func24, Tryz.ntmps24
      go_wp2
      go_ret
      exact ⟨rfl, hb⟩
    · rw [h1]
      go_enter Tryz.func24, Tryz.ntmps24
      go_wp2
      go_ret
      exact ⟨rfl, hb⟩
set_option maxRecDepth 100000 in
set_option maxHeartbeats 3200000 in
theorem rmulq (a b : RL) (p q : Rat) (w : World) (ha : a.Ref w p) (hb_ : b.Ref w q) (bl : a.ns.length + a.ds.length + b.ns.length + b.ds.length ≤ 9000) :
    Calls Tryz.prog 20 #[.agg #[.bool a.s, .slice a.N a.ns.length a.nc, .slice a.D a.ds.length a.dc], .agg #[.bool b.s, .slice b.N b.ns.length b.nc, .slice b.D b.ds.length b.dc]] w (RefP (p * q) (a.ns.length + b.ns.length + 1) (a.ds.length + b.ds.length + 1) w) := by
  go_enter Tryz.func20, Tryz.ntmps20
  go_wp2_with fail
  have hbox := boxes3 30 w (.bool a.s) (.slice a.N a.ns.length a.nc) (.slice a.D a.ds.length a.dc) (.bool b.s) (.slice b.N b.ns.length b.nc) (.slice b.D b.ds.length b.dc) (.bool false) (.slice none 0 0) (.slice none 0 0)
  obtain ⟨w1, hwe⟩ : ∃ x, ((w.alloc (.cells #[.bool a.s, .slice a.N a.ns.length a.nc, .slice a.D a.ds.length a.dc] 30)).alloc (.cells #[.bool b.s, .slice b.N b.ns.length b.nc, .slice b.D b.ds.length b.dc] 30)).alloc (.cells #[.bool false, .slice none 0 0, .slice none 0 0] 30) = x := ⟨_, rfl⟩
  rw [hwe] at hbox ⊢
  obtain ⟨ka1, kb1, kr1, hb1⟩ := hbox
  have HWE := Lib.hid hwe
  clear hwe HWE
  have ha1 := ha.below hb1
  have hb_1 := hb_.below hb1
  have hw1 := hb1
  clear ha hb_ hb1
  have hna1 := ha1.rn
  have hda1 := ha1.rd
  have hnb1 := hb_1.rn
  have hdb1 := hb_1.rd
  have mna := ha1.mn
  have mda := ha1.md
  have mnb := hb_1.mn
  have mdb := hb_1.md
  have HQ := Lib.hid (mul_q ha1.q hb_1.q)
  have HDP : Hid (0 < VD a.ds * VD b.ds) := Nat.mul_pos ha1.q.pos hb_1.q.pos
  have e1 : ¬ (w.heap.size = w.heap.size + 1 + 1) := by omega
  have e2 : ¬ (w.heap.size + 1 + 1 = w.heap.size) := by omega
  obtain ⟨a0, a1, a2, a3, a4, a5, a6⟩ := ka1.facts
  obtain ⟨b0, b1, b2, b3, b4, b5, b6⟩ := kb1.facts
  go_upto_region 1 with fail
  go_region_held3 (fun w' => w'.cell? ⟨w.heap.size, 0, none⟩ = some (.bool a.s) ∧ w'.cell? ⟨w.heap.size, 1, none⟩ = some (.slice a.N a.ns.length a.nc) ∧ w'.cell? ⟨w.heap.size, 2, none⟩ = some (.slice a.D a.ds.length a.dc) ∧ w'.cell? ⟨w.heap.size + 1, 0, none⟩ = some (.bool b.s) ∧ w'.cell? ⟨w.heap.size + 1, 1, none⟩ = some (.slice b.N b.ns.length b.nc) ∧ w'.cell? ⟨w.heap.size + 1, 2, none⟩ = some (.slice b.D b.ds.length b.dc)) (first | exact ⟨‹_›, ‹_›, ‹_›, ‹_›, ‹_›, ‹_›⟩ | go_keep)
    (first
    | (go_at_call_of 50 (Value.slice a.N a.ns.length a.nc)
       refine (rmul_any a.N b.N a.nc b.nc a.ns b.ns _ (by first | exact hna1 | exact hna1.drew | exact hna1.alloc _ | exact (hna1.alloc _).drew | exact hna1.drew.alloc _) (by first | exact hnb1 | exact hnb1.drew | exact hnb1.alloc _ | exact (hnb1.alloc _).drew | exact hnb1.drew.alloc _) (by omega) mna mnb).mono ?_
       rintro e wx_ ⟨X, xc, xs, rfl, hxc, hX, hbx, hvx, mx_, hxl⟩
       have HVX := Lib.hid hvx
       clear hvx
       have hbp0 : Below w1.heap.size w1 wx_ := by first | exact hbx | exact below_of_drew hbx (Nat.le_refl _) | exact ((Below.refl _ _).alloc (Nat.le_refl _) _).trans (hbx.mono (by simp)) | exact ((Below.refl _ _).alloc (Nat.le_refl _) _).trans ((below_of_drew hbx (Nat.le_refl _)).mono (by simp)) | exact below_of_drew (((Below.refl _ _).alloc (Nat.le_refl _) _).trans (hbx.mono (by simp))) (Nat.le_refl _)
       have hna_0 := hna1.below hbp0
       have hda_0 := hda1.below hbp0
       have hnb_0 := hnb1.below hbp0
       have hdb_0 := hdb1.below hbp0
       have ka_0 := ka1.below hbp0
       obtain ⟨ka0wx_, ka1wx_, ka2wx_, ka3wx_, ka4wx_, ka5wx_, ka6wx_⟩ := ka_0.facts
       have kb_0 := kb1.below hbp0
       obtain ⟨kb0wx_, kb1wx_, kb2wx_, kb3wx_, kb4wx_, kb5wx_, kb6wx_⟩ := kb_0.facts
       have kr_0 := kr1.below hbp0
       obtain ⟨kr0wx_, kr1wx_, kr2wx_, kr3wx_, kr4wx_, kr5wx_, kr6wx_⟩ := kr_0.facts
       have hwq0 := hw1.trans (hbp0.mono hw1.size))
    | (go_at_call_of 50 (Value.slice a.D a.ds.length a.dc)
       refine (rmul_any a.D b.D a.dc b.dc a.ds b.ds _ (by first | exact hda_0 | exact hda_0.drew | exact hda_0.alloc _ | exact (hda_0.alloc _).drew | exact hda_0.drew.alloc _) (by first | exact hdb_0 | exact hdb_0.drew | exact hdb_0.alloc _ | exact (hdb_0.alloc _).drew | exact hdb_0.drew.alloc _) (by omega) mda mdb).mono ?_
       rintro e wy_ ⟨Y, yc, ys, rfl, hyc, hY, hby, hvy, my_, hyl⟩
       have HVY := Lib.hid hvy
       clear hvy
       have hyp : 0 < ys.length := len_of_VD (by rw [HVY.out]; exact HDP.out)
       have hbp1 : Below wx_.heap.size wx_ wy_ := by first | exact hby | exact below_of_drew hby (Nat.le_refl _) | exact ((Below.refl _ _).alloc (Nat.le_refl _) _).trans (hby.mono (by simp)) | exact ((Below.refl _ _).alloc (Nat.le_refl _) _).trans ((below_of_drew hby (Nat.le_refl _)).mono (by simp)) | exact below_of_drew (((Below.refl _ _).alloc (Nat.le_refl _) _).trans (hby.mono (by simp))) (Nat.le_refl _)
       have hna_1 := hna_0.below hbp1
       have hda_1 := hda_0.below hbp1
       have hnb_1 := hnb_0.below hbp1
       have hdb_1 := hdb_0.below hbp1
       have hX_1 := hX.below hbp1
       have ka_1 := ka_0.below hbp1
       obtain ⟨ka0wy_, ka1wy_, ka2wy_, ka3wy_, ka4wy_, ka5wy_, ka6wy_⟩ := ka_1.facts
       have kb_1 := kb_0.below hbp1
       obtain ⟨kb0wy_, kb1wy_, kb2wy_, kb3wy_, kb4wy_, kb5wy_, kb6wy_⟩ := kb_1.facts
       have kr_1 := kr_0.below hbp1
       obtain ⟨kr0wy_, kr1wy_, kr2wy_, kr3wy_, kr4wy_, kr5wy_, kr6wy_⟩ := kr_1.facts
       have hwq1 := hwq0.trans (hbp1.mono hwq0.size))
    | (go_at_call 51
       refine (rmake (a.s != b.s) X Y xc yc xs ys _ (by first | exact hX_1 | exact hX_1.drew | exact hX_1.alloc _ | exact (hX_1.alloc _).drew | exact hX_1.drew.alloc _) (by first | exact hY | exact hY.drew | exact hY.alloc _ | exact (hY.alloc _).drew | exact hY.drew.alloc _) mx_ my_ (by omega) (by omega) hyp).mono ?_
       rintro e wm_ ⟨g, rfl, hg, hg1, hg2, hbm⟩
       rw [HVX.out, HVY.out, HQ.out] at hg
       have hbp2 : Below wy_.heap.size wy_ wm_ := by first | exact hbm | exact below_of_drew hbm (Nat.le_refl _) | exact ((Below.refl _ _).alloc (Nat.le_refl _) _).trans (hbm.mono (by simp)) | exact ((Below.refl _ _).alloc (Nat.le_refl _) _).trans ((below_of_drew hbm (Nat.le_refl _)).mono (by simp)) | exact below_of_drew (((Below.refl _ _).alloc (Nat.le_refl _) _).trans (hbm.mono (by simp))) (Nat.le_refl _)
       have hna_2 := hna_1.below hbp2
       have hda_2 := hda_1.below hbp2
       have hnb_2 := hnb_1.below hbp2
       have hdb_2 := hdb_1.below hbp2
       have hX_2 := hX_1.below hbp2
       have hY_2 := hY.below hbp2
       have ka_2 := ka_1.below hbp2
       obtain ⟨ka0wm_, ka1wm_, ka2wm_, ka3wm_, ka4wm_, ka5wm_, ka6wm_⟩ := ka_2.facts
       have kb_2 := kb_1.below hbp2
       obtain ⟨kb0wm_, kb1wm_, kb2wm_, kb3wm_, kb4wm_, kb5wm_, kb6wm_⟩ := kb_2.facts
       have kr_2 := kr_1.below hbp2
       obtain ⟨kr0wm_, kr1wm_, kr2wm_, kr3wm_, kr4wm_, kr5wm_, kr6wm_⟩ := kr_2.facts
       have hwq2 := hwq1.trans (hbp2.mono hwq1.size)))
  all_goals
    go_wp2_with fail
    refine bodyPost_ret (v := .agg #[.bool g.s, .slice g.N g.ns.length g.nc, .slice g.D g.ds.length g.dc]) (by simp [results, Tryz.results20, go_sem, kr0wm_, kr1wm_, kr2wm_]) rfl ?_
    exact RefP.put g hg kr_2 (by omega) hwq2 (by omega) (by omega)
set_option maxHeartbeats 1600000 in
theorem rdivq (a b : RL) (p q : Rat) (w : World) (ha : a.Ref w p) (hb_ : b.Ref w q) (bl : a.ns.length + a.ds.length + b.ns.length + b.ds.length ≤ 9000) (hn : 0 < VD b.ns) :
    Calls Tryz.prog 26 #[.agg #[.bool a.s, .slice a.N a.ns.length a.nc, .slice a.D a.ds.length a.dc], .agg #[.bool b.s, .slice b.N b.ns.length b.nc, .slice b.D b.ds.length b.dc]] w (RefP (p / q) (a.ns.length + b.ds.length + 1) (a.ds.length + b.ns.length + 1) w) := by
  go_enter Tryz.func26, Tryz.ntmps26
  go_wp2_with fail
  have hbox := boxes3 30 w (.bool a.s) (.slice a.N a.ns.length a.nc) (.slice a.D a.ds.length a.dc) (.bool b.s) (.slice b.N b.ns.length b.nc) (.slice b.D b.ds.length b.dc) (.bool false) (.slice none 0 0) (.slice none 0 0)
  obtain ⟨w1, hwe⟩ : ∃ x, ((w.alloc (.cells #[.bool a.s, .slice a.N a.ns.length a.nc, .slice a.D a.ds.length a.dc] 30)).alloc (.cells #[.bool b.s, .slice b.N b.ns.length b.nc, .slice b.D b.ds.length b.dc] 30)).alloc (.cells #[.bool false, .slice none 0 0, .slice none 0 0] 30) = x := ⟨_, rfl⟩
  rw [hwe] at hbox ⊢
  obtain ⟨ka1, kb1, kr1, hb1⟩ := hbox
  have HWE := Lib.hid hwe
  clear hwe HWE
  have ha1 := ha.below hb1
  have hb_1 := hb_.below hb1
  have hw1 := hb1
  clear ha hb_ hb1
  obtain ⟨a0, a1, a2, a3, a4, a5, a6⟩ := ka1.facts
  obtain ⟨b0, b1, b2, b3, b4, b5, b6⟩ := kb1.facts
  go_wp2_with fail
  refine (rmulq a ⟨b.s, b.D, b.dc, b.ds, b.N, b.nc, b.ns⟩ p q⁻¹ _ ha1 (hb_1.inv hn) (by dsimp only; omega)).mono ?_
  rintro e w2 ⟨g, rfl, hg2, hl1, hl2, hb2⟩
  have ha2 := ha1.below hb2
  have hb_2 := hb_1.below hb2
  have ka2 := ka1.below hb2
  have kb2 := kb1.below hb2
  have kr2 := kr1.below hb2
  have hw2 := hw1.trans (hb2.mono hw1.size)
  clear ha1 hb_1 ka1 kb1 kr1 hw1 hb2
  clear a0 a1 a2 a3 a4 a5 a6 b0 b1 b2 b3 b4 b5 b6
  obtain ⟨c0, c1, c2, c3, c4, c5, c6⟩ := kr2.facts
  go_wp2_with fail
  refine bodyPost_ret (v := .agg #[.bool g.s, .slice g.N g.ns.length g.nc, .slice g.D g.ds.length g.dc]) (by simp [results, Tryz.results26, go_sem, c0, c1, c2]) rfl ?_
  exact RefP.put g hg2 kr2 (by omega) hw2 hl1 hl2
end Go.Proofs.YtopppmlkddajjaaGreatDoor


/- isochroneref02: Floor, Neg. -/
namespace Go.Proofs.YtopppmlkddajjaaGreatDoor
open Go.RowKit V

theorem vd_one : VD [1] = 1 := by simp [VD, val]
set_option maxRecDepth 20000 in
set_option maxHeartbeats 1600000 in
theorem rneg_fz (N D : Option Addr) (nc dc : Nat) (ns ds : List Nat) (q : Rat) (hz : ns.length = 0) (w : World) (ha : RL.Ref w ⟨false, N, nc, ns, D, dc, ds⟩ q) :
    Calls Tryz.prog 21 #[.agg #[.bool false, .slice N ns.length nc, .slice D ds.length dc]] w (RefP (-q) ns.length ds.length w) := by
  have hq := neg_q ha.q
  dsimp only at hq
  have hv0 : VD ns = 0 := by rw [List.eq_nil_of_length_eq_zero hz]; simp [VD, val]
  have HQ : Hid (QOf false (VD ns) (VD ds) (-q)) := Lib.hid (by rw [hv0] at hq ⊢; simpa using hq)
  have hzi : ((ns.length : Int) == 0) = true := by simp [hz]
  clear hz hv0 hq
  go_enter Tryz.func21, Tryz.ntmps21
  go_wp2
  exact bodyPost_ret (v := .agg #[.bool false, .slice N ns.length nc, .slice D ds.length dc]) (by simp [results, Tryz.results21, go_sem]) rfl ⟨⟨false, N, nc, ns, D, dc, ds⟩, rfl, ⟨(ha.rn.alloc _).alloc _, (ha.rd.alloc _).alloc _, ha.mn, ha.md, HQ.out⟩, Nat.le_refl _, Nat.le_refl _, ((Below.refl _ _).alloc (Nat.le_refl _) _).alloc (by simp) _⟩
set_option maxRecDepth 20000 in
set_option maxHeartbeats 1600000 in
theorem rneg_fp (N D : Option Addr) (nc dc : Nat) (ns ds : List Nat) (q : Rat) (hz : 0 < ns.length) (w : World) (ha : RL.Ref w ⟨false, N, nc, ns, D, dc, ds⟩ q) :
    Calls Tryz.prog 21 #[.agg #[.bool false, .slice N ns.length nc, .slice D ds.length dc]] w (RefP (-q) ns.length ds.length w) := by
  have hq := neg_q ha.q
  dsimp only at hq
  have hv0 : 0 < VD ns := VD_pos ha.mn hz
  have HQ : Hid (QOf true (VD ns) (VD ds) (-q)) := Lib.hid (by rw [decide_eq_true hv0] at hq; simpa using hq)
  have hzi : ((ns.length : Int) == 0) = false := beq_eq_false_iff_ne.2 (by omega)
  clear hq
  go_enter Tryz.func21, Tryz.ntmps21
  go_wp2
  exact bodyPost_ret (v := .agg #[.bool true, .slice N ns.length nc, .slice D ds.length dc]) (by simp [results, Tryz.results21, go_sem]) rfl ⟨⟨true, N, nc, ns, D, dc, ds⟩, rfl, ⟨(ha.rn.alloc _).alloc _, (ha.rd.alloc _).alloc _, ha.mn, ha.md, HQ.out⟩, Nat.le_refl _, Nat.le_refl _, ((Below.refl _ _).alloc (Nat.le_refl _) _).alloc (by simp) _⟩
set_option maxRecDepth 20000 in
set_option maxHeartbeats 1600000 in
theorem rneg_tp (N D : Option Addr) (nc dc : Nat) (ns ds : List Nat) (q : Rat) (hz : 0 < ns.length) (w : World) (ha : RL.Ref w ⟨true, N, nc, ns, D, dc, ds⟩ q) :
    Calls Tryz.prog 21 #[.agg #[.bool true, .slice N ns.length nc, .slice D ds.length dc]] w (RefP (-q) ns.length ds.length w) := by
  have hq := neg_q ha.q
  dsimp only at hq
  have hv0 : 0 < VD ns := VD_pos ha.mn hz
  have HQ : Hid (QOf false (VD ns) (VD ds) (-q)) := Lib.hid (by rw [decide_eq_true hv0] at hq; simpa using hq)
  have hzi : ((ns.length : Int) == 0) = false := beq_eq_false_iff_ne.2 (by omega)
  clear hq
  go_enter Tryz.func21, Tryz.ntmps21
  go_wp2
  exact bodyPost_ret (v := .agg #[.bool false, .slice N ns.length nc, .slice D ds.length dc]) (by simp [results, Tryz.results21, go_sem]) rfl ⟨⟨false, N, nc, ns, D, dc, ds⟩, rfl, ⟨(ha.rn.alloc _).alloc _, (ha.rd.alloc _).alloc _, ha.mn, ha.md, HQ.out⟩, Nat.le_refl _, Nat.le_refl _, ((Below.refl _ _).alloc (Nat.le_refl _) _).alloc (by simp) _⟩
theorem rneg (a : RL) (q : Rat) (w : World) (ha : a.Ref w q) :
    Calls Tryz.prog 21 #[.agg #[.bool a.s, .slice a.N a.ns.length a.nc, .slice a.D a.ds.length a.dc]] w (RefP (-q) a.ns.length a.ds.length w) := by
  obtain ⟨s, N, nc, ns, D, dc, ds⟩ := a
  rcases Nat.eq_zero_or_pos ns.length with h | h
  · have hs : s = false := ha.q.zero (by dsimp only; rw [List.eq_nil_of_length_eq_zero h]; simp [VD, val])
    subst hs
    exact rneg_fz N D nc dc ns ds q h w ha
  · cases s
    · exact rneg_fp N D nc dc ns ds q h w ha
    · exact rneg_tp N D nc dc ns ds q h w ha
end Go.Proofs.YtopppmlkddajjaaGreatDoor

