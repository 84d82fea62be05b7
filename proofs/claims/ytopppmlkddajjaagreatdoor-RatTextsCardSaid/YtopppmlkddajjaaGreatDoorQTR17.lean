/- rat.Text: sign, numerator, denominator in decimal digits. -/
import Derived.Test.YtopppmlkddajjaaGreatDoorQTR16
namespace Go.Proofs.YtopppmlkddajjaaGreatDoor
open Go.RowKit V

/-- The text of a number. -/
def ratText (s : Bool) (n d : Nat) : List UInt8 := (if s then [45] else []) ++ Lib.decDigits n ++ (if d = 1 then [] else 47 :: Lib.decDigits d)

set_option maxHeartbeats 1600000 in
theorem qtext (a : RL) (q : Rat) (w : World) (ha : a.Is w q) (l1 : a.ns.length ≤ 4096) (l2 : a.ds.length ≤ 4096)
    (htab : Lib.TabBelow Tryz.prog w.heap.size w "internal/strconv.uint64pow10" .u64 Lib.pow10Tab) :
    Calls Tryz.prog 34 #[.agg #[.bool a.s, .slice a.N a.ns.length a.nc, .slice a.D a.ds.length a.dc]] w
      (Gives (.tuple #[.string ⟨(ratText a.s (V32 a.ns) (V32 a.ds)).toArray⟩, .int .i64 0]) w) := by
  obtain ⟨s, N, nc, ns, D, dc, ds⟩ := a
  dsimp only at l1 l2 ⊢
  obtain ⟨o, ho⟩ : ∃ o, Hid (decide (V32 ds = 1) = o) := ⟨_, Lib.hid rfl⟩
  have HT := Lib.hid htab
  clear htab
  have mn : Mag ns := ha.mn
  have md : Mag ds := ha.md
  have hk := Blk3.new w (.bool s) (.slice N ns.length nc) (.slice D ds.length dc)
  have HV := Lib.hid (qvalid_yes ⟨s, N, nc, ns, D, dc, ds⟩ q _ (ha.below ((Below.refl _ _).alloc (Nat.le_refl w.heap.size) (.cells #[.bool s, .slice N ns.length nc, .slice D ds.length dc] 24))) l1 l2)
  have hX := dec_short mn l1 (by omega)
  have hY := dec_short md l2 (by omega)
  obtain ⟨X, hXe⟩ : ∃ X, Hid (Lib.decDigits (V32 ns) = X) := ⟨_, Lib.hid rfl⟩
  obtain ⟨Y, hYe⟩ : ∃ Y, Hid (Lib.decDigits (V32 ds) = Y) := ⟨_, Lib.hid rfl⟩
  rw [hXe.out] at hX
  rw [hYe.out] at hY
  have f1 := fun W => run_string_add_lists (P := Tryz.prog) W [45] X (by simp) (by omega)
  have f2 := fun W => run_string_add_lists (P := Tryz.prog) W [47] Y (by simp) (by omega)
  have f3 := fun W => run_string_add_lists (P := Tryz.prog) W X ([47] ++ Y) (by omega) (by simp; omega)
  have f4 := fun W => run_string_add_lists (P := Tryz.prog) W ([45] ++ X) ([47] ++ Y) (by simp; omega) (by simp; omega)
  simp only [List.cons_append, List.nil_append] at f1 f2 f3 f4
  cases s <;> cases o
  all_goals
    go_enter Tryz.func34, Tryz.ntmps34
    go_wp2_with fail
    refine HV.out.mono ?_
    rintro e w1 ⟨rfl, hb1⟩
    have hk1 := hk.below hb1
    have hw1 : Below w.heap.size w w1 := ((Below.refl _ _).alloc (Nat.le_refl _) _).trans (hb1.mono (by simp))
    have rn1 : Rd .u32 w1 N ns := ha.rn.below hw1
    have rd1 : Rd .u32 w1 D ds := ha.rd.below hw1
    have HT1 : Hid (Lib.TabBelow Tryz.prog w1.heap.size w1 "internal/strconv.uint64pow10" .u64 Lib.pow10Tab) := fun w' h => HT.out w' (hw1.trans (h.mono hw1.size))
    obtain ⟨a0, a1, a2, a3, a4, a5, a6⟩ := hk1.facts
    clear hb1
    go_wp2_with fail
    refine (text_any N nc ns _ rn1 mn l1 HT1.out).mono ?_
    rintro e w2 ⟨he, hb2⟩
    rw [hXe.out] at he
    subst he
    have hk2 := hk1.below hb2
    have hw2 := hw1.trans (hb2.mono hw1.size)
    have rd2 := rd1.below hb2
    have HT2 : Hid (Lib.TabBelow Tryz.prog w2.heap.size w2 "internal/strconv.uint64pow10" .u64 Lib.pow10Tab) := fun w' h => HT.out w' (hw2.trans (h.mono hw2.size))
    clear a0 a1 a2 a3 a4 a5 a6 hb2 hk1 rn1 rd1
    obtain ⟨a0, a1, a2, a3, a4, a5, a6⟩ := hk2.facts
    go_wp2_with fail
    refine (isone_any D dc ds _ rd2 (by omega) md).mono ?_
    rintro e w3 ⟨he, n3, hwe⟩
    rw [ho.out] at he
    subst he
    have hb3 : Below w2.heap.size w2 w3 := by rw [hwe]; exact below_drew_ (Below.refl _ _) n3
    have hk3 := hk2.below hb3
    have hw3 := hw2.trans (hb3.mono hw2.size)
    have rd3 := rd2.below hb3
    have HT3 : Hid (Lib.TabBelow Tryz.prog w3.heap.size w3 "internal/strconv.uint64pow10" .u64 Lib.pow10Tab) := fun w' h => HT.out w' (hw3.trans (h.mono hw3.size))
    clear a0 a1 a2 a3 a4 a5 a6 hb3 hk2 hwe rd2
    obtain ⟨a0, a1, a2, a3, a4, a5, a6⟩ := hk3.facts
    go_wp2_with fail
    first
      | (go_ret2
         exact ⟨by unfold ratText; rw [hXe.out, of_decide_eq_true ho.out]; simp, hw3⟩)
      | (refine (text_any D dc ds _ rd3 md l2 HT3.out).mono ?_
         rintro e w4 ⟨he, hb4⟩
         rw [hYe.out] at he
         subst he
         go_wp2_with fail
         go_ret2
         exact ⟨by unfold ratText; rw [hXe.out, hYe.out, if_neg (of_decide_eq_false ho.out)]; simp, hw3.trans (hb4.mono hw3.size)⟩)
end Go.Proofs.YtopppmlkddajjaaGreatDoor


/- isochronelaw02.awake answers true. -/
namespace Go.Proofs.YtopppmlkddajjaaGreatDoor
open Go.RowKit V

theorem half_third : mkRat 1 2 + mkRat 1 3 = mkRat 5 6 := by
  rw [mkRat_add _ _ _ _ (by omega) (by omega)]; rfl
theorem text_56 : ratText false 5 6 = [53, 47, 54] := by
  unfold ratText
  simp [Lib.decDigits]
theorem q56 {s : Bool} {n d : Nat} (h : QOf s n d (mkRat 1 2 + mkRat 1 3)) : s = false ∧ n = 5 ∧ d = 6 := by
  rw [half_third] at h
  exact h.inj (QOf.mk_ (neg := false) (n := 5) (d := 6) (by omega) (by decide) (by simp))

theorem lit_at (W : World) (k : Nat) (xs : List Nat) (h : W.heap.size = k) : Rd .u32 (lit W xs) (some ⟨k, 0, none⟩) xs := h ▸ lit_rd W xs
/-- Two numbers as the check lays them. -/
theorem lits_is (W : World) (k n d : Nat) (o : Obj) (h : W.heap.size = k) (hn : 0 < n) (hn2 : n < 4294967296) (hd : 0 < d) (hd2 : d < 4294967296) (hc : Nat.Coprime n d) :
    RL.Is ((lit (lit W [n]) [d]).alloc o) ⟨false, some ⟨k, 0, none⟩, 1, [n], some ⟨k + 1, 0, none⟩, 1, [d]⟩ (mkRat n d) := by
  refine ⟨((lit_at W k [n] h).alloc _).alloc _, (lit_at (lit W [n]) (k + 1) [d] (by rw [lit_size, h])).alloc _, mag_one n hn2 (by omega), mag_one d hd2 (by omega), Nat.le_refl _, Nat.le_refl _, ?_⟩
  show QOf false (V32 [n]) (V32 [d]) _
  rw [V32_one, V32_one]
  exact QOf.mk_ (neg := false) hd hc (fun _ => rfl)

set_option maxRecDepth 100000 in
set_option maxHeartbeats 800000 in
theorem qawake_yes (w : World) (htab : Lib.TabBelow Tryz.prog w.heap.size w "internal/strconv.uint64pow10" .u64 Lib.pow10Tab) :
    Calls Tryz.prog 6 #[] w (Yes w) := by
  have HT := Lib.hid htab
  clear htab
  have h1 := fun o => lits_is w w.heap.size 1 2 o rfl (by omega) (by omega) (by omega) (by omega) (by decide)
  have hb1 : ∀ o, Below w.heap.size w ((lit (lit w [1]) [2]).alloc o) := fun o => (((Below.refl _ _).alloc (Nat.le_refl _) _).alloc (by simp) _).alloc (by simp; omega) _
  have hs1 : ∀ o, ((lit (lit w [1]) [2]).alloc o).heap.size = w.heap.size + 1 + 1 + 1 := fun o => by simp
  have HH := Lib.hid h1
  have HB := Lib.hid hb1
  have HS := Lib.hid hs1
  clear h1 hb1 hs1
  go_enter Tryz.func6, Tryz.ntmps6
  go_wp2_with fail
  obtain ⟨W, hW, hWB, hWS⟩ : ∃ W, W = (lit (lit w [1]) [2]).alloc (.cells #[.bool false, .slice (some ⟨w.heap.size, 0, none⟩) 1 1, .slice (some ⟨w.heap.size + 1, 0, none⟩) 1 1] 24) ∧ Below w.heap.size w W ∧ W.heap.size = w.heap.size + 1 + 1 + 1 := ⟨_, rfl, HB.out _, HS.out _⟩
  have ha : RL.Is W ⟨false, some ⟨w.heap.size, 0, none⟩, 1, [1], some ⟨w.heap.size + 1, 0, none⟩, 1, [2]⟩ (mkRat 1 2) := by rw [hW]; exact HH.out _
  have hcb := fun o => lits_is W (w.heap.size + 1 + 1 + 1) 1 3 o hWS (by omega) (by omega) (by omega) (by omega) (by decide)
  have hbb : ∀ o, Below W.heap.size W ((lit (lit W [1]) [3]).alloc o) := fun o => (((Below.refl _ _).alloc (Nat.le_refl _) _).alloc (by simp) _).alloc (by simp; omega) _
  refine (Add_same ⟨false, some ⟨w.heap.size, 0, none⟩, 1, [1], some ⟨w.heap.size + 1, 0, none⟩, 1, [2]⟩ ⟨false, some ⟨w.heap.size + 1 + 1 + 1, 0, none⟩, 1, [1], some ⟨w.heap.size + 1 + 1 + 1 + 1, 0, none⟩, 1, [3]⟩ (mkRat 1 2) (mkRat 1 3) _ (by rw [hW] at ha hbb; exact ha.below (hbb _)) (by rw [hW] at hcb; exact hcb _) (by simp) rfl).mono ?_
  rintro e w1 ⟨r, rfl, hr, hl1, hl2, hb⟩
  have hw1 : Below w.heap.size w w1 := by
    refine Below.trans ?_ (hb.mono ?_)
    · exact hWB.trans (by rw [hW] at hbb ⊢; exact (hbb _).mono (by simp; omega))
    · simp; omega
  clear hb hbb hcb ha hW hWB hWS HH HB HS
  go_wp2_with fail
  have hbx : Below w1.heap.size w1 (w1.alloc (.cells #[.bool r.s, .slice r.N r.ns.length r.nc, .slice r.D r.ds.length r.dc] 24)) := (Below.refl _ _).alloc (Nat.le_refl _) _
  refine (qtext r _ _ (hr.below hbx) (by simp at hl1; omega) (by simp at hl2; omega) (fun w' h => HT.out w' ((hw1.trans (hbx.mono hw1.size)).trans (h.mono (by have := hw1.size; simp; omega))))).mono ?_
  rintro e w2 ⟨he, hb2⟩
  obtain ⟨e1, e2, e3⟩ := q56 hr.q
  rw [e1, e2, e3, text_56] at he
  subst he
  have hw2 := (hw1.trans (hbx.mono hw1.size)).trans (hb2.mono (by have := hw1.size; simp; omega))
  clear e1 e2 e3 hb2 hbx
  go_wp2_with fail
  go_ret
  exact ⟨rfl, hw2⟩
end Go.Proofs.YtopppmlkddajjaaGreatDoor


/- isochroneref02.Zero and Make. -/
namespace Go.Proofs.YtopppmlkddajjaaGreatDoor
open Go.RowKit V

theorem qof_zero (s : Bool) (d : Nat) : QOf false 0 1 (mkRat (sgn s 0) d) := by
  have e : mkRat (sgn s 0) d = mkRat (sgn false 0) 1 := by cases s <;> simp [sgn]
  rw [e]
  exact QOf.mk_ (by omega) (by decide) (fun _ => rfl)
theorem nat1_rd (w : World) (k : Nat) (h : w.heap.size = k) : Rd .i64 (w.alloc (.cells #[.int .i64 1] 3)) (some ⟨k, 0, none⟩) [1] := h ▸ rd_nat1 w 1

set_option maxHeartbeats 400000 in
theorem qzero (q : Rat) (hq : QOf false 0 1 q) (w : World) : Calls Tryz.prog 33 #[] w (RefP q 0 1 w) := by
  go_enter Tryz.func33, Tryz.ntmps33
  go_wp2
  exact bodyPost_ret (v := .agg #[.bool false, .slice (some ⟨w.heap.size + 1, 0, none⟩) 0 0, .slice (some ⟨w.heap.size + 1 + 1, 0, none⟩) 1 1]) (by simp [results, Tryz.results33, go_sem]) rfl
    ⟨⟨false, some ⟨w.heap.size + 1, 0, none⟩, 0, [], some ⟨w.heap.size + 1 + 1, 0, none⟩, 1, [1]⟩, rfl, ⟨Rd.nil_, nat1_rd _ _ (by simp), nm_nil, nm_one, by simpa [VD, val] using hq⟩, Nat.le_refl _, Nat.le_refl _, (((Below.refl _ _).alloc (Nat.le_refl _) _).alloc (by simp) _).alloc (by simp; omega) _⟩

theorem len1_val {xs : List Nat} (h : xs.length = 1) {x : Nat} (e : xs.getD 0 0 = x) : VD xs = x := by
  rw [one_of_len h, e]; unfold VD; simp [val]
/-- The test whether a number is 1, part by part. -/
def OneQ (xs : List Nat) (A : Option Addr) (w : World) (p : Bool) : Prop :=
  (p = false ∧ ((xs.length : Int) == 1) = false) ∨ (∃ ad x, A = some ad ∧ xs.length = 1 ∧ VD xs = x ∧ ((x : Int) == 1) = p ∧ w.cell? ad = some (.int .i64 (x : Nat)))
theorem oneQ {xs : List Nat} {A : Option Addr} {w : World} (h : Rd .i64 w A xs) : ∃ p, OneQ xs A w p ∧ (p = true → VD xs = 1) := by
  by_cases h1 : xs.length = 1
  · obtain ⟨ad, x, hA, _, ex, hc⟩ := h.ask (i := 0) (by omega)
    rw [add_zero_] at hc
    have hv := len1_val h1 ex.out
    refine ⟨_, .inr ⟨ad, x, hA, h1, hv, rfl, hc⟩, fun h => ?_⟩
    rw [hv]
    have := eq_of_beq h
    omega
  · exact ⟨false, .inl ⟨rfl, beq_eq_false_iff_ne.2 (by omega)⟩, fun h => by cases h⟩

set_option maxRecDepth 100000 in
set_option maxHeartbeats 3200000 in
theorem rmake (s : Bool) (N D : Option Addr) (nc dc : Nat) (ns ds : List Nat) (w : World) (hn : Rd .i64 w N ns) (hd : Rd .i64 w D ds) (mn : Nm ns) (md : Nm ds) (l1 : ns.length ≤ 10000) (l2 : ds.length ≤ 10000) (hpos : 0 < ds.length) :
    Calls Tryz.prog 51 #[.bool s, .slice N ns.length nc, .slice D ds.length dc] w (RefP (mkRat (sgn s (VD ns)) (VD ds)) ns.length (max 1 ds.length) w) := by
  have hdp := VD_pos md hpos
  by_cases h0 : ns.length = 0
  · obtain rfl : ns = [] := List.eq_nil_of_length_eq_zero h0
    have kr := BlkT.new 30 w (.bool false) (.slice none 0 0) (.slice none 0 0)
    have hq : QOf false 0 1 (mkRat (sgn s (VD [])) (VD ds)) := by have := qof_zero s (VD ds); simpa [VD, val] using this
    go_enter Tryz.func51, Tryz.ntmps51
    go_wp2_with fail
    refine (qzero _ hq _).mono ?_
    rintro e w1 ⟨r, rfl, hr, hl1, hl2, hb1⟩
    have kr1 := kr.below hb1
    have hw1 : Below w.heap.size w w1 := ((Below.refl _ _).alloc (Nat.le_refl _) _).trans (hb1.mono (by simp))
    obtain ⟨c0, c1, c2, c3, c4, c5, c6⟩ := kr1.facts
    go_wp2_with fail
    refine bodyPost_ret (v := .agg #[.bool r.s, .slice r.N r.ns.length r.nc, .slice r.D r.ds.length r.dc]) (by simp [results, Tryz.results51, go_sem, c0, c1, c2]) rfl ?_
    exact RefP.put r hr kr1 (Nat.le_refl _) hw1 (by simpa using hl1) (by omega)
  · have hne : ((ns.length : Int) == 0) = false := beq_eq_false_iff_ne.2 (by omega)
    have hnp := VD_pos mn (by omega)
    have hn1 : Rd .i64 (w.alloc (.cells #[.bool false, .slice none 0 0, .slice none 0 0] 30)) N ns := hn.alloc _
    have hd1 : Rd .i64 (w.alloc (.cells #[.bool false, .slice none 0 0, .slice none 0 0] 30)) D ds := hd.alloc _
    have hw1 : Below w.heap.size w (w.alloc (.cells #[.bool false, .slice none 0 0, .slice none 0 0] 30)) := (Below.refl _ _).alloc (Nat.le_refl _) _
    have kr1 := BlkT.new 30 w (.bool false) (.slice none 0 0) (.slice none 0 0)
    obtain ⟨p, hp, hp1⟩ := oneQ hd1
    have HP1 := Lib.hid hp1
    clear hp1
    have hsame : ∀ w', Below w.heap.size w w' → VD ds = 1 ∨ Nat.gcd (VD ns) (VD ds) = 1 → RL.Ref w' ⟨s, N, nc, ns, D, dc, ds⟩ (mkRat (sgn s (VD ns)) (VD ds)) := fun w' hb h => by
      refine ⟨hn.below hb, hd.below hb, mn, md, QOf.mk_ hdp ?_ (fun h => by dsimp only at h; omega)⟩
      rcases h with h | h
      · dsimp only; rw [h]; exact Nat.gcd_one_right _
      · exact h
    have HSAME := Lib.hid hsame
    clear hsame
    cases p
    · rcases hp with ⟨_, hp⟩ | ⟨ad, x, rfl, hp1, hp2, hp, hp3⟩
      all_goals
        first
          | have hpl : ((ds.length : Int) == 1) = true := by simp [hp1]
          | skip
        first
          | (have HPQ := Lib.hid hp1
             clear hp1 hp2)
          | skip
        go_enter Tryz.func51, Tryz.ntmps51
        go_wp2_with fail
        refine (rgcd_any N _ nc dc ns ds _ hn1 hd1 (by omega) (by omega) mn md).mono ?_
        rintro e w2 ⟨G, gc, gl, rfl, hG, hng, hlg, hvg, hb2⟩
        have kr2 := kr1.below hb2
        have hn2 := hn1.below hb2
        have hd2 := hd1.below hb2
        have hw2 := hw1.trans (hb2.mono hw1.size)
        have hgp : 0 < VD gl := by rw [hvg.out]; exact Nat.gcd_pos_of_pos_left _ hnp
        have hgl : 0 < gl.length := by
          rcases Nat.eq_zero_or_pos gl.length with h | h
          · rw [List.eq_nil_of_length_eq_zero h] at hgp; simp [VD, val] at hgp
          · exact h
        have HGP := Lib.hid hgp
        obtain ⟨p2, hq, hq1⟩ := oneQ hG
        have HQ1 := Lib.hid hq1
        clear hq1 hb2 kr1 hn1 hd1 hw1 hgp hnp hdp hp
        cases p2
        · rcases hq with ⟨_, hq⟩ | ⟨gd, y, rfl, hq1, hq2, hq, hq3⟩
          all_goals
            first
              | have hql : ((gl.length : Int) == 1) = true := by simp [hq1]
              | skip
            first
              | (have HQQ := Lib.hid hq1
                 clear hq1 hq2)
              | skip
            go_wp2_with (go_quiet (fail))
            refine (rdiv_any N _ nc gc ns gl _ hn2 hG (by omega) mn hng hgl).mono ?_
            rintro e w3 ⟨X, xc, xs, X2, xc2, xs2, rfl, hX, hX2, mx, mx2, hdm, hlt, hb3⟩
            have kr3 := kr2.below hb3
            have hd3 := hd2.below hb3
            have hG3 := hG.below hb3
            have hw3 := hw2.trans (hb3.mono hw2.size)
            have hxv : Hid (VD xs = VD ns / VD gl) := (div_uniq hdm.out hlt.out).1
            have hxl : xs.length ≤ ns.length := mn.len_le mx (by rw [hxv.out]; exact Nat.div_le_self _ _)
            clear hb3 hX2 mx2 hdm hlt kr2 hw2 hd2 hq
            go_wp2_with fail
            refine (rdiv_any _ _ dc gc ds gl _ hd3 hG3 (by omega) md hng hgl).mono ?_
            rintro e w4 ⟨Y, yc, ys, Y2, yc2, ys2, rfl, hY, hY2, my, my2, hdm, hlt, hb4⟩
            have kr4 := kr3.below hb4
            have hX4 := hX.below hb4
            have hw4 := hw3.trans (hb4.mono hw3.size)
            have hyv : Hid (VD ys = VD ds / VD gl) := (div_uniq hdm.out hlt.out).1
            have hyl : ys.length ≤ ds.length := md.len_le my (by rw [hyv.out]; exact Nat.div_le_self _ _)
            clear hb4 hY2 my2 hdm hlt kr3 hw3 hd3 hX hG3
            obtain ⟨c0, c1, c2, c3, c4, c5, c6⟩ := kr4.facts
            go_wp2_with fail
            refine bodyPost_ret (v := .agg #[.bool s, .slice X xs.length xc, .slice Y ys.length yc]) (by simp [results, Tryz.results51, go_sem, c0, c1, c2]) rfl ?_
            refine RefP.put ⟨s, X, xc, xs, Y, yc, ys⟩ ⟨hX4, hY, mx, my, ?_⟩ kr4 (Nat.le_refl _) hw4 hxl (Nat.le_trans hyl (Nat.le_max_right _ _))
            have hqr := QOf.red (neg := s) (n := VD ns) (d := VD ds) (VD_pos md hpos)
            have hqp : 0 < VD ns / Nat.gcd (VD ns) (VD ds) := Nat.div_pos (Nat.gcd_le_left _ (VD_pos mn (by omega))) (Nat.gcd_pos_of_pos_right _ (VD_pos md hpos))
            rw [decide_eq_true hqp, Bool.and_true, ← hvg.out, ← hxv.out, ← hyv.out] at hqr
            exact hqr
        · rcases hq with ⟨hqf, _⟩ | ⟨gd, y, rfl, hq1, hq2, hq, hq3⟩
          · cases hqf
          · have hql : ((gl.length : Int) == 1) = true := by simp [hq1]
            have HQQ := Lib.hid hq1
            clear hq1 hq2
            obtain ⟨c0, c1, c2, c3, c4, c5, c6⟩ := kr2.facts
            go_wp2_with (go_quiet (fail))
            have hres := RefP.put ⟨s, N, nc, ns, _, dc, ds⟩ (HSAME.out _ hw2 (.inr (by rw [← hvg.out]; exact HQ1.out trivial))) kr2 (Nat.le_refl _) hw2 (Nat.le_refl _) (Nat.le_max_right 1 _)
            first
              | exact bodyPost_ret (v := .agg #[.bool s, .slice N ns.length nc, .slice D ds.length dc]) (by simp [results, Tryz.results51, go_sem, c0, c1, c2]) rfl hres
              | exact bodyPost_ret (v := .agg #[.bool s, .slice N ns.length nc, .slice (some ad) ds.length dc]) (by simp [results, Tryz.results51, go_sem, c0, c1, c2]) rfl hres
    · rcases hp with ⟨hpf, _⟩ | ⟨ad, x, rfl, hp1, hp2, hp, hp3⟩
      · cases hpf
      · have hpl : ((ds.length : Int) == 1) = true := by simp [hp1]
        have HP := Lib.hid hp1
        clear hp1 hp2
        go_enter Tryz.func51, Tryz.ntmps51
        go_wp2_with (go_quiet (fail))
        refine bodyPost_ret (v := .agg #[.bool s, .slice N ns.length nc, .slice (some ad) ds.length dc]) (by simp [results, Tryz.results51, go_sem]) rfl ?_
        refine ⟨⟨s, N, nc, ns, some ad, dc, ds⟩, rfl, HSAME.out _ ((Below.refl _ _).alloc (Nat.le_refl _) _) (.inl (HP1.out trivial)), Nat.le_refl _, Nat.le_max_right _ _, (Below.refl _ _).alloc (Nat.le_refl _) _⟩
end Go.Proofs.YtopppmlkddajjaaGreatDoor


/- isochroneref02.Text. -/
namespace Go.Proofs.YtopppmlkddajjaaGreatDoor
open Go.RowKit V

set_option maxHeartbeats 3200000 in
theorem rtextq (a : RL) (q : Rat) (w : World) (ha : a.Ref w q) (l1 : a.ns.length ≤ 1000) (l2 : a.ds.length ≤ 1000) :
    Calls Tryz.prog 36 #[.agg #[.bool a.s, .slice a.N a.ns.length a.nc, .slice a.D a.ds.length a.dc]] w
      (Gives (.string ⟨(ratText a.s (VD a.ns) (VD a.ds)).toArray⟩) w) := by
  obtain ⟨s, N, nc, ns, D, dc, ds⟩ := a
  dsimp only at l1 l2 ⊢
  have mn : Nm ns := ha.mn
  have md : Nm ds := ha.md
  have rn : Rd .i64 w N ns := ha.rn
  have rd : Rd .i64 w D ds := ha.rd
  have hX := dec_short_nm mn l1
  have hY := dec_short_nm md l2
  obtain ⟨X, hXe⟩ : ∃ X, Hid (Lib.decDigits (VD ns) = X) := ⟨_, Lib.hid rfl⟩
  obtain ⟨Y, hYe⟩ : ∃ Y, Hid (Lib.decDigits (VD ds) = Y) := ⟨_, Lib.hid rfl⟩
  rw [hXe.out] at hX
  rw [hYe.out] at hY
  have f1 := fun W => run_string_add_lists (P := Tryz.prog) W [45] X (by simp) (by omega)
  have f2 := fun W => run_string_add_lists (P := Tryz.prog) W [47] Y (by simp) (by omega)
  have f3 := fun W => run_string_add_lists (P := Tryz.prog) W X ([47] ++ Y) (by omega) (by simp; omega)
  have f4 := fun W => run_string_add_lists (P := Tryz.prog) W ([45] ++ X) ([47] ++ Y) (by simp; omega) (by simp; omega)
  simp only [List.cons_append, List.nil_append] at f1 f2 f3 f4
  obtain ⟨c, hc, hc1, hc2⟩ : ∃ c : Int, Hid (cmpOf (VD ds) (VD [1]) = c) ∧ (VD ds = 1 → c = 0) ∧ (VD ds ≠ 1 → c ≠ 0) := by
    refine ⟨_, Lib.hid rfl, fun h => ?_, fun h => ?_⟩
    · rw [h]; simp [VD, val, cmpOf]
    · have e : VD [1] = 1 := by simp [VD, val]
      rw [e]; unfold cmpOf
      split
      · omega
      · split
        · omega
        · omega
  have kr := BlkT.new 30 w (.bool s) (.slice N ns.length nc) (.slice D ds.length dc)
  have hbl : Below w.heap.size w (w.alloc (.cells #[.bool s, .slice N ns.length nc, .slice D ds.length dc] 30)) := (Below.refl _ _).alloc (Nat.le_refl _) _
  have rn0 := rn.below hbl
  have rd0 := rd.below hbl
  by_cases hd : VD ds = 1
  · have hc0 := hc1 hd
    have HD := Lib.hid hd
    have HE : Hid (cmpOf (VD ds) (VD [1]) = 0) := hc0 ▸ hc
    clear hc hc1 hc2 hc0 hd
    cases s
    all_goals
      go_enter Tryz.func36, Tryz.ntmps36
      obtain ⟨a0, a1, a2, a3, a4, a5, a6⟩ := kr.facts
      go_wp2_with fail
      refine (rtext_all N nc ns _ rn0 l1 mn).mono ?_
      rintro e w1 ⟨he, hb1⟩
      rw [hXe.out] at he
      subst he
      have kr1 := kr.below hb1
      have hw1 := hbl.trans (hb1.mono hbl.size)
      have rd1 := rd0.below hb1
      clear a0 a1 a2 a3 a4 a5 a6
      obtain ⟨a0, a1, a2, a3, a4, a5, a6⟩ := kr1.facts
      go_wp2_with fail
      refine (rcmp_any D (some ⟨_, 0, none⟩) dc 1 ds [1] _ (rd1.alloc _) (rd_nat1 _ 1) (by omega) md nm_one).mono ?_
      rintro e w2 ⟨he, n2, hwe⟩
      rw [HE.out] at he
      subst he
      have hb2 : Below w1.heap.size w1 w2 := by rw [hwe]; exact below_drew_ ((Below.refl _ _).alloc (Nat.le_refl _) _) n2
      clear hwe
      go_wp2_with fail
      go_ret
      exact ⟨by unfold ratText; rw [hXe.out, if_pos HD.out]; simp, hw1.trans (hb2.mono hw1.size)⟩
  · have hc0 := hc2 hd
    have HD := Lib.hid hd
    have hc3 : (c == 0) = false := beq_eq_false_iff_ne.2 hc0
    have hc4 : (c != 0) = true := by rw [bne, hc3]; rfl
    clear hc1 hc2 hc0 hd
    cases s
    all_goals
      go_enter Tryz.func36, Tryz.ntmps36
      obtain ⟨a0, a1, a2, a3, a4, a5, a6⟩ := kr.facts
      go_wp2_with fail
      refine (rtext_all N nc ns _ rn0 l1 mn).mono ?_
      rintro e w1 ⟨he, hb1⟩
      rw [hXe.out] at he
      subst he
      have kr1 := kr.below hb1
      have hw1 := hbl.trans (hb1.mono hbl.size)
      have rd1 := rd0.below hb1
      clear a0 a1 a2 a3 a4 a5 a6
      obtain ⟨a0, a1, a2, a3, a4, a5, a6⟩ := kr1.facts
      go_wp2_with fail
      refine (rcmp_any D (some ⟨_, 0, none⟩) dc 1 ds [1] _ (rd1.alloc _) (rd_nat1 _ 1) (by omega) md nm_one).mono ?_
      rintro e w2 ⟨he, n2, hwe⟩
      rw [hc.out] at he
      subst he
      have hb2 : Below w1.heap.size w1 w2 := by rw [hwe]; exact below_drew_ ((Below.refl _ _).alloc (Nat.le_refl _) _) n2
      have kr2 := kr1.below hb2
      have hw2 := hw1.trans (hb2.mono hw1.size)
      have rd2 := rd1.below hb2
      clear hwe a0 a1 a2 a3 a4 a5 a6
      obtain ⟨a0, a1, a2, a3, a4, a5, a6⟩ := kr2.facts
      go_wp2_with fail
      refine (rtext_all D dc ds _ rd2 l2 md).mono ?_
      rintro e w3 ⟨he, hb3⟩
      rw [hYe.out] at he
      subst he
      go_wp2_with fail
      go_ret
      exact ⟨by unfold ratText; rw [hXe.out, hYe.out, if_neg HD.out]; simp, hw2.trans (hb3.mono hw2.size)⟩
end Go.Proofs.YtopppmlkddajjaaGreatDoor

