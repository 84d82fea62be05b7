/- isochroneref02.Int of numbers of at most 32 bits and a sign. -/
import Derived.Test.YtopppmlkddajjaaGreatDoorQSR19
namespace Go.Proofs.YtopppmlkddajjaaGreatDoor
open Go.RowKit V

set_option maxHeartbeats 1600000 in
theorem rint_p (n : Nat) (hn : n ≤ 4294967296) (w : World) : Calls Tryz.prog 27 #[.int .i64 (n : Int)] w (RefP (mkRat (sgn false n) 1) 5 1 w) := by
  obtain ⟨m, hm⟩ : ∃ m : Int, (n : Int) = m := ⟨_, rfl⟩
  have hm1 : 0 ≤ m := by omega
  have hm2 : -4294967296 ≤ m ∧ m ≤ 4294967296 := by omega
  obtain ⟨hm3, hm4⟩ := hm2
  have hm5 : m = (n : Int) := hm.symm
  rw [hm]
  have HM5 := Lib.hid hm5
  clear hm hm5
  go_enter Tryz.func27, Tryz.ntmps27
  go_wp2_with fail
  have hbox := (⟨BlkT.new 30 w (.bool false) (.slice none 0 0) (.slice none 0 0), (Below.refl _ _).alloc (Nat.le_refl _) _⟩ : _ ∧ Below w.heap.size w (w.alloc (.cells #[.bool false, .slice none 0 0, .slice none 0 0] 30)))
  obtain ⟨w1, hwe⟩ : ∃ x, w.alloc (.cells #[.bool false, .slice none 0 0, .slice none 0 0] 30) = x := ⟨_, rfl⟩
  rw [hwe] at hbox ⊢
  obtain ⟨kr1, hb1⟩ := hbox
  have HWE := Lib.hid hwe
  clear hwe HWE
  have hw1 := hb1
  clear hb1
  rw [HM5.out]
  refine (int_any n _ (by omega)).mono ?_
  rintro e w2 ⟨H, hc, hl, rfl, hhc, hH2, hb2, hvh, hnh, hlh⟩
  have kr2 := kr1.below hb2
  have hw2 := hw1.trans (hb2.mono hw1.size)
  clear kr1 hw1 hb2
  have HVH := Lib.hid hvh
  clear hvh
  obtain ⟨d0, d1, d2, d3, d4, d5, d6⟩ := ((kr2.put3_ (.bool false) (.slice H hl.length hc) (.slice (some ⟨w2.heap.size, 0, none⟩) 1 1)).alloc (.cells #[.int .i64 1] 3)).facts
  dsimp only [Go.Proofs.YtopppmlkddajjaaGreatDoor.put3] at d0 d1 d2
  clear d3 d4 d5 d6
  obtain ⟨c0, c1, c2, c3, c4, c5, c6⟩ := kr2.facts
  go_wp2_with fail
  refine bodyPost_ret (v := .agg #[.bool false, .slice H hl.length hc, .slice (some ⟨w2.heap.size, 0, none⟩) 1 1]) (by simp [results, Tryz.results27, go_sem, d0, d1, d2]) rfl ?_
  have hbw := below_put3 hw2 (show w.heap.size ≤ w.heap.size by omega) (.bool false) (.slice H hl.length hc) (.slice (some ⟨w2.heap.size, 0, none⟩) 1 1)
  exact ⟨⟨false, H, hc, hl, some ⟨w2.heap.size, 0, none⟩, 1, [1]⟩, rfl, ⟨(hH2.put3 kr2 _ _ _).alloc _, nat1_rd _ _ (by simp), hnh, nm_one, by dsimp only; rw [HVH.out, vd_one]; exact QOf.mk_ (neg := false) (n := n) (d := 1) (by omega) (Nat.coprime_one_right _) (fun h => by rfl)⟩, by dsimp only; omega, by simp, hbw.alloc hbw.size _⟩

set_option maxHeartbeats 1600000 in
theorem rint_n (n : Nat) (h0 : 0 < n) (hn : n ≤ 4294967296) (w : World) : Calls Tryz.prog 27 #[.int .i64 (-(n : Int))] w (RefP (mkRat (sgn true n) 1) 5 1 w) := by
  obtain ⟨m, hm⟩ : ∃ m : Int, (-(n : Int)) = m := ⟨_, rfl⟩
  have hm1 : m < 0 := by omega
  have hm2 : -4294967296 ≤ m ∧ m ≤ 4294967296 := by omega
  obtain ⟨hm3, hm4⟩ := hm2
  have hm5 : -m = (n : Int) := by omega
  rw [hm]
  have HM5 := Lib.hid hm5
  clear hm hm5
  go_enter Tryz.func27, Tryz.ntmps27
  go_wp2_with fail
  have hbox := (⟨BlkT.new 30 w (.bool false) (.slice none 0 0) (.slice none 0 0), (Below.refl _ _).alloc (Nat.le_refl _) _⟩ : _ ∧ Below w.heap.size w (w.alloc (.cells #[.bool false, .slice none 0 0, .slice none 0 0] 30)))
  obtain ⟨w1, hwe⟩ : ∃ x, w.alloc (.cells #[.bool false, .slice none 0 0, .slice none 0 0] 30) = x := ⟨_, rfl⟩
  rw [hwe] at hbox ⊢
  obtain ⟨kr1, hb1⟩ := hbox
  have HWE := Lib.hid hwe
  clear hwe HWE
  have hw1 := hb1
  clear hb1
  rw [HM5.out]
  refine (int_any n _ (by omega)).mono ?_
  rintro e w2 ⟨H, hc, hl, rfl, hhc, hH2, hb2, hvh, hnh, hlh⟩
  have kr2 := kr1.below hb2
  have hw2 := hw1.trans (hb2.mono hw1.size)
  clear kr1 hw1 hb2
  have HVH := Lib.hid hvh
  clear hvh
  obtain ⟨d0, d1, d2, d3, d4, d5, d6⟩ := ((kr2.put3_ (.bool true) (.slice H hl.length hc) (.slice (some ⟨w2.heap.size, 0, none⟩) 1 1)).alloc (.cells #[.int .i64 1] 3)).facts
  dsimp only [Go.Proofs.YtopppmlkddajjaaGreatDoor.put3] at d0 d1 d2
  clear d3 d4 d5 d6
  obtain ⟨c0, c1, c2, c3, c4, c5, c6⟩ := kr2.facts
  go_wp2_with fail
  refine bodyPost_ret (v := .agg #[.bool true, .slice H hl.length hc, .slice (some ⟨w2.heap.size, 0, none⟩) 1 1]) (by simp [results, Tryz.results27, go_sem, d0, d1, d2]) rfl ?_
  have hbw := below_put3 hw2 (show w.heap.size ≤ w.heap.size by omega) (.bool true) (.slice H hl.length hc) (.slice (some ⟨w2.heap.size, 0, none⟩) 1 1)
  exact ⟨⟨true, H, hc, hl, some ⟨w2.heap.size, 0, none⟩, 1, [1]⟩, rfl, ⟨(hH2.put3 kr2 _ _ _).alloc _, nat1_rd _ _ (by simp), hnh, nm_one, by dsimp only; rw [HVH.out, vd_one]; exact QOf.mk_ (neg := true) (n := n) (d := 1) (by omega) (Nat.coprime_one_right _) (fun h => by omega)⟩, by dsimp only; omega, by simp, hbw.alloc hbw.size _⟩

theorem rint_any (n : Int) (h1 : -4294967296 ≤ n) (h2 : n ≤ 4294967296) (w : World) : Calls Tryz.prog 27 #[.int .i64 n] w (RefP (mkRat n 1) 5 1 w) := by
  rcases Int.lt_or_le n 0 with h | h
  · obtain ⟨m, rfl⟩ : ∃ m : Nat, n = -(m : Int) := ⟨(-n).toNat, by omega⟩
    exact rint_n m (by omega) (by omega) w
  · obtain ⟨m, rfl⟩ : ∃ m : Nat, n = (m : Int) := ⟨n.toNat, by omega⟩
    exact rint_p m (by omega) w
end Go.Proofs.YtopppmlkddajjaaGreatDoor


/- rat.Text: sign, numerator, denominator in decimal digits. -/
namespace Go.Proofs.YtopppmlkddajjaaGreatDoor
open Go.RowKit V

/-- The text of a number. -/
def ratText (s : Bool) (n d : Nat) : List UInt8 := (if s then [45] else []) ++ Lib.decDigits n ++ (if d = 1 then [] else 47 :: Lib.decDigits d)

set_option maxHeartbeats 1600000 in
theorem qtext (a : RL) (q : Rat) (w : World) (ha : a.Is w q) (l1 : a.ns.length ≤ 4096) (l2 : a.ds.length ≤ 4096)
    (htab : Lib.TabBelow Tryz.prog w.heap.size w "internal/strconv.uint64pow10" .u64 Lib.pow10Tab) :
    Calls Tryz.prog 34 #[.agg #[.bool a.s, .slice a.N a.ns.length a.nc, .slice a.D a.ds.length a.dc]] w
      (Gives (.tuple #[.string ⟨(ratText a.s (V32 a.ns) (V32 a.ds)).toArray⟩, .int .i64 0]) w) := by
  obtain ⟨s, N, nc, ns, D, dc, ds⟩ := a
  dsimp only at l1 l2 ⊢
  obtain ⟨o, ho⟩ : ∃ o, Hid (decide (V32 ds = 1) = o) := ⟨_, Lib.hid rfl⟩
  have HT := Lib.hid htab
  clear htab
  have mn : Mag ns := ha.mn
  have md : Mag ds := ha.md
  have hk := Blk3.new w (.bool s) (.slice N ns.length nc) (.slice D ds.length dc)
  have HV := Lib.hid (qvalid_yes ⟨s, N, nc, ns, D, dc, ds⟩ q _ (ha.below ((Below.refl _ _).alloc (Nat.le_refl w.heap.size) (.cells #[.bool s, .slice N ns.length nc, .slice D ds.length dc] 24))) l1 l2)
  have hX := dec_short mn l1 (by omega)
  have hY := dec_short md l2 (by omega)
  obtain ⟨X, hXe⟩ : ∃ X, Hid (Lib.decDigits (V32 ns) = X) := ⟨_, Lib.hid rfl⟩
  obtain ⟨Y, hYe⟩ : ∃ Y, Hid (Lib.decDigits (V32 ds) = Y) := ⟨_, Lib.hid rfl⟩
  rw [hXe.out] at hX
  rw [hYe.out] at hY
  have f1 := fun W => run_string_add_lists (P := Tryz.prog) W [45] X (by simp) (by omega)
  have f2 := fun W => run_string_add_lists (P := Tryz.prog) W [47] Y (by simp) (by omega)
  have f3 := fun W => run_string_add_lists (P := Tryz.prog) W X ([47] ++ Y) (by omega) (by simp; omega)
  have f4 := fun W => run_string_add_lists (P := Tryz.prog) W ([45] ++ X) ([47] ++ Y) (by simp; omega) (by simp; omega)
  simp only [List.cons_append, List.nil_append] at f1 f2 f3 f4
  cases s <;> cases o
  all_goals
    go_enter Tryz.func34, Tryz.ntmps34
    go_wp2_with fail
    refine HV.out.mono ?_
    rintro e w1 ⟨rfl, hb1⟩
    have hk1 := hk.below hb1
    have hw1 : Below w.heap.size w w1 := ((Below.refl _ _).alloc (Nat.le_refl _) _).trans (hb1.mono (by simp))
    have rn1 : Rd .u32 w1 N ns := ha.rn.below hw1
    have rd1 : Rd .u32 w1 D ds := ha.rd.below hw1
    have HT1 : Hid (Lib.TabBelow Tryz.prog w1.heap.size w1 "internal/strconv.uint64pow10" .u64 Lib.pow10Tab) := fun w' h => HT.out w' (hw1.trans (h.mono hw1.size))
    obtain ⟨a0, a1, a2, a3, a4, a5, a6⟩ := hk1.facts
    clear hb1
    go_wp2_with fail
    refine (text_any N nc ns _ rn1 mn l1 HT1.out).mono ?_
    rintro e w2 ⟨he, hb2⟩
    rw [hXe.out] at he
    subst he
    have hk2 := hk1.below hb2
    have hw2 := hw1.trans (hb2.mono hw1.size)
    have rd2 := rd1.below hb2
    have HT2 : Hid (Lib.TabBelow Tryz.prog w2.heap.size w2 "internal/strconv.uint64pow10" .u64 Lib.pow10Tab) := fun w' h => HT.out w' (hw2.trans (h.mono hw2.size))
    clear a0 a1 a2 a3 a4 a5 a6 hb2 hk1 rn1 rd1
    obtain ⟨a0, a1, a2, a3, a4, a5, a6⟩ := hk2.facts
    go_wp2_with fail
    refine (isone_any D dc ds _ rd2 (by omega) md).mono ?_
    rintro e w3 ⟨he, n3, hwe⟩
    rw [ho.out] at he
    subst he
    have hb3 : Below w2.heap.size w2 w3 := by rw [hwe]; exact below_drew_ (Below.refl _ _) n3
    have hk3 := hk2.below hb3
    have hw3 := hw2.trans (hb3.mono hw2.size)
    have rd3 := rd2.below hb3
    have HT3 : Hid (Lib.TabBelow Tryz.prog w3.heap.size w3 "internal/strconv.uint64pow10" .u64 Lib.pow10Tab) := fun w' h => HT.out w' (hw3.trans (h.mono hw3.size))
    clear a0 a1 a2 a3 a4 a5 a6 hb3 hk2 hwe rd2
    obtain ⟨a0, a1, a2, a3, a4, a5, a6⟩ := hk3.facts
    go_wp2_with fail
    first
      | (go_ret2
         exact ⟨by unfold ratText; rw [hXe.out, of_decide_eq_true ho.out]; simp, hw3⟩)
      | (refine (text_any D dc ds _ rd3 md l2 HT3.out).mono ?_
         rintro e w4 ⟨he, hb4⟩
         rw [hYe.out] at he
         subst he
         go_wp2_with fail
         go_ret2
         exact ⟨by unfold ratText; rw [hXe.out, hYe.out, if_neg (of_decide_eq_false ho.out)]; simp, hw3.trans (hb4.mono hw3.size)⟩)
end Go.Proofs.YtopppmlkddajjaaGreatDoor


/- isochronelaw02.awake answers true. -/
namespace Go.Proofs.YtopppmlkddajjaaGreatDoor
open Go.RowKit V

theorem half_third : mkRat 1 2 + mkRat 1 3 = mkRat 5 6 := by
  rw [mkRat_add _ _ _ _ (by omega) (by omega)]; rfl
theorem text_56 : ratText false 5 6 = [53, 47, 54] := by
  unfold ratText
  simp [Lib.decDigits]
theorem q56 {s : Bool} {n d : Nat} (h : QOf s n d (mkRat 1 2 + mkRat 1 3)) : s = false ∧ n = 5 ∧ d = 6 := by
  rw [half_third] at h
  exact h.inj (QOf.mk_ (neg := false) (n := 5) (d := 6) (by omega) (by decide) (by simp))

theorem lit_at (W : World) (k : Nat) (xs : List Nat) (h : W.heap.size = k) : Rd .u32 (lit W xs) (some ⟨k, 0, none⟩) xs := h ▸ lit_rd W xs
/-- Two numbers as the check lays them. -/
theorem lits_is (W : World) (k n d : Nat) (o : Obj) (h : W.heap.size = k) (hn : 0 < n) (hn2 : n < 4294967296) (hd : 0 < d) (hd2 : d < 4294967296) (hc : Nat.Coprime n d) :
    RL.Is ((lit (lit W [n]) [d]).alloc o) ⟨false, some ⟨k, 0, none⟩, 1, [n], some ⟨k + 1, 0, none⟩, 1, [d]⟩ (mkRat n d) := by
  refine ⟨((lit_at W k [n] h).alloc _).alloc _, (lit_at (lit W [n]) (k + 1) [d] (by rw [lit_size, h])).alloc _, mag_one n hn2 (by omega), mag_one d hd2 (by omega), Nat.le_refl _, Nat.le_refl _, ?_⟩
  show QOf false (V32 [n]) (V32 [d]) _
  rw [V32_one, V32_one]
  exact QOf.mk_ (neg := false) hd hc (fun _ => rfl)

set_option maxRecDepth 100000 in
set_option maxHeartbeats 800000 in
theorem qawake_yes (w : World) (htab : Lib.TabBelow Tryz.prog w.heap.size w "internal/strconv.uint64pow10" .u64 Lib.pow10Tab) :
    Calls Tryz.prog 6 #[] w (Yes w) := by
  have HT := Lib.hid htab
  clear htab
  have h1 := fun o => lits_is w w.heap.size 1 2 o rfl (by omega) (by omega) (by omega) (by omega) (by decide)
  have hb1 : ∀ o, Below w.heap.size w ((lit (lit w [1]) [2]).alloc o) := fun o => (((Below.refl _ _).alloc (Nat.le_refl _) _).alloc (by simp) _).alloc (by simp; omega) _
  have hs1 : ∀ o, ((lit (lit w [1]) [2]).alloc o).heap.size = w.heap.size + 1 + 1 + 1 := fun o => by simp
  have HH := Lib.hid h1
  have HB := Lib.hid hb1
  have HS := Lib.hid hs1
  clear h1 hb1 hs1
  go_enter Tryz.func6, Tryz.ntmps6
  go_wp2_with fail
  obtain ⟨W, hW, hWB, hWS⟩ : ∃ W, W = (lit (lit w [1]) [2]).alloc (.cells #[.bool false, .slice (some ⟨w.heap.size, 0, none⟩) 1 1, .slice (some ⟨w.heap.size + 1, 0, none⟩) 1 1] 24) ∧ Below w.heap.size w W ∧ W.heap.size = w.heap.size + 1 + 1 + 1 := ⟨_, rfl, HB.out _, HS.out _⟩
  have ha : RL.Is W ⟨false, some ⟨w.heap.size, 0, none⟩, 1, [1], some ⟨w.heap.size + 1, 0, none⟩, 1, [2]⟩ (mkRat 1 2) := by rw [hW]; exact HH.out _
  have hcb := fun o => lits_is W (w.heap.size + 1 + 1 + 1) 1 3 o hWS (by omega) (by omega) (by omega) (by omega) (by decide)
  have hbb : ∀ o, Below W.heap.size W ((lit (lit W [1]) [3]).alloc o) := fun o => (((Below.refl _ _).alloc (Nat.le_refl _) _).alloc (by simp) _).alloc (by simp; omega) _
  refine (Add_same ⟨false, some ⟨w.heap.size, 0, none⟩, 1, [1], some ⟨w.heap.size + 1, 0, none⟩, 1, [2]⟩ ⟨false, some ⟨w.heap.size + 1 + 1 + 1, 0, none⟩, 1, [1], some ⟨w.heap.size + 1 + 1 + 1 + 1, 0, none⟩, 1, [3]⟩ (mkRat 1 2) (mkRat 1 3) _ (by rw [hW] at ha hbb; exact ha.below (hbb _)) (by rw [hW] at hcb; exact hcb _) (by simp) rfl).mono ?_
  rintro e w1 ⟨r, rfl, hr, hl1, hl2, hb⟩
  have hw1 : Below w.heap.size w w1 := by
    refine Below.trans ?_ (hb.mono ?_)
    · exact hWB.trans (by rw [hW] at hbb ⊢; exact (hbb _).mono (by simp; omega))
    · simp; omega
  clear hb hbb hcb ha hW hWB hWS HH HB HS
  go_wp2_with fail
  have hbx : Below w1.heap.size w1 (w1.alloc (.cells #[.bool r.s, .slice r.N r.ns.length r.nc, .slice r.D r.ds.length r.dc] 24)) := (Below.refl _ _).alloc (Nat.le_refl _) _
  refine (qtext r _ _ (hr.below hbx) (by simp at hl1; omega) (by simp at hl2; omega) (fun w' h => HT.out w' ((hw1.trans (hbx.mono hw1.size)).trans (h.mono (by have := hw1.size; simp; omega))))).mono ?_
  rintro e w2 ⟨he, hb2⟩
  obtain ⟨e1, e2, e3⟩ := q56 hr.q
  rw [e1, e2, e3, text_56] at he
  subst he
  have hw2 := (hw1.trans (hbx.mono hw1.size)).trans (hb2.mono (by have := hw1.size; simp; omega))
  clear e1 e2 e3 hb2 hbx
  go_wp2_with fail
  go_ret
  exact ⟨rfl, hw2⟩
end Go.Proofs.YtopppmlkddajjaaGreatDoor

