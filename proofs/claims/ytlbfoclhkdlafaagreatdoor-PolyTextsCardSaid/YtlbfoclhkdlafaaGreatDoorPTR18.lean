/- rat.Text: sign, numerator, denominator in decimal digits. -/
import Derived.Test.YtlbfoclhkdlafaaGreatDoorPTR17
import Derived.Deep.DeepCutAuto
import Derived.Deep.RegionHeld3
namespace Go.Proofs.YtlbfoclhkdlafaaGreatDoor
open Go.RowKit V

/-- The text of a number. -/
def ratText (s : Bool) (n d : Nat) : List UInt8 := (if s then [45] else []) ++ Lib.decDigits n ++ (if d = 1 then [] else 47 :: Lib.decDigits d)

set_option maxHeartbeats 1600000 in
theorem qtext (a : RL) (q : Rat) (w : World) (ha : a.Is w q) (l1 : a.ns.length ≤ 4096) (l2 : a.ds.length ≤ 4096)
    (htab : Lib.TabBelow Tryz.prog w.heap.size w "internal/strconv.uint64pow10" .u64 Lib.pow10Tab) :
    Calls Tryz.prog 79 #[.agg #[.bool a.s, .slice a.N a.ns.length a.nc, .slice a.D a.ds.length a.dc]] w
      (Gives (.tuple #[.string ⟨(ratText a.s (V32 a.ns) (V32 a.ds)).toArray⟩, .int .i64 0]) w) := by
  obtain ⟨s, N, nc, ns, D, dc, ds⟩ := a
  dsimp only at l1 l2 ⊢
  obtain ⟨o, ho⟩ : ∃ o, Hid (decide (V32 ds = 1) = o) := ⟨_, Lib.hid rfl⟩
  have HT := Lib.hid htab
  clear htab
  have mn : Mag ns := ha.mn
  have md : Mag ds := ha.md
  have hk := Blk3.new w (.bool s) (.slice N ns.length nc) (.slice D ds.length dc)
  have HV := Lib.hid (qvalid_yes ⟨s, N, nc, ns, D, dc, ds⟩ q _ (ha.below ((Below.refl _ _).alloc (Nat.le_refl w.heap.size) (.cells #[.bool s, .slice N ns.length nc, .slice D ds.length dc] 27))) l1 l2)
  have hX := dec_short mn l1 (by omega)
  have hY := dec_short md l2 (by omega)
  obtain ⟨X, hXe⟩ : ∃ X, Hid (Lib.decDigits (V32 ns) = X) := ⟨_, Lib.hid rfl⟩
  obtain ⟨Y, hYe⟩ : ∃ Y, Hid (Lib.decDigits (V32 ds) = Y) := ⟨_, Lib.hid rfl⟩
  rw [hXe.out] at hX
  rw [hYe.out] at hY
  have f1 := fun W => run_string_add_lists (P := Tryz.prog) W [45] X (by simp) (by omega)
  have f2 := fun W => run_string_add_lists (P := Tryz.prog) W [47] Y (by simp) (by omega)
  have f3 := fun W => run_string_add_lists (P := Tryz.prog) W X ([47] ++ Y) (by omega) (by simp; omega)
  have f4 := fun W => run_string_add_lists (P := Tryz.prog) W ([45] ++ X) ([47] ++ Y) (by simp; omega) (by simp; omega)
  simp only [List.cons_append, List.nil_append] at f1 f2 f3 f4
  cases s <;> cases o
  all_goals
    go_enter Tryz.func79, Tryz.ntmps79
    go_wp2_with fail
    refine HV.out.mono ?_
    rintro e w1 ⟨rfl, hb1⟩
    have hk1 := hk.below hb1
    have hw1 : Below w.heap.size w w1 := ((Below.refl _ _).alloc (Nat.le_refl _) _).trans (hb1.mono (by simp))
    have rn1 : Rd .u32 w1 N ns := ha.rn.below hw1
    have rd1 : Rd .u32 w1 D ds := ha.rd.below hw1
    have HT1 : Hid (Lib.TabBelow Tryz.prog w1.heap.size w1 "internal/strconv.uint64pow10" .u64 Lib.pow10Tab) := fun w' h => HT.out w' (hw1.trans (h.mono hw1.size))
    obtain ⟨a0, a1, a2, a3, a4, a5, a6⟩ := hk1.facts
    clear hb1
    go_wp2_with fail
    refine (text_any N nc ns _ rn1 mn l1 HT1.out).mono ?_
    rintro e w2 ⟨he, hb2⟩
    rw [hXe.out] at he
    subst he
    have hk2 := hk1.below hb2
    have hw2 := hw1.trans (hb2.mono hw1.size)
    have rd2 := rd1.below hb2
    have HT2 : Hid (Lib.TabBelow Tryz.prog w2.heap.size w2 "internal/strconv.uint64pow10" .u64 Lib.pow10Tab) := fun w' h => HT.out w' (hw2.trans (h.mono hw2.size))
    clear a0 a1 a2 a3 a4 a5 a6 hb2 hk1 rn1 rd1
    obtain ⟨a0, a1, a2, a3, a4, a5, a6⟩ := hk2.facts
    go_wp2_with fail
    refine (isone_any D dc ds _ rd2 (by omega) md).mono ?_
    rintro e w3 ⟨he, n3, hwe⟩
    rw [ho.out] at he
    subst he
    have hb3 : Below w2.heap.size w2 w3 := by rw [hwe]; exact below_drew_ (Below.refl _ _) n3
    have hk3 := hk2.below hb3
    have hw3 := hw2.trans (hb3.mono hw2.size)
    have rd3 := rd2.below hb3
    have HT3 : Hid (Lib.TabBelow Tryz.prog w3.heap.size w3 "internal/strconv.uint64pow10" .u64 Lib.pow10Tab) := fun w' h => HT.out w' (hw3.trans (h.mono hw3.size))
    clear a0 a1 a2 a3 a4 a5 a6 hb3 hk2 hwe rd2
    obtain ⟨a0, a1, a2, a3, a4, a5, a6⟩ := hk3.facts
    go_wp2_with fail
    first
      | (go_ret2
         exact ⟨by unfold ratText; rw [hXe.out, of_decide_eq_true ho.out]; simp, hw3⟩)
      | (refine (text_any D dc ds _ rd3 md l2 HT3.out).mono ?_
         rintro e w4 ⟨he, hb4⟩
         rw [hYe.out] at he
         subst he
         go_wp2_with fail
         go_ret2
         exact ⟨by unfold ratText; rw [hXe.out, hYe.out, if_neg (of_decide_eq_false ho.out)]; simp, hw3.trans (hb4.mono hw3.size)⟩)
end Go.Proofs.YtlbfoclhkdlafaaGreatDoor


/- isochroneref02.Zero and Make. -/
namespace Go.Proofs.YtlbfoclhkdlafaaGreatDoor
open Go.RowKit V

theorem nat1_rd (w : World) (k : Nat) (h : w.heap.size = k) : Rd .i64 (w.alloc (.cells #[.int .i64 1] 3)) (some ⟨k, 0, none⟩) [1] := h ▸ rd_nat1 w 1

end Go.Proofs.YtlbfoclhkdlafaaGreatDoor


/- isochroneref02: Sign, One, Mul, Div, Pow. -/
namespace Go.Proofs.YtlbfoclhkdlafaaGreatDoor
open Go.RowKit V

set_option maxHeartbeats 400000 in
theorem rone (w : World) : Calls Tryz.prog 47 #[] w (RefP 1 1 1 w) := by
  have hq : QOf false 1 1 (1 : Rat) := by have := QOf.mk_ (neg := false) (n := 1) (d := 1) (by omega) (by decide) (fun h => by omega); exact this
  go_enter Tryz.func47, Tryz.ntmps47
  go_wp2
  exact bodyPost_ret (v := .agg #[.bool false, .slice (some ⟨w.heap.size + 1, 0, none⟩) 1 1, .slice (some ⟨w.heap.size + 1 + 1, 0, none⟩) 1 1]) (by simp [results, Tryz.results47, go_sem]) rfl
    ⟨⟨false, some ⟨w.heap.size + 1, 0, none⟩, 1, [1], some ⟨w.heap.size + 1 + 1, 0, none⟩, 1, [1]⟩, rfl, ⟨(nat1_rd _ _ (by simp)).alloc _, nat1_rd _ _ (by simp), nm_one, nm_one, by simpa [VD, val] using hq⟩, Nat.le_refl _, Nat.le_refl _, (((Below.refl _ _).alloc (Nat.le_refl _) _).alloc (by simp) _).alloc (by simp; omega) _⟩
end Go.Proofs.YtlbfoclhkdlafaaGreatDoor


/- The document's Valid of numbers as they come in; isochronelaw02.small. -/
namespace Go.Proofs.YtlbfoclhkdlafaaGreatDoor
open Go.RowKit V

theorem RL.Ref.drew {w : World} {a : RL} {q : Rat} (h : a.Ref w q) : a.Ref w.drew q := ⟨h.rn.drew, h.rd.drew, h.mn, h.md, h.q⟩
theorem RL.Ref.alloc {w : World} {a : RL} {q : Rat} (h : a.Ref w q) (o : Obj) : a.Ref (w.alloc o) q := ⟨h.rn.alloc _, h.rd.alloc _, h.mn, h.md, h.q⟩
/-- At most k words. -/
def RL.Sm (a : RL) (k : Nat) : Prop := a.ns.length ≤ k ∧ a.ds.length ≤ k
end Go.Proofs.YtlbfoclhkdlafaaGreatDoor


/- isochroneref02.Text. -/
namespace Go.Proofs.YtlbfoclhkdlafaaGreatDoor
open Go.RowKit V

set_option maxHeartbeats 3200000 in
theorem rtextq (a : RL) (q : Rat) (w : World) (ha : a.Ref w q) (l1 : a.ns.length ≤ 1000) (l2 : a.ds.length ≤ 1000) :
    Calls Tryz.prog 82 #[.agg #[.bool a.s, .slice a.N a.ns.length a.nc, .slice a.D a.ds.length a.dc]] w
      (Gives (.string ⟨(ratText a.s (VD a.ns) (VD a.ds)).toArray⟩) w) := by
  obtain ⟨s, N, nc, ns, D, dc, ds⟩ := a
  dsimp only at l1 l2 ⊢
  have mn : Nm ns := ha.mn
  have md : Nm ds := ha.md
  have rn : Rd .i64 w N ns := ha.rn
  have rd : Rd .i64 w D ds := ha.rd
  have hX := dec_short_nm mn l1
  have hY := dec_short_nm md l2
  obtain ⟨X, hXe⟩ : ∃ X, Hid (Lib.decDigits (VD ns) = X) := ⟨_, Lib.hid rfl⟩
  obtain ⟨Y, hYe⟩ : ∃ Y, Hid (Lib.decDigits (VD ds) = Y) := ⟨_, Lib.hid rfl⟩
  rw [hXe.out] at hX
  rw [hYe.out] at hY
  have f1 := fun W => run_string_add_lists (P := Tryz.prog) W [45] X (by simp) (by omega)
  have f2 := fun W => run_string_add_lists (P := Tryz.prog) W [47] Y (by simp) (by omega)
  have f3 := fun W => run_string_add_lists (P := Tryz.prog) W X ([47] ++ Y) (by omega) (by simp; omega)
  have f4 := fun W => run_string_add_lists (P := Tryz.prog) W ([45] ++ X) ([47] ++ Y) (by simp; omega) (by simp; omega)
  simp only [List.cons_append, List.nil_append] at f1 f2 f3 f4
  obtain ⟨c, hc, hc1, hc2⟩ : ∃ c : Int, Hid (cmpOf (VD ds) (VD [1]) = c) ∧ (VD ds = 1 → c = 0) ∧ (VD ds ≠ 1 → c ≠ 0) := by
    refine ⟨_, Lib.hid rfl, fun h => ?_, fun h => ?_⟩
    · rw [h]; simp [VD, val, cmpOf]
    · have e : VD [1] = 1 := by simp [VD, val]
      rw [e]; unfold cmpOf
      split
      · omega
      · split
        · omega
        · omega
  have kr := BlkT.new 46 w (.bool s) (.slice N ns.length nc) (.slice D ds.length dc)
  have hbl : Below w.heap.size w (w.alloc (.cells #[.bool s, .slice N ns.length nc, .slice D ds.length dc] 46)) := (Below.refl _ _).alloc (Nat.le_refl _) _
  have rn0 := rn.below hbl
  have rd0 := rd.below hbl
  by_cases hd : VD ds = 1
  · have hc0 := hc1 hd
    have HD := Lib.hid hd
    have HE : Hid (cmpOf (VD ds) (VD [1]) = 0) := hc0 ▸ hc
    clear hc hc1 hc2 hc0 hd
    cases s
    all_goals
      go_enter Tryz.func82, Tryz.ntmps82
      obtain ⟨a0, a1, a2, a3, a4, a5, a6⟩ := kr.facts
      go_wp2_with fail
      refine (rtext_all N nc ns _ rn0 l1 mn).mono ?_
      rintro e w1 ⟨he, hb1⟩
      rw [hXe.out] at he
      subst he
      have kr1 := kr.below hb1
      have hw1 := hbl.trans (hb1.mono hbl.size)
      have rd1 := rd0.below hb1
      clear a0 a1 a2 a3 a4 a5 a6
      obtain ⟨a0, a1, a2, a3, a4, a5, a6⟩ := kr1.facts
      go_wp2_with fail
      refine (rcmp_any D (some ⟨_, 0, none⟩) dc 1 ds [1] _ (rd1.alloc _) (rd_nat1 _ 1) (by omega) md nm_one).mono ?_
      rintro e w2 ⟨he, n2, hwe⟩
      rw [HE.out] at he
      subst he
      have hb2 : Below w1.heap.size w1 w2 := by rw [hwe]; exact below_drew_ ((Below.refl _ _).alloc (Nat.le_refl _) _) n2
      clear hwe
      go_wp2_with fail
      go_ret
      exact ⟨by unfold ratText; rw [hXe.out, if_pos HD.out]; simp, hw1.trans (hb2.mono hw1.size)⟩
  · have hc0 := hc2 hd
    have HD := Lib.hid hd
    have hc3 : (c == 0) = false := beq_eq_false_iff_ne.2 hc0
    have hc4 : (c != 0) = true := by rw [bne, hc3]; rfl
    clear hc1 hc2 hc0 hd
    cases s
    all_goals
      go_enter Tryz.func82, Tryz.ntmps82
      obtain ⟨a0, a1, a2, a3, a4, a5, a6⟩ := kr.facts
      go_wp2_with fail
      refine (rtext_all N nc ns _ rn0 l1 mn).mono ?_
      rintro e w1 ⟨he, hb1⟩
      rw [hXe.out] at he
      subst he
      have kr1 := kr.below hb1
      have hw1 := hbl.trans (hb1.mono hbl.size)
      have rd1 := rd0.below hb1
      clear a0 a1 a2 a3 a4 a5 a6
      obtain ⟨a0, a1, a2, a3, a4, a5, a6⟩ := kr1.facts
      go_wp2_with fail
      refine (rcmp_any D (some ⟨_, 0, none⟩) dc 1 ds [1] _ (rd1.alloc _) (rd_nat1 _ 1) (by omega) md nm_one).mono ?_
      rintro e w2 ⟨he, n2, hwe⟩
      rw [hc.out] at he
      subst he
      have hb2 : Below w1.heap.size w1 w2 := by rw [hwe]; exact below_drew_ ((Below.refl _ _).alloc (Nat.le_refl _) _) n2
      have kr2 := kr1.below hb2
      have hw2 := hw1.trans (hb2.mono hw1.size)
      have rd2 := rd1.below hb2
      clear hwe a0 a1 a2 a3 a4 a5 a6
      obtain ⟨a0, a1, a2, a3, a4, a5, a6⟩ := kr2.facts
      go_wp2_with fail
      refine (rtext_all D dc ds _ rd2 l2 md).mono ?_
      rintro e w3 ⟨he, hb3⟩
      rw [hYe.out] at he
      subst he
      go_wp2_with fail
      go_ret
      exact ⟨by unfold ratText; rw [hXe.out, hYe.out, if_neg HD.out]; simp, hw2.trans (hb3.mono hw2.size)⟩
end Go.Proofs.YtlbfoclhkdlafaaGreatDoor

