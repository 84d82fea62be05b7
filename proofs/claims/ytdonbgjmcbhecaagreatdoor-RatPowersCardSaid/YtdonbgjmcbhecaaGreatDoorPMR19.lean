/- isochronelaw02.awake answers true. -/
import Derived.Test.YtdonbgjmcbhecaaGreatDoorPMR18
namespace Go.Proofs.YtdonbgjmcbhecaaGreatDoor
open Go.RowKit V

theorem half_third : mkRat 1 2 + mkRat 1 3 = mkRat 5 6 := by
  rw [mkRat_add _ _ _ _ (by omega) (by omega)]; rfl
theorem text_56 : ratText false 5 6 = [53, 47, 54] := by
  unfold ratText
  simp [Lib.decDigits]
theorem q56 {s : Bool} {n d : Nat} (h : QOf s n d (mkRat 1 2 + mkRat 1 3)) : s = false ∧ n = 5 ∧ d = 6 := by
  rw [half_third] at h
  exact h.inj (QOf.mk_ (neg := false) (n := 5) (d := 6) (by omega) (by decide) (by simp))

theorem lit_at (W : World) (k : Nat) (xs : List Nat) (h : W.heap.size = k) : Rd .u32 (lit W xs) (some ⟨k, 0, none⟩) xs := h ▸ lit_rd W xs
/-- Two numbers as the check lays them. -/
theorem lits_is (W : World) (k n d : Nat) (o : Obj) (h : W.heap.size = k) (hn : 0 < n) (hn2 : n < 4294967296) (hd : 0 < d) (hd2 : d < 4294967296) (hc : Nat.Coprime n d) :
    RL.Is ((lit (lit W [n]) [d]).alloc o) ⟨false, some ⟨k, 0, none⟩, 1, [n], some ⟨k + 1, 0, none⟩, 1, [d]⟩ (mkRat n d) := by
  refine ⟨((lit_at W k [n] h).alloc _).alloc _, (lit_at (lit W [n]) (k + 1) [d] (by rw [lit_size, h])).alloc _, mag_one n hn2 (by omega), mag_one d hd2 (by omega), Nat.le_refl _, Nat.le_refl _, ?_⟩
  show QOf false (V32 [n]) (V32 [d]) _
  rw [V32_one, V32_one]
  exact QOf.mk_ (neg := false) hd hc (fun _ => rfl)

set_option maxRecDepth 100000 in
set_option maxHeartbeats 800000 in
theorem qawake_yes (w : World) (htab : Lib.TabBelow Tryz.prog w.heap.size w "internal/strconv.uint64pow10" .u64 Lib.pow10Tab) :
    Calls Tryz.prog 15 #[] w (Yes w) := by
  have HT := Lib.hid htab
  clear htab
  have h1 := fun o => lits_is w w.heap.size 1 2 o rfl (by omega) (by omega) (by omega) (by omega) (by decide)
  have hb1 : ∀ o, Below w.heap.size w ((lit (lit w [1]) [2]).alloc o) := fun o => (((Below.refl _ _).alloc (Nat.le_refl _) _).alloc (by simp) _).alloc (by simp; omega) _
  have hs1 : ∀ o, ((lit (lit w [1]) [2]).alloc o).heap.size = w.heap.size + 1 + 1 + 1 := fun o => by simp
  have HH := Lib.hid h1
  have HB := Lib.hid hb1
  have HS := Lib.hid hs1
  clear h1 hb1 hs1
  go_enter Tryz.func15, Tryz.ntmps15
  go_wp2_with fail
  obtain ⟨W, hW, hWB, hWS⟩ : ∃ W, W = (lit (lit w [1]) [2]).alloc (.cells #[.bool false, .slice (some ⟨w.heap.size, 0, none⟩) 1 1, .slice (some ⟨w.heap.size + 1, 0, none⟩) 1 1] 24) ∧ Below w.heap.size w W ∧ W.heap.size = w.heap.size + 1 + 1 + 1 := ⟨_, rfl, HB.out _, HS.out _⟩
  have ha : RL.Is W ⟨false, some ⟨w.heap.size, 0, none⟩, 1, [1], some ⟨w.heap.size + 1, 0, none⟩, 1, [2]⟩ (mkRat 1 2) := by rw [hW]; exact HH.out _
  have hcb := fun o => lits_is W (w.heap.size + 1 + 1 + 1) 1 3 o hWS (by omega) (by omega) (by omega) (by omega) (by decide)
  have hbb : ∀ o, Below W.heap.size W ((lit (lit W [1]) [3]).alloc o) := fun o => (((Below.refl _ _).alloc (Nat.le_refl _) _).alloc (by simp) _).alloc (by simp; omega) _
  refine (Add_same ⟨false, some ⟨w.heap.size, 0, none⟩, 1, [1], some ⟨w.heap.size + 1, 0, none⟩, 1, [2]⟩ ⟨false, some ⟨w.heap.size + 1 + 1 + 1, 0, none⟩, 1, [1], some ⟨w.heap.size + 1 + 1 + 1 + 1, 0, none⟩, 1, [3]⟩ (mkRat 1 2) (mkRat 1 3) _ (by rw [hW] at ha hbb; exact ha.below (hbb _)) (by rw [hW] at hcb; exact hcb _) (by simp) rfl).mono ?_
  rintro e w1 ⟨r, rfl, hr, hl1, hl2, hb⟩
  have hw1 : Below w.heap.size w w1 := by
    refine Below.trans ?_ (hb.mono ?_)
    · exact hWB.trans (by rw [hW] at hbb ⊢; exact (hbb _).mono (by simp; omega))
    · simp; omega
  clear hb hbb hcb ha hW hWB hWS HH HB HS
  go_wp2_with fail
  have hbx : Below w1.heap.size w1 (w1.alloc (.cells #[.bool r.s, .slice r.N r.ns.length r.nc, .slice r.D r.ds.length r.dc] 24)) := (Below.refl _ _).alloc (Nat.le_refl _) _
  refine (qtext r _ _ (hr.below hbx) (by simp at hl1; omega) (by simp at hl2; omega) (fun w' h => HT.out w' ((hw1.trans (hbx.mono hw1.size)).trans (h.mono (by have := hw1.size; simp; omega))))).mono ?_
  rintro e w2 ⟨he, hb2⟩
  obtain ⟨e1, e2, e3⟩ := q56 hr.q
  rw [e1, e2, e3, text_56] at he
  subst he
  have hw2 := (hw1.trans (hbx.mono hw1.size)).trans (hb2.mono (by have := hw1.size; simp; omega))
  clear e1 e2 e3 hb2 hbx
  go_wp2_with fail
  go_ret
  exact ⟨rfl, hw2⟩
end Go.Proofs.YtdonbgjmcbhecaaGreatDoor

