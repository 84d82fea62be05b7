/- isochroneref03.Is: yes for a polynomial that is the one wanted. -/
import Derived.Test.YtlbfoclhkdlafaaGreatDoorPMR39
namespace Go.Proofs.YtlbfoclhkdlafaaGreatDoor
open Go.RowKit V

theorem QPR.drew {l : Nat} {w : World} {A : Option Addr} {ts : List TR} {p : PL} (h : QPR l w A ts p) : QPR l w.drew A ts p := h.below (below_drew_ (Below.refl _ _) 1)
set_option maxRecDepth 100000 in
set_option maxHeartbeats 1600000 in
theorem pis_yes (n : Nat) (A B : Option Addr) (c d : Nat) (ms : List MM) (ts : List TR) (P p : PL) (l : Nat) (w : World) (ha : ARd w A ms (up n P)) (h : QPR l w B ts p) (hp : DN p) (hw : Words p) (hn : n ≤ 8) (hl : l ≤ 200) (h4 : ts.length ≤ 4000) (hm : ms.length ≤ 100000) (he : P = nfOf p) :
    Calls Tryz.prog 17 #[.agg #[.int .i64 n, .slice A ms.length c], .slice B ts.length d, .int .i64 n] w (Yes w) := by
  subst he
  have k1 := Blk2c.new 24 w (.int .i64 n) (.slice A ms.length c)
  have hb1 : Below w.heap.size w (w.alloc (.cells #[.int .i64 n, .slice A ms.length c] 24)) := (Below.refl _ _).alloc (Nat.le_refl _) _
  go_enter Tryz.func17, Tryz.ntmps17
  go_upto_region 1 with fail
  obtain ⟨w1, hw1⟩ : ∃ x, w.alloc (.cells #[.int .i64 n, .slice A ms.length c] 24) = x := ⟨_, rfl⟩
  rw [hw1] at k1 hb1 ⊢
  clear hw1
  have HA := Lib.hid (ha.below hb1)
  have h1 := h.below hb1
  clear ha h
  obtain ⟨a0, a1, a2, a3, a4⟩ := k1.facts
  go_region_held3 (fun w' => w'.cell? ⟨w.heap.size, 0, none⟩ = some (.int .i64 n) ∧ w'.cell? ⟨w.heap.size, 1, none⟩ = some (.slice A ms.length c)) (first | (with_reducible exact ⟨‹_›, ‹_›⟩) | go_keep)
    (first
    | (go_at_call 62
       refine (pto n B d ts p l _ (by first | exact h1 | exact h1.drew) hp hw hn hl h4).mono ?_
       rintro e wx_ ⟨C, cc, us, rfl, hcc, hc, hbx⟩
       have hbxq : Below w1.heap.size w1 wx_ := by first | exact below_of_drew hbx (Nat.le_refl _) | exact hbx
       obtain ⟨b0, b1, b2, b3, b4⟩ := (k1.below hbxq).facts)
    | (go_at_call 23
       refine (psame_yes n A C c cc ms us (nfOf p) _ (HA.out.below hbxq) hc hn hm).mono ?_
       rintro e wy_ ⟨rfl, hby⟩
       obtain ⟨d0, d1, d2, d3, d4⟩ := ((k1.below hbxq).below hby).facts))
  all_goals
    go_wp2_with fail
    go_ret
    exact ⟨rfl, hb1.trans ((hbxq.trans (hby.mono hbxq.size)).mono hb1.size)⟩
end Go.Proofs.YtlbfoclhkdlafaaGreatDoor

