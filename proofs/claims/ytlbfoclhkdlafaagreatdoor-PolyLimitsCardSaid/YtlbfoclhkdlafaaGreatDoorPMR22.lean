/- wide.Num.Add, given what its calls of gcd, quotient and times do. -/
import Derived.Test.YtlbfoclhkdlafaaGreatDoorPMR21
namespace Go.Proofs.YtlbfoclhkdlafaaGreatDoor
open Go.RowKit V

/-- gcd at two lists. -/
def GcdOk (xs ys : List Nat) : Prop := ∀ (A B : Option Addr) (ca cb : Nat) (w : World), Rw w A xs → Rw w B ys → xs.length ≤ ca → ys.length ≤ cb →
    Calls Tryz.prog 124 #[.slice A xs.length ca, .slice B ys.length cb] w (OutW (fun zs => V64 zs = Nat.gcd (V64 xs) (V64 ys) ∧ Mag64 zs) w)
/-- quotient at two lists. -/
def QuoOk (xs ys : List Nat) : Prop := ∀ (A B : Option Addr) (ca cb : Nat) (w : World), Rw w A xs → Rw w B ys → xs.length ≤ ca → ys.length ≤ cb →
    Calls Tryz.prog 126 #[.slice A xs.length ca, .slice B ys.length cb] w (OutW (fun zs => V64 zs = V64 xs / V64 ys ∧ Mag64 zs ∧ zs.length ≤ xs.length) w)
/-- times at two lists. -/
def TimOk (xs ys : List Nat) : Prop := ∀ (A B : Option Addr) (ca cb : Nat) (w : World), Rw w A xs → Rw w B ys → xs.length ≤ ca → ys.length ≤ cb →
    Calls Tryz.prog 125 #[.slice A xs.length ca, .slice B ys.length cb] w (OutW (fun zs => V64 zs = V64 xs * V64 ys ∧ Mag64 zs ∧ zs.length ≤ xs.length + ys.length) w)
theorem box3n (w : World) (a b c a2 b2 c2 r s t : Value) : BlkT 91 (((w.alloc (.cells #[a, b, c] 91)).alloc (.cells #[a2, b2, c2] 91)).alloc (.cells #[r, s, t] 91)) w.heap.size a b c ∧
    BlkT 91 (((w.alloc (.cells #[a, b, c] 91)).alloc (.cells #[a2, b2, c2] 91)).alloc (.cells #[r, s, t] 91)) (w.heap.size + 1) a2 b2 c2 ∧
    BlkT 91 (((w.alloc (.cells #[a, b, c] 91)).alloc (.cells #[a2, b2, c2] 91)).alloc (.cells #[r, s, t] 91)) (w.heap.size + 2) r s t ∧
    Below w.heap.size w (((w.alloc (.cells #[a, b, c] 91)).alloc (.cells #[a2, b2, c2] 91)).alloc (.cells #[r, s, t] 91)) := by
  obtain ⟨h1, h2, h3⟩ := boxes2 91 91 w a b c a2 b2 c2
  refine ⟨h1.alloc _, h2.alloc _, ?_, h3.alloc (by simp; omega) _⟩
  have := BlkT.new 91 ((w.alloc (.cells #[a, b, c] 91)).alloc (.cells #[a2, b2, c2] 91)) r s t
  rwa [show ((w.alloc (.cells #[a, b, c] 91)).alloc (.cells #[a2, b2, c2] 91)).heap.size = w.heap.size + 2 by simp] at this

set_option maxRecDepth 100000 in
set_option maxHeartbeats 1600000 in
theorem wAdd_za (a b : RL) (p q : Rat) (w : World) (ha : a.Num w p) (hb_ : b.Num w q) (hz0 : a.ns.length = 0) :
    Calls Tryz.prog 103 #[.agg #[.bool a.s, .slice a.N a.ns.length a.nc, .slice a.D a.ds.length a.dc], .agg #[.bool b.s, .slice b.N b.ns.length b.nc, .slice b.D b.ds.length b.dc]] w (fun e w' => e = .returned (.agg #[.bool b.s, .slice b.N b.ns.length b.nc, .slice b.D b.ds.length b.dc]) ∧ b.Num w' q ∧ Below w.heap.size w w') := by
  have hz : decide (a.ns.length = 0) = true := decide_eq_true hz0
  clear hz0
  go_enter Tryz.func103, Tryz.ntmps103
  go_wp2_with fail
  have hbox := box3n w (.bool a.s) (.slice a.N a.ns.length a.nc) (.slice a.D a.ds.length a.dc) (.bool b.s) (.slice b.N b.ns.length b.nc) (.slice b.D b.ds.length b.dc) (.bool false) (.slice none 0 0) (.slice none 0 0)
  obtain ⟨w1, hwe⟩ : ∃ x, ((w.alloc (.cells #[.bool a.s, .slice a.N a.ns.length a.nc, .slice a.D a.ds.length a.dc] 91)).alloc (.cells #[.bool b.s, .slice b.N b.ns.length b.nc, .slice b.D b.ds.length b.dc] 91)).alloc (.cells #[.bool false, .slice none 0 0, .slice none 0 0] 91) = x := ⟨_, rfl⟩
  rw [hwe] at hbox ⊢
  obtain ⟨ka1, kb1, kr1, hb1⟩ := hbox
  have HWE := Lib.hid hwe
  clear hwe HWE
  have ha1 := ha.below hb1
  have hb_1 := hb_.below hb1
  have hw1 := hb1
  clear ha hb_ hb1
  obtain ⟨a0, a1, a2, a3, a4, a5, a6⟩ := ka1.facts
  obtain ⟨b0, b1, b2, b3, b4, b5, b6⟩ := kb1.facts
  go_wp2_with fail
  refine (wisZero a.s a.N a.D a.ns.length a.nc a.ds.length a.dc _).mono ?_
  rintro e w2 ⟨he, hb2⟩
  have ha2 := ha1.below hb2
  have hb_2 := hb_1.below hb2
  have ka2 := ka1.below hb2
  have kb2 := kb1.below hb2
  have kr2 := kr1.below hb2
  have hw2 := hw1.trans (hb2.mono hw1.size)
  clear ha1 hb_1 ka1 kb1 kr1 hw1 hb2
  rw [hz] at he
  subst he
  clear a0 a1 a2 a3 a4 a5 a6
  clear b0 b1 b2 b3 b4 b5 b6
  obtain ⟨a0, a1, a2, a3, a4, a5, a6⟩ := ka2.facts
  obtain ⟨b0, b1, b2, b3, b4, b5, b6⟩ := kb2.facts
  obtain ⟨c0, c1, c2, c3, c4, c5, c6⟩ := kr2.facts
  have e1 : ¬ w.heap.size = w.heap.size + 1 + 1 := by omega
  have e2 : ¬ w.heap.size + 1 = w.heap.size + 1 + 1 := by omega
  go_wp2_with fail
  refine bodyPost_ret (v := .agg #[.bool b.s, .slice b.N b.ns.length b.nc, .slice b.D b.ds.length b.dc]) (by simp [results, Tryz.results103, go_sem, c0, c1, c2]) rfl ?_
  exact ⟨rfl, hb_2.put3 kr2 _ _ _, below_put3 hw2 (by omega) _ _ _⟩
set_option maxRecDepth 100000 in
set_option maxHeartbeats 1600000 in
theorem wAdd_zb (a b : RL) (p q : Rat) (w : World) (ha : a.Num w p) (hb_ : b.Num w q) (hz0 : b.ns.length = 0) (hne0 : 0 < a.ns.length) :
    Calls Tryz.prog 103 #[.agg #[.bool a.s, .slice a.N a.ns.length a.nc, .slice a.D a.ds.length a.dc], .agg #[.bool b.s, .slice b.N b.ns.length b.nc, .slice b.D b.ds.length b.dc]] w (fun e w' => e = .returned (.agg #[.bool a.s, .slice a.N a.ns.length a.nc, .slice a.D a.ds.length a.dc]) ∧ a.Num w' p ∧ Below w.heap.size w w') := by
  have hz : decide (b.ns.length = 0) = true := decide_eq_true hz0
  have hne : decide (a.ns.length = 0) = false := decide_eq_false (by omega)
  clear hne0
  clear hz0
  go_enter Tryz.func103, Tryz.ntmps103
  go_wp2_with fail
  have hbox := box3n w (.bool a.s) (.slice a.N a.ns.length a.nc) (.slice a.D a.ds.length a.dc) (.bool b.s) (.slice b.N b.ns.length b.nc) (.slice b.D b.ds.length b.dc) (.bool false) (.slice none 0 0) (.slice none 0 0)
  obtain ⟨w1, hwe⟩ : ∃ x, ((w.alloc (.cells #[.bool a.s, .slice a.N a.ns.length a.nc, .slice a.D a.ds.length a.dc] 91)).alloc (.cells #[.bool b.s, .slice b.N b.ns.length b.nc, .slice b.D b.ds.length b.dc] 91)).alloc (.cells #[.bool false, .slice none 0 0, .slice none 0 0] 91) = x := ⟨_, rfl⟩
  rw [hwe] at hbox ⊢
  obtain ⟨ka1, kb1, kr1, hb1⟩ := hbox
  have HWE := Lib.hid hwe
  clear hwe HWE
  have ha1 := ha.below hb1
  have hb_1 := hb_.below hb1
  have hw1 := hb1
  clear ha hb_ hb1
  obtain ⟨a0, a1, a2, a3, a4, a5, a6⟩ := ka1.facts
  obtain ⟨b0, b1, b2, b3, b4, b5, b6⟩ := kb1.facts
  go_wp2_with fail
  refine (wisZero a.s a.N a.D a.ns.length a.nc a.ds.length a.dc _).mono ?_
  rintro e w2 ⟨he, hb2⟩
  have ha2 := ha1.below hb2
  have hb_2 := hb_1.below hb2
  have ka2 := ka1.below hb2
  have kb2 := kb1.below hb2
  have kr2 := kr1.below hb2
  have hw2 := hw1.trans (hb2.mono hw1.size)
  clear ha1 hb_1 ka1 kb1 kr1 hw1 hb2
  rw [hne] at he
  subst he
  clear a0 a1 a2 a3 a4 a5 a6
  clear b0 b1 b2 b3 b4 b5 b6
  obtain ⟨a0, a1, a2, a3, a4, a5, a6⟩ := ka2.facts
  obtain ⟨b0, b1, b2, b3, b4, b5, b6⟩ := kb2.facts
  go_wp2_with fail
  refine (wisZero b.s b.N b.D b.ns.length b.nc b.ds.length b.dc _).mono ?_
  rintro e w3 ⟨he, hb3⟩
  have ha3 := ha2.below hb3
  have hb_3 := hb_2.below hb3
  have ka3 := ka2.below hb3
  have kb3 := kb2.below hb3
  have kr3 := kr2.below hb3
  have hw3 := hw2.trans (hb3.mono hw2.size)
  clear ha2 hb_2 ka2 kb2 kr2 hw2 hb3
  rw [hz] at he
  subst he
  clear a0 a1 a2 a3 a4 a5 a6
  clear b0 b1 b2 b3 b4 b5 b6
  obtain ⟨a0, a1, a2, a3, a4, a5, a6⟩ := ka3.facts
  obtain ⟨b0, b1, b2, b3, b4, b5, b6⟩ := kb3.facts
  obtain ⟨c0, c1, c2, c3, c4, c5, c6⟩ := kr3.facts
  have e1 : ¬ w.heap.size = w.heap.size + 1 + 1 := by omega
  have e2 : ¬ w.heap.size + 1 = w.heap.size + 1 + 1 := by omega
  go_wp2_with fail
  refine bodyPost_ret (v := .agg #[.bool a.s, .slice a.N a.ns.length a.nc, .slice a.D a.ds.length a.dc]) (by simp [results, Tryz.results103, go_sem, c0, c1, c2]) rfl ?_
  exact ⟨rfl, ha3.put3 kr3 _ _ _, below_put3 hw3 (by omega) _ _ _⟩
end Go.Proofs.YtlbfoclhkdlafaaGreatDoor

