/- Words for rational numbers in memory, and rat.signed. -/
import Derived.Test.YtopppmlkddajjaaGreatDoorQFR13
import Derived.IntWalk
import Derived.Laws.CopyOwn
namespace Go.Proofs.YtopppmlkddajjaaGreatDoor
open Go.RowKit V

/-- A block of three cells, known whole. -/
def BlkT (t : TypeId) (w : World) (g : Nat) (a b c : Value) : Prop := w.heap[g]? = some (.cells #[a, b, c] t (0, 0))
abbrev Blk3 := BlkT 24
/-- What a walk wants to know of such a block. -/
structure Cells3 (w : World) (g : Nat) (a b c : Value) : Prop where
  c0 : w.cell? ⟨g, 0, none⟩ = some a
  c1 : w.cell? ⟨g, 1, none⟩ = some b
  c2 : w.cell? ⟨g, 2, none⟩ = some c
  f0 : w.frozen? ⟨g, 0, none⟩ = false
  f1 : w.frozen? ⟨g, 1, none⟩ = false
  f2 : w.frozen? ⟨g, 2, none⟩ = false
  lt : g < w.heap.size
section
variable {t : TypeId} {w w' : World} {g : Nat} {a b c : Value}
theorem BlkT.lt (h : BlkT t w g a b c) : g < w.heap.size := by
  rcases Nat.lt_or_ge g w.heap.size with hlt | hge
  · exact hlt
  · unfold BlkT at h; rw [Array.getElem?_eq_none hge] at h; cases h
theorem BlkT.facts (h : BlkT t w g a b c) : Cells3 w g a b c := by
  have hf : ∀ i, w.frozen? ⟨g, i, none⟩ = false := fun i => by unfold BlkT at h; simp [World.frozen?, h]
  exact ⟨cell_of_row _ _ 0 _ _ _ h, cell_of_row _ _ 1 _ _ _ h, cell_of_row _ _ 2 _ _ _ h, hf 0, hf 1, hf 2, h.lt⟩
theorem BlkT.below (h : BlkT t w g a b c) (hb : Below w.heap.size w w') : BlkT t w' g a b c := (hb.block g h.lt).trans h
theorem BlkT.drew (h : BlkT t w g a b c) : BlkT t w.drew g a b c := h
theorem BlkT.new (t : TypeId) (w : World) (a b c : Value) : BlkT t (w.alloc (.cells #[a, b, c] t)) w.heap.size a b c := heap_alloc_new w _
theorem BlkT.alloc (h : BlkT t w g a b c) (o : Obj) : BlkT t (w.alloc o) g a b c := (Below.heap_alloc w o g h.lt).trans h
theorem BlkT.far (h : BlkT t w g a b c) {p : Addr} (hp : g ≠ p.block) (u : Value) : BlkT t (w.setCell p u) g a b c := (Below.heap_setCell w p u g hp).trans h
theorem BlkT.set0 (h : BlkT t w g a b c) (u : Value) : BlkT t (w.setCell ⟨g, 0, none⟩ u) g u b c := by
  unfold BlkT at h ⊢; simp [World.setCell, Array.getElem?_modify, h]
theorem BlkT.set1 (h : BlkT t w g a b c) (u : Value) : BlkT t (w.setCell ⟨g, 1, none⟩ u) g a u c := by
  unfold BlkT at h ⊢; simp [World.setCell, Array.getElem?_modify, h]
theorem BlkT.set2 (h : BlkT t w g a b c) (u : Value) : BlkT t (w.setCell ⟨g, 2, none⟩ u) g a b u := by
  unfold BlkT at h ⊢; simp [World.setCell, Array.getElem?_modify, h]
end

theorem Blk3.new (w : World) (a b c : Value) : Blk3 (w.alloc (.cells #[a, b, c] 24)) w.heap.size a b c := BlkT.new _ w a b c

/-- A rational number as it lies in memory: sign, numerator, denominator. -/
structure RL where
  s : Bool
  N : Option Addr
  nc : Nat
  ns : List Nat
  D : Option Addr
  dc : Nat
  ds : List Nat
structure RL.Is (w : World) (a : RL) (q : Rat) : Prop where
  rn : Rd .u32 w a.N a.ns
  rd : Rd .u32 w a.D a.ds
  mn : Mag a.ns
  md : Mag a.ds
  cn : a.ns.length ≤ a.nc
  cd : a.ds.length ≤ a.dc
  q : QOf a.s (V32 a.ns) (V32 a.ds) q
theorem RL.Is.below {w w' : World} {a : RL} {q : Rat} (h : a.Is w q) (hb : Below w.heap.size w w') : a.Is w' q :=
  ⟨h.rn.below hb, h.rd.below hb, h.mn, h.md, h.cn, h.cd, h.q⟩
theorem RL.Is.dpos {w : World} {a : RL} {q : Rat} (h : a.Is w q) : 0 < a.ds.length := by
  rcases Nat.eq_zero_or_pos a.ds.length with h0 | h0
  · have := h.q.pos
    rw [List.eq_nil_of_length_eq_zero h0] at this
    simp [V32, val] at this
  · exact h0
/-- The numerator has words exactly if it is not zero. -/
theorem V32_pos_iff {xs : List Nat} (m : Mag xs) : 0 < xs.length ↔ 0 < V32 xs := by
  constructor
  · exact fun h => V32_pos m h
  · intro h
    rcases Nat.eq_zero_or_pos xs.length with h0 | h0
    · rw [List.eq_nil_of_length_eq_zero h0] at h; simp [V32, val] at h
    · exact h0

/-- What is returned as a rational number. -/
def RatP (q : Rat) (L : Nat) (w : World) (e : Ending) (w' : World) : Prop :=
  ∃ r : RL, e = .returned (.agg #[.bool r.s, .slice r.N r.ns.length r.nc, .slice r.D r.ds.length r.dc]) ∧ r.Is w' q ∧ r.ns.length ≤ L ∧ r.ds.length ≤ L ∧ Below w.heap.size w w'

/-- What is returned as a rational number and no error. -/
def RatOk (q : Rat) (L : Nat) (w : World) (e : Ending) (w' : World) : Prop :=
  ∃ r : RL, e = .returned (.tuple #[.agg #[.bool r.s, .slice r.N r.ns.length r.nc, .slice r.D r.ds.length r.dc], .int .i64 0]) ∧ r.Is w' q ∧ r.ns.length ≤ L ∧ r.ds.length ≤ L ∧ Below w.heap.size w w'
/-- What is returned as no number and an error. -/
def RatErr (n : Int) (w : World) (e : Ending) (w' : World) : Prop := e = .returned (.tuple #[.agg #[.bool false, .slice none 0 0, .slice none 0 0], .int .i64 n]) ∧ Below w.heap.size w w'
/-- Two lists of words. -/
def TwoP (Q1 Q2 : List Nat → Prop) (w : World) (u v : Value) (w' : World) : Prop :=
  ∃ A c xs B d ys, u = .slice A (xs : List Nat).length c ∧ v = .slice B (ys : List Nat).length d ∧ xs.length ≤ c ∧ ys.length ≤ d ∧ Rd .u32 w' A xs ∧ Rd .u32 w' B ys ∧ Q1 xs ∧ Q2 ys ∧ Below w.heap.size w w'
/-- The numbers of a call and its result, in boxes. -/
theorem box1r (w : World) (a b c r s t : Value) : Blk3 ((w.alloc (.cells #[a, b, c] 24)).alloc (.cells #[r, s, t] 24)) w.heap.size a b c ∧
    Blk3 ((w.alloc (.cells #[a, b, c] 24)).alloc (.cells #[r, s, t] 24)) (w.heap.size + 1) r s t ∧ Below w.heap.size w ((w.alloc (.cells #[a, b, c] 24)).alloc (.cells #[r, s, t] 24)) := by
  refine ⟨(Blk3.new w a b c).alloc _, ?_, ((Below.refl _ _).alloc (Nat.le_refl _) _).alloc (by simp) _⟩
  have := Blk3.new (w.alloc (.cells #[a, b, c] 24)) r s t
  rwa [show (w.alloc (.cells #[a, b, c] 24)).heap.size = w.heap.size + 1 by simp] at this
theorem box2r (w : World) (a b c a2 b2 c2 r s t : Value) : Blk3 (((w.alloc (.cells #[a, b, c] 24)).alloc (.cells #[a2, b2, c2] 24)).alloc (.cells #[r, s, t] 24)) w.heap.size a b c ∧
    Blk3 (((w.alloc (.cells #[a, b, c] 24)).alloc (.cells #[a2, b2, c2] 24)).alloc (.cells #[r, s, t] 24)) (w.heap.size + 1) a2 b2 c2 ∧
    Blk3 (((w.alloc (.cells #[a, b, c] 24)).alloc (.cells #[a2, b2, c2] 24)).alloc (.cells #[r, s, t] 24)) (w.heap.size + 2) r s t ∧
    Below w.heap.size w (((w.alloc (.cells #[a, b, c] 24)).alloc (.cells #[a2, b2, c2] 24)).alloc (.cells #[r, s, t] 24)) := by
  obtain ⟨h1, h2, h3⟩ := box1r w a b c a2 b2 c2
  refine ⟨h1.alloc _, h2.alloc _, ?_, h3.alloc (by simp; omega) _⟩
  have := Blk3.new ((w.alloc (.cells #[a, b, c] 24)).alloc (.cells #[a2, b2, c2] 24)) r s t
  rwa [show ((w.alloc (.cells #[a, b, c] 24)).alloc (.cells #[a2, b2, c2] 24)).heap.size = w.heap.size + 2 by simp] at this

/-- What is returned as one value; memory may have grown. -/
def Gives (v : Value) (w : World) (e : Ending) (w' : World) : Prop := e = .returned v ∧ Below w.heap.size w w'

/-- A list of words does not lie in a block of a sign and two slices. -/
theorem Rd.ne_blk {t : TypeId} {k : IntKind} {w : World} {A : Option Addr} {xs : List Nat} {g n c d e : Nat} {p : Bool} {N D : Option Addr} (h : Rd k w A xs) (hb : BlkT t w g (.bool p) (.slice N n c) (.slice D d e)) (hn : 0 < xs.length) :
    ∀ ad, A = some ad → ad.block ≠ g := by
  intro ad hA hg
  obtain ⟨ad', hA', _, hc⟩ := h hn
  rw [hA] at hA'
  injection hA' with hA'
  subst hA'
  have h0 := hc 0 hn
  rw [add_zero_] at h0
  unfold BlkT at hb
  rw [← hg] at hb
  unfold World.cell? at h0
  rw [hb] at h0
  simp only at h0
  by_cases hs : ad.spot.isSome = true
  · rw [if_pos hs] at h0; cases h0
  · rw [if_neg hs] at h0
    generalize ad.off = o at h0
    match o with
    | 0 => simp at h0
    | 1 => simp at h0
    | 2 => simp at h0
    | o + 3 => simp at h0
/-- Three cells of a block written. -/
abbrev put3 (w : World) (g : Nat) (x y z : Value) : World := ((w.setCell ⟨g, 0, none⟩ x).setCell ⟨g, 1, none⟩ y).setCell ⟨g, 2, none⟩ z
theorem Rd.put3 {t : TypeId} {k : IntKind} {w : World} {A : Option Addr} {xs : List Nat} {g n c d e : Nat} {p : Bool} {N D : Option Addr} (h : Rd k w A xs) (hb : BlkT t w g (.bool p) (.slice N n c) (.slice D d e)) (x y z : Value) : Rd k (put3 w g x y z) A xs := by
  intro hn
  have hne := h.ne_blk hb hn
  refine (h.keep2 (w' := Go.Proofs.YtopppmlkddajjaaGreatDoor.put3 w g x y z) (by simp [Go.Proofs.YtopppmlkddajjaaGreatDoor.put3, World.setCell]) fun q hq _ => ?_) hn
  obtain ⟨ad, hA, hqb⟩ := hq
  have hq' : g ≠ q.block := by rw [hqb]; exact fun h => hne ad hA h.symm
  have key : ∀ (v : World) (i : Nat) (u : Value), (v.setCell ⟨g, i, none⟩ u).cell? q = v.cell? q := fun v i u => by
    have := Below.heap_setCell v ⟨g, i, none⟩ u q.block (fun h => hq' h.symm)
    unfold World.cell?
    rw [this]
  rw [key, key, key]
theorem below_put3 {B g : Nat} {a w : World} (h : Below B a w) (hg : B ≤ g) (x y z : Value) : Below B a (put3 w g x y z) := ((h.setCell hg _).setCell hg _).setCell hg _
theorem RL.Is.put3 {t : TypeId} {w : World} {a : RL} {q : Rat} {g n c d e : Nat} {p : Bool} {N D : Option Addr} (h : a.Is w q) (hb : BlkT t w g (.bool p) (.slice N n c) (.slice D d e)) (x y z : Value) : a.Is (Go.Proofs.YtopppmlkddajjaaGreatDoor.put3 w g x y z) q :=
  ⟨h.rn.put3 hb x y z, h.rd.put3 hb x y z, h.mn, h.md, h.cn, h.cd, h.q⟩
theorem RatP.put {t : TypeId} {w w' : World} {q : Rat} {L g n c d e : Nat} {p : Bool} {N D : Option Addr} (r : RL) (hi : r.Is w' q) (hb : BlkT t w' g (.bool p) (.slice N n c) (.slice D d e)) (hg : w.heap.size ≤ g) (hw : Below w.heap.size w w') (l1 : r.ns.length ≤ L) (l2 : r.ds.length ≤ L) :
    RatP q L w (.returned (.agg #[.bool r.s, .slice r.N r.ns.length r.nc, .slice r.D r.ds.length r.dc])) (Go.Proofs.YtopppmlkddajjaaGreatDoor.put3 w' g (.bool r.s) (.slice r.N r.ns.length r.nc) (.slice r.D r.ds.length r.dc)) :=
  ⟨r, rfl, hi.put3 hb _ _ _, l1, l2, below_put3 hw hg _ _ _⟩

theorem RatOk.put {t : TypeId} {w w' : World} {q : Rat} {L g n c d e : Nat} {p : Bool} {N D : Option Addr} (r : RL) (hi : r.Is w' q) (hb : BlkT t w' g (.bool p) (.slice N n c) (.slice D d e)) (hg : w.heap.size ≤ g) (hw : Below w.heap.size w w') (l1 : r.ns.length ≤ L) (l2 : r.ds.length ≤ L) :
    RatOk q L w (.returned (.tuple #[.agg #[.bool r.s, .slice r.N r.ns.length r.nc, .slice r.D r.ds.length r.dc], .int .i64 0])) (Go.Proofs.YtopppmlkddajjaaGreatDoor.put3 w' g (.bool r.s) (.slice r.N r.ns.length r.nc) (.slice r.D r.ds.length r.dc)) :=
  ⟨r, rfl, hi.put3 hb _ _ _, l1, l2, below_put3 hw hg _ _ _⟩

theorem signed_any (s : Bool) (N D : Option Addr) (n nc d dc : Nat) (w : World) :
    Calls Tryz.prog 79 #[.bool s, .slice N n nc, .slice D d dc] w (Gives (.agg #[.bool (s && decide (0 < n)), .slice N n nc, .slice D d dc]) w) := by
  cases s
  · go_enter Tryz.func79, Tryz.ntmps79
    go_wp2
    exact bodyPost_ret (v := .agg #[.bool false, .slice N n nc, .slice D d dc]) (by simp [results, Tryz.results79, go_sem]) rfl ⟨rfl, (Below.refl _ _).alloc (Nat.le_refl _) _⟩
  · obtain ⟨p, hp⟩ : ∃ p, decide (0 < n) = p := ⟨_, rfl⟩
    have hp2 : decide (0 < (n : Int)) = p := by rw [← hp]; simp
    rw [hp]
    cases p
    all_goals
      go_enter Tryz.func79, Tryz.ntmps79
      go_wp2
      exact bodyPost_ret (v := .agg #[.bool _, .slice N n nc, .slice D d dc]) (by simp [results, Tryz.results79, go_sem]) rfl ⟨rfl, (Below.refl _ _).alloc (Nat.le_refl _) _⟩

theorem dec_len {xs : List Nat} (m : Mag xs) : decide (0 < xs.length) = decide (0 < V32 xs) := decide_eq_decide.2 (V32_pos_iff m)

end Go.Proofs.YtopppmlkddajjaaGreatDoor

