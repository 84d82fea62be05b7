/- Words for rational numbers in memory, and rat.signed. -/
import Derived.Test.YtopppmlkddajjaaGreatDoorQSR14
import Derived.IntWalk
import Derived.Laws.CopyOwn
namespace Go.Proofs.YtopppmlkddajjaaGreatDoor
open Go.RowKit V

/-- A block of three cells, known whole. -/
def BlkT (t : TypeId) (w : World) (g : Nat) (a b c : Value) : Prop := w.heap[g]? = some (.cells #[a, b, c] t (0, 0))
abbrev Blk3 := BlkT 24
/-- What a walk wants to know of such a block. -/
structure Cells3 (w : World) (g : Nat) (a b c : Value) : Prop where
  c0 : w.cell? ⟨g, 0, none⟩ = some a
  c1 : w.cell? ⟨g, 1, none⟩ = some b
  c2 : w.cell? ⟨g, 2, none⟩ = some c
  f0 : w.frozen? ⟨g, 0, none⟩ = false
  f1 : w.frozen? ⟨g, 1, none⟩ = false
  f2 : w.frozen? ⟨g, 2, none⟩ = false
  lt : g < w.heap.size
section
variable {t : TypeId} {w w' : World} {g : Nat} {a b c : Value}
theorem BlkT.lt (h : BlkT t w g a b c) : g < w.heap.size := by
  rcases Nat.lt_or_ge g w.heap.size with hlt | hge
  · exact hlt
  · unfold BlkT at h; rw [Array.getElem?_eq_none hge] at h; cases h
theorem BlkT.facts (h : BlkT t w g a b c) : Cells3 w g a b c := by
  have hf : ∀ i, w.frozen? ⟨g, i, none⟩ = false := fun i => by unfold BlkT at h; simp [World.frozen?, h]
  exact ⟨cell_of_row _ _ 0 _ _ _ h, cell_of_row _ _ 1 _ _ _ h, cell_of_row _ _ 2 _ _ _ h, hf 0, hf 1, hf 2, h.lt⟩
theorem BlkT.below (h : BlkT t w g a b c) (hb : Below w.heap.size w w') : BlkT t w' g a b c := (hb.block g h.lt).trans h
theorem BlkT.drew (h : BlkT t w g a b c) : BlkT t w.drew g a b c := h
theorem BlkT.new (t : TypeId) (w : World) (a b c : Value) : BlkT t (w.alloc (.cells #[a, b, c] t)) w.heap.size a b c := heap_alloc_new w _
theorem BlkT.alloc (h : BlkT t w g a b c) (o : Obj) : BlkT t (w.alloc o) g a b c := (Below.heap_alloc w o g h.lt).trans h
theorem BlkT.far (h : BlkT t w g a b c) {p : Addr} (hp : g ≠ p.block) (u : Value) : BlkT t (w.setCell p u) g a b c := (Below.heap_setCell w p u g hp).trans h
theorem BlkT.set0 (h : BlkT t w g a b c) (u : Value) : BlkT t (w.setCell ⟨g, 0, none⟩ u) g u b c := by
  unfold BlkT at h ⊢; simp [World.setCell, Array.getElem?_modify, h]
theorem BlkT.set1 (h : BlkT t w g a b c) (u : Value) : BlkT t (w.setCell ⟨g, 1, none⟩ u) g a u c := by
  unfold BlkT at h ⊢; simp [World.setCell, Array.getElem?_modify, h]
theorem BlkT.set2 (h : BlkT t w g a b c) (u : Value) : BlkT t (w.setCell ⟨g, 2, none⟩ u) g a b u := by
  unfold BlkT at h ⊢; simp [World.setCell, Array.getElem?_modify, h]
end

theorem Blk3.new (w : World) (a b c : Value) : Blk3 (w.alloc (.cells #[a, b, c] 24)) w.heap.size a b c := BlkT.new _ w a b c

/-- A rational number as it lies in memory: sign, numerator, denominator. -/
structure RL where
  s : Bool
  N : Option Addr
  nc : Nat
  ns : List Nat
  D : Option Addr
  dc : Nat
  ds : List Nat
structure RL.Is (w : World) (a : RL) (q : Rat) : Prop where
  rn : Rd .u32 w a.N a.ns
  rd : Rd .u32 w a.D a.ds
  mn : Mag a.ns
  md : Mag a.ds
  cn : a.ns.length ≤ a.nc
  cd : a.ds.length ≤ a.dc
  q : QOf a.s (V32 a.ns) (V32 a.ds) q
theorem RL.Is.below {w w' : World} {a : RL} {q : Rat} (h : a.Is w q) (hb : Below w.heap.size w w') : a.Is w' q :=
  ⟨h.rn.below hb, h.rd.below hb, h.mn, h.md, h.cn, h.cd, h.q⟩
theorem RL.Is.dpos {w : World} {a : RL} {q : Rat} (h : a.Is w q) : 0 < a.ds.length := by
  rcases Nat.eq_zero_or_pos a.ds.length with h0 | h0
  · have := h.q.pos
    rw [List.eq_nil_of_length_eq_zero h0] at this
    simp [V32, val] at this
  · exact h0
/-- The numerator has words exactly if it is not zero. -/
theorem V32_pos_iff {xs : List Nat} (m : Mag xs) : 0 < xs.length ↔ 0 < V32 xs := by
  constructor
  · exact fun h => V32_pos m h
  · intro h
    rcases Nat.eq_zero_or_pos xs.length with h0 | h0
    · rw [List.eq_nil_of_length_eq_zero h0] at h; simp [V32, val] at h
    · exact h0

/-- What is returned as a rational number. -/
def RatP (q : Rat) (L : Nat) (w : World) (e : Ending) (w' : World) : Prop :=
  ∃ r : RL, e = .returned (.agg #[.bool r.s, .slice r.N r.ns.length r.nc, .slice r.D r.ds.length r.dc]) ∧ r.Is w' q ∧ r.ns.length ≤ L ∧ r.ds.length ≤ L ∧ Below w.heap.size w w'

/-- What is returned as a rational number and no error. -/
def RatOk (q : Rat) (L : Nat) (w : World) (e : Ending) (w' : World) : Prop :=
  ∃ r : RL, e = .returned (.tuple #[.agg #[.bool r.s, .slice r.N r.ns.length r.nc, .slice r.D r.ds.length r.dc], .int .i64 0]) ∧ r.Is w' q ∧ r.ns.length ≤ L ∧ r.ds.length ≤ L ∧ Below w.heap.size w w'
/-- What is returned as no number and an error. -/
def RatErr (n : Int) (w : World) (e : Ending) (w' : World) : Prop := e = .returned (.tuple #[.agg #[.bool false, .slice none 0 0, .slice none 0 0], .int .i64 n]) ∧ Below w.heap.size w w'
/-- Two lists of words. -/
def TwoP (Q1 Q2 : List Nat → Prop) (w : World) (u v : Value) (w' : World) : Prop :=
  ∃ A c xs B d ys, u = .slice A (xs : List Nat).length c ∧ v = .slice B (ys : List Nat).length d ∧ xs.length ≤ c ∧ ys.length ≤ d ∧ Rd .u32 w' A xs ∧ Rd .u32 w' B ys ∧ Q1 xs ∧ Q2 ys ∧ Below w.heap.size w w'
/-- The numbers of a call and its result, in boxes. -/
theorem box1r (w : World) (a b c r s t : Value) : Blk3 ((w.alloc (.cells #[a, b, c] 24)).alloc (.cells #[r, s, t] 24)) w.heap.size a b c ∧
    Blk3 ((w.alloc (.cells #[a, b, c] 24)).alloc (.cells #[r, s, t] 24)) (w.heap.size + 1) r s t ∧ Below w.heap.size w ((w.alloc (.cells #[a, b, c] 24)).alloc (.cells #[r, s, t] 24)) := by
  refine ⟨(Blk3.new w a b c).alloc _, ?_, ((Below.refl _ _).alloc (Nat.le_refl _) _).alloc (by simp) _⟩
  have := Blk3.new (w.alloc (.cells #[a, b, c] 24)) r s t
  rwa [show (w.alloc (.cells #[a, b, c] 24)).heap.size = w.heap.size + 1 by simp] at this
theorem box2r (w : World) (a b c a2 b2 c2 r s t : Value) : Blk3 (((w.alloc (.cells #[a, b, c] 24)).alloc (.cells #[a2, b2, c2] 24)).alloc (.cells #[r, s, t] 24)) w.heap.size a b c ∧
    Blk3 (((w.alloc (.cells #[a, b, c] 24)).alloc (.cells #[a2, b2, c2] 24)).alloc (.cells #[r, s, t] 24)) (w.heap.size + 1) a2 b2 c2 ∧
    Blk3 (((w.alloc (.cells #[a, b, c] 24)).alloc (.cells #[a2, b2, c2] 24)).alloc (.cells #[r, s, t] 24)) (w.heap.size + 2) r s t ∧
    Below w.heap.size w (((w.alloc (.cells #[a, b, c] 24)).alloc (.cells #[a2, b2, c2] 24)).alloc (.cells #[r, s, t] 24)) := by
  obtain ⟨h1, h2, h3⟩ := box1r w a b c a2 b2 c2
  refine ⟨h1.alloc _, h2.alloc _, ?_, h3.alloc (by simp; omega) _⟩
  have := Blk3.new ((w.alloc (.cells #[a, b, c] 24)).alloc (.cells #[a2, b2, c2] 24)) r s t
  rwa [show ((w.alloc (.cells #[a, b, c] 24)).alloc (.cells #[a2, b2, c2] 24)).heap.size = w.heap.size + 2 by simp] at this

/-- What is returned as one value; memory may have grown. -/
def Gives (v : Value) (w : World) (e : Ending) (w' : World) : Prop := e = .returned v ∧ Below w.heap.size w w'

/-- A list of words does not lie in a block of a sign and two slices. -/
theorem Rd.ne_blk {t : TypeId} {k : IntKind} {w : World} {A : Option Addr} {xs : List Nat} {g n c d e : Nat} {p : Bool} {N D : Option Addr} (h : Rd k w A xs) (hb : BlkT t w g (.bool p) (.slice N n c) (.slice D d e)) (hn : 0 < xs.length) :
    ∀ ad, A = some ad → ad.block ≠ g := by
  intro ad hA hg
  obtain ⟨ad', hA', _, hc⟩ := h hn
  rw [hA] at hA'
  injection hA' with hA'
  subst hA'
  have h0 := hc 0 hn
  rw [add_zero_] at h0
  unfold BlkT at hb
  rw [← hg] at hb
  unfold World.cell? at h0
  rw [hb] at h0
  simp only at h0
  by_cases hs : ad.spot.isSome = true
  · rw [if_pos hs] at h0; cases h0
  · rw [if_neg hs] at h0
    generalize ad.off = o at h0
    match o with
    | 0 => simp at h0
    | 1 => simp at h0
    | 2 => simp at h0
    | o + 3 => simp at h0
/-- Three cells of a block written. -/
abbrev put3 (w : World) (g : Nat) (x y z : Value) : World := ((w.setCell ⟨g, 0, none⟩ x).setCell ⟨g, 1, none⟩ y).setCell ⟨g, 2, none⟩ z
theorem Rd.put3 {t : TypeId} {k : IntKind} {w : World} {A : Option Addr} {xs : List Nat} {g n c d e : Nat} {p : Bool} {N D : Option Addr} (h : Rd k w A xs) (hb : BlkT t w g (.bool p) (.slice N n c) (.slice D d e)) (x y z : Value) : Rd k (put3 w g x y z) A xs := by
  intro hn
  have hne := h.ne_blk hb hn
  refine (h.keep2 (w' := Go.Proofs.YtopppmlkddajjaaGreatDoor.put3 w g x y z) (by simp [Go.Proofs.YtopppmlkddajjaaGreatDoor.put3, World.setCell]) fun q hq _ => ?_) hn
  obtain ⟨ad, hA, hqb⟩ := hq
  have hq' : g ≠ q.block := by rw [hqb]; exact fun h => hne ad hA h.symm
  have key : ∀ (v : World) (i : Nat) (u : Value), (v.setCell ⟨g, i, none⟩ u).cell? q = v.cell? q := fun v i u => by
    have := Below.heap_setCell v ⟨g, i, none⟩ u q.block (fun h => hq' h.symm)
    unfold World.cell?
    rw [this]
  rw [key, key, key]
theorem below_put3 {B g : Nat} {a w : World} (h : Below B a w) (hg : B ≤ g) (x y z : Value) : Below B a (put3 w g x y z) := ((h.setCell hg _).setCell hg _).setCell hg _
theorem RL.Is.put3 {t : TypeId} {w : World} {a : RL} {q : Rat} {g n c d e : Nat} {p : Bool} {N D : Option Addr} (h : a.Is w q) (hb : BlkT t w g (.bool p) (.slice N n c) (.slice D d e)) (x y z : Value) : a.Is (Go.Proofs.YtopppmlkddajjaaGreatDoor.put3 w g x y z) q :=
  ⟨h.rn.put3 hb x y z, h.rd.put3 hb x y z, h.mn, h.md, h.cn, h.cd, h.q⟩
theorem RatP.put {t : TypeId} {w w' : World} {q : Rat} {L g n c d e : Nat} {p : Bool} {N D : Option Addr} (r : RL) (hi : r.Is w' q) (hb : BlkT t w' g (.bool p) (.slice N n c) (.slice D d e)) (hg : w.heap.size ≤ g) (hw : Below w.heap.size w w') (l1 : r.ns.length ≤ L) (l2 : r.ds.length ≤ L) :
    RatP q L w (.returned (.agg #[.bool r.s, .slice r.N r.ns.length r.nc, .slice r.D r.ds.length r.dc])) (Go.Proofs.YtopppmlkddajjaaGreatDoor.put3 w' g (.bool r.s) (.slice r.N r.ns.length r.nc) (.slice r.D r.ds.length r.dc)) :=
  ⟨r, rfl, hi.put3 hb _ _ _, l1, l2, below_put3 hw hg _ _ _⟩

theorem RatOk.put {t : TypeId} {w w' : World} {q : Rat} {L g n c d e : Nat} {p : Bool} {N D : Option Addr} (r : RL) (hi : r.Is w' q) (hb : BlkT t w' g (.bool p) (.slice N n c) (.slice D d e)) (hg : w.heap.size ≤ g) (hw : Below w.heap.size w w') (l1 : r.ns.length ≤ L) (l2 : r.ds.length ≤ L) :
    RatOk q L w (.returned (.tuple #[.agg #[.bool r.s, .slice r.N r.ns.length r.nc, .slice r.D r.ds.length r.dc], .int .i64 0])) (Go.Proofs.YtopppmlkddajjaaGreatDoor.put3 w' g (.bool r.s) (.slice r.N r.ns.length r.nc) (.slice r.D r.ds.length r.dc)) :=
  ⟨r, rfl, hi.put3 hb _ _ _, l1, l2, below_put3 hw hg _ _ _⟩

theorem signed_any (s : Bool) (N D : Option Addr) (n nc d dc : Nat) (w : World) :
    Calls Tryz.prog 79 #[.bool s, .slice N n nc, .slice D d dc] w (Gives (.agg #[.bool (s && decide (0 < n)), .slice N n nc, .slice D d dc]) w) := by
  cases s
  · go_enter Tryz.func79, Tryz.ntmps79
    go_wp2
    exact bodyPost_ret (v := .agg #[.bool false, .slice N n nc, .slice D d dc]) (by simp [results, Tryz.results79, go_sem]) rfl ⟨rfl, (Below.refl _ _).alloc (Nat.le_refl _) _⟩
  · obtain ⟨p, hp⟩ : ∃ p, decide (0 < n) = p := ⟨_, rfl⟩
    have hp2 : decide (0 < (n : Int)) = p := by rw [← hp]; simp
    rw [hp]
    cases p
    all_goals
      go_enter Tryz.func79, Tryz.ntmps79
      go_wp2
      exact bodyPost_ret (v := .agg #[.bool _, .slice N n nc, .slice D d dc]) (by simp [results, Tryz.results79, go_sem]) rfl ⟨rfl, (Below.refl _ _).alloc (Nat.le_refl _) _⟩

theorem dec_len {xs : List Nat} (m : Mag xs) : decide (0 < xs.length) = decide (0 < V32 xs) := decide_eq_decide.2 (V32_pos_iff m)

end Go.Proofs.YtopppmlkddajjaaGreatDoor


/- Words for rat.fraction: a block of eight cells that hold slices. -/
namespace Go.Proofs.YtopppmlkddajjaaGreatDoor
open Go.RowKit V
/-- A slice as it lies in a cell, and the list that it reads as. -/
structure SL where
  p : Option Addr
  c : Nat
  xs : List Nat
abbrev SL.v (s : SL) : Value := .slice s.p s.xs.length s.c
structure SL.Ok (w : World) (s : SL) : Prop where
  rd : Rd .u32 w s.p s.xs
  m : Mag s.xs
  c : s.xs.length ≤ s.c
theorem SL.Ok.below {w w' : World} {s : SL} (h : s.Ok w) (hb : Below w.heap.size w w') : s.Ok w' := ⟨h.rd.below hb, h.m, h.c⟩
theorem SL.Ok.drew {w : World} {s : SL} (h : s.Ok w) : s.Ok w.drew := ⟨h.rd.drew, h.m, h.c⟩
theorem SL.Ok.alloc {w : World} {s : SL} (h : s.Ok w) (o : Obj) : s.Ok (w.alloc o) := ⟨h.rd.alloc _, h.m, h.c⟩
def Blk8 (w : World) (g : Nat) (v0 v1 v2 v3 v4 v5 v6 v7 : Value) : Prop := w.heap[g]? = some (.cells #[v0, v1, v2, v3, v4, v5, v6, v7] 100 (0, 0))
structure Cells8 (w : World) (g : Nat) (v0 v1 v2 v3 v4 v5 v6 v7 : Value) : Prop where
  c0 : w.cell? ⟨g, 0, none⟩ = some v0
  c1 : w.cell? ⟨g, 1, none⟩ = some v1
  c2 : w.cell? ⟨g, 2, none⟩ = some v2
  c3 : w.cell? ⟨g, 3, none⟩ = some v3
  c4 : w.cell? ⟨g, 4, none⟩ = some v4
  c5 : w.cell? ⟨g, 5, none⟩ = some v5
  c6 : w.cell? ⟨g, 6, none⟩ = some v6
  c7 : w.cell? ⟨g, 7, none⟩ = some v7
  f0 : w.frozen? ⟨g, 0, none⟩ = false
  f1 : w.frozen? ⟨g, 1, none⟩ = false
  f2 : w.frozen? ⟨g, 2, none⟩ = false
  f3 : w.frozen? ⟨g, 3, none⟩ = false
  f4 : w.frozen? ⟨g, 4, none⟩ = false
  f5 : w.frozen? ⟨g, 5, none⟩ = false
  f6 : w.frozen? ⟨g, 6, none⟩ = false
  f7 : w.frozen? ⟨g, 7, none⟩ = false
  lt : g < w.heap.size
section
variable {w w' : World} {g : Nat} {v0 v1 v2 v3 v4 v5 v6 v7 : Value}
theorem Blk8.lt (h : Blk8 w g v0 v1 v2 v3 v4 v5 v6 v7) : g < w.heap.size := by
  rcases Nat.lt_or_ge g w.heap.size with hlt | hge
  · exact hlt
  · unfold Blk8 at h; rw [Array.getElem?_eq_none hge] at h; cases h
theorem Blk8.facts (h : Blk8 w g v0 v1 v2 v3 v4 v5 v6 v7) : Cells8 w g v0 v1 v2 v3 v4 v5 v6 v7 := by
  have hf : ∀ i, w.frozen? ⟨g, i, none⟩ = false := fun i => by unfold Blk8 at h; simp [World.frozen?, h]
  exact ⟨cell_of_row _ _ 0 _ _ _ h, cell_of_row _ _ 1 _ _ _ h, cell_of_row _ _ 2 _ _ _ h, cell_of_row _ _ 3 _ _ _ h, cell_of_row _ _ 4 _ _ _ h, cell_of_row _ _ 5 _ _ _ h, cell_of_row _ _ 6 _ _ _ h, cell_of_row _ _ 7 _ _ _ h, hf 0, hf 1, hf 2, hf 3, hf 4, hf 5, hf 6, hf 7, h.lt⟩
theorem Blk8.below (h : Blk8 w g v0 v1 v2 v3 v4 v5 v6 v7) (hb : Below w.heap.size w w') : Blk8 w' g v0 v1 v2 v3 v4 v5 v6 v7 := (hb.block g h.lt).trans h
theorem Blk8.drew (h : Blk8 w g v0 v1 v2 v3 v4 v5 v6 v7) : Blk8 w.drew g v0 v1 v2 v3 v4 v5 v6 v7 := h
theorem Blk8.new (w : World) (v0 v1 v2 v3 v4 v5 v6 v7 : Value) : Blk8 (w.alloc (.cells #[v0, v1, v2, v3, v4, v5, v6, v7] 100)) w.heap.size v0 v1 v2 v3 v4 v5 v6 v7 := heap_alloc_new w _
theorem Blk8.alloc (h : Blk8 w g v0 v1 v2 v3 v4 v5 v6 v7) (o : Obj) : Blk8 (w.alloc o) g v0 v1 v2 v3 v4 v5 v6 v7 := (Below.heap_alloc w o g h.lt).trans h
theorem Blk8.set0 (h : Blk8 w g v0 v1 v2 v3 v4 v5 v6 v7) (u : Value) : Blk8 (w.setCell ⟨g, 0, none⟩ u) g u v1 v2 v3 v4 v5 v6 v7 := by
  unfold Blk8 at h ⊢; simp [World.setCell, Array.getElem?_modify, h]
theorem Blk8.set1 (h : Blk8 w g v0 v1 v2 v3 v4 v5 v6 v7) (u : Value) : Blk8 (w.setCell ⟨g, 1, none⟩ u) g v0 u v2 v3 v4 v5 v6 v7 := by
  unfold Blk8 at h ⊢; simp [World.setCell, Array.getElem?_modify, h]
theorem Blk8.set2 (h : Blk8 w g v0 v1 v2 v3 v4 v5 v6 v7) (u : Value) : Blk8 (w.setCell ⟨g, 2, none⟩ u) g v0 v1 u v3 v4 v5 v6 v7 := by
  unfold Blk8 at h ⊢; simp [World.setCell, Array.getElem?_modify, h]
theorem Blk8.set3 (h : Blk8 w g v0 v1 v2 v3 v4 v5 v6 v7) (u : Value) : Blk8 (w.setCell ⟨g, 3, none⟩ u) g v0 v1 v2 u v4 v5 v6 v7 := by
  unfold Blk8 at h ⊢; simp [World.setCell, Array.getElem?_modify, h]
theorem Blk8.set4 (h : Blk8 w g v0 v1 v2 v3 v4 v5 v6 v7) (u : Value) : Blk8 (w.setCell ⟨g, 4, none⟩ u) g v0 v1 v2 v3 u v5 v6 v7 := by
  unfold Blk8 at h ⊢; simp [World.setCell, Array.getElem?_modify, h]
theorem Blk8.set5 (h : Blk8 w g v0 v1 v2 v3 v4 v5 v6 v7) (u : Value) : Blk8 (w.setCell ⟨g, 5, none⟩ u) g v0 v1 v2 v3 v4 u v6 v7 := by
  unfold Blk8 at h ⊢; simp [World.setCell, Array.getElem?_modify, h]
theorem Blk8.set6 (h : Blk8 w g v0 v1 v2 v3 v4 v5 v6 v7) (u : Value) : Blk8 (w.setCell ⟨g, 6, none⟩ u) g v0 v1 v2 v3 v4 v5 u v7 := by
  unfold Blk8 at h ⊢; simp [World.setCell, Array.getElem?_modify, h]
theorem Blk8.set7 (h : Blk8 w g v0 v1 v2 v3 v4 v5 v6 v7) (u : Value) : Blk8 (w.setCell ⟨g, 7, none⟩ u) g v0 v1 v2 v3 v4 v5 v6 u := by
  unfold Blk8 at h ⊢; simp [World.setCell, Array.getElem?_modify, h]
end

/-- A list of words does not lie in such a block. -/
theorem Rd.ne_blk8 {w : World} {A : Option Addr} {xs : List Nat} {g : Nat} {s0 s1 s2 s3 s4 s5 s6 s7 : SL} (h : Rd .u32 w A xs) (hb : Blk8 w g s0.v s1.v s2.v s3.v s4.v s5.v s6.v s7.v) (hn : 0 < xs.length) :
    ∀ ad, A = some ad → ad.block ≠ g := by
  intro ad hA hg
  obtain ⟨ad', hA', _, hc⟩ := h hn
  rw [hA] at hA'
  injection hA' with hA'
  subst hA'
  have h0 := hc 0 hn
  rw [add_zero_] at h0
  unfold Blk8 at hb
  rw [← hg] at hb
  unfold World.cell? at h0
  rw [hb] at h0
  simp only at h0
  by_cases hs : ad.spot.isSome = true
  · rw [if_pos hs] at h0; cases h0
  · rw [if_neg hs] at h0
    generalize ad.off = o at h0
    match o with
    | 0 => simp [SL.v] at h0
    | 1 => simp [SL.v] at h0
    | 2 => simp [SL.v] at h0
    | 3 => simp [SL.v] at h0
    | 4 => simp [SL.v] at h0
    | 5 => simp [SL.v] at h0
    | 6 => simp [SL.v] at h0
    | 7 => simp [SL.v] at h0
    | o + 8 => simp at h0
/-- A list keeps through stores into a block that is not its own. -/
theorem Rd.farq {k : IntKind} {w : World} {A : Option Addr} {xs : List Nat} {g : Nat} (h : Rd k w A xs) (hne : 0 < xs.length → ∀ ad, A = some ad → ad.block ≠ g) (i : Nat) (v : Value) : Rd k (w.setCell ⟨g, i, none⟩ v) A xs := by
  intro hn
  refine (h.keep2 (w' := w.setCell ⟨g, i, none⟩ v) (by simp [World.setCell]) fun q hq _ => ?_) hn
  obtain ⟨ad, hA, hqb⟩ := hq
  have hq' : g ≠ q.block := by rw [hqb]; exact fun h => hne hn ad hA h.symm
  have := Below.heap_setCell w ⟨g, i, none⟩ v q.block (fun h => hq' h.symm)
  exact World.cell?_of_block this
abbrev put4 (w : World) (g i : Nat) (a b c d : Value) : World := (((w.setCell ⟨g, i, none⟩ a).setCell ⟨g, i + 1, none⟩ b).setCell ⟨g, i + 2, none⟩ c).setCell ⟨g, i + 3, none⟩ d
theorem SL.Ok.put4 {w : World} {s : SL} {g : Nat} {s0 s1 s2 s3 s4 s5 s6 s7 : SL} (h : s.Ok w) (hb : Blk8 w g s0.v s1.v s2.v s3.v s4.v s5.v s6.v s7.v) (i : Nat) (a b c d : Value) : s.Ok (Go.Proofs.YtopppmlkddajjaaGreatDoor.put4 w g i a b c d) := by
  have hne : 0 < s.xs.length → ∀ ad, s.p = some ad → ad.block ≠ g := fun hn => h.rd.ne_blk8 hb hn
  exact ⟨(((h.rd.farq hne _ _).farq hne _ _).farq hne _ _).farq hne _ _, h.m, h.c⟩
theorem below_put4 {B g : Nat} {a w : World} (h : Below B a w) (hg : B ≤ g) (i : Nat) (x y z u : Value) : Below B a (put4 w g i x y z u) := (((h.setCell hg _).setCell hg _).setCell hg _).setCell hg _
theorem Blk8.low4 {w : World} {g : Nat} {v0 v1 v2 v3 v4 v5 v6 v7 : Value} (h : Blk8 w g v0 v1 v2 v3 v4 v5 v6 v7) (a b c d : Value) : Blk8 (put4 w g 0 a b c d) g a b c d v4 v5 v6 v7 := (((h.set0 a).set1 b).set2 c).set3 d
theorem Blk8.high4 {w : World} {g : Nat} {v0 v1 v2 v3 v4 v5 v6 v7 : Value} (h : Blk8 w g v0 v1 v2 v3 v4 v5 v6 v7) (a b c d : Value) : Blk8 (put4 w g 4 a b c d) g v0 v1 v2 v3 a b c d := (((h.set4 a).set5 b).set6 c).set7 d
/-- A block of two cells. -/
def Blk2 (w : World) (g : Nat) (a b : Value) : Prop := w.heap[g]? = some (.cells #[a, b] 98 (0, 0))
structure Cells2 (w : World) (g : Nat) (a b : Value) : Prop where
  c0 : w.cell? ⟨g, 0, none⟩ = some a
  c1 : w.cell? ⟨g, 1, none⟩ = some b
  f0 : w.frozen? ⟨g, 0, none⟩ = false
  f1 : w.frozen? ⟨g, 1, none⟩ = false
  lt : g < w.heap.size
section
variable {w w' : World} {g : Nat} {a b : Value}
theorem Blk2.lt (h : Blk2 w g a b) : g < w.heap.size := by
  rcases Nat.lt_or_ge g w.heap.size with hlt | hge
  · exact hlt
  · unfold Blk2 at h; rw [Array.getElem?_eq_none hge] at h; cases h
theorem Blk2.facts (h : Blk2 w g a b) : Cells2 w g a b := by
  have hf : ∀ i, w.frozen? ⟨g, i, none⟩ = false := fun i => by unfold Blk2 at h; simp [World.frozen?, h]
  exact ⟨cell_of_row _ _ 0 _ _ _ h, cell_of_row _ _ 1 _ _ _ h, hf 0, hf 1, h.lt⟩
theorem Blk2.below (h : Blk2 w g a b) (hb : Below w.heap.size w w') : Blk2 w' g a b := (hb.block g h.lt).trans h
theorem Blk2.new (w : World) (a b : Value) : Blk2 (w.alloc (.cells #[a, b] 98)) w.heap.size a b := heap_alloc_new w _
theorem Blk2.alloc (h : Blk2 w g a b) (o : Obj) : Blk2 (w.alloc o) g a b := (Below.heap_alloc w o g h.lt).trans h
theorem Blk2.set0 (h : Blk2 w g a b) (u : Value) : Blk2 (w.setCell ⟨g, 0, none⟩ u) g u b := by
  unfold Blk2 at h ⊢; simp [World.setCell, Array.getElem?_modify, h]
theorem Blk2.set1 (h : Blk2 w g a b) (u : Value) : Blk2 (w.setCell ⟨g, 1, none⟩ u) g a u := by
  unfold Blk2 at h ⊢; simp [World.setCell, Array.getElem?_modify, h]
end
theorem Rd.ne_blk2 {w : World} {A N D : Option Addr} {xs : List Nat} {g n c m d : Nat} (h : Rd .u32 w A xs) (hb : Blk2 w g (.slice N n c) (.slice D m d)) (hn : 0 < xs.length) :
    ∀ ad, A = some ad → ad.block ≠ g := by
  intro ad hA hg
  obtain ⟨ad', hA', _, hc⟩ := h hn
  rw [hA] at hA'
  injection hA' with hA'
  subst hA'
  have h0 := hc 0 hn
  rw [add_zero_] at h0
  unfold Blk2 at hb
  rw [← hg] at hb
  unfold World.cell? at h0
  rw [hb] at h0
  simp only at h0
  by_cases hs : ad.spot.isSome = true
  · rw [if_pos hs] at h0; cases h0
  · rw [if_neg hs] at h0
    generalize ad.off = o at h0
    match o with
    | 0 => simp at h0
    | 1 => simp at h0
    | o + 2 => simp at h0
abbrev put2 (w : World) (g : Nat) (a b : Value) : World := (w.setCell ⟨g, 0, none⟩ a).setCell ⟨g, 1, none⟩ b
theorem SL.Ok.put2 {w : World} {s : SL} {g n c m d : Nat} {N D : Option Addr} (h : s.Ok w) (hb : Blk2 w g (.slice N n c) (.slice D m d)) (a b : Value) : s.Ok (Go.Proofs.YtopppmlkddajjaaGreatDoor.put2 w g a b) := by
  have hne : 0 < s.xs.length → ∀ ad, s.p = some ad → ad.block ≠ g := fun hn => h.rd.ne_blk2 hb hn
  exact ⟨(h.rd.farq hne _ _).farq hne _ _, h.m, h.c⟩
theorem Blk2.put2 {w : World} {g : Nat} {a b : Value} (h : Blk2 w g a b) (c d : Value) : Blk2 (Go.Proofs.YtopppmlkddajjaaGreatDoor.put2 w g c d) g c d := (h.set0 c).set1 d
theorem below_put2 {B g : Nat} {a w : World} (h : Below B a w) (hg : B ≤ g) (x y : Value) : Below B a (put2 w g x y) := (h.setCell hg _).setCell hg _
/-- rat.fraction in memory. -/
structure FL where
  an : SL
  ad : SL
  bn : SL
  bd : SL
  vn : SL
  vd : SL
  un : SL
  ud : SL
structure FL.In (w : World) (g : Nat) (f : FL) : Prop where
  blk : Blk8 w g f.an.v f.ad.v f.bn.v f.bd.v f.vn.v f.vd.v f.un.v f.ud.v
  an : f.an.Ok w
  ad : f.ad.Ok w
  bn : f.bn.Ok w
  bd : f.bd.Ok w
  vn : f.vn.Ok w
  vd : f.vd.Ok w
  un : f.un.Ok w
  ud : f.ud.Ok w
theorem FL.In.below {w w' : World} {g : Nat} {f : FL} (h : f.In w g) (hb : Below w.heap.size w w') : f.In w' g := ⟨h.blk.below hb, h.an.below hb, h.ad.below hb, h.bn.below hb, h.bd.below hb, h.vn.below hb, h.vd.below hb, h.un.below hb, h.ud.below hb⟩
theorem FL.In.drew {w : World} {g : Nat} {f : FL} (h : f.In w g) : f.In w.drew g := ⟨h.blk.drew, h.an.drew, h.ad.drew, h.bn.drew, h.bd.drew, h.vn.drew, h.vd.drew, h.un.drew, h.ud.drew⟩
theorem FL.In.alloc {w : World} {g : Nat} {f : FL} (h : f.In w g) (o : Obj) : f.In (w.alloc o) g := ⟨h.blk.alloc o, h.an.alloc o, h.ad.alloc o, h.bn.alloc o, h.bd.alloc o, h.vn.alloc o, h.vd.alloc o, h.un.alloc o, h.ud.alloc o⟩
theorem FL.In.facts {w : World} {g : Nat} {f : FL} (h : f.In w g) : Cells8 w g (.slice f.an.p f.an.xs.length f.an.c) (.slice f.ad.p f.ad.xs.length f.ad.c) (.slice f.bn.p f.bn.xs.length f.bn.c) (.slice f.bd.p f.bd.xs.length f.bd.c) (.slice f.vn.p f.vn.xs.length f.vn.c) (.slice f.vd.p f.vd.xs.length f.vd.c) (.slice f.un.p f.un.xs.length f.un.c) (.slice f.ud.p f.ud.xs.length f.ud.c) := h.blk.facts
theorem FL.In.lt {w : World} {g : Nat} {f : FL} (h : f.In w g) : g < w.heap.size := h.blk.lt
theorem FL.In.put2 {w : World} {g h n c m d : Nat} {N D : Option Addr} {f : FL} (i : f.In w g) (hb : Blk2 w h (.slice N n c) (.slice D m d)) (hne : g ≠ h) (a b : Value) : f.In (Go.Proofs.YtopppmlkddajjaaGreatDoor.put2 w h a b) g :=
  ⟨((Below.heap_setCell _ ⟨h, 1, none⟩ b g hne).trans (Below.heap_setCell w ⟨h, 0, none⟩ a g hne)).trans i.blk, i.an.put2 hb a b, i.ad.put2 hb a b, i.bn.put2 hb a b, i.bd.put2 hb a b, i.vn.put2 hb a b, i.vd.put2 hb a b, i.un.put2 hb a b, i.ud.put2 hb a b⟩
theorem FL.In.low {w : World} {g : Nat} {f : FL} (h : f.In w g) {a b c d : SL} (ha : a.Ok w) (hb : b.Ok w) (hc : c.Ok w) (hd : d.Ok w) : FL.In (put4 w g 0 a.v b.v c.v d.v) g ⟨a, b, c, d, f.vn, f.vd, f.un, f.ud⟩ :=
  ⟨h.blk.low4 _ _ _ _, ha.put4 h.blk _ _ _ _ _, hb.put4 h.blk _ _ _ _ _, hc.put4 h.blk _ _ _ _ _, hd.put4 h.blk _ _ _ _ _, h.vn.put4 h.blk _ _ _ _ _, h.vd.put4 h.blk _ _ _ _ _, h.un.put4 h.blk _ _ _ _ _, h.ud.put4 h.blk _ _ _ _ _⟩
theorem FL.In.high {w : World} {g : Nat} {f : FL} (h : f.In w g) {a b c d : SL} (ha : a.Ok w) (hb : b.Ok w) (hc : c.Ok w) (hd : d.Ok w) : FL.In (put4 w g 4 a.v b.v c.v d.v) g ⟨f.an, f.ad, f.bn, f.bd, a, b, c, d⟩ :=
  ⟨h.blk.high4 _ _ _ _, h.an.put4 h.blk _ _ _ _ _, h.ad.put4 h.blk _ _ _ _ _, h.bn.put4 h.blk _ _ _ _ _, h.bd.put4 h.blk _ _ _ _ _, ha.put4 h.blk _ _ _ _ _, hb.put4 h.blk _ _ _ _ _, hc.put4 h.blk _ _ _ _ _, hd.put4 h.blk _ _ _ _ _⟩
theorem len_cap {xs : List Nat} (m : Mag xs) (h : V32 xs < 4294967296 ^ 12) : xs.length ≤ 100000 := Nat.le_trans (short_of_lt m h) (by omega)
/-- What extend leaves. -/
def ExtP (A B C D X : Nat) (f : FL) (g : Nat) (w : World) (e : Ending) (w' : World) : Prop :=
  ∃ (f' : FL) (last : Bool), e = .returned (.bool last) ∧ f'.In w' g ∧ Below g w w' ∧
    (last = false → Frac A B C D X (V32 f'.an.xs) (V32 f'.ad.xs) (V32 f'.bn.xs) (V32 f'.bd.xs) (V32 f'.vn.xs) (V32 f'.vd.xs) (V32 f'.un.xs) (V32 f'.ud.xs) ∧ V32 f'.ad.xs + V32 f'.bd.xs < V32 f.ad.xs + V32 f.bd.xs) ∧
    (last = true → Simp A B C D (V32 f'.vn.xs) (V32 f'.vd.xs) ∧ V32 f'.vn.xs ≤ X ∧ V32 f'.vd.xs ≤ X)
end Go.Proofs.YtopppmlkddajjaaGreatDoor

