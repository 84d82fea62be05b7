/- Words for rational numbers in memory, and rat.signed. -/
import Derived.Test.YtopppmlkddajjaaGreatDoorQTR13
namespace Go.Proofs.YtopppmlkddajjaaGreatDoor
open Go.RowKit V

/-- A block of three cells, known whole. -/
def BlkT (t : TypeId) (w : World) (g : Nat) (a b c : Value) : Prop := w.heap[g]? = some (.cells #[a, b, c] t (0, 0))
abbrev Blk3 := BlkT 24
/-- What a walk wants to know of such a block. -/
structure Cells3 (w : World) (g : Nat) (a b c : Value) : Prop where
  c0 : w.cell? ⟨g, 0, none⟩ = some a
  c1 : w.cell? ⟨g, 1, none⟩ = some b
  c2 : w.cell? ⟨g, 2, none⟩ = some c
  f0 : w.frozen? ⟨g, 0, none⟩ = false
  f1 : w.frozen? ⟨g, 1, none⟩ = false
  f2 : w.frozen? ⟨g, 2, none⟩ = false
  lt : g < w.heap.size
section
variable {t : TypeId} {w w' : World} {g : Nat} {a b c : Value}
theorem BlkT.lt (h : BlkT t w g a b c) : g < w.heap.size := by
  rcases Nat.lt_or_ge g w.heap.size with hlt | hge
  · exact hlt
  · unfold BlkT at h; rw [Array.getElem?_eq_none hge] at h; cases h
theorem BlkT.facts (h : BlkT t w g a b c) : Cells3 w g a b c := by
  have hf : ∀ i, w.frozen? ⟨g, i, none⟩ = false := fun i => by unfold BlkT at h; simp [World.frozen?, h]
  exact ⟨cell_of_row _ _ 0 _ _ _ h, cell_of_row _ _ 1 _ _ _ h, cell_of_row _ _ 2 _ _ _ h, hf 0, hf 1, hf 2, h.lt⟩
theorem BlkT.below (h : BlkT t w g a b c) (hb : Below w.heap.size w w') : BlkT t w' g a b c := (hb.block g h.lt).trans h
theorem BlkT.drew (h : BlkT t w g a b c) : BlkT t w.drew g a b c := h
theorem BlkT.new (t : TypeId) (w : World) (a b c : Value) : BlkT t (w.alloc (.cells #[a, b, c] t)) w.heap.size a b c := heap_alloc_new w _
theorem BlkT.alloc (h : BlkT t w g a b c) (o : Obj) : BlkT t (w.alloc o) g a b c := (Below.heap_alloc w o g h.lt).trans h
theorem BlkT.far (h : BlkT t w g a b c) {p : Addr} (hp : g ≠ p.block) (u : Value) : BlkT t (w.setCell p u) g a b c := (Below.heap_setCell w p u g hp).trans h
end

theorem Blk3.new (w : World) (a b c : Value) : Blk3 (w.alloc (.cells #[a, b, c] 24)) w.heap.size a b c := BlkT.new _ w a b c

/-- A rational number as it lies in memory: sign, numerator, denominator. -/
structure RL where
  s : Bool
  N : Option Addr
  nc : Nat
  ns : List Nat
  D : Option Addr
  dc : Nat
  ds : List Nat
structure RL.Is (w : World) (a : RL) (q : Rat) : Prop where
  rn : Rd .u32 w a.N a.ns
  rd : Rd .u32 w a.D a.ds
  mn : Mag a.ns
  md : Mag a.ds
  cn : a.ns.length ≤ a.nc
  cd : a.ds.length ≤ a.dc
  q : QOf a.s (V32 a.ns) (V32 a.ds) q
theorem RL.Is.below {w w' : World} {a : RL} {q : Rat} (h : a.Is w q) (hb : Below w.heap.size w w') : a.Is w' q :=
  ⟨h.rn.below hb, h.rd.below hb, h.mn, h.md, h.cn, h.cd, h.q⟩
theorem RL.Is.dpos {w : World} {a : RL} {q : Rat} (h : a.Is w q) : 0 < a.ds.length := by
  rcases Nat.eq_zero_or_pos a.ds.length with h0 | h0
  · have := h.q.pos
    rw [List.eq_nil_of_length_eq_zero h0] at this
    simp [V32, val] at this
  · exact h0
/-- The numerator has words exactly if it is not zero. -/
theorem V32_pos_iff {xs : List Nat} (m : Mag xs) : 0 < xs.length ↔ 0 < V32 xs := by
  constructor
  · exact fun h => V32_pos m h
  · intro h
    rcases Nat.eq_zero_or_pos xs.length with h0 | h0
    · rw [List.eq_nil_of_length_eq_zero h0] at h; simp [V32, val] at h
    · exact h0

/-- What is returned as a rational number. -/
def RatP (q : Rat) (L : Nat) (w : World) (e : Ending) (w' : World) : Prop :=
  ∃ r : RL, e = .returned (.agg #[.bool r.s, .slice r.N r.ns.length r.nc, .slice r.D r.ds.length r.dc]) ∧ r.Is w' q ∧ r.ns.length ≤ L ∧ r.ds.length ≤ L ∧ Below w.heap.size w w'

/-- What is returned as a rational number and no error. -/
def RatOk (q : Rat) (L : Nat) (w : World) (e : Ending) (w' : World) : Prop :=
  ∃ r : RL, e = .returned (.tuple #[.agg #[.bool r.s, .slice r.N r.ns.length r.nc, .slice r.D r.ds.length r.dc], .int .i64 0]) ∧ r.Is w' q ∧ r.ns.length ≤ L ∧ r.ds.length ≤ L ∧ Below w.heap.size w w'
/-- What is returned as no number and an error. -/
def RatErr (n : Int) (w : World) (e : Ending) (w' : World) : Prop := e = .returned (.tuple #[.agg #[.bool false, .slice none 0 0, .slice none 0 0], .int .i64 n]) ∧ Below w.heap.size w w'
/-- Two lists of words. -/
def TwoP (Q1 Q2 : List Nat → Prop) (w : World) (u v : Value) (w' : World) : Prop :=
  ∃ A c xs B d ys, u = .slice A (xs : List Nat).length c ∧ v = .slice B (ys : List Nat).length d ∧ xs.length ≤ c ∧ ys.length ≤ d ∧ Rd .u32 w' A xs ∧ Rd .u32 w' B ys ∧ Q1 xs ∧ Q2 ys ∧ Below w.heap.size w w'
/-- The numbers of a call and its result, in boxes. -/
theorem box1r (w : World) (a b c r s t : Value) : Blk3 ((w.alloc (.cells #[a, b, c] 24)).alloc (.cells #[r, s, t] 24)) w.heap.size a b c ∧
    Blk3 ((w.alloc (.cells #[a, b, c] 24)).alloc (.cells #[r, s, t] 24)) (w.heap.size + 1) r s t ∧ Below w.heap.size w ((w.alloc (.cells #[a, b, c] 24)).alloc (.cells #[r, s, t] 24)) := by
  refine ⟨(Blk3.new w a b c).alloc _, ?_, ((Below.refl _ _).alloc (Nat.le_refl _) _).alloc (by simp) _⟩
  have := Blk3.new (w.alloc (.cells #[a, b, c] 24)) r s t
  rwa [show (w.alloc (.cells #[a, b, c] 24)).heap.size = w.heap.size + 1 by simp] at this
theorem box2r (w : World) (a b c a2 b2 c2 r s t : Value) : Blk3 (((w.alloc (.cells #[a, b, c] 24)).alloc (.cells #[a2, b2, c2] 24)).alloc (.cells #[r, s, t] 24)) w.heap.size a b c ∧
    Blk3 (((w.alloc (.cells #[a, b, c] 24)).alloc (.cells #[a2, b2, c2] 24)).alloc (.cells #[r, s, t] 24)) (w.heap.size + 1) a2 b2 c2 ∧
    Blk3 (((w.alloc (.cells #[a, b, c] 24)).alloc (.cells #[a2, b2, c2] 24)).alloc (.cells #[r, s, t] 24)) (w.heap.size + 2) r s t ∧
    Below w.heap.size w (((w.alloc (.cells #[a, b, c] 24)).alloc (.cells #[a2, b2, c2] 24)).alloc (.cells #[r, s, t] 24)) := by
  obtain ⟨h1, h2, h3⟩ := box1r w a b c a2 b2 c2
  refine ⟨h1.alloc _, h2.alloc _, ?_, h3.alloc (by simp; omega) _⟩
  have := Blk3.new ((w.alloc (.cells #[a, b, c] 24)).alloc (.cells #[a2, b2, c2] 24)) r s t
  rwa [show ((w.alloc (.cells #[a, b, c] 24)).alloc (.cells #[a2, b2, c2] 24)).heap.size = w.heap.size + 2 by simp] at this

/-- What is returned as one value; memory may have grown. -/
def Gives (v : Value) (w : World) (e : Ending) (w' : World) : Prop := e = .returned v ∧ Below w.heap.size w w'

/-- A list of words does not lie in a block of a sign and two slices. -/
theorem Rd.ne_blk {t : TypeId} {k : IntKind} {w : World} {A : Option Addr} {xs : List Nat} {g n c d e : Nat} {p : Bool} {N D : Option Addr} (h : Rd k w A xs) (hb : BlkT t w g (.bool p) (.slice N n c) (.slice D d e)) (hn : 0 < xs.length) :
    ∀ ad, A = some ad → ad.block ≠ g := by
  intro ad hA hg
  obtain ⟨ad', hA', _, hc⟩ := h hn
  rw [hA] at hA'
  injection hA' with hA'
  subst hA'
  have h0 := hc 0 hn
  rw [add_zero_] at h0
  unfold BlkT at hb
  rw [← hg] at hb
  unfold World.cell? at h0
  rw [hb] at h0
  simp only at h0
  by_cases hs : ad.spot.isSome = true
  · rw [if_pos hs] at h0; cases h0
  · rw [if_neg hs] at h0
    generalize ad.off = o at h0
    match o with
    | 0 => simp at h0
    | 1 => simp at h0
    | 2 => simp at h0
    | o + 3 => simp at h0
/-- Three cells of a block written. -/
abbrev put3 (w : World) (g : Nat) (x y z : Value) : World := ((w.setCell ⟨g, 0, none⟩ x).setCell ⟨g, 1, none⟩ y).setCell ⟨g, 2, none⟩ z
theorem Rd.put3 {t : TypeId} {k : IntKind} {w : World} {A : Option Addr} {xs : List Nat} {g n c d e : Nat} {p : Bool} {N D : Option Addr} (h : Rd k w A xs) (hb : BlkT t w g (.bool p) (.slice N n c) (.slice D d e)) (x y z : Value) : Rd k (put3 w g x y z) A xs := by
  intro hn
  have hne := h.ne_blk hb hn
  refine (h.keep2 (w' := Go.Proofs.YtopppmlkddajjaaGreatDoor.put3 w g x y z) (by simp [Go.Proofs.YtopppmlkddajjaaGreatDoor.put3, World.setCell]) fun q hq _ => ?_) hn
  obtain ⟨ad, hA, hqb⟩ := hq
  have hq' : g ≠ q.block := by rw [hqb]; exact fun h => hne ad hA h.symm
  have key : ∀ (v : World) (i : Nat) (u : Value), (v.setCell ⟨g, i, none⟩ u).cell? q = v.cell? q := fun v i u => by
    have := Below.heap_setCell v ⟨g, i, none⟩ u q.block (fun h => hq' h.symm)
    unfold World.cell?
    rw [this]
  rw [key, key, key]
theorem below_put3 {B g : Nat} {a w : World} (h : Below B a w) (hg : B ≤ g) (x y z : Value) : Below B a (put3 w g x y z) := ((h.setCell hg _).setCell hg _).setCell hg _
theorem RL.Is.put3 {t : TypeId} {w : World} {a : RL} {q : Rat} {g n c d e : Nat} {p : Bool} {N D : Option Addr} (h : a.Is w q) (hb : BlkT t w g (.bool p) (.slice N n c) (.slice D d e)) (x y z : Value) : a.Is (Go.Proofs.YtopppmlkddajjaaGreatDoor.put3 w g x y z) q :=
  ⟨h.rn.put3 hb x y z, h.rd.put3 hb x y z, h.mn, h.md, h.cn, h.cd, h.q⟩
theorem RatP.put {t : TypeId} {w w' : World} {q : Rat} {L g n c d e : Nat} {p : Bool} {N D : Option Addr} (r : RL) (hi : r.Is w' q) (hb : BlkT t w' g (.bool p) (.slice N n c) (.slice D d e)) (hg : w.heap.size ≤ g) (hw : Below w.heap.size w w') (l1 : r.ns.length ≤ L) (l2 : r.ds.length ≤ L) :
    RatP q L w (.returned (.agg #[.bool r.s, .slice r.N r.ns.length r.nc, .slice r.D r.ds.length r.dc])) (Go.Proofs.YtopppmlkddajjaaGreatDoor.put3 w' g (.bool r.s) (.slice r.N r.ns.length r.nc) (.slice r.D r.ds.length r.dc)) :=
  ⟨r, rfl, hi.put3 hb _ _ _, l1, l2, below_put3 hw hg _ _ _⟩

theorem RatOk.put {t : TypeId} {w w' : World} {q : Rat} {L g n c d e : Nat} {p : Bool} {N D : Option Addr} (r : RL) (hi : r.Is w' q) (hb : BlkT t w' g (.bool p) (.slice N n c) (.slice D d e)) (hg : w.heap.size ≤ g) (hw : Below w.heap.size w w') (l1 : r.ns.length ≤ L) (l2 : r.ds.length ≤ L) :
    RatOk q L w (.returned (.tuple #[.agg #[.bool r.s, .slice r.N r.ns.length r.nc, .slice r.D r.ds.length r.dc], .int .i64 0])) (Go.Proofs.YtopppmlkddajjaaGreatDoor.put3 w' g (.bool r.s) (.slice r.N r.ns.length r.nc) (.slice r.D r.ds.length r.dc)) :=
  ⟨r, rfl, hi.put3 hb _ _ _, l1, l2, below_put3 hw hg _ _ _⟩

theorem signed_any (s : Bool) (N D : Option Addr) (n nc d dc : Nat) (w : World) :
    Calls Tryz.prog 79 #[.bool s, .slice N n nc, .slice D d dc] w (Gives (.agg #[.bool (s && decide (0 < n)), .slice N n nc, .slice D d dc]) w) := by
  cases s
  · go_enter Tryz.func79, Tryz.ntmps79
    go_wp2
    exact bodyPost_ret (v := .agg #[.bool false, .slice N n nc, .slice D d dc]) (by simp [results, Tryz.results79, go_sem]) rfl ⟨rfl, (Below.refl _ _).alloc (Nat.le_refl _) _⟩
  · obtain ⟨p, hp⟩ : ∃ p, decide (0 < n) = p := ⟨_, rfl⟩
    have hp2 : decide (0 < (n : Int)) = p := by rw [← hp]; simp
    rw [hp]
    cases p
    all_goals
      go_enter Tryz.func79, Tryz.ntmps79
      go_wp2
      exact bodyPost_ret (v := .agg #[.bool _, .slice N n nc, .slice D d dc]) (by simp [results, Tryz.results79, go_sem]) rfl ⟨rfl, (Below.refl _ _).alloc (Nat.le_refl _) _⟩

theorem dec_len {xs : List Nat} (m : Mag xs) : decide (0 < xs.length) = decide (0 < V32 xs) := decide_eq_decide.2 (V32_pos_iff m)

/-- rat.reduced. -/
theorem reduced_any (s : Bool) (N D : Option Addr) (nc dc : Nat) (ns ds : List Nat) (w : World) (hn : Rd .u32 w N ns) (hd : Rd .u32 w D ds) (cd : ds.length ≤ dc) (bn : ns.length ≤ 4096) (bd : ds.length ≤ 4096) (mn : Mag ns) (md : Mag ds) (hpos : 0 < ds.length) :
    Calls Tryz.prog 96 #[.bool s, .slice N ns.length nc, .slice D ds.length dc] w (RatP (mkRat (sgn s (V32 ns)) (V32 ds)) (max ns.length ds.length) w) := by
  have hdp := V32_pos md hpos
  go_enter Tryz.func96, Tryz.ntmps96
  go_wp2_with fail
  refine (qrem N D nc dc ns ds _ (hn.alloc _) (hd.alloc _) bn bd mn md hpos).mono ?_
  rintro e w1 ⟨R, rc, rs, rfl, hrc, hr1, hb1, hvr, mr, hrl⟩
  have HVR := Lib.hid hvr
  have bk1 := (Blk3.new w (.bool false) (.slice none 0 0) (.slice none 0 0)).below hb1
  have hn1 := (hn.alloc (.cells #[.bool false, .slice none 0 0, .slice none 0 0] 24)).below hb1
  have hd1 := (hd.alloc (.cells #[.bool false, .slice none 0 0, .slice none 0 0] 24)).below hb1
  have hw1 : Below w.heap.size w w1 := ((Below.refl _ _).alloc (Nat.le_refl _) _).trans (hb1.mono (by simp))
  clear hvr hb1 hn hd
  go_wp2_with fail
  refine (qgcd D R dc rc ds rs _ hd1 hr1 cd hrc bd (by omega) md mr).mono ?_
  rintro e w2 ⟨G, gc, gs, rfl, hgc, hg2, hb2, hvg, mg⟩
  have HVG : Hid (V32 gs = Nat.gcd (V32 ns) (V32 ds)) := by
    show _ = _
    rw [hvg, HVR.out, Nat.gcd_comm, ← Nat.gcd_rec, Nat.gcd_comm]
  have hgl : gs.length ≤ ds.length := md.len_le mg (by rw [HVG.out]; exact Nat.gcd_le_right _ hdp)
  have hgp : 0 < gs.length := (V32_pos_iff mg).2 (by rw [HVG.out]; exact Nat.gcd_pos_of_pos_right _ hdp)
  have bk2 := bk1.below hb2
  have hn2 := hn1.below hb2
  have hd2 := hd1.below hb2
  have hw2 := hw1.trans (hb2.mono hw1.size)
  clear hvg hb2 hn1 hd1 bk1 hw1
  go_wp2_with fail
  refine (qquot N G nc gc ns gs _ hn2 hg2 bn (by omega) mn mg hgp).mono ?_
  rintro e w3 ⟨Q, qc, qs, rfl, hqc, hq3, hb3, hvq, mq, hql⟩
  have HVQ := Lib.hid hvq
  have bk3 := bk2.below hb3
  have hd3 := hd2.below hb3
  have hg3 := hg2.below hb3
  have hw3 := hw2.trans (hb3.mono hw2.size)
  clear hvq hb3 hn2 hd2 bk2 hw2 hg2
  go_wp2_with fail
  refine (qquot D G dc gc ds gs _ hd3 hg3 bd (by omega) md mg hgp).mono ?_
  rintro e w4 ⟨E, ec, es, rfl, hec, he4, hb4, hve, me, hel⟩
  have HVE := Lib.hid hve
  have bk4 := bk3.below hb4
  have hq4 := hq3.below hb4
  have hw4 := hw3.trans (hb4.mono hw3.size)
  clear hve hb4 hd3 hg3 bk3 hw3 hq3
  go_wp2_with fail
  refine (signed_any s Q E qs.length qc es.length ec _).mono ?_
  rintro e w5 ⟨rfl, hb5⟩
  have bk5 := bk4.below hb5
  have hq5 := hq4.below hb5
  have he5 := he4.below hb5
  have hw5 := hw4.trans (hb5.mono hw4.size)
  obtain ⟨c0, c1, c2, f0, f1, f2, lt⟩ := bk5.facts
  clear hb5 bk4 hw4 hq4 he4
  obtain ⟨p, hp⟩ : ∃ p, (s && decide (0 < qs.length)) = p := ⟨_, rfl⟩
  rw [hp]
  have HP := Lib.hid hp
  have HB5 := Lib.hid bk5
  clear hp bk5
  go_wp2_with fail
  refine bodyPost_ret (v := .agg #[.bool p, .slice Q qs.length qc, .slice E es.length ec]) (by simp [results, Tryz.results96, go_sem, c0, c1, c2]) rfl ?_
  refine RatP.put ⟨p, Q, qc, qs, E, ec, es⟩ ⟨hq5, he5, mq, me, hqc, hec, ?_⟩ HB5.out (Nat.le_refl _) hw5 (Nat.le_trans hql (Nat.le_max_left _ _)) (Nat.le_trans hel (Nat.le_max_right _ _))
  have hr := QOf.red (neg := s) (n := V32 ns) (d := V32 ds) hdp
  rw [← HVG.out, ← HVQ.out, ← HVE.out, ← dec_len mq, HP.out] at hr
  exact hr
end Go.Proofs.YtopppmlkddajjaaGreatDoor

