/- isochronelaw03.one: a monomial with coefficient 1. -/
import Derived.Test.YtlbfoclhkdlafaaGreatDoorPMR40
attribute [local go_sem ↓] Go.wp_at_zero Go.wp_at_succ
namespace Go.Proofs.YtlbfoclhkdlafaaGreatDoor
open Go.RowKit V

/-- The exponents that one takes from the bytes. -/
def oneE (bs : List Nat) (k : Nat) : List Nat := (List.range k).map fun i => if i < bs.length then bs.getD i 0 % 24 else 0
theorem RT.setOther {k : IntKind} {t u : TypeId} {w : World} {A : Option Addr} {xs : List Nat} {g : Nat} (h : RT k t w A xs) (hg : HasT w g u) (hne : u ≠ t) (i : Nat) (v : Value) : RT k t (w.setCell ⟨g, i, none⟩ v) A xs := by
  have key : ∀ ad : Addr, A = some ad → 0 < xs.length → ad.block ≠ g := fun ad e hp he => by
    obtain ⟨ad2, cs, f, e2, h2⟩ := h.ty hp
    rw [e] at e2
    injection e2 with e2
    subst e2
    rw [he] at h2
    exact hne (hg.uniq ⟨cs, f, h2⟩)
  refine ⟨fun hn => ?_, fun hn => ?_⟩
  · obtain ⟨ad, e, hb, hc⟩ := h.rd hn
    refine ⟨ad, e, by simpa [World.setCell] using hb, fun j hj => ?_⟩
    rw [← hc j hj]
    exact World.cell?_of_block (w := w) (Below.heap_setCell w ⟨g, i, none⟩ v _ (by rw [block_of_add]; exact key ad e hn))
  · obtain ⟨ad, cs, f, e, hh⟩ := h.ty hn
    exact ⟨ad, cs, f, e, (Below.heap_setCell w ⟨g, i, none⟩ v _ (key ad e hn)).trans hh⟩
theorem RL.Is.setInt {w : World} {r : RL} {q : Rat} {gx : Nat} {xs : List Nat} (h : r.Is w q) (hy : r.Ty w) (hz : Row .i64 3 w gx xs) (i : Nat) (v : Value) : r.Is (w.setCell ⟨gx, i, none⟩ v) q ∧ r.Ty (w.setCell ⟨gx, i, none⟩ v) := by
  have h1 := hy.n.setOther ⟨_, _, hz⟩ (by decide) i v
  have h2 := hy.d.setOther ⟨_, _, hz⟩ (by decide) i v
  exact ⟨⟨h1.rd, h2.rd, h.mn, h.md, h.cn, h.cd, h.q⟩, h1, h2⟩
/-- On the way: the first i exponents, and their sum. -/
def oneX (bs : List Nat) (i : Nat) : Nat := if i < bs.length then bs.getD i 0 % 24 else 0
theorem oneX_le (bs : List Nat) (i : Nat) : oneX bs i ≤ 23 := by unfold oneX; split <;> omega
def oneT (bs : List Nat) (k i : Nat) : List Nat := (List.range k).map fun j => if j < i then oneX bs j else 0
theorem oneT_zero (bs : List Nat) (k : Nat) : oneT bs k 0 = List.replicate k 0 := by
  unfold oneT
  refine List.ext_getElem (by simp) fun j h1 h2 => ?_
  simp
theorem oneT_len (bs : List Nat) (k i : Nat) : (oneT bs k i).length = k := by simp [oneT]
theorem oneT_get (bs : List Nat) {k i j : Nat} (hj : j < k) : (oneT bs k i).getD j 0 = if j < i then oneX bs j else 0 := by
  unfold oneT
  rw [List.getD_eq_getElem?_getD, List.getElem?_map, List.getElem?_range hj]
  rfl
theorem oneT_set (bs : List Nat) {k i : Nat} : (oneT bs k i).set i (oneX bs i) = oneT bs k (i + 1) := by
  refine List.ext_getElem (by simp [oneT]) fun j h1 h2 => ?_
  rw [List.getElem_set]
  by_cases e : i = j
  · subst e
    rw [if_pos rfl]
    simp [oneT]
  · rw [if_neg e]
    simp only [oneT, List.getElem_map, List.getElem_range]
    by_cases h : j < i
    · rw [if_pos h, if_pos (by omega)]
    · rw [if_neg h, if_neg (by omega)]
theorem oneT_skip (bs : List Nat) {k i : Nat} (h : oneX bs i = 0) : oneT bs k i = oneT bs k (i + 1) := by
  unfold oneT
  refine List.map_congr_left fun j _ => ?_
  by_cases e : j = i
  · subst e
    rw [if_neg (by omega), if_pos (by omega), h]
  · by_cases h2 : j < i
    · rw [if_pos h2, if_pos (by omega)]
    · rw [if_neg h2, if_neg (by omega)]
theorem oneT_all (bs : List Nat) (k : Nat) : oneT bs k k = oneE bs k := by
  unfold oneT oneE
  refine List.map_congr_left fun j hj => ?_
  rw [if_pos (List.mem_range.1 hj)]
  rfl
def oneS (bs : List Nat) : Nat → Nat
  | 0 => 0
  | i + 1 => oneS bs i + oneX bs i
theorem oneS_le (bs : List Nat) : ∀ i, oneS bs i ≤ 23 * i
  | 0 => Nat.le_refl _
  | i + 1 => by have := oneS_le bs i; have := oneX_le bs i; simp only [oneS]; omega
theorem oneS_sum (bs : List Nat) : ∀ k, oneS bs k = (oneE bs k).sum
  | 0 => rfl
  | k + 1 => by
    have ih := oneS_sum bs k
    have e : oneE bs (k + 1) = oneE bs k ++ [oneX bs k] := by simp [oneE, oneX, List.range_succ]
    rw [e, List.sum_append, ← ih]
    simp [oneS]
/-- What one returns. -/
def OneP (k : Nat) (bs : List Nat) (w : World) (e : Ending) (w' : World) : Prop :=
  ∃ X c ms, e = .returned (.tuple #[.agg #[.int .i64 k, .slice X (ms : List MM).length c], .int .i64 ((oneE bs k).sum : Nat)]) ∧ ms.length = 1 ∧ ms.length ≤ c ∧ PRaw w' X ms [(oneE bs k).map fun (x : Nat) => (x : Int)] ∧
    (∀ m ∈ ms, m.c.Is w' 1 ∧ m.c.ns.length ≤ 1 ∧ m.c.ds.length ≤ 1) ∧ Below w.heap.size w w'
theorem one_end (w wr : World) (gx k : Nat) (r : RL) (bs : List Nat) (kr : Blk2c 24 wr w.heap.size (.int .i64 0) (.slice none 0 0))
    (kx : Row .i64 3 wr gx (oneE bs k)) (hi : r.Is wr 1) (hy : r.Ty wr) (l1 : r.ns.length ≤ 1) (l2 : r.ds.length ≤ 1) (hb : Below w.heap.size w wr) (a b : Value) :
    OneP k bs w (.returned (.tuple #[.agg #[.int .i64 k, .slice (some ⟨wr.heap.size, 0, none⟩) 1 1], .int .i64 ((oneE bs k).sum : Nat)])) (((wr.setCell ⟨w.heap.size, 0, none⟩ a).setCell ⟨w.heap.size, 1, none⟩ b).alloc (.cells #[.slice (some ⟨gx, 0, none⟩) k k, .bool r.s, .slice r.N r.ns.length r.nc, .slice r.D r.ds.length r.dc] 79)) := by
  have hrl := kr.lt
  have hxl := kx.lt
  have hne : w.heap.size ≠ gx := fun e => absurd (HasT.uniq (w := wr) (g := gx) ⟨_, _, kx⟩ (e ▸ kr.ty)) (by decide)
  have hoff : Off wr ((wr.setCell ⟨w.heap.size, 0, none⟩ a).setCell ⟨w.heap.size, 1, none⟩ b) := ((Off.refl wr).setT kr.ty (by decide) _ _).setT (kr.set0 _).ty (by decide) _ _
  have key : ∀ (x : Nat), x ≠ w.heap.size → ((wr.setCell ⟨w.heap.size, 0, none⟩ a).setCell ⟨w.heap.size, 1, none⟩ b).heap[x]? = wr.heap[x]? := fun x hx => by
    rw [Below.heap_setCell _ ⟨w.heap.size, 1, none⟩ _ x hx, Below.heap_setCell _ ⟨w.heap.size, 0, none⟩ _ x hx]
  have hsz : ((wr.setCell ⟨w.heap.size, 0, none⟩ a).setCell ⟨w.heap.size, 1, none⟩ b).heap.size = wr.heap.size := by simp [World.setCell]
  have hX0 : Row .i64 3 ((wr.setCell ⟨w.heap.size, 0, none⟩ a).setCell ⟨w.heap.size, 1, none⟩ b) gx (oneE bs k) := (key gx (Ne.symm hne)).trans kx
  have hbw : Below w.heap.size w ((wr.setCell ⟨w.heap.size, 0, none⟩ a).setCell ⟨w.heap.size, 1, none⟩ b) := (hb.setCell (Nat.le_refl _) _).setCell (Nat.le_refl _) _
  have hi2 := (hi.off hy hoff)
  have hy2 := hy.off hoff
  obtain ⟨w2, hw2⟩ : ∃ x, ((wr.setCell ⟨w.heap.size, 0, none⟩ a).setCell ⟨w.heap.size, 1, none⟩ b) = x := ⟨_, rfl⟩
  rw [hw2] at hX0 hsz hbw hi2 hy2 ⊢
  have hM := Blk4.new 79 w2 (.slice (some ⟨gx, 0, none⟩) k k) (.bool r.s) (.slice r.N r.ns.length r.nc) (.slice r.D r.ds.length r.dc)
  rw [hsz] at hM
  have hX := hX0.below ((Below.refl w2.heap.size w2).alloc (Nat.le_refl _) (.cells #[.slice (some ⟨gx, 0, none⟩) k k, .bool r.s, .slice r.N r.ns.length r.nc, .slice r.D r.ds.length r.dc] 79)) hX0.lt
  have hi3 := hi2.below ((Below.refl w2.heap.size w2).alloc (Nat.le_refl _) (.cells #[.slice (some ⟨gx, 0, none⟩) k k, .bool r.s, .slice r.N r.ns.length r.nc, .slice r.D r.ds.length r.dc] 79))
  have hel : (oneE bs k).length = k := by simp [oneE]
  have hf := hM.facts
  refine ⟨some ⟨wr.heap.size, 0, none⟩, 1, [⟨some ⟨gx, 0, none⟩, k, k, r⟩], rfl, rfl, by simp, ⟨fun _ => ⟨_, rfl, hM.lt, fun j t ht => ?_⟩, rfl, fun j m hm => ?_⟩, fun m hm => ?_, hbw.alloc hbw.size _⟩
  · have hj : j = 0 := by
      have := (List.getElem?_eq_some_iff.1 ht).1
      simpa using this
    subst hj
    injection ht with ht
    subst ht
    rw [Nat.zero_mul, add_zero_]
    exact ⟨hf.c0, hf.c1, hf.c2, hf.c3⟩
  · have hj : j = 0 := by
      have := (List.getElem?_eq_some_iff.1 hm).1
      simpa using this
    subst hj
    injection hm with hm
    subst hm
    exact ⟨_, rfl, hX.rd.ints, by rw [List.length_map, hel], Nat.le_refl _, hi3.raw_⟩
  · have : m = ⟨some ⟨gx, 0, none⟩, k, k, r⟩ := by simpa using hm
    subst this
    exact ⟨hi3, l1, l2⟩
/-- What the first statement of one makes. -/
def OneM (R : Nat) (w1 wx : World) (g gx k : Nat) (r : RL) : Prop := Blk2c 24 wx R (.int .i64 0) (.slice none 0 0) ∧ Blk4 79 wx g (.slice (some ⟨gx, 0, none⟩) k k) (.bool r.s) (.slice r.N r.ns.length r.nc) (.slice r.D r.ds.length r.dc) ∧
  Row .i64 3 wx gx (List.replicate k 0) ∧ r.Is wx 1 ∧ w1.heap.size ≤ g ∧ w1.heap.size ≤ gx ∧ g ≠ gx ∧ Below w1.heap.size w1 wx
theorem Row.heap_ne {k : IntKind} {t : TypeId} {w : World} {g g2 : Nat} {xs : List Nat} {cs : Array Value} {u : TypeId} (h : Row k t w g xs) (h2 : w.heap[g2]? = some (.cells cs u (0, 0))) (hne : u ≠ t) : g2 ≠ g := fun e => by
  subst e
  unfold Row at h
  rw [h] at h2
  injection h2 with h2
  injection h2 with _ h2
  exact hne h2.symm
def ZRow (w : World) (g k : Nat) : Prop := Row .i64 3 w g (List.replicate k 0)
theorem ZRow.new (w : World) (k : Nat) : ZRow (w.alloc (.cells (nums .i64 (List.replicate k 0)).toArray 3)) w.heap.size k := Row.new _ _
theorem ZRow.lt {w : World} {g k : Nat} (h : ZRow w g k) : g < w.heap.size := Row.lt h
theorem ZRow.below {w w' : World} {g k : Nat} (h : ZRow w g k) (hb : Below w.heap.size w w') : ZRow w' g k := Row.below h hb h.lt
theorem ZRow.alloc {w : World} {g k : Nat} (h : ZRow w g k) (o : Obj) : ZRow (w.alloc o) g k := h.below ((Below.refl _ _).alloc (Nat.le_refl _) o)
theorem one_store {R k g gx : Nat} {w1 w : World} {r : RL} (hr : Blk2c 24 w R (.int .i64 0) (.slice none 0 0)) (hm : Blk4 79 w g (.slice none 0 0) (.bool false) (.slice none 0 0) (.slice none 0 0)) (hz : ZRow w gx k) (hi : r.Is w 1) (hy : r.Ty w)
    (hw : Below w1.heap.size w1 w) (h1 : w1.heap.size ≤ g) (h2 : w1.heap.size ≤ gx) (hR : R < w1.heap.size) :
    OneM R w1 ((((w.setCell ⟨g, 0, none⟩ (.slice (some ⟨gx, 0, none⟩) k k)).setCell ⟨g, 1, none⟩ (.bool r.s)).setCell ⟨g, 2, none⟩ (.slice r.N r.ns.length r.nc)).setCell ⟨g, 3, none⟩ (.slice r.D r.ds.length r.dc)) g gx k r ∧
    r.Ty ((((w.setCell ⟨g, 0, none⟩ (.slice (some ⟨gx, 0, none⟩) k k)).setCell ⟨g, 1, none⟩ (.bool r.s)).setCell ⟨g, 2, none⟩ (.slice r.N r.ns.length r.nc)).setCell ⟨g, 3, none⟩ (.slice r.D r.ds.length r.dc)) := by
  have hne : g ≠ gx := hz.heap_ne hm (by decide)
  have key : ∀ (b : Nat), b ≠ g → ((((w.setCell ⟨g, 0, none⟩ (.slice (some ⟨gx, 0, none⟩) k k)).setCell ⟨g, 1, none⟩ (.bool r.s)).setCell ⟨g, 2, none⟩ (.slice r.N r.ns.length r.nc)).setCell ⟨g, 3, none⟩ (.slice r.D r.ds.length r.dc)).heap[b]? = w.heap[b]? := fun b hb => by
    rw [Below.heap_setCell _ ⟨g, 3, none⟩ _ b hb, Below.heap_setCell _ ⟨g, 2, none⟩ _ b hb, Below.heap_setCell _ ⟨g, 1, none⟩ _ b hb, Below.heap_setCell _ ⟨g, 0, none⟩ _ b hb]
  have hoff : Off w ((((w.setCell ⟨g, 0, none⟩ (.slice (some ⟨gx, 0, none⟩) k k)).setCell ⟨g, 1, none⟩ (.bool r.s)).setCell ⟨g, 2, none⟩ (.slice r.N r.ns.length r.nc)).setCell ⟨g, 3, none⟩ (.slice r.D r.ds.length r.dc)) :=
    ((((Off.refl w).setT hm.ty (by decide) _ _).setT (hm.ty.set_ _ _ _) (by decide) _ _).setT ((hm.ty.set_ _ _ _).set_ _ _ _) (by decide) _ _).setT (((hm.ty.set_ _ _ _).set_ _ _ _).set_ _ _ _) (by decide) _ _
  refine ⟨⟨(key R (by omega)).trans hr, ?_, (key gx (Ne.symm hne)).trans hz, hi.off hy hoff, h1, h2, hne, (((hw.setCell h1 _).setCell h1 _).setCell h1 _).setCell h1 _⟩, hy.off hoff⟩
  unfold Blk4 at hm ⊢
  simp [World.setCell, Array.getElem?_modify, hm]
set_option maxRecDepth 100000 in
set_option maxHeartbeats 12800000 in
theorem pone1 (k : Nat) (B : Option Addr) (d : Nat) (bs : List Nat) (w : World) (hB : Rd .u8 w B bs) (hk : k ≤ 8) :
    Calls Tryz.prog 46 #[.int .i64 k, .slice B bs.length d] w (OneP k bs w) := by
  have kr := Blk2c.new 24 w (.int .i64 0) (.slice none 0 0)
  have hmk := fun W => make_ints k k rfl (by omega) W
  go_enter Tryz.func46, Tryz.ntmps46
  go_upto_region 1 with fail
  have hb1 : Below w.heap.size w (w.alloc (.cells #[.int .i64 0, .slice none 0 0] 24)) := (Below.refl _ _).alloc (Nat.le_refl _) _
  obtain ⟨w1, hw1⟩ : ∃ x, w.alloc (.cells #[.int .i64 0, .slice none 0 0] 24) = x := ⟨_, rfl⟩
  rw [hw1] at kr hb1 ⊢
  have hs1 : w1.heap.size = w.heap.size + 1 := by rw [← hw1]; simp
  clear hw1
  go_cut [6] (fun s6 wx => ∃ (g gx : Nat) (r : RL), s6 = .pointer (some ⟨g, 0, none⟩) ∧ r.ns.length ≤ 1 ∧ r.ds.length ≤ 1 ∧ OneM w.heap.size w1 wx g gx k r ∧ r.Ty wx)
  case first =>
    refine wp_region_held_drew (S := fun w' => w'.cell? ⟨w.heap.size, 0, none⟩ = some (.int .i64 0)) (by kernel_rfl) ?_ (fun hHeld => ?_)
    · first | exact kr.facts.c0 | exact ⟨‹_›⟩ | go_keep
    refine wpAnyH_take (i := 0) (v := ?v0t1) rfl (by kernel_rfl) (by kernel_rfl) (by kernel_rfl) (fun _ _ _ h => h) (Or.inl ⟨by rfl, ?hy0t1⟩) (by assumption) ?rest0t1
    case hy0t1 =>
      intro w hSw
      (try dsimp only at hSw)
      go_simp
      all_goals with_reducible rfl
    simp only [Act.put, List.getElem_toArray, List.getElem_cons_zero, List.setIfInBounds_toArray, List.set_cons_zero, List.set_cons_succ]
    have hbd : Below w1.heap.size w1 w1.drew := below_drew_ (Below.refl _ _) 1
    obtain ⟨wd, hwd⟩ : ∃ x, w1.drew = x := ⟨_, rfl⟩
    rw [hwd] at hbd ⊢
    clear hwd
    have kr_d := kr.below hbd
    refine wpAnyH_ready (rs := [1, 2, 5]) (by kernel_rfl) (by simp) ?_
    refine AllReadyH.cons (o := _) rfl (fun K hK => ?_) (AllReadyH.cons (o := _) rfl (fun K hK => ?_) (AllReadyH.cons (o := _) rfl (fun K hK => ?_) AllReadyH.nil))
    · go_simp
      refine hK.out _ _ ?_ (fun hHeld => ?_)
      · exact (kr_d.alloc _).facts.c0
      clear hK K
      try simp only [Act.put, List.getElem_toArray, List.getElem_cons_zero, List.getElem_cons_succ, List.setIfInBounds_toArray, List.set_cons_zero, List.set_cons_succ]
      clear hHeld
      have hbx1 : Below wd.heap.size wd (wd.alloc (.cells (nums .i64 (List.replicate k 0)).toArray 3)) := (Below.refl _ _).alloc (Nat.le_refl _) _
      have hzx1 := ZRow.new wd k
      obtain ⟨x1, hwe⟩ : ∃ x, wd.alloc (.cells (nums .i64 (List.replicate k 0)).toArray 3) = x := ⟨_, rfl⟩
      rw [hwe] at hbx1 hzx1 ⊢
      clear hwe
      have krx1 := kr_d.below hbx1
      have hwx1 := hbd.trans (hbx1.mono hbd.size)
      have hgehz : w1.heap.size ≤ wd.heap.size := hbd.size
      refine wpAnyH_ready (rs := [2, 5]) (by kernel_rfl) (by simp) ?_
      refine AllReadyH.cons (o := _) rfl (fun K hK => ?_) (AllReadyH.cons (o := _) rfl (fun K hK => ?_) AllReadyH.nil)
      · go_simp
        go_at_call 47
        refine (roneT _).mono ?_
        rintro e x2 ⟨a, rfl, hax2, hat_, a1_, a2_, hbx2⟩
        clear hat_
        go_wp2_with fail
        have krx2 := krx1.below hbx2
        have hzx2 := hzx1.below hbx2
        have hwx2 := hwx1.trans (hbx2.mono hwx1.size)
        refine hK.out _ _ ?_ (fun hHeld => ?_)
        · exact krx2.facts.c0
        clear hK K
        try simp only [Act.put, List.getElem_toArray, List.getElem_cons_zero, List.getElem_cons_succ, List.setIfInBounds_toArray, List.set_cons_zero, List.set_cons_succ]
        clear hHeld
        refine wpAnyH_ready (rs := [3, 5]) (by kernel_rfl) (by simp) ?_
        refine AllReadyH.cons (o := _) rfl (fun K hK => ?_) (AllReadyH.cons (o := _) rfl (fun K hK => ?_) AllReadyH.nil)
        · go_simp
          go_at_call 42
          refine (qtoT a 1 _ hax2 1 a1_ a2_ (by omega)).mono ?_
          rintro e x3 ⟨r, rfl, hrx3, hyx3, r1_, r2_, hbx3⟩
          go_wp2_with fail
          have krx3 := krx2.below hbx3
          have hzx3 := hzx2.below hbx3
          have hax3 := hax2.below hbx3
          have hwx3 := hwx2.trans (hbx3.mono hwx2.size)
          refine hK.out _ _ ?_ (fun hHeld => ?_)
          · exact krx3.facts.c0
          clear hK K
          try simp only [Act.put, List.getElem_toArray, List.getElem_cons_zero, List.getElem_cons_succ, List.setIfInBounds_toArray, List.set_cons_zero, List.set_cons_succ]
          refine wpAnyH_take (i := 4) (v := ?v4t1x3) rfl (by kernel_rfl) (by kernel_rfl) (by kernel_rfl) (fun _ _ _ h => h) (Or.inl ⟨by rfl, ?hy4t1x3⟩) (by assumption) ?rest4t1x3
          case hy4t1x3 =>
            intro w hSw
            (try dsimp only at hSw)
            go_simp
            all_goals with_reducible rfl
          simp only [Act.put, List.getElem_toArray, List.getElem_cons_zero, List.getElem_cons_succ, List.setIfInBounds_toArray, List.set_cons_zero, List.set_cons_succ]
          clear hHeld
          refine wpAnyH_ready (rs := [5]) (by kernel_rfl) (by simp) ?_
          refine AllReadyH.cons (o := _) rfl (fun K hK => ?_) AllReadyH.nil
          · go_simp
            refine hK.out _ _ ?_ (fun hHeld => ?_)
            · exact (krx3.alloc _).facts.c0
            clear hK K
            try simp only [Act.put, List.getElem_toArray, List.getElem_cons_zero, List.getElem_cons_succ, List.setIfInBounds_toArray, List.set_cons_zero, List.set_cons_succ]
            clear hHeld
            have hbx4 : Below x3.heap.size x3 (x3.alloc (.cells #[.slice none 0 0, .bool false, .slice none 0 0, .slice none 0 0] 79)) := (Below.refl _ _).alloc (Nat.le_refl _) _
            have hmx4 := Blk4.new 79 x3 (.slice none 0 0) (.bool false) (.slice none 0 0) (.slice none 0 0)
            obtain ⟨x4, hwe⟩ : ∃ x, x3.alloc (.cells #[.slice none 0 0, .bool false, .slice none 0 0, .slice none 0 0] 79) = x := ⟨_, rfl⟩
            rw [hwe] at hbx4 hmx4 ⊢
            clear hwe
            have krx4 := krx3.below hbx4
            have hzx4 := hzx3.below hbx4
            have hax4 := hax3.below hbx4
            have hrx4 := hrx3.below hbx4
            have hyx4 := hyx3.below hbx4
            have hnehz : wd.heap.size < x3.heap.size := hzx3.lt
            have hwx4 := hwx3.trans (hbx4.mono hwx3.size)
            have hgehm : w1.heap.size ≤ x3.heap.size := hwx3.size
            refine wpAnyH_ready (rs := [6]) (by kernel_rfl) (by simp) ?_
            refine AllReadyH.cons (o := _) rfl (fun K hK => ?_) AllReadyH.nil
            obtain ⟨z0, z1, z2, z3, z4, z5, z6, z7, z8⟩ := hmx4.facts
            go_simp
            clear z0 z1 z2 z3 z4 z5 z6 z7 z8
            have hfin := one_store krx4 hmx4 hzx4 hrx4 hyx4 hwx4 hgehm hgehz (by omega)
            refine hK.out _ _ ?_ (fun hHeld => ?_)
            · exact hfin.1.1.facts.c0
            clear hK K hHeld
            try simp only [Act.put, List.getElem_toArray, List.getElem_cons_zero, List.getElem_cons_succ, List.setIfInBounds_toArray, List.set_cons_zero, List.set_cons_succ]
            refine wpAnyH_done (by kernel_rfl) ?_ _
            go_wp2_with fail
            go_meet
            exact ⟨x3.heap.size, wd.heap.size, r, rfl, r1_, r2_, hfin.1, hfin.2⟩
        · go_simp
          refine hK.out _ _ ?_ (fun hHeld => ?_)
          · exact (krx2.alloc _).facts.c0
          clear hK K
          try simp only [Act.put, List.getElem_toArray, List.getElem_cons_zero, List.getElem_cons_succ, List.setIfInBounds_toArray, List.set_cons_zero, List.set_cons_succ]
          clear hHeld
          have hbx5 : Below x2.heap.size x2 (x2.alloc (.cells #[.slice none 0 0, .bool false, .slice none 0 0, .slice none 0 0] 79)) := (Below.refl _ _).alloc (Nat.le_refl _) _
          have hmx5 := Blk4.new 79 x2 (.slice none 0 0) (.bool false) (.slice none 0 0) (.slice none 0 0)
          obtain ⟨x5, hwe⟩ : ∃ x, x2.alloc (.cells #[.slice none 0 0, .bool false, .slice none 0 0, .slice none 0 0] 79) = x := ⟨_, rfl⟩
          rw [hwe] at hbx5 hmx5 ⊢
          clear hwe
          have krx5 := krx2.below hbx5
          have hzx5 := hzx2.below hbx5
          have hax5 := hax2.below hbx5
          have hnehz : wd.heap.size < x2.heap.size := hzx2.lt
          have hwx5 := hwx2.trans (hbx5.mono hwx2.size)
          have hgehm : w1.heap.size ≤ x2.heap.size := hwx2.size
          refine wpAnyH_ready (rs := [3]) (by kernel_rfl) (by simp) ?_
          refine AllReadyH.cons (o := _) rfl (fun K hK => ?_) AllReadyH.nil
          · go_simp
            go_at_call 42
            refine (qtoT a 1 _ hax5 1 a1_ a2_ (by omega)).mono ?_
            rintro e x6 ⟨r, rfl, hrx6, hyx6, r1_, r2_, hbx6⟩
            go_wp2_with fail
            have krx6 := krx5.below hbx6
            have hzx6 := hzx5.below hbx6
            have hax6 := hax5.below hbx6
            have hmx6 := hmx5.below hbx6
            have hwx6 := hwx5.trans (hbx6.mono hwx5.size)
            refine hK.out _ _ ?_ (fun hHeld => ?_)
            · exact krx6.facts.c0
            clear hK K
            try simp only [Act.put, List.getElem_toArray, List.getElem_cons_zero, List.getElem_cons_succ, List.setIfInBounds_toArray, List.set_cons_zero, List.set_cons_succ]
            refine wpAnyH_take (i := 4) (v := ?v4t1x6) rfl (by kernel_rfl) (by kernel_rfl) (by kernel_rfl) (fun _ _ _ h => h) (Or.inl ⟨by rfl, ?hy4t1x6⟩) (by assumption) ?rest4t1x6
            case hy4t1x6 =>
              intro w hSw
              (try dsimp only at hSw)
              go_simp
              all_goals with_reducible rfl
            simp only [Act.put, List.getElem_toArray, List.getElem_cons_zero, List.getElem_cons_succ, List.setIfInBounds_toArray, List.set_cons_zero, List.set_cons_succ]
            clear hHeld
            refine wpAnyH_ready (rs := [6]) (by kernel_rfl) (by simp) ?_
            refine AllReadyH.cons (o := _) rfl (fun K hK => ?_) AllReadyH.nil
            obtain ⟨z0, z1, z2, z3, z4, z5, z6, z7, z8⟩ := hmx6.facts
            go_simp
            clear z0 z1 z2 z3 z4 z5 z6 z7 z8
            have hfin := one_store krx6 hmx6 hzx6 hrx6 hyx6 hwx6 hgehm hgehz (by omega)
            refine hK.out _ _ ?_ (fun hHeld => ?_)
            · exact hfin.1.1.facts.c0
            clear hK K hHeld
            try simp only [Act.put, List.getElem_toArray, List.getElem_cons_zero, List.getElem_cons_succ, List.setIfInBounds_toArray, List.set_cons_zero, List.set_cons_succ]
            refine wpAnyH_done (by kernel_rfl) ?_ _
            go_wp2_with fail
            go_meet
            exact ⟨x2.heap.size, wd.heap.size, r, rfl, r1_, r2_, hfin.1, hfin.2⟩
      · go_simp
        refine hK.out _ _ ?_ (fun hHeld => ?_)
        · exact (krx1.alloc _).facts.c0
        clear hK K
        try simp only [Act.put, List.getElem_toArray, List.getElem_cons_zero, List.getElem_cons_succ, List.setIfInBounds_toArray, List.set_cons_zero, List.set_cons_succ]
        clear hHeld
        have hbx7 : Below x1.heap.size x1 (x1.alloc (.cells #[.slice none 0 0, .bool false, .slice none 0 0, .slice none 0 0] 79)) := (Below.refl _ _).alloc (Nat.le_refl _) _
        have hmx7 := Blk4.new 79 x1 (.slice none 0 0) (.bool false) (.slice none 0 0) (.slice none 0 0)
        obtain ⟨x7, hwe⟩ : ∃ x, x1.alloc (.cells #[.slice none 0 0, .bool false, .slice none 0 0, .slice none 0 0] 79) = x := ⟨_, rfl⟩
        rw [hwe] at hbx7 hmx7 ⊢
        clear hwe
        have krx7 := krx1.below hbx7
        have hzx7 := hzx1.below hbx7
        have hnehz : wd.heap.size < x1.heap.size := hzx1.lt
        have hwx7 := hwx1.trans (hbx7.mono hwx1.size)
        have hgehm : w1.heap.size ≤ x1.heap.size := hwx1.size
        refine wpAnyH_ready (rs := [2]) (by kernel_rfl) (by simp) ?_
        refine AllReadyH.cons (o := _) rfl (fun K hK => ?_) AllReadyH.nil
        · go_simp
          go_at_call 47
          refine (roneT _).mono ?_
          rintro e x8 ⟨a, rfl, hax8, hat_, a1_, a2_, hbx8⟩
          clear hat_
          go_wp2_with fail
          have krx8 := krx7.below hbx8
          have hzx8 := hzx7.below hbx8
          have hmx8 := hmx7.below hbx8
          have hwx8 := hwx7.trans (hbx8.mono hwx7.size)
          refine hK.out _ _ ?_ (fun hHeld => ?_)
          · exact krx8.facts.c0
          clear hK K
          try simp only [Act.put, List.getElem_toArray, List.getElem_cons_zero, List.getElem_cons_succ, List.setIfInBounds_toArray, List.set_cons_zero, List.set_cons_succ]
          clear hHeld
          refine wpAnyH_ready (rs := [3]) (by kernel_rfl) (by simp) ?_
          refine AllReadyH.cons (o := _) rfl (fun K hK => ?_) AllReadyH.nil
          · go_simp
            go_at_call 42
            refine (qtoT a 1 _ hax8 1 a1_ a2_ (by omega)).mono ?_
            rintro e x9 ⟨r, rfl, hrx9, hyx9, r1_, r2_, hbx9⟩
            go_wp2_with fail
            have krx9 := krx8.below hbx9
            have hzx9 := hzx8.below hbx9
            have hmx9 := hmx8.below hbx9
            have hax9 := hax8.below hbx9
            have hwx9 := hwx8.trans (hbx9.mono hwx8.size)
            refine hK.out _ _ ?_ (fun hHeld => ?_)
            · exact krx9.facts.c0
            clear hK K
            try simp only [Act.put, List.getElem_toArray, List.getElem_cons_zero, List.getElem_cons_succ, List.setIfInBounds_toArray, List.set_cons_zero, List.set_cons_succ]
            refine wpAnyH_take (i := 4) (v := ?v4t1x9) rfl (by kernel_rfl) (by kernel_rfl) (by kernel_rfl) (fun _ _ _ h => h) (Or.inl ⟨by rfl, ?hy4t1x9⟩) (by assumption) ?rest4t1x9
            case hy4t1x9 =>
              intro w hSw
              (try dsimp only at hSw)
              go_simp
              all_goals with_reducible rfl
            simp only [Act.put, List.getElem_toArray, List.getElem_cons_zero, List.getElem_cons_succ, List.setIfInBounds_toArray, List.set_cons_zero, List.set_cons_succ]
            clear hHeld
            refine wpAnyH_ready (rs := [6]) (by kernel_rfl) (by simp) ?_
            refine AllReadyH.cons (o := _) rfl (fun K hK => ?_) AllReadyH.nil
            obtain ⟨z0, z1, z2, z3, z4, z5, z6, z7, z8⟩ := hmx9.facts
            go_simp
            clear z0 z1 z2 z3 z4 z5 z6 z7 z8
            have hfin := one_store krx9 hmx9 hzx9 hrx9 hyx9 hwx9 hgehm hgehz (by omega)
            refine hK.out _ _ ?_ (fun hHeld => ?_)
            · exact hfin.1.1.facts.c0
            clear hK K hHeld
            try simp only [Act.put, List.getElem_toArray, List.getElem_cons_zero, List.getElem_cons_succ, List.setIfInBounds_toArray, List.set_cons_zero, List.set_cons_succ]
            refine wpAnyH_done (by kernel_rfl) ?_ _
            go_wp2_with fail
            go_meet
            exact ⟨x1.heap.size, wd.heap.size, r, rfl, r1_, r2_, hfin.1, hfin.2⟩
    · go_simp
      go_at_call 47
      refine (roneT _).mono ?_
      rintro e x10 ⟨a, rfl, hax10, hat_, a1_, a2_, hbx10⟩
      clear hat_
      go_wp2_with fail
      have krx10 := kr_d.below hbx10
      have hwx10 := hbd.trans (hbx10.mono hbd.size)
      refine hK.out _ _ ?_ (fun hHeld => ?_)
      · exact krx10.facts.c0
      clear hK K
      try simp only [Act.put, List.getElem_toArray, List.getElem_cons_zero, List.getElem_cons_succ, List.setIfInBounds_toArray, List.set_cons_zero, List.set_cons_succ]
      clear hHeld
      refine wpAnyH_ready (rs := [1, 3, 5]) (by kernel_rfl) (by simp) ?_
      refine AllReadyH.cons (o := _) rfl (fun K hK => ?_) (AllReadyH.cons (o := _) rfl (fun K hK => ?_) (AllReadyH.cons (o := _) rfl (fun K hK => ?_) AllReadyH.nil))
      · go_simp
        refine hK.out _ _ ?_ (fun hHeld => ?_)
        · exact (krx10.alloc _).facts.c0
        clear hK K
        try simp only [Act.put, List.getElem_toArray, List.getElem_cons_zero, List.getElem_cons_succ, List.setIfInBounds_toArray, List.set_cons_zero, List.set_cons_succ]
        clear hHeld
        have hbx11 : Below x10.heap.size x10 (x10.alloc (.cells (nums .i64 (List.replicate k 0)).toArray 3)) := (Below.refl _ _).alloc (Nat.le_refl _) _
        have hzx11 := ZRow.new x10 k
        obtain ⟨x11, hwe⟩ : ∃ x, x10.alloc (.cells (nums .i64 (List.replicate k 0)).toArray 3) = x := ⟨_, rfl⟩
        rw [hwe] at hbx11 hzx11 ⊢
        clear hwe
        have krx11 := krx10.below hbx11
        have hax11 := hax10.below hbx11
        have hwx11 := hwx10.trans (hbx11.mono hwx10.size)
        have hgehz : w1.heap.size ≤ x10.heap.size := hwx10.size
        refine wpAnyH_ready (rs := [3, 5]) (by kernel_rfl) (by simp) ?_
        refine AllReadyH.cons (o := _) rfl (fun K hK => ?_) (AllReadyH.cons (o := _) rfl (fun K hK => ?_) AllReadyH.nil)
        · go_simp
          go_at_call 42
          refine (qtoT a 1 _ hax11 1 a1_ a2_ (by omega)).mono ?_
          rintro e x12 ⟨r, rfl, hrx12, hyx12, r1_, r2_, hbx12⟩
          go_wp2_with fail
          have krx12 := krx11.below hbx12
          have hax12 := hax11.below hbx12
          have hzx12 := hzx11.below hbx12
          have hwx12 := hwx11.trans (hbx12.mono hwx11.size)
          refine hK.out _ _ ?_ (fun hHeld => ?_)
          · exact krx12.facts.c0
          clear hK K
          try simp only [Act.put, List.getElem_toArray, List.getElem_cons_zero, List.getElem_cons_succ, List.setIfInBounds_toArray, List.set_cons_zero, List.set_cons_succ]
          refine wpAnyH_take (i := 4) (v := ?v4t1x12) rfl (by kernel_rfl) (by kernel_rfl) (by kernel_rfl) (fun _ _ _ h => h) (Or.inl ⟨by rfl, ?hy4t1x12⟩) (by assumption) ?rest4t1x12
          case hy4t1x12 =>
            intro w hSw
            (try dsimp only at hSw)
            go_simp
            all_goals with_reducible rfl
          simp only [Act.put, List.getElem_toArray, List.getElem_cons_zero, List.getElem_cons_succ, List.setIfInBounds_toArray, List.set_cons_zero, List.set_cons_succ]
          clear hHeld
          refine wpAnyH_ready (rs := [5]) (by kernel_rfl) (by simp) ?_
          refine AllReadyH.cons (o := _) rfl (fun K hK => ?_) AllReadyH.nil
          · go_simp
            refine hK.out _ _ ?_ (fun hHeld => ?_)
            · exact (krx12.alloc _).facts.c0
            clear hK K
            try simp only [Act.put, List.getElem_toArray, List.getElem_cons_zero, List.getElem_cons_succ, List.setIfInBounds_toArray, List.set_cons_zero, List.set_cons_succ]
            clear hHeld
            have hbx13 : Below x12.heap.size x12 (x12.alloc (.cells #[.slice none 0 0, .bool false, .slice none 0 0, .slice none 0 0] 79)) := (Below.refl _ _).alloc (Nat.le_refl _) _
            have hmx13 := Blk4.new 79 x12 (.slice none 0 0) (.bool false) (.slice none 0 0) (.slice none 0 0)
            obtain ⟨x13, hwe⟩ : ∃ x, x12.alloc (.cells #[.slice none 0 0, .bool false, .slice none 0 0, .slice none 0 0] 79) = x := ⟨_, rfl⟩
            rw [hwe] at hbx13 hmx13 ⊢
            clear hwe
            have krx13 := krx12.below hbx13
            have hax13 := hax12.below hbx13
            have hzx13 := hzx12.below hbx13
            have hrx13 := hrx12.below hbx13
            have hyx13 := hyx12.below hbx13
            have hnehz : x10.heap.size < x12.heap.size := hzx12.lt
            have hwx13 := hwx12.trans (hbx13.mono hwx12.size)
            have hgehm : w1.heap.size ≤ x12.heap.size := hwx12.size
            refine wpAnyH_ready (rs := [6]) (by kernel_rfl) (by simp) ?_
            refine AllReadyH.cons (o := _) rfl (fun K hK => ?_) AllReadyH.nil
            obtain ⟨z0, z1, z2, z3, z4, z5, z6, z7, z8⟩ := hmx13.facts
            go_simp
            clear z0 z1 z2 z3 z4 z5 z6 z7 z8
            have hfin := one_store krx13 hmx13 hzx13 hrx13 hyx13 hwx13 hgehm hgehz (by omega)
            refine hK.out _ _ ?_ (fun hHeld => ?_)
            · exact hfin.1.1.facts.c0
            clear hK K hHeld
            try simp only [Act.put, List.getElem_toArray, List.getElem_cons_zero, List.getElem_cons_succ, List.setIfInBounds_toArray, List.set_cons_zero, List.set_cons_succ]
            refine wpAnyH_done (by kernel_rfl) ?_ _
            go_wp2_with fail
            go_meet
            exact ⟨x12.heap.size, x10.heap.size, r, rfl, r1_, r2_, hfin.1, hfin.2⟩
        · go_simp
          refine hK.out _ _ ?_ (fun hHeld => ?_)
          · exact (krx11.alloc _).facts.c0
          clear hK K
          try simp only [Act.put, List.getElem_toArray, List.getElem_cons_zero, List.getElem_cons_succ, List.setIfInBounds_toArray, List.set_cons_zero, List.set_cons_succ]
          clear hHeld
          have hbx14 : Below x11.heap.size x11 (x11.alloc (.cells #[.slice none 0 0, .bool false, .slice none 0 0, .slice none 0 0] 79)) := (Below.refl _ _).alloc (Nat.le_refl _) _
          have hmx14 := Blk4.new 79 x11 (.slice none 0 0) (.bool false) (.slice none 0 0) (.slice none 0 0)
          obtain ⟨x14, hwe⟩ : ∃ x, x11.alloc (.cells #[.slice none 0 0, .bool false, .slice none 0 0, .slice none 0 0] 79) = x := ⟨_, rfl⟩
          rw [hwe] at hbx14 hmx14 ⊢
          clear hwe
          have krx14 := krx11.below hbx14
          have hax14 := hax11.below hbx14
          have hzx14 := hzx11.below hbx14
          have hnehz : x10.heap.size < x11.heap.size := hzx11.lt
          have hwx14 := hwx11.trans (hbx14.mono hwx11.size)
          have hgehm : w1.heap.size ≤ x11.heap.size := hwx11.size
          refine wpAnyH_ready (rs := [3]) (by kernel_rfl) (by simp) ?_
          refine AllReadyH.cons (o := _) rfl (fun K hK => ?_) AllReadyH.nil
          · go_simp
            go_at_call 42
            refine (qtoT a 1 _ hax14 1 a1_ a2_ (by omega)).mono ?_
            rintro e x15 ⟨r, rfl, hrx15, hyx15, r1_, r2_, hbx15⟩
            go_wp2_with fail
            have krx15 := krx14.below hbx15
            have hax15 := hax14.below hbx15
            have hzx15 := hzx14.below hbx15
            have hmx15 := hmx14.below hbx15
            have hwx15 := hwx14.trans (hbx15.mono hwx14.size)
            refine hK.out _ _ ?_ (fun hHeld => ?_)
            · exact krx15.facts.c0
            clear hK K
            try simp only [Act.put, List.getElem_toArray, List.getElem_cons_zero, List.getElem_cons_succ, List.setIfInBounds_toArray, List.set_cons_zero, List.set_cons_succ]
            refine wpAnyH_take (i := 4) (v := ?v4t1x15) rfl (by kernel_rfl) (by kernel_rfl) (by kernel_rfl) (fun _ _ _ h => h) (Or.inl ⟨by rfl, ?hy4t1x15⟩) (by assumption) ?rest4t1x15
            case hy4t1x15 =>
              intro w hSw
              (try dsimp only at hSw)
              go_simp
              all_goals with_reducible rfl
            simp only [Act.put, List.getElem_toArray, List.getElem_cons_zero, List.getElem_cons_succ, List.setIfInBounds_toArray, List.set_cons_zero, List.set_cons_succ]
            clear hHeld
            refine wpAnyH_ready (rs := [6]) (by kernel_rfl) (by simp) ?_
            refine AllReadyH.cons (o := _) rfl (fun K hK => ?_) AllReadyH.nil
            obtain ⟨z0, z1, z2, z3, z4, z5, z6, z7, z8⟩ := hmx15.facts
            go_simp
            clear z0 z1 z2 z3 z4 z5 z6 z7 z8
            have hfin := one_store krx15 hmx15 hzx15 hrx15 hyx15 hwx15 hgehm hgehz (by omega)
            refine hK.out _ _ ?_ (fun hHeld => ?_)
            · exact hfin.1.1.facts.c0
            clear hK K hHeld
            try simp only [Act.put, List.getElem_toArray, List.getElem_cons_zero, List.getElem_cons_succ, List.setIfInBounds_toArray, List.set_cons_zero, List.set_cons_succ]
            refine wpAnyH_done (by kernel_rfl) ?_ _
            go_wp2_with fail
            go_meet
            exact ⟨x11.heap.size, x10.heap.size, r, rfl, r1_, r2_, hfin.1, hfin.2⟩
      · go_simp
        go_at_call 42
        refine (qtoT a 1 _ hax10 1 a1_ a2_ (by omega)).mono ?_
        rintro e x16 ⟨r, rfl, hrx16, hyx16, r1_, r2_, hbx16⟩
        go_wp2_with fail
        have krx16 := krx10.below hbx16
        have hax16 := hax10.below hbx16
        have hwx16 := hwx10.trans (hbx16.mono hwx10.size)
        refine hK.out _ _ ?_ (fun hHeld => ?_)
        · exact krx16.facts.c0
        clear hK K
        try simp only [Act.put, List.getElem_toArray, List.getElem_cons_zero, List.getElem_cons_succ, List.setIfInBounds_toArray, List.set_cons_zero, List.set_cons_succ]
        clear hHeld
        refine wpAnyH_ready (rs := [1, 5]) (by kernel_rfl) (by simp) ?_
        refine AllReadyH.cons (o := _) rfl (fun K hK => ?_) (AllReadyH.cons (o := _) rfl (fun K hK => ?_) AllReadyH.nil)
        · go_simp
          refine hK.out _ _ ?_ (fun hHeld => ?_)
          · exact (krx16.alloc _).facts.c0
          clear hK K
          try simp only [Act.put, List.getElem_toArray, List.getElem_cons_zero, List.getElem_cons_succ, List.setIfInBounds_toArray, List.set_cons_zero, List.set_cons_succ]
          refine wpAnyH_take (i := 4) (v := ?v4t1x17) rfl (by kernel_rfl) (by kernel_rfl) (by kernel_rfl) (fun _ _ _ h => h) (Or.inl ⟨by rfl, ?hy4t1x17⟩) (by assumption) ?rest4t1x17
          case hy4t1x17 =>
            intro w hSw
            (try dsimp only at hSw)
            go_simp
            all_goals with_reducible rfl
          simp only [Act.put, List.getElem_toArray, List.getElem_cons_zero, List.getElem_cons_succ, List.setIfInBounds_toArray, List.set_cons_zero, List.set_cons_succ]
          clear hHeld
          have hbx17 : Below x16.heap.size x16 (x16.alloc (.cells (nums .i64 (List.replicate k 0)).toArray 3)) := (Below.refl _ _).alloc (Nat.le_refl _) _
          have hzx17 := ZRow.new x16 k
          obtain ⟨x17, hwe⟩ : ∃ x, x16.alloc (.cells (nums .i64 (List.replicate k 0)).toArray 3) = x := ⟨_, rfl⟩
          rw [hwe] at hbx17 hzx17 ⊢
          clear hwe
          have krx17 := krx16.below hbx17
          have hax17 := hax16.below hbx17
          have hrx17 := hrx16.below hbx17
          have hyx17 := hyx16.below hbx17
          have hwx17 := hwx16.trans (hbx17.mono hwx16.size)
          have hgehz : w1.heap.size ≤ x16.heap.size := hwx16.size
          refine wpAnyH_ready (rs := [5]) (by kernel_rfl) (by simp) ?_
          refine AllReadyH.cons (o := _) rfl (fun K hK => ?_) AllReadyH.nil
          · go_simp
            refine hK.out _ _ ?_ (fun hHeld => ?_)
            · exact (krx17.alloc _).facts.c0
            clear hK K
            try simp only [Act.put, List.getElem_toArray, List.getElem_cons_zero, List.getElem_cons_succ, List.setIfInBounds_toArray, List.set_cons_zero, List.set_cons_succ]
            clear hHeld
            have hbx18 : Below x17.heap.size x17 (x17.alloc (.cells #[.slice none 0 0, .bool false, .slice none 0 0, .slice none 0 0] 79)) := (Below.refl _ _).alloc (Nat.le_refl _) _
            have hmx18 := Blk4.new 79 x17 (.slice none 0 0) (.bool false) (.slice none 0 0) (.slice none 0 0)
            obtain ⟨x18, hwe⟩ : ∃ x, x17.alloc (.cells #[.slice none 0 0, .bool false, .slice none 0 0, .slice none 0 0] 79) = x := ⟨_, rfl⟩
            rw [hwe] at hbx18 hmx18 ⊢
            clear hwe
            have krx18 := krx17.below hbx18
            have hax18 := hax17.below hbx18
            have hrx18 := hrx17.below hbx18
            have hyx18 := hyx17.below hbx18
            have hzx18 := hzx17.below hbx18
            have hnehz : x16.heap.size < x17.heap.size := hzx17.lt
            have hwx18 := hwx17.trans (hbx18.mono hwx17.size)
            have hgehm : w1.heap.size ≤ x17.heap.size := hwx17.size
            refine wpAnyH_ready (rs := [6]) (by kernel_rfl) (by simp) ?_
            refine AllReadyH.cons (o := _) rfl (fun K hK => ?_) AllReadyH.nil
            obtain ⟨z0, z1, z2, z3, z4, z5, z6, z7, z8⟩ := hmx18.facts
            go_simp
            clear z0 z1 z2 z3 z4 z5 z6 z7 z8
            have hfin := one_store krx18 hmx18 hzx18 hrx18 hyx18 hwx18 hgehm hgehz (by omega)
            refine hK.out _ _ ?_ (fun hHeld => ?_)
            · exact hfin.1.1.facts.c0
            clear hK K hHeld
            try simp only [Act.put, List.getElem_toArray, List.getElem_cons_zero, List.getElem_cons_succ, List.setIfInBounds_toArray, List.set_cons_zero, List.set_cons_succ]
            refine wpAnyH_done (by kernel_rfl) ?_ _
            go_wp2_with fail
            go_meet
            exact ⟨x17.heap.size, x16.heap.size, r, rfl, r1_, r2_, hfin.1, hfin.2⟩
        · go_simp
          refine hK.out _ _ ?_ (fun hHeld => ?_)
          · exact (krx16.alloc _).facts.c0
          clear hK K
          try simp only [Act.put, List.getElem_toArray, List.getElem_cons_zero, List.getElem_cons_succ, List.setIfInBounds_toArray, List.set_cons_zero, List.set_cons_succ]
          clear hHeld
          have hbx19 : Below x16.heap.size x16 (x16.alloc (.cells #[.slice none 0 0, .bool false, .slice none 0 0, .slice none 0 0] 79)) := (Below.refl _ _).alloc (Nat.le_refl _) _
          have hmx19 := Blk4.new 79 x16 (.slice none 0 0) (.bool false) (.slice none 0 0) (.slice none 0 0)
          obtain ⟨x19, hwe⟩ : ∃ x, x16.alloc (.cells #[.slice none 0 0, .bool false, .slice none 0 0, .slice none 0 0] 79) = x := ⟨_, rfl⟩
          rw [hwe] at hbx19 hmx19 ⊢
          clear hwe
          have krx19 := krx16.below hbx19
          have hax19 := hax16.below hbx19
          have hrx19 := hrx16.below hbx19
          have hyx19 := hyx16.below hbx19
          have hwx19 := hwx16.trans (hbx19.mono hwx16.size)
          have hgehm : w1.heap.size ≤ x16.heap.size := hwx16.size
          refine wpAnyH_ready (rs := [1]) (by kernel_rfl) (by simp) ?_
          refine AllReadyH.cons (o := _) rfl (fun K hK => ?_) AllReadyH.nil
          · go_simp
            refine hK.out _ _ ?_ (fun hHeld => ?_)
            · exact (krx19.alloc _).facts.c0
            clear hK K
            try simp only [Act.put, List.getElem_toArray, List.getElem_cons_zero, List.getElem_cons_succ, List.setIfInBounds_toArray, List.set_cons_zero, List.set_cons_succ]
            refine wpAnyH_take (i := 4) (v := ?v4t1x20) rfl (by kernel_rfl) (by kernel_rfl) (by kernel_rfl) (fun _ _ _ h => h) (Or.inl ⟨by rfl, ?hy4t1x20⟩) (by assumption) ?rest4t1x20
            case hy4t1x20 =>
              intro w hSw
              (try dsimp only at hSw)
              go_simp
              all_goals with_reducible rfl
            simp only [Act.put, List.getElem_toArray, List.getElem_cons_zero, List.getElem_cons_succ, List.setIfInBounds_toArray, List.set_cons_zero, List.set_cons_succ]
            clear hHeld
            have hbx20 : Below x19.heap.size x19 (x19.alloc (.cells (nums .i64 (List.replicate k 0)).toArray 3)) := (Below.refl _ _).alloc (Nat.le_refl _) _
            have hzx20 := ZRow.new x19 k
            obtain ⟨x20, hwe⟩ : ∃ x, x19.alloc (.cells (nums .i64 (List.replicate k 0)).toArray 3) = x := ⟨_, rfl⟩
            rw [hwe] at hbx20 hzx20 ⊢
            clear hwe
            have krx20 := krx19.below hbx20
            have hax20 := hax19.below hbx20
            have hrx20 := hrx19.below hbx20
            have hyx20 := hyx19.below hbx20
            have hmx20 := hmx19.below hbx20
            have hnehm : x16.heap.size < x19.heap.size := hmx19.lt
            have hwx20 := hwx19.trans (hbx20.mono hwx19.size)
            have hgehz : w1.heap.size ≤ x19.heap.size := hwx19.size
            refine wpAnyH_ready (rs := [6]) (by kernel_rfl) (by simp) ?_
            refine AllReadyH.cons (o := _) rfl (fun K hK => ?_) AllReadyH.nil
            obtain ⟨z0, z1, z2, z3, z4, z5, z6, z7, z8⟩ := hmx20.facts
            go_simp
            clear z0 z1 z2 z3 z4 z5 z6 z7 z8
            have hfin := one_store krx20 hmx20 hzx20 hrx20 hyx20 hwx20 hgehm hgehz (by omega)
            refine hK.out _ _ ?_ (fun hHeld => ?_)
            · exact hfin.1.1.facts.c0
            clear hK K hHeld
            try simp only [Act.put, List.getElem_toArray, List.getElem_cons_zero, List.getElem_cons_succ, List.setIfInBounds_toArray, List.set_cons_zero, List.set_cons_succ]
            refine wpAnyH_done (by kernel_rfl) ?_ _
            go_wp2_with fail
            go_meet
            exact ⟨x16.heap.size, x19.heap.size, r, rfl, r1_, r2_, hfin.1, hfin.2⟩
      · go_simp
        refine hK.out _ _ ?_ (fun hHeld => ?_)
        · exact (krx10.alloc _).facts.c0
        clear hK K
        try simp only [Act.put, List.getElem_toArray, List.getElem_cons_zero, List.getElem_cons_succ, List.setIfInBounds_toArray, List.set_cons_zero, List.set_cons_succ]
        clear hHeld
        have hbx21 : Below x10.heap.size x10 (x10.alloc (.cells #[.slice none 0 0, .bool false, .slice none 0 0, .slice none 0 0] 79)) := (Below.refl _ _).alloc (Nat.le_refl _) _
        have hmx21 := Blk4.new 79 x10 (.slice none 0 0) (.bool false) (.slice none 0 0) (.slice none 0 0)
        obtain ⟨x21, hwe⟩ : ∃ x, x10.alloc (.cells #[.slice none 0 0, .bool false, .slice none 0 0, .slice none 0 0] 79) = x := ⟨_, rfl⟩
        rw [hwe] at hbx21 hmx21 ⊢
        clear hwe
        have krx21 := krx10.below hbx21
        have hax21 := hax10.below hbx21
        have hwx21 := hwx10.trans (hbx21.mono hwx10.size)
        have hgehm : w1.heap.size ≤ x10.heap.size := hwx10.size
        refine wpAnyH_ready (rs := [1, 3]) (by kernel_rfl) (by simp) ?_
        refine AllReadyH.cons (o := _) rfl (fun K hK => ?_) (AllReadyH.cons (o := _) rfl (fun K hK => ?_) AllReadyH.nil)
        · go_simp
          refine hK.out _ _ ?_ (fun hHeld => ?_)
          · exact (krx21.alloc _).facts.c0
          clear hK K
          try simp only [Act.put, List.getElem_toArray, List.getElem_cons_zero, List.getElem_cons_succ, List.setIfInBounds_toArray, List.set_cons_zero, List.set_cons_succ]
          clear hHeld
          have hbx22 : Below x21.heap.size x21 (x21.alloc (.cells (nums .i64 (List.replicate k 0)).toArray 3)) := (Below.refl _ _).alloc (Nat.le_refl _) _
          have hzx22 := ZRow.new x21 k
          obtain ⟨x22, hwe⟩ : ∃ x, x21.alloc (.cells (nums .i64 (List.replicate k 0)).toArray 3) = x := ⟨_, rfl⟩
          rw [hwe] at hbx22 hzx22 ⊢
          clear hwe
          have krx22 := krx21.below hbx22
          have hax22 := hax21.below hbx22
          have hmx22 := hmx21.below hbx22
          have hnehm : x10.heap.size < x21.heap.size := hmx21.lt
          have hwx22 := hwx21.trans (hbx22.mono hwx21.size)
          have hgehz : w1.heap.size ≤ x21.heap.size := hwx21.size
          refine wpAnyH_ready (rs := [3]) (by kernel_rfl) (by simp) ?_
          refine AllReadyH.cons (o := _) rfl (fun K hK => ?_) AllReadyH.nil
          · go_simp
            go_at_call 42
            refine (qtoT a 1 _ hax22 1 a1_ a2_ (by omega)).mono ?_
            rintro e x23 ⟨r, rfl, hrx23, hyx23, r1_, r2_, hbx23⟩
            go_wp2_with fail
            have krx23 := krx22.below hbx23
            have hax23 := hax22.below hbx23
            have hmx23 := hmx22.below hbx23
            have hzx23 := hzx22.below hbx23
            have hwx23 := hwx22.trans (hbx23.mono hwx22.size)
            refine hK.out _ _ ?_ (fun hHeld => ?_)
            · exact krx23.facts.c0
            clear hK K
            try simp only [Act.put, List.getElem_toArray, List.getElem_cons_zero, List.getElem_cons_succ, List.setIfInBounds_toArray, List.set_cons_zero, List.set_cons_succ]
            refine wpAnyH_take (i := 4) (v := ?v4t1x23) rfl (by kernel_rfl) (by kernel_rfl) (by kernel_rfl) (fun _ _ _ h => h) (Or.inl ⟨by rfl, ?hy4t1x23⟩) (by assumption) ?rest4t1x23
            case hy4t1x23 =>
              intro w hSw
              (try dsimp only at hSw)
              go_simp
              all_goals with_reducible rfl
            simp only [Act.put, List.getElem_toArray, List.getElem_cons_zero, List.getElem_cons_succ, List.setIfInBounds_toArray, List.set_cons_zero, List.set_cons_succ]
            clear hHeld
            refine wpAnyH_ready (rs := [6]) (by kernel_rfl) (by simp) ?_
            refine AllReadyH.cons (o := _) rfl (fun K hK => ?_) AllReadyH.nil
            obtain ⟨z0, z1, z2, z3, z4, z5, z6, z7, z8⟩ := hmx23.facts
            go_simp
            clear z0 z1 z2 z3 z4 z5 z6 z7 z8
            have hfin := one_store krx23 hmx23 hzx23 hrx23 hyx23 hwx23 hgehm hgehz (by omega)
            refine hK.out _ _ ?_ (fun hHeld => ?_)
            · exact hfin.1.1.facts.c0
            clear hK K hHeld
            try simp only [Act.put, List.getElem_toArray, List.getElem_cons_zero, List.getElem_cons_succ, List.setIfInBounds_toArray, List.set_cons_zero, List.set_cons_succ]
            refine wpAnyH_done (by kernel_rfl) ?_ _
            go_wp2_with fail
            go_meet
            exact ⟨x10.heap.size, x21.heap.size, r, rfl, r1_, r2_, hfin.1, hfin.2⟩
        · go_simp
          go_at_call 42
          refine (qtoT a 1 _ hax21 1 a1_ a2_ (by omega)).mono ?_
          rintro e x24 ⟨r, rfl, hrx24, hyx24, r1_, r2_, hbx24⟩
          go_wp2_with fail
          have krx24 := krx21.below hbx24
          have hax24 := hax21.below hbx24
          have hmx24 := hmx21.below hbx24
          have hwx24 := hwx21.trans (hbx24.mono hwx21.size)
          refine hK.out _ _ ?_ (fun hHeld => ?_)
          · exact krx24.facts.c0
          clear hK K
          try simp only [Act.put, List.getElem_toArray, List.getElem_cons_zero, List.getElem_cons_succ, List.setIfInBounds_toArray, List.set_cons_zero, List.set_cons_succ]
          clear hHeld
          refine wpAnyH_ready (rs := [1]) (by kernel_rfl) (by simp) ?_
          refine AllReadyH.cons (o := _) rfl (fun K hK => ?_) AllReadyH.nil
          · go_simp
            refine hK.out _ _ ?_ (fun hHeld => ?_)
            · exact (krx24.alloc _).facts.c0
            clear hK K
            try simp only [Act.put, List.getElem_toArray, List.getElem_cons_zero, List.getElem_cons_succ, List.setIfInBounds_toArray, List.set_cons_zero, List.set_cons_succ]
            refine wpAnyH_take (i := 4) (v := ?v4t1x25) rfl (by kernel_rfl) (by kernel_rfl) (by kernel_rfl) (fun _ _ _ h => h) (Or.inl ⟨by rfl, ?hy4t1x25⟩) (by assumption) ?rest4t1x25
            case hy4t1x25 =>
              intro w hSw
              (try dsimp only at hSw)
              go_simp
              all_goals with_reducible rfl
            simp only [Act.put, List.getElem_toArray, List.getElem_cons_zero, List.getElem_cons_succ, List.setIfInBounds_toArray, List.set_cons_zero, List.set_cons_succ]
            clear hHeld
            have hbx25 : Below x24.heap.size x24 (x24.alloc (.cells (nums .i64 (List.replicate k 0)).toArray 3)) := (Below.refl _ _).alloc (Nat.le_refl _) _
            have hzx25 := ZRow.new x24 k
            obtain ⟨x25, hwe⟩ : ∃ x, x24.alloc (.cells (nums .i64 (List.replicate k 0)).toArray 3) = x := ⟨_, rfl⟩
            rw [hwe] at hbx25 hzx25 ⊢
            clear hwe
            have krx25 := krx24.below hbx25
            have hax25 := hax24.below hbx25
            have hmx25 := hmx24.below hbx25
            have hrx25 := hrx24.below hbx25
            have hyx25 := hyx24.below hbx25
            have hnehm : x10.heap.size < x24.heap.size := hmx24.lt
            have hwx25 := hwx24.trans (hbx25.mono hwx24.size)
            have hgehz : w1.heap.size ≤ x24.heap.size := hwx24.size
            refine wpAnyH_ready (rs := [6]) (by kernel_rfl) (by simp) ?_
            refine AllReadyH.cons (o := _) rfl (fun K hK => ?_) AllReadyH.nil
            obtain ⟨z0, z1, z2, z3, z4, z5, z6, z7, z8⟩ := hmx25.facts
            go_simp
            clear z0 z1 z2 z3 z4 z5 z6 z7 z8
            have hfin := one_store krx25 hmx25 hzx25 hrx25 hyx25 hwx25 hgehm hgehz (by omega)
            refine hK.out _ _ ?_ (fun hHeld => ?_)
            · exact hfin.1.1.facts.c0
            clear hK K hHeld
            try simp only [Act.put, List.getElem_toArray, List.getElem_cons_zero, List.getElem_cons_succ, List.setIfInBounds_toArray, List.set_cons_zero, List.set_cons_succ]
            refine wpAnyH_done (by kernel_rfl) ?_ _
            go_wp2_with fail
            go_meet
            exact ⟨x10.heap.size, x24.heap.size, r, rfl, r1_, r2_, hfin.1, hfin.2⟩
    · go_simp
      refine hK.out _ _ ?_ (fun hHeld => ?_)
      · exact (kr_d.alloc _).facts.c0
      clear hK K
      try simp only [Act.put, List.getElem_toArray, List.getElem_cons_zero, List.getElem_cons_succ, List.setIfInBounds_toArray, List.set_cons_zero, List.set_cons_succ]
      clear hHeld
      have hbx26 : Below wd.heap.size wd (wd.alloc (.cells #[.slice none 0 0, .bool false, .slice none 0 0, .slice none 0 0] 79)) := (Below.refl _ _).alloc (Nat.le_refl _) _
      have hmx26 := Blk4.new 79 wd (.slice none 0 0) (.bool false) (.slice none 0 0) (.slice none 0 0)
      obtain ⟨x26, hwe⟩ : ∃ x, wd.alloc (.cells #[.slice none 0 0, .bool false, .slice none 0 0, .slice none 0 0] 79) = x := ⟨_, rfl⟩
      rw [hwe] at hbx26 hmx26 ⊢
      clear hwe
      have krx26 := kr_d.below hbx26
      have hwx26 := hbd.trans (hbx26.mono hbd.size)
      have hgehm : w1.heap.size ≤ wd.heap.size := hbd.size
      refine wpAnyH_ready (rs := [1, 2]) (by kernel_rfl) (by simp) ?_
      refine AllReadyH.cons (o := _) rfl (fun K hK => ?_) (AllReadyH.cons (o := _) rfl (fun K hK => ?_) AllReadyH.nil)
      · go_simp
        refine hK.out _ _ ?_ (fun hHeld => ?_)
        · exact (krx26.alloc _).facts.c0
        clear hK K
        try simp only [Act.put, List.getElem_toArray, List.getElem_cons_zero, List.getElem_cons_succ, List.setIfInBounds_toArray, List.set_cons_zero, List.set_cons_succ]
        clear hHeld
        have hbx27 : Below x26.heap.size x26 (x26.alloc (.cells (nums .i64 (List.replicate k 0)).toArray 3)) := (Below.refl _ _).alloc (Nat.le_refl _) _
        have hzx27 := ZRow.new x26 k
        obtain ⟨x27, hwe⟩ : ∃ x, x26.alloc (.cells (nums .i64 (List.replicate k 0)).toArray 3) = x := ⟨_, rfl⟩
        rw [hwe] at hbx27 hzx27 ⊢
        clear hwe
        have krx27 := krx26.below hbx27
        have hmx27 := hmx26.below hbx27
        have hnehm : wd.heap.size < x26.heap.size := hmx26.lt
        have hwx27 := hwx26.trans (hbx27.mono hwx26.size)
        have hgehz : w1.heap.size ≤ x26.heap.size := hwx26.size
        refine wpAnyH_ready (rs := [2]) (by kernel_rfl) (by simp) ?_
        refine AllReadyH.cons (o := _) rfl (fun K hK => ?_) AllReadyH.nil
        · go_simp
          go_at_call 47
          refine (roneT _).mono ?_
          rintro e x28 ⟨a, rfl, hax28, hat_, a1_, a2_, hbx28⟩
          clear hat_
          go_wp2_with fail
          have krx28 := krx27.below hbx28
          have hmx28 := hmx27.below hbx28
          have hzx28 := hzx27.below hbx28
          have hwx28 := hwx27.trans (hbx28.mono hwx27.size)
          refine hK.out _ _ ?_ (fun hHeld => ?_)
          · exact krx28.facts.c0
          clear hK K
          try simp only [Act.put, List.getElem_toArray, List.getElem_cons_zero, List.getElem_cons_succ, List.setIfInBounds_toArray, List.set_cons_zero, List.set_cons_succ]
          clear hHeld
          refine wpAnyH_ready (rs := [3]) (by kernel_rfl) (by simp) ?_
          refine AllReadyH.cons (o := _) rfl (fun K hK => ?_) AllReadyH.nil
          · go_simp
            go_at_call 42
            refine (qtoT a 1 _ hax28 1 a1_ a2_ (by omega)).mono ?_
            rintro e x29 ⟨r, rfl, hrx29, hyx29, r1_, r2_, hbx29⟩
            go_wp2_with fail
            have krx29 := krx28.below hbx29
            have hmx29 := hmx28.below hbx29
            have hzx29 := hzx28.below hbx29
            have hax29 := hax28.below hbx29
            have hwx29 := hwx28.trans (hbx29.mono hwx28.size)
            refine hK.out _ _ ?_ (fun hHeld => ?_)
            · exact krx29.facts.c0
            clear hK K
            try simp only [Act.put, List.getElem_toArray, List.getElem_cons_zero, List.getElem_cons_succ, List.setIfInBounds_toArray, List.set_cons_zero, List.set_cons_succ]
            refine wpAnyH_take (i := 4) (v := ?v4t1x29) rfl (by kernel_rfl) (by kernel_rfl) (by kernel_rfl) (fun _ _ _ h => h) (Or.inl ⟨by rfl, ?hy4t1x29⟩) (by assumption) ?rest4t1x29
            case hy4t1x29 =>
              intro w hSw
              (try dsimp only at hSw)
              go_simp
              all_goals with_reducible rfl
            simp only [Act.put, List.getElem_toArray, List.getElem_cons_zero, List.getElem_cons_succ, List.setIfInBounds_toArray, List.set_cons_zero, List.set_cons_succ]
            clear hHeld
            refine wpAnyH_ready (rs := [6]) (by kernel_rfl) (by simp) ?_
            refine AllReadyH.cons (o := _) rfl (fun K hK => ?_) AllReadyH.nil
            obtain ⟨z0, z1, z2, z3, z4, z5, z6, z7, z8⟩ := hmx29.facts
            go_simp
            clear z0 z1 z2 z3 z4 z5 z6 z7 z8
            have hfin := one_store krx29 hmx29 hzx29 hrx29 hyx29 hwx29 hgehm hgehz (by omega)
            refine hK.out _ _ ?_ (fun hHeld => ?_)
            · exact hfin.1.1.facts.c0
            clear hK K hHeld
            try simp only [Act.put, List.getElem_toArray, List.getElem_cons_zero, List.getElem_cons_succ, List.setIfInBounds_toArray, List.set_cons_zero, List.set_cons_succ]
            refine wpAnyH_done (by kernel_rfl) ?_ _
            go_wp2_with fail
            go_meet
            exact ⟨wd.heap.size, x26.heap.size, r, rfl, r1_, r2_, hfin.1, hfin.2⟩
      · go_simp
        go_at_call 47
        refine (roneT _).mono ?_
        rintro e x30 ⟨a, rfl, hax30, hat_, a1_, a2_, hbx30⟩
        clear hat_
        go_wp2_with fail
        have krx30 := krx26.below hbx30
        have hmx30 := hmx26.below hbx30
        have hwx30 := hwx26.trans (hbx30.mono hwx26.size)
        refine hK.out _ _ ?_ (fun hHeld => ?_)
        · exact krx30.facts.c0
        clear hK K
        try simp only [Act.put, List.getElem_toArray, List.getElem_cons_zero, List.getElem_cons_succ, List.setIfInBounds_toArray, List.set_cons_zero, List.set_cons_succ]
        clear hHeld
        refine wpAnyH_ready (rs := [1, 3]) (by kernel_rfl) (by simp) ?_
        refine AllReadyH.cons (o := _) rfl (fun K hK => ?_) (AllReadyH.cons (o := _) rfl (fun K hK => ?_) AllReadyH.nil)
        · go_simp
          refine hK.out _ _ ?_ (fun hHeld => ?_)
          · exact (krx30.alloc _).facts.c0
          clear hK K
          try simp only [Act.put, List.getElem_toArray, List.getElem_cons_zero, List.getElem_cons_succ, List.setIfInBounds_toArray, List.set_cons_zero, List.set_cons_succ]
          clear hHeld
          have hbx31 : Below x30.heap.size x30 (x30.alloc (.cells (nums .i64 (List.replicate k 0)).toArray 3)) := (Below.refl _ _).alloc (Nat.le_refl _) _
          have hzx31 := ZRow.new x30 k
          obtain ⟨x31, hwe⟩ : ∃ x, x30.alloc (.cells (nums .i64 (List.replicate k 0)).toArray 3) = x := ⟨_, rfl⟩
          rw [hwe] at hbx31 hzx31 ⊢
          clear hwe
          have krx31 := krx30.below hbx31
          have hmx31 := hmx30.below hbx31
          have hax31 := hax30.below hbx31
          have hnehm : wd.heap.size < x30.heap.size := hmx30.lt
          have hwx31 := hwx30.trans (hbx31.mono hwx30.size)
          have hgehz : w1.heap.size ≤ x30.heap.size := hwx30.size
          refine wpAnyH_ready (rs := [3]) (by kernel_rfl) (by simp) ?_
          refine AllReadyH.cons (o := _) rfl (fun K hK => ?_) AllReadyH.nil
          · go_simp
            go_at_call 42
            refine (qtoT a 1 _ hax31 1 a1_ a2_ (by omega)).mono ?_
            rintro e x32 ⟨r, rfl, hrx32, hyx32, r1_, r2_, hbx32⟩
            go_wp2_with fail
            have krx32 := krx31.below hbx32
            have hmx32 := hmx31.below hbx32
            have hax32 := hax31.below hbx32
            have hzx32 := hzx31.below hbx32
            have hwx32 := hwx31.trans (hbx32.mono hwx31.size)
            refine hK.out _ _ ?_ (fun hHeld => ?_)
            · exact krx32.facts.c0
            clear hK K
            try simp only [Act.put, List.getElem_toArray, List.getElem_cons_zero, List.getElem_cons_succ, List.setIfInBounds_toArray, List.set_cons_zero, List.set_cons_succ]
            refine wpAnyH_take (i := 4) (v := ?v4t1x32) rfl (by kernel_rfl) (by kernel_rfl) (by kernel_rfl) (fun _ _ _ h => h) (Or.inl ⟨by rfl, ?hy4t1x32⟩) (by assumption) ?rest4t1x32
            case hy4t1x32 =>
              intro w hSw
              (try dsimp only at hSw)
              go_simp
              all_goals with_reducible rfl
            simp only [Act.put, List.getElem_toArray, List.getElem_cons_zero, List.getElem_cons_succ, List.setIfInBounds_toArray, List.set_cons_zero, List.set_cons_succ]
            clear hHeld
            refine wpAnyH_ready (rs := [6]) (by kernel_rfl) (by simp) ?_
            refine AllReadyH.cons (o := _) rfl (fun K hK => ?_) AllReadyH.nil
            obtain ⟨z0, z1, z2, z3, z4, z5, z6, z7, z8⟩ := hmx32.facts
            go_simp
            clear z0 z1 z2 z3 z4 z5 z6 z7 z8
            have hfin := one_store krx32 hmx32 hzx32 hrx32 hyx32 hwx32 hgehm hgehz (by omega)
            refine hK.out _ _ ?_ (fun hHeld => ?_)
            · exact hfin.1.1.facts.c0
            clear hK K hHeld
            try simp only [Act.put, List.getElem_toArray, List.getElem_cons_zero, List.getElem_cons_succ, List.setIfInBounds_toArray, List.set_cons_zero, List.set_cons_succ]
            refine wpAnyH_done (by kernel_rfl) ?_ _
            go_wp2_with fail
            go_meet
            exact ⟨wd.heap.size, x30.heap.size, r, rfl, r1_, r2_, hfin.1, hfin.2⟩
        · go_simp
          go_at_call 42
          refine (qtoT a 1 _ hax30 1 a1_ a2_ (by omega)).mono ?_
          rintro e x33 ⟨r, rfl, hrx33, hyx33, r1_, r2_, hbx33⟩
          go_wp2_with fail
          have krx33 := krx30.below hbx33
          have hmx33 := hmx30.below hbx33
          have hax33 := hax30.below hbx33
          have hwx33 := hwx30.trans (hbx33.mono hwx30.size)
          refine hK.out _ _ ?_ (fun hHeld => ?_)
          · exact krx33.facts.c0
          clear hK K
          try simp only [Act.put, List.getElem_toArray, List.getElem_cons_zero, List.getElem_cons_succ, List.setIfInBounds_toArray, List.set_cons_zero, List.set_cons_succ]
          clear hHeld
          refine wpAnyH_ready (rs := [1]) (by kernel_rfl) (by simp) ?_
          refine AllReadyH.cons (o := _) rfl (fun K hK => ?_) AllReadyH.nil
          · go_simp
            refine hK.out _ _ ?_ (fun hHeld => ?_)
            · exact (krx33.alloc _).facts.c0
            clear hK K
            try simp only [Act.put, List.getElem_toArray, List.getElem_cons_zero, List.getElem_cons_succ, List.setIfInBounds_toArray, List.set_cons_zero, List.set_cons_succ]
            refine wpAnyH_take (i := 4) (v := ?v4t1x34) rfl (by kernel_rfl) (by kernel_rfl) (by kernel_rfl) (fun _ _ _ h => h) (Or.inl ⟨by rfl, ?hy4t1x34⟩) (by assumption) ?rest4t1x34
            case hy4t1x34 =>
              intro w hSw
              (try dsimp only at hSw)
              go_simp
              all_goals with_reducible rfl
            simp only [Act.put, List.getElem_toArray, List.getElem_cons_zero, List.getElem_cons_succ, List.setIfInBounds_toArray, List.set_cons_zero, List.set_cons_succ]
            clear hHeld
            have hbx34 : Below x33.heap.size x33 (x33.alloc (.cells (nums .i64 (List.replicate k 0)).toArray 3)) := (Below.refl _ _).alloc (Nat.le_refl _) _
            have hzx34 := ZRow.new x33 k
            obtain ⟨x34, hwe⟩ : ∃ x, x33.alloc (.cells (nums .i64 (List.replicate k 0)).toArray 3) = x := ⟨_, rfl⟩
            rw [hwe] at hbx34 hzx34 ⊢
            clear hwe
            have krx34 := krx33.below hbx34
            have hmx34 := hmx33.below hbx34
            have hax34 := hax33.below hbx34
            have hrx34 := hrx33.below hbx34
            have hyx34 := hyx33.below hbx34
            have hnehm : wd.heap.size < x33.heap.size := hmx33.lt
            have hwx34 := hwx33.trans (hbx34.mono hwx33.size)
            have hgehz : w1.heap.size ≤ x33.heap.size := hwx33.size
            refine wpAnyH_ready (rs := [6]) (by kernel_rfl) (by simp) ?_
            refine AllReadyH.cons (o := _) rfl (fun K hK => ?_) AllReadyH.nil
            obtain ⟨z0, z1, z2, z3, z4, z5, z6, z7, z8⟩ := hmx34.facts
            go_simp
            clear z0 z1 z2 z3 z4 z5 z6 z7 z8
            have hfin := one_store krx34 hmx34 hzx34 hrx34 hyx34 hwx34 hgehm hgehz (by omega)
            refine hK.out _ _ ?_ (fun hHeld => ?_)
            · exact hfin.1.1.facts.c0
            clear hK K hHeld
            try simp only [Act.put, List.getElem_toArray, List.getElem_cons_zero, List.getElem_cons_succ, List.setIfInBounds_toArray, List.set_cons_zero, List.set_cons_succ]
            refine wpAnyH_done (by kernel_rfl) ?_ _
            go_wp2_with fail
            go_meet
            exact ⟨wd.heap.size, x33.heap.size, r, rfl, r1_, r2_, hfin.1, hfin.2⟩
  obtain ⟨g, gx, r, rfl, hr1, hr2, ⟨kr1, km1, kx1, hri, hg1, hg2, hgne, hbw⟩, hry⟩ := hcut
  obtain ⟨w2, rfl⟩ : ∃ x : World, x = wc := ⟨_, rfl⟩
  have hw2 := hb1.trans (hbw.mono hb1.size)
  have HB := Lib.hid hB
  clear hmk hB hbw kr
  obtain ⟨b0, b1, b2, b3, b4, b5, b6, b7, b8⟩ := km1.facts
  go_wp2_with fail
  clear b0 b1 b2 b3 b4 b5 b6 b7 b8
  go_loopw [7, 8, 17] (fun ss _ si wr => ∃ (i : Nat), i ≤ k ∧ si = .int .i64 i ∧ ss = .int .i64 (oneS bs i : Nat) ∧ Blk2c 24 wr w.heap.size (.int .i64 0) (.slice none 0 0) ∧ Blk4 79 wr g (.slice (some ⟨gx, 0, none⟩) k k) (.bool r.s) (.slice r.N r.ns.length r.nc) (.slice r.D r.ds.length r.dc) ∧
    Row .i64 3 wr gx (oneT bs k i) ∧ r.Is wr 1 ∧ r.Ty wr ∧ Below w.heap.size w wr) (fun _ _ si _ => k - (intOf si).toNat)
  case atStart => exact ⟨0, by omega, rfl, rfl, kr1, km1, by rw [oneT_zero]; exact kx1, hri, hry, hw2⟩
  case round =>
    obtain ⟨i, hi, rfl, rfl, kr2, km2, kx2, hri2, hry2, hbw⟩ := hrel
    clear kr1 km1 kx1 hri hry hw2
    have hS := oneS_le bs i
    have hX := oneX_le bs i
    obtain ⟨b0, b1, b2, b3, b4, b5, b6, b7, b8⟩ := km2.facts
    by_cases hil : i < k
    · have hil2 : (i : Int) < (k : Int) := by omega
      by_cases hib : i < bs.length
      · obtain ⟨bd, x, rfl, hbb, hex, hcx⟩ := (HB.out.below hbw).ask hib
        have hxe : Hid (oneX bs i = x % 24) := by show _ = _; rw [oneX, if_pos hib, hex.out]
        have hm1 : (x : Int) % 24 = ((x % 24 : Nat) : Int) := by omega
        have hm2 : (x : Int).tmod 24 = ((x % 24 : Nat) : Int) := by rw [Int.tmod_eq_emod_of_nonneg (by omega)]; omega
        have hx24 : x % 24 < 24 := Nat.mod_lt _ (by omega)
        have hib2 : (i : Int) < (bs.length : Int) := by omega
        have hfr := kx2.frozen i
        have hlen : i < (oneT bs k i).length := by rw [oneT_len]; exact hil
        have hc0 := kx2.cell hlen
        have hrow := kx2.set_ i (x % 24)
        have hgl := km2.lt
        have HE : Hid ((oneT bs k i).set i (x % 24) = oneT bs k (i + 1)) := by show _ = _; rw [← hxe.out]; exact oneT_set bs
        have HSS : Hid (oneS bs (i + 1) = oneS bs i + x % 24) := by show _ = _; rw [oneS, hxe.out]
        obtain ⟨y, hy⟩ : ∃ y, x % 24 = y := ⟨_, rfl⟩
        rw [hy] at hm1 hm2 hx24 hrow HE HSS
        have hY := Lib.hid hy
        have hwy : IntKind.i64.wrap (y : Int) = (y : Int) := IntWalk.i64_in _ (by omega)
        clear hy hex hlen
        go_upto_region 7 with fail
        refine wp_region_last 10 (S := fun w' => w'.cell? ⟨g, 0, none⟩ = some (.slice (some ⟨gx, 0, none⟩) k k) ∧ w'.cell? (bd.add i) = some (.int .u8 (x : Nat))) (by kernel_rfl) ?_ (fun hHeld => ?_)
        · exact ⟨b0, hcx⟩
        refine wpAnyL_take (i := 0) (v := ?v0L1) rfl (by kernel_rfl) (by kernel_rfl) (by kernel_rfl) (fun _ _ _ h => h) (by kernel_rfl) (by kernel_rfl) (Or.inl ⟨by rfl, ?hy0L1⟩) (by assumption) ?rest0L1
        case hy0L1 =>
          intro w hSw
          (try dsimp only at hSw)
          go_simp
          all_goals with_reducible rfl
        simp only [Act.put, List.getElem_toArray, List.getElem_cons_zero, List.setIfInBounds_toArray, List.set_cons_zero, List.set_cons_succ]
        refine wpAnyL_take (i := 1) (v := ?v1L1) rfl (by kernel_rfl) (by kernel_rfl) (by kernel_rfl) (fun _ _ _ h => h) (by kernel_rfl) (by kernel_rfl) (Or.inl ⟨by rfl, ?hy1L1⟩) (by assumption) ?rest1L1
        case hy1L1 =>
          intro w hSw
          (try dsimp only at hSw)
          go_simp
          all_goals with_reducible rfl
        simp only [Act.put, List.getElem_toArray, List.getElem_cons_zero, List.getElem_cons_succ, List.setIfInBounds_toArray, List.set_cons_zero, List.set_cons_succ]
        refine wpAnyL_take (i := 2) (v := ?v2L1) rfl (by kernel_rfl) (by kernel_rfl) (by kernel_rfl) (fun _ _ _ h => h) (by kernel_rfl) (by kernel_rfl) (Or.inl ⟨by rfl, ?hy2L1⟩) (by assumption) ?rest2L1
        case hy2L1 =>
          intro w hSw
          (try dsimp only at hSw)
          go_simp
          all_goals with_reducible rfl
        simp only [Act.put, List.getElem_toArray, List.getElem_cons_zero, List.getElem_cons_succ, List.setIfInBounds_toArray, List.set_cons_zero, List.set_cons_succ]
        refine wpAnyL_take (i := 3) (v := ?v3L1) rfl (by kernel_rfl) (by kernel_rfl) (by kernel_rfl) (fun _ _ _ h => h) (by kernel_rfl) (by kernel_rfl) (Or.inl ⟨by rfl, ?hy3L1⟩) (by assumption) ?rest3L1
        case hy3L1 =>
          intro w hSw
          (try dsimp only at hSw)
          go_simp
          all_goals with_reducible rfl
        simp only [Act.put, List.getElem_toArray, List.getElem_cons_zero, List.getElem_cons_succ, List.setIfInBounds_toArray, List.set_cons_zero, List.set_cons_succ]
        refine wpAnyL_take (i := 4) (v := ?v4L1) rfl (by kernel_rfl) (by kernel_rfl) (by kernel_rfl) (fun _ _ _ h => h) (by kernel_rfl) (by kernel_rfl) (Or.inl ⟨by rfl, ?hy4L1⟩) (by assumption) ?rest4L1
        case hy4L1 =>
          intro w hSw
          (try dsimp only at hSw)
          go_simp
          all_goals with_reducible rfl
        simp only [Act.put, List.getElem_toArray, List.getElem_cons_zero, List.getElem_cons_succ, List.setIfInBounds_toArray, List.set_cons_zero, List.set_cons_succ]
        refine wpAnyL_take (i := 5) (v := ?v5L1) rfl (by kernel_rfl) (by kernel_rfl) (by kernel_rfl) (fun _ _ _ h => h) (by kernel_rfl) (by kernel_rfl) (Or.inl ⟨by rfl, ?hy5L1⟩) (by assumption) ?rest5L1
        case hy5L1 =>
          intro w hSw
          (try dsimp only at hSw)
          go_simp
          all_goals with_reducible rfl
        simp only [Act.put, List.getElem_toArray, List.getElem_cons_zero, List.getElem_cons_succ, List.setIfInBounds_toArray, List.set_cons_zero, List.set_cons_succ]
        refine wpAnyL_take (i := 6) (v := ?v6L1) rfl (by kernel_rfl) (by kernel_rfl) (by kernel_rfl) (fun _ _ _ h => h) (by kernel_rfl) (by kernel_rfl) (Or.inl ⟨by rfl, ?hy6L1⟩) (by assumption) ?rest6L1
        case hy6L1 =>
          intro w hSw
          (try dsimp only at hSw)
          go_simp
          all_goals with_reducible rfl
        simp only [Act.put, List.getElem_toArray, List.getElem_cons_zero, List.getElem_cons_succ, List.setIfInBounds_toArray, List.set_cons_zero, List.set_cons_succ]
        refine wpAnyL_take (i := 7) (v := ?v7L1) rfl (by kernel_rfl) (by kernel_rfl) (by kernel_rfl) (fun _ _ _ h => h) (by kernel_rfl) (by kernel_rfl) (Or.inl ⟨by rfl, ?hy7L1⟩) (by assumption) ?rest7L1
        case hy7L1 =>
          intro w hSw
          (try dsimp only at hSw)
          go_simp
          all_goals with_reducible rfl
        simp only [Act.put, List.getElem_toArray, List.getElem_cons_zero, List.getElem_cons_succ, List.setIfInBounds_toArray, List.set_cons_zero, List.set_cons_succ]
        refine wpAnyL_take (i := 8) (v := ?v8L1) rfl (by kernel_rfl) (by kernel_rfl) (by kernel_rfl) (fun _ _ _ h => h) (by kernel_rfl) (by kernel_rfl) (Or.inl ⟨by rfl, ?hy8L1⟩) (by assumption) ?rest8L1
        case hy8L1 =>
          intro w hSw
          (try dsimp only at hSw)
          go_simp
          all_goals with_reducible rfl
        simp only [Act.put, List.getElem_toArray, List.getElem_cons_zero, List.getElem_cons_succ, List.setIfInBounds_toArray, List.set_cons_zero, List.set_cons_succ]
        refine wpAnyL_take (i := 9) (v := ?v9L1) rfl (by kernel_rfl) (by kernel_rfl) (by kernel_rfl) (fun _ _ _ h => h) (by kernel_rfl) (by kernel_rfl) (Or.inl ⟨by rfl, ?hy9L1⟩) (by assumption) ?rest9L1
        case hy9L1 =>
          intro w hSw
          (try dsimp only at hSw)
          go_simp
          all_goals with_reducible rfl
        simp only [Act.put, List.getElem_toArray, List.getElem_cons_zero, List.getElem_cons_succ, List.setIfInBounds_toArray, List.set_cons_zero, List.set_cons_succ]
        refine wpAnyL_last (by kernel_rfl) (by kernel_rfl) (by kernel_rfl) rfl (fun K hK => ?_)
        clear hHeld
        go_simp
        refine hK.out _ _ ?_
        clear hK K
        try simp only [Act.put, List.getElem_toArray, List.getElem_cons_zero, List.getElem_cons_succ, List.setIfInBounds_toArray, List.set_cons_zero, List.set_cons_succ]
        obtain ⟨w5, hw5⟩ : ∃ x, (wr.setCell ⟨gx, i, none⟩ (.int .i64 (y : Nat))).drew = x := ⟨_, rfl⟩
        rw [hw5]
        have hk5 : Row .i64 3 w5 gx (oneT bs k (i + 1)) := by rw [← hw5, ← HE.out]; exact hrow
        have hc5 : w5.cell? ⟨gx, i, none⟩ = some (.int .i64 (y : Nat)) := by
          have h1 := hk5.cell (i := i) (by rw [oneT_len]; exact hil)
          rw [oneT_get bs hil, if_pos (by omega), hxe.out, hY.out] at h1
          exact h1
        have km5 : Blk4 79 w5 g (.slice (some ⟨gx, 0, none⟩) k k) (.bool r.s) (.slice r.N r.ns.length r.nc) (.slice r.D r.ds.length r.dc) := by rw [← hw5]; exact (Below.heap_setCell wr ⟨gx, i, none⟩ _ g hgne).trans km2
        have kr5 : Blk2c 24 w5 w.heap.size (.int .i64 0) (.slice none 0 0) := by rw [← hw5]; exact (Below.heap_setCell wr ⟨gx, i, none⟩ _ w.heap.size (by show w.heap.size ≠ gx; omega)).trans kr2
        have hbw5 : Below w.heap.size w w5 := by rw [← hw5]; exact below_drew_ (hbw.setCell (by show w.heap.size ≤ gx; omega) _) 1
        have hri5 : r.Is w5 1 ∧ r.Ty w5 := by
          rw [← hw5]
          obtain ⟨t1, t2⟩ := hri2.setInt hry2 kx2 i (.int .i64 (y : Nat))
          exact ⟨t1.below (below_drew_ (Below.refl _ _) 1), t2.below (below_drew_ (Below.refl _ _) 1)⟩
        clear hw5 b0 b1 b2 b3 b4 b5 b6 b7 b8 hcx hfr hc0 hrow hri2 hry2 kx2 km2 kr2 hm1 hm2
        obtain ⟨b0, b1, b2, b3, b4, b5, b6, b7, b8⟩ := km5.facts
        have hsum : IntKind.i64.wrap (((oneS bs i : Nat) : Int) + ((y : Nat) : Int)) = ((oneS bs i + y : Nat) : Int) := by rw [← Int.natCast_add]; exact IntWalk.i64_in _ (by omega)
        go_wp2_with fail
        go_roundw
        case rel => exact ⟨i + 1, by omega, by go_num, by rw [HSS.out]; try go_num, kr5, km5, hk5, hri5.1, hri5.2, hbw5⟩
        case measure => simp [intOf]; omega
      · have hx0 : oneX bs i = 0 := by rw [oneX, if_neg hib]
        have hc5 : wr.cell? ⟨gx, i, none⟩ = some (.int .i64 0) := by
          have h1 := kx2.cell (i := i) (by rw [oneT_len]; exact hil)
          rw [oneT_get bs hil, if_neg (by omega)] at h1
          exact h1
        have hib2 : ¬ (i : Int) < (bs.length : Int) := by omega
        have HE := Lib.hid (oneT_skip bs (k := k) hx0)
        have HSS : Hid (oneS bs (i + 1) = oneS bs i) := by show _ = _; rw [oneS, hx0, Nat.add_zero]
        clear hx0
        go_wp2_with fail
        go_roundw
        case rel => exact ⟨i + 1, by omega, by go_num, by rw [HSS.out]; try go_num, kr2, km2, by rw [← HE.out]; exact kx2, hri2, hry2, hbw⟩
        case measure => simp [intOf]; omega
    · obtain rfl : i = k := by omega
      obtain ⟨a0, a1, a2, a3, a4⟩ := kr2.facts
      rw [oneT_all] at kx2
      have hfin := one_end w wr gx i r bs kr2 kx2 hri2 hry2 hr1 hr2 hbw (.int .i64 i) (.slice (some ⟨wr.heap.size, 0, none⟩) 1 1)
      have HFIN := Lib.hid hfin
      have HSU := Lib.hid (oneS_sum bs i)
      have hrl := kr2.lt
      clear hfin kx2 hri2 hry2
      go_wp2_with fail
      obtain ⟨d0, d1, d2, d3, d4⟩ := (((kr2.set0 (.int .i64 i)).set1 (.slice (some ⟨wr.heap.size, 0, none⟩) 1 1)).alloc (.cells #[.slice (some ⟨gx, 0, none⟩) i i, .bool r.s, .slice r.N r.ns.length r.nc, .slice r.D r.ds.length r.dc] 79)).facts
      refine bodyPost_ret (v := .tuple #[.agg #[.int .i64 i, .slice (some ⟨wr.heap.size, 0, none⟩) 1 1], .int .i64 (oneS bs i : Nat)]) (by simp [results, Tryz.results46, go_sem, d0, d1]) rfl ?_
      rw [HSU.out]
      exact HFIN.out
end Go.Proofs.YtlbfoclhkdlafaaGreatDoor

