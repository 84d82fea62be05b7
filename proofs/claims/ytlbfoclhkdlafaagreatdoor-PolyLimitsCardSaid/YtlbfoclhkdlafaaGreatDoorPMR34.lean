/- isochroneref03.Shift: a polynomial times a term. -/
import Derived.Test.YtlbfoclhkdlafaaGreatDoorPMR33
attribute [local go_sem ↓] Go.wp_at_zero Go.wp_at_succ
namespace Go.Proofs.YtlbfoclhkdlafaaGreatDoor
open Go.RowKit V

theorem packTo_add (xs ys zs : List Nat) : ∀ k, (∀ j, j < k → zs.getD j 0 = xs.getD j 0 + ys.getD j 0) → packTo zs k = packTo xs k + packTo ys k
  | 0, _ => rfl
  | k + 1, h => by
    have ih := packTo_add xs ys zs k (fun j hj => h j (by omega))
    simp only [packTo]
    rw [ih, h k (by omega), Nat.add_mul]
    omega
theorem packTo_self {m : Nat} (hm : m < 18446744073709551616) : packTo (exL m 8) 8 = m := by
  rw [packTo_exL hm (Nat.le_refl _) 8 (Nat.le_refl _), Nat.sub_self, Nat.pow_zero, Nat.one_mul, Nat.div_one]
/-- Exponents of a product. -/
theorem ex_add {a b : Nat} (ha : a < 18446744073709551616) (hb : b < 18446744073709551616) (h : ∀ i, i < 8 → ex a i + ex b i < 256) {i : Nat} (hi : i < 8) : ex (a + b) i = ex a i + ex b i := by
  have hz : ∀ j, j < 8 → ((List.range 8).map fun j => ex a j + ex b j).getD j 0 = (exL a 8).getD j 0 + (exL b 8).getD j 0 := fun j hj => by
    rw [exL_get a 8 j hj, exL_get b 8 j hj, List.getD_eq_getElem?_getD, List.getElem?_map, List.getElem?_range hj]
    rfl
  have h1 := packTo_add (exL a 8) (exL b 8) ((List.range 8).map fun j => ex a j + ex b j) 8 hz
  rw [packTo_self ha, packTo_self hb] at h1
  have h2 := packTo_ex ((List.range 8).map fun j => ex a j + ex b j) (fun x hx => by
    obtain ⟨j, hj, rfl⟩ := List.mem_map.1 hx
    exact h j (List.mem_range.1 hj)) 8 (Nat.le_refl _) i hi
  rw [h1, hz i hi, exL_get a 8 i hi, exL_get b 8 i hi] at h2
  exact h2
/-- The first i exponents added up. -/
def mixI (a b i : Nat) : List Int := (List.range 8).map fun j => if j < i then ((ex a j + ex b j : Nat) : Int) else ((ex a j : Nat) : Int)
theorem mixI_zero (a b : Nat) : mixI a b 0 = exI a 8 := by
  unfold mixI exI exL
  rw [List.map_map]
  refine List.map_congr_left fun j _ => ?_
  rw [if_neg (by omega)]
  rfl
theorem mixI_get (a b : Nat) {i : Nat} (hi : i < 8) : (mixI a b i)[i]? = some ((ex a i : Nat) : Int) := by
  unfold mixI
  rw [List.getElem?_map, List.getElem?_range hi]
  show some (if i < i then _ else _) = _
  rw [if_neg (by omega)]
theorem mixI_set (a b : Nat) {i : Nat} : (mixI a b i).set i ((ex a i + ex b i : Nat) : Int) = mixI a b (i + 1) := by
  refine List.ext_getElem (by simp [mixI]) fun j h1 h2 => ?_
  rw [List.getElem_set]
  have hj : j < 8 := by simpa [mixI] using h2
  by_cases e : i = j
  · subst e
    rw [if_pos rfl]
    simp [mixI]
  · rw [if_neg e]
    simp only [mixI, List.getElem_map, List.getElem_range]
    by_cases h : j < i
    · rw [if_pos h, if_pos (by omega)]
    · rw [if_neg h, if_neg (by omega)]
theorem mixI_all {a b : Nat} (ha : a < 18446744073709551616) (hb : b < 18446744073709551616) (h : ∀ i, i < 8 → ex a i + ex b i < 256) : mixI a b 8 = exI (a + b) 8 := by
  unfold mixI exI exL
  rw [List.map_map]
  refine List.map_congr_left fun j hj => ?_
  have hj := List.mem_range.1 hj
  rw [if_pos hj, ← ex_add ha hb h hj]
  rfl
theorem RBlk.alloc {w : World} {g : Nat} {t : TR} (h : RBlk w g t) (o : Obj) : RBlk (w.alloc o) g t := (Below.heap_alloc w o g h.lt).trans h
theorem RBlk.grown {w w' : World} {g : Nat} {t : TR} {row : Option Nat} (h : RBlk w g t) (hg : w.grownBy w' row) (hne : row ≠ some g) : RBlk w' g t := (hg.block g h.lt (fun e => hne e.symm)).trans h
theorem RBlk.cellE {w : World} {g : Nat} {t : TR} (h : RBlk w g t) {i : Nat} (hi : i < 8) : w.cell? ⟨g, i, none⟩ = some (.int .i64 ((ex t.m i : Nat) : Int)) := by
  unfold RBlk at h
  rw [cell_of_row w g i _ _ (0, 0) h]
  match i, hi with
  | 0, _ => rfl
  | 1, _ => rfl
  | 2, _ => rfl
  | 3, _ => rfl
  | 4, _ => rfl
  | 5, _ => rfl
  | 6, _ => rfl
  | 7, _ => rfl
set_option maxRecDepth 100000 in
set_option maxHeartbeats 12800000 in
theorem pshift (A : Option Addr) (c : Nat) (ts : List TR) (p : PL) (l M : Nat) (t : TR) (q : Rat) (w : World) (h : QPR l w A ts p) (ht : t.c.Ref w q) (htt : t.c.TyI w) (hl1 : t.c.ns.length ≤ M) (hl2 : t.c.ds.length ≤ M) (hl : l + M ≤ 4000) (hw : Words p) (hm : t.m < 18446744073709551616)
    (hex : ∀ u ∈ p, ∀ i, i < 8 → ex u.1 i + ex t.m i < 256) (h4 : ts.length ≤ 4000) :
    Calls Tryz.prog 64 #[.slice A ts.length c, .agg #[.int .i64 (ex t.m 0 : Nat), .int .i64 (ex t.m 1 : Nat), .int .i64 (ex t.m 2 : Nat), .int .i64 (ex t.m 3 : Nat), .int .i64 (ex t.m 4 : Nat), .int .i64 (ex t.m 5 : Nat), .int .i64 (ex t.m 6 : Nat), .int .i64 (ex t.m 7 : Nat), .bool t.c.s, .slice t.c.N t.c.ns.length t.c.nc, .slice t.c.D t.c.ds.length t.c.dc]] w (QP (l + M + 1) (p.map fun u => (u.1 + t.m, u.2 * q)) w) := by
  have HH := Lib.hid h
  have HT := Lib.hid ht
  have HTT := Lib.hid htt
  have HW := Lib.hid hw
  have HEX := Lib.hid hex
  have kt := RBlk.new w t
  have hb0 : Below w.heap.size w (w.alloc (.cells #[.int .i64 (ex t.m 0 : Nat), .int .i64 (ex t.m 1 : Nat), .int .i64 (ex t.m 2 : Nat), .int .i64 (ex t.m 3 : Nat), .int .i64 (ex t.m 4 : Nat), .int .i64 (ex t.m 5 : Nat), .int .i64 (ex t.m 6 : Nat), .int .i64 (ex t.m 7 : Nat), .bool t.c.s, .slice t.c.N t.c.ns.length t.c.nc, .slice t.c.D t.c.ds.length t.c.dc] 82)) := (Below.refl _ _).alloc (Nat.le_refl _) _
  clear h ht htt hw hex
  go_enter Tryz.func64, Tryz.ntmps64
  go_upto_region 2 with fail
  obtain ⟨w0, hw0⟩ : ∃ x, w.alloc (.cells #[.int .i64 (ex t.m 0 : Nat), .int .i64 (ex t.m 1 : Nat), .int .i64 (ex t.m 2 : Nat), .int .i64 (ex t.m 3 : Nat), .int .i64 (ex t.m 4 : Nat), .int .i64 (ex t.m 5 : Nat), .int .i64 (ex t.m 6 : Nat), .int .i64 (ex t.m 7 : Nat), .bool t.c.s, .slice t.c.N t.c.ns.length t.c.nc, .slice t.c.D t.c.ds.length t.c.dc] 82) = x := ⟨_, rfl⟩
  rw [hw0] at kt hb0 ⊢
  clear hw0
  go_wp2_with fail
  go_loopw [5, 12] (fun v si wr => ∃ (us : List TR), us.length ≤ ts.length ∧ si = .int .i64 us.length ∧ OwnR (w.heap.size + 1) wr v us ∧ QHolds (l + M + 1) wr us ((p.map fun u => (u.1 + t.m, u.2 * q)).take us.length) ∧ RBlk wr w.heap.size t ∧ Below w.heap.size w wr) (fun _ si _ => ts.length - (intOf si).toNat)
  case atStart => exact ⟨[], by simp, rfl, OwnR.nil_ _ _, QHolds.nil_ _ _, kt, hb0⟩
  case round =>
    obtain ⟨us, hk, rfl, hown, hus, kt1, hbw⟩ := hrel
    obtain ⟨wo, rfl⟩ : ∃ x : World, x = wr := ⟨_, rfl⟩
    clear hb0 kt
    have HUS := Lib.hid hus
    have hwo := kt1.lt
    clear hus
    by_cases hlt : us.length < ts.length
    · obtain ⟨ad, u, rfl, hb, hu, hc⟩ := (HH.out.below hbw).rd.ask hlt
      obtain ⟨r0, hp, hur, hut, hul1, hul2⟩ := (HH.out.below hbw).hs.2 _ u hu.out
      have hmem := List.mem_of_getElem? hp
      have hwu : u.m < 18446744073709551616 := HW.out _ hmem
      have hxx : ∀ i, i < 8 → ex u.m i + ex t.m i < 256 := HEX.out _ hmem
      have HXX := Lib.hid hxx
      have HGET : Hid ((p.map fun u => (u.1 + t.m, u.2 * q))[us.length]? = some (u.m + t.m, r0 * q)) := by show _ = _; rw [List.getElem?_map, hp]; rfl
      have HMIX := Lib.hid (mixI_all hwu hm hxx)
      have HUR := Lib.hid hur
      have HUT := Lib.hid hut
      obtain ⟨c0, c1, c2, c3, c4, c5, c6, c7, c8, c9, c10⟩ := hc
      have ku := RBlk.new wo u
      have hbu : Below wo.heap.size wo (wo.alloc (.cells #[.int .i64 (ex u.m 0 : Nat), .int .i64 (ex u.m 1 : Nat), .int .i64 (ex u.m 2 : Nat), .int .i64 (ex u.m 3 : Nat), .int .i64 (ex u.m 4 : Nat), .int .i64 (ex u.m 5 : Nat), .int .i64 (ex u.m 6 : Nat), .int .i64 (ex u.m 7 : Nat), .bool u.c.s, .slice u.c.N u.c.ns.length u.c.nc, .slice u.c.D u.c.ds.length u.c.dc] 82)) := (Below.refl _ _).alloc (Nat.le_refl _) _
      clear hp hmem hxx hur hut hu
      go_upto_region 6 with fail
      clear c0 c1 c2 c3 c4 c5 c6 c7 c8 c9 c10
      obtain ⟨w1, hw1⟩ : ∃ x, wo.alloc (.cells #[.int .i64 (ex u.m 0 : Nat), .int .i64 (ex u.m 1 : Nat), .int .i64 (ex u.m 2 : Nat), .int .i64 (ex u.m 3 : Nat), .int .i64 (ex u.m 4 : Nat), .int .i64 (ex u.m 5 : Nat), .int .i64 (ex u.m 6 : Nat), .int .i64 (ex u.m 7 : Nat), .bool u.c.s, .slice u.c.N u.c.ns.length u.c.nc, .slice u.c.D u.c.ds.length u.c.dc] 82) = x := ⟨_, rfl⟩
      have hs1 : w1.heap.size = wo.heap.size + 1 := by rw [← hw1]; simp
      rw [hw1] at ku hbu
      try rw [hw1]
      obtain ⟨w2, hw2⟩ : ∃ x, w1.alloc (.cells #[.int .i64 (ex u.m 0 : Nat), .int .i64 (ex u.m 1 : Nat), .int .i64 (ex u.m 2 : Nat), .int .i64 (ex u.m 3 : Nat), .int .i64 (ex u.m 4 : Nat), .int .i64 (ex u.m 5 : Nat), .int .i64 (ex u.m 6 : Nat), .int .i64 (ex u.m 7 : Nat)] 80) = x := ⟨_, rfl⟩
      have hI : IRow w2 (wo.heap.size + 1) (mixI u.m t.m 0) := by rw [mixI_zero, ← hw2, ← hs1]; exact IRow.new w1 (exI u.m 8)
      have hb12 : Below w1.heap.size w1 w2 := by rw [← hw2]; exact (Below.refl _ _).alloc (Nat.le_refl _) _
      rw [hw2]
      have ku2 := ku.below hb12
      have hb2 : Below wo.heap.size wo w2 := hbu.trans (hb12.mono hbu.size)
      have kt2 := kt1.below hb2
      clear hw1 hw2 ku hbu hb12
      go_wp2_with fail
      go_loopw [9, 18] (fun _ sj wq => ∃ (i : Nat), i ≤ 8 ∧ sj = .int .i64 i ∧ IRow wq (wo.heap.size + 1) (mixI u.m t.m i) ∧ RBlk wq wo.heap.size u ∧ RBlk wq w.heap.size t ∧ Below wo.heap.size wo wq) (fun _ sj _ => 8 - (intOf sj).toNat)
      case atStart => exact ⟨0, by omega, rfl, hI, ku2, kt2, hb2⟩
      case round =>
        obtain ⟨i, hi, rfl, hI1, ku3, kt3, hbq⟩ := hrel
        clear hI ku2 kt2 hb2
        by_cases hil : i < 8
        · have e1 := hI1.cell (mixI_get u.m t.m hil)
          have e2 := kt3.cellE hil
          have e3 := hI1.frozen i
          have hx := HXX.out i hil
          have hsum : ((ex u.m i : Nat) : Int) + ((ex t.m i : Nat) : Int) = ((ex u.m i + ex t.m i : Nat) : Int) := by omega
          have hwrap : IntKind.i64.wrap (((ex u.m i : Nat) : Int) + ((ex t.m i : Nat) : Int)) = ((ex u.m i + ex t.m i : Nat) : Int) := by rw [hsum]; exact IntWalk.i64_in _ (by omega)
          have hil2 : (i : Int) < 8 := by omega
          clear hsum
          go_upto_region 9 with fail
          refine wp_region_last 9 (S := fun w' => w'.cell? ⟨wo.heap.size + 1, i, none⟩ = some (.int .i64 (ex u.m i : Nat)) ∧ w'.cell? ⟨w.heap.size, i, none⟩ = some (.int .i64 (ex t.m i : Nat))) (by kernel_rfl) ?_ (fun hHeld => ?_)
          · exact ⟨e1, e2⟩
          refine wpAnyL_take (i := 0) (v := ?v0L2) rfl (by kernel_rfl) (by kernel_rfl) (by kernel_rfl) (fun _ _ _ h => h) (by kernel_rfl) (by kernel_rfl) (Or.inl ⟨by rfl, ?hy0L2⟩) (by assumption) ?rest0L2
          case hy0L2 =>
            intro w hSw
            (try dsimp only at hSw)
            go_simp
            all_goals with_reducible rfl
          simp only [Act.put, List.getElem_toArray, List.getElem_cons_zero, List.setIfInBounds_toArray, List.set_cons_zero, List.set_cons_succ]
          refine wpAnyL_take (i := 1) (v := ?v1L2) rfl (by kernel_rfl) (by kernel_rfl) (by kernel_rfl) (fun _ _ _ h => h) (by kernel_rfl) (by kernel_rfl) (Or.inl ⟨by rfl, ?hy1L2⟩) (by assumption) ?rest1L2
          case hy1L2 =>
            intro w hSw
            (try dsimp only at hSw)
            go_simp
            all_goals with_reducible rfl
          simp only [Act.put, List.getElem_toArray, List.getElem_cons_zero, List.getElem_cons_succ, List.setIfInBounds_toArray, List.set_cons_zero, List.set_cons_succ]
          refine wpAnyL_take (i := 2) (v := ?v2L2) rfl (by kernel_rfl) (by kernel_rfl) (by kernel_rfl) (fun _ _ _ h => h) (by kernel_rfl) (by kernel_rfl) (Or.inl ⟨by rfl, ?hy2L2⟩) (by assumption) ?rest2L2
          case hy2L2 =>
            intro w hSw
            (try dsimp only at hSw)
            go_simp
            all_goals with_reducible rfl
          simp only [Act.put, List.getElem_toArray, List.getElem_cons_zero, List.getElem_cons_succ, List.setIfInBounds_toArray, List.set_cons_zero, List.set_cons_succ]
          refine wpAnyL_take (i := 3) (v := ?v3L2) rfl (by kernel_rfl) (by kernel_rfl) (by kernel_rfl) (fun _ _ _ h => h) (by kernel_rfl) (by kernel_rfl) (Or.inl ⟨by rfl, ?hy3L2⟩) (by assumption) ?rest3L2
          case hy3L2 =>
            intro w hSw
            (try dsimp only at hSw)
            go_simp
            all_goals with_reducible rfl
          simp only [Act.put, List.getElem_toArray, List.getElem_cons_zero, List.getElem_cons_succ, List.setIfInBounds_toArray, List.set_cons_zero, List.set_cons_succ]
          refine wpAnyL_take (i := 4) (v := ?v4L2) rfl (by kernel_rfl) (by kernel_rfl) (by kernel_rfl) (fun _ _ _ h => h) (by kernel_rfl) (by kernel_rfl) (Or.inl ⟨by rfl, ?hy4L2⟩) (by assumption) ?rest4L2
          case hy4L2 =>
            intro w hSw
            (try dsimp only at hSw)
            go_simp
            all_goals with_reducible rfl
          simp only [Act.put, List.getElem_toArray, List.getElem_cons_zero, List.getElem_cons_succ, List.setIfInBounds_toArray, List.set_cons_zero, List.set_cons_succ]
          refine wpAnyL_take (i := 5) (v := ?v5L2) rfl (by kernel_rfl) (by kernel_rfl) (by kernel_rfl) (fun _ _ _ h => h) (by kernel_rfl) (by kernel_rfl) (Or.inl ⟨by rfl, ?hy5L2⟩) (by assumption) ?rest5L2
          case hy5L2 =>
            intro w hSw
            (try dsimp only at hSw)
            go_simp
            all_goals with_reducible rfl
          simp only [Act.put, List.getElem_toArray, List.getElem_cons_zero, List.getElem_cons_succ, List.setIfInBounds_toArray, List.set_cons_zero, List.set_cons_succ]
          refine wpAnyL_take (i := 6) (v := ?v6L2) rfl (by kernel_rfl) (by kernel_rfl) (by kernel_rfl) (fun _ _ _ h => h) (by kernel_rfl) (by kernel_rfl) (Or.inl ⟨by rfl, ?hy6L2⟩) (by assumption) ?rest6L2
          case hy6L2 =>
            intro w hSw
            (try dsimp only at hSw)
            go_simp
            all_goals with_reducible rfl
          simp only [Act.put, List.getElem_toArray, List.getElem_cons_zero, List.getElem_cons_succ, List.setIfInBounds_toArray, List.set_cons_zero, List.set_cons_succ]
          refine wpAnyL_take (i := 7) (v := ?v7L2) rfl (by kernel_rfl) (by kernel_rfl) (by kernel_rfl) (fun _ _ _ h => h) (by kernel_rfl) (by kernel_rfl) (Or.inl ⟨by rfl, ?hy7L2⟩) (by assumption) ?rest7L2
          case hy7L2 =>
            intro w hSw
            (try dsimp only at hSw)
            go_simp
            all_goals with_reducible rfl
          simp only [Act.put, List.getElem_toArray, List.getElem_cons_zero, List.getElem_cons_succ, List.setIfInBounds_toArray, List.set_cons_zero, List.set_cons_succ]
          refine wpAnyL_take (i := 8) (v := ?v8L2) rfl (by kernel_rfl) (by kernel_rfl) (by kernel_rfl) (fun _ _ _ h => h) (by kernel_rfl) (by kernel_rfl) (Or.inl ⟨by rfl, ?hy8L2⟩) (by assumption) ?rest8L2
          case hy8L2 =>
            intro w hSw
            (try dsimp only at hSw)
            go_simp
            all_goals with_reducible rfl
          simp only [Act.put, List.getElem_toArray, List.getElem_cons_zero, List.getElem_cons_succ, List.setIfInBounds_toArray, List.set_cons_zero, List.set_cons_succ]
          refine wpAnyL_last (by kernel_rfl) (by kernel_rfl) (by kernel_rfl) rfl (fun K hK => ?_)
          clear hHeld
          go_simp
          refine hK.out _ _ ?_
          clear hK K
          try simp only [Act.put, List.getElem_toArray, List.getElem_cons_zero, List.getElem_cons_succ, List.setIfInBounds_toArray, List.set_cons_zero, List.set_cons_succ]
          go_wp2_with fail
          go_roundw
          case rel =>
            refine ⟨i + 1, by omega, by go_num, ?_, ?_, ?_, (below_drew_ hbq 1).setCell (by simp) _⟩
            · rw [← mixI_set]
              exact hI1.set_ i _
            · exact (Below.heap_setCell _ ⟨wo.heap.size + 1, i, none⟩ _ wo.heap.size (by simp)).trans ku3
            · exact (Below.heap_setCell _ ⟨wo.heap.size + 1, i, none⟩ _ w.heap.size (by simp; omega)).trans kt3
          case measure => simp [intOf]; omega
        · obtain rfl : i = 8 := by omega
          rw [HMIX.out] at hI1
          have HQ3 := Lib.hid hbq
          have HOWN := Lib.hid hown
          have hovl : u5.ownBlock ≠ some wo.heap.size := fun e => by have := (World.ownsRow.lt hown _ e).2; omega
          have hovr : u5.ownBlock ≠ some (wo.heap.size + 1) := fun e => by have := (World.ownsRow.lt hown _ e).2; omega
          have hovt : u5.ownBlock ≠ some w.heap.size := fun e => by have := (World.ownsRow.lt hown _ e).1; omega
          have hu3 := ku3.facts
          have ht3 := kt3.facts
          have hwt : w.heap.size < wr.heap.size := kt3.lt
          have hlu : wo.heap.size < wr.heap.size := ku3.lt
          obtain ⟨i0, hi0, hz0, hz1, hz2⟩ := info_parts info_rterm
          clear hown
          go_upto_region 11 with fail
          refine wp_region_last 10 (S := fun w' => w'.cell? ⟨wo.heap.size + 1, 0, none⟩ = some (.int .i64 (ex (u.m + t.m) 0 : Nat)) ∧ w'.cell? ⟨wo.heap.size + 1, 1, none⟩ = some (.int .i64 (ex (u.m + t.m) 1 : Nat)) ∧ w'.cell? ⟨wo.heap.size + 1, 2, none⟩ = some (.int .i64 (ex (u.m + t.m) 2 : Nat)) ∧ w'.cell? ⟨wo.heap.size + 1, 3, none⟩ = some (.int .i64 (ex (u.m + t.m) 3 : Nat)) ∧ w'.cell? ⟨wo.heap.size + 1, 4, none⟩ = some (.int .i64 (ex (u.m + t.m) 4 : Nat)) ∧ w'.cell? ⟨wo.heap.size + 1, 5, none⟩ = some (.int .i64 (ex (u.m + t.m) 5 : Nat)) ∧ w'.cell? ⟨wo.heap.size + 1, 6, none⟩ = some (.int .i64 (ex (u.m + t.m) 6 : Nat)) ∧ w'.cell? ⟨wo.heap.size + 1, 7, none⟩ = some (.int .i64 (ex (u.m + t.m) 7 : Nat)) ∧ w'.cell? ⟨wo.heap.size, 8, none⟩ = some (.bool u.c.s) ∧ w'.cell? ⟨wo.heap.size, 9, none⟩ = some (.slice u.c.N u.c.ns.length u.c.nc) ∧ w'.cell? ⟨wo.heap.size, 10, none⟩ = some (.slice u.c.D u.c.ds.length u.c.dc) ∧ w'.cell? ⟨w.heap.size, 8, none⟩ = some (.bool t.c.s) ∧ w'.cell? ⟨w.heap.size, 9, none⟩ = some (.slice t.c.N t.c.ns.length t.c.nc) ∧ w'.cell? ⟨w.heap.size, 10, none⟩ = some (.slice t.c.D t.c.ds.length t.c.dc)) (by kernel_rfl) ?_ (fun hHeld => ?_)
          · exact ⟨hI1.ex8 0 (by omega), hI1.ex8 1 (by omega), hI1.ex8 2 (by omega), hI1.ex8 3 (by omega), hI1.ex8 4 (by omega), hI1.ex8 5 (by omega), hI1.ex8 6 (by omega), hI1.ex8 7 (by omega), ku3.facts.c8, ku3.facts.c9, ku3.facts.c10, kt3.facts.c8, kt3.facts.c9, kt3.facts.c10⟩
          refine wpAnyL_take (i := 0) (v := ?v0L1) rfl (by kernel_rfl) (by kernel_rfl) (by kernel_rfl) (fun _ _ _ h => h) (by kernel_rfl) (by kernel_rfl) (Or.inl ⟨by rfl, ?hy0L1⟩) (by assumption) ?rest0L1
          case hy0L1 =>
            intro w hSw
            (try dsimp only at hSw)
            go_simp
            all_goals with_reducible rfl
          simp only [Act.put, List.getElem_toArray, List.getElem_cons_zero, List.setIfInBounds_toArray, List.set_cons_zero, List.set_cons_succ]
          refine wpAnyL_take (i := 1) (v := ?v1L1) rfl (by kernel_rfl) (by kernel_rfl) (by kernel_rfl) (fun _ _ _ h => h) (by kernel_rfl) (by kernel_rfl) (Or.inl ⟨by rfl, ?hy1L1⟩) (by assumption) ?rest1L1
          case hy1L1 =>
            intro w hSw
            (try dsimp only at hSw)
            go_simp
            all_goals with_reducible rfl
          simp only [Act.put, List.getElem_toArray, List.getElem_cons_zero, List.getElem_cons_succ, List.setIfInBounds_toArray, List.set_cons_zero, List.set_cons_succ]
          refine wpAnyL_take (i := 2) (v := ?v2L1) rfl (by kernel_rfl) (by kernel_rfl) (by kernel_rfl) (fun _ _ _ h => h) (by kernel_rfl) (by kernel_rfl) (Or.inl ⟨by rfl, ?hy2L1⟩) (by assumption) ?rest2L1
          case hy2L1 =>
            intro w hSw
            (try dsimp only at hSw)
            go_simp
            all_goals with_reducible rfl
          simp only [Act.put, List.getElem_toArray, List.getElem_cons_zero, List.getElem_cons_succ, List.setIfInBounds_toArray, List.set_cons_zero, List.set_cons_succ]
          refine wpAnyL_take (i := 3) (v := ?v3L1) rfl (by kernel_rfl) (by kernel_rfl) (by kernel_rfl) (fun _ _ _ h => h) (by kernel_rfl) (by kernel_rfl) (Or.inl ⟨by rfl, ?hy3L1⟩) (by assumption) ?rest3L1
          case hy3L1 =>
            intro w hSw
            (try dsimp only at hSw)
            go_simp
            all_goals with_reducible rfl
          simp only [Act.put, List.getElem_toArray, List.getElem_cons_zero, List.getElem_cons_succ, List.setIfInBounds_toArray, List.set_cons_zero, List.set_cons_succ]
          refine wpAnyL_take (i := 4) (v := ?v4L1) rfl (by kernel_rfl) (by kernel_rfl) (by kernel_rfl) (fun _ _ _ h => h) (by kernel_rfl) (by kernel_rfl) (Or.inl ⟨by rfl, ?hy4L1⟩) (by assumption) ?rest4L1
          case hy4L1 =>
            intro w hSw
            (try dsimp only at hSw)
            go_simp
            all_goals with_reducible rfl
          simp only [Act.put, List.getElem_toArray, List.getElem_cons_zero, List.getElem_cons_succ, List.setIfInBounds_toArray, List.set_cons_zero, List.set_cons_succ]
          refine wpAnyL_take (i := 5) (v := ?v5L1) rfl (by kernel_rfl) (by kernel_rfl) (by kernel_rfl) (fun _ _ _ h => h) (by kernel_rfl) (by kernel_rfl) (Or.inl ⟨by rfl, ?hy5L1⟩) (by assumption) ?rest5L1
          case hy5L1 =>
            intro w hSw
            (try dsimp only at hSw)
            go_simp
            all_goals with_reducible rfl
          simp only [Act.put, List.getElem_toArray, List.getElem_cons_zero, List.getElem_cons_succ, List.setIfInBounds_toArray, List.set_cons_zero, List.set_cons_succ]
          refine wpAnyL_next 6 (by kernel_rfl) rfl (fun K hK => ?_)
          clear hHeld
          go_simp
          refine (rmulqT u.c t.c _ _ _ (HUR.out.below (HQ3.out.drew)) (HT.out.below ((hbw.trans (HQ3.out.mono hbw.size)).drew)) (by omega)).mono ?_
          rintro e' wx ⟨r, rfl, hr, hrt, hrl1, hrl2, hbx⟩
          have hbx3 : Below wr.heap.size wr wx := by first | exact below_of_drew hbx (Nat.le_refl _) | exact hbx
          have HQX := Lib.hid (HQ3.out.trans (hbx3.mono HQ3.out.size))
          have kux := ku3.below hbx3
          have ktx := kt3.below hbx3
          have hIx := hI1.below hbx3
          have hxs := HQX.out.size
          have hIxl := hIx.lt
          have hkul := kux.lt
          go_wp2_with fail
          refine hK.out _ _ ?_ (fun hHeld => ?_)
          · exact ⟨hIx.ex8 0 (by omega), hIx.ex8 1 (by omega), hIx.ex8 2 (by omega), hIx.ex8 3 (by omega), hIx.ex8 4 (by omega), hIx.ex8 5 (by omega), hIx.ex8 6 (by omega), hIx.ex8 7 (by omega), kux.facts.c8, kux.facts.c9, kux.facts.c10, ktx.facts.c8, ktx.facts.c9, ktx.facts.c10⟩
          clear hK K
          try simp only [Act.put, List.getElem_toArray, List.getElem_cons_zero, List.getElem_cons_succ, List.setIfInBounds_toArray, List.set_cons_zero, List.set_cons_succ]
          refine wpAnyL_take (i := 7) (v := ?v7L1) rfl (by kernel_rfl) (by kernel_rfl) (by kernel_rfl) (fun _ _ _ h => h) (by kernel_rfl) (by kernel_rfl) (Or.inl ⟨by rfl, ?hy7L1⟩) (by assumption) ?rest7L1
          case hy7L1 =>
            intro w hSw
            (try dsimp only at hSw)
            go_simp
            all_goals with_reducible rfl
          simp only [Act.put, List.getElem_toArray, List.getElem_cons_zero, List.getElem_cons_succ, List.setIfInBounds_toArray, List.set_cons_zero, List.set_cons_succ]
          refine wpAnyL_next 8 (by kernel_rfl) rfl (fun K hK => ?_)
          clear hHeld
          go_simp
          refine hK.out _ _ ?_ (fun hHeld => ?_)
          · exact ⟨(hIx.alloc _).ex8 0 (by omega), (hIx.alloc _).ex8 1 (by omega), (hIx.alloc _).ex8 2 (by omega), (hIx.alloc _).ex8 3 (by omega), (hIx.alloc _).ex8 4 (by omega), (hIx.alloc _).ex8 5 (by omega), (hIx.alloc _).ex8 6 (by omega), (hIx.alloc _).ex8 7 (by omega), (kux.alloc _).facts.c8, (kux.alloc _).facts.c9, (kux.alloc _).facts.c10, (ktx.alloc _).facts.c8, (ktx.alloc _).facts.c9, (ktx.alloc _).facts.c10⟩
          clear hK K
          try simp only [Act.put, List.getElem_toArray, List.getElem_cons_zero, List.getElem_cons_succ, List.setIfInBounds_toArray, List.set_cons_zero, List.set_cons_succ]
          refine wpAnyL_next 9 (by kernel_rfl) rfl (fun K hK => ?_)
          clear hHeld
          refine step_append_lies _ rfl _ _ _ rfl (w.heap.size + 1) 82 i0 _ 11 120 Tryz.underlying31 hi0 hz0 hz1 hz2 rfl (by omega) u5 us.length (flatR us) rfl (World.ownsRow.alloc (HOWN.out.below HQX.out) _)
            ⟨wx.heap.size, 0, none⟩ 1 1 [.int .i64 (ex (u.m + t.m) 0 : Nat), .int .i64 (ex (u.m + t.m) 1 : Nat), .int .i64 (ex (u.m + t.m) 2 : Nat), .int .i64 (ex (u.m + t.m) 3 : Nat), .int .i64 (ex (u.m + t.m) 4 : Nat), .int .i64 (ex (u.m + t.m) 5 : Nat), .int .i64 (ex (u.m + t.m) 6 : Nat), .int .i64 (ex (u.m + t.m) 7 : Nat), .bool r.s, .slice r.N r.ns.length r.nc, .slice r.D r.ds.length r.dc] rfl rfl (World.news_of_block (cs := #[.int .i64 (ex (u.m + t.m) 0 : Nat), .int .i64 (ex (u.m + t.m) 1 : Nat), .int .i64 (ex (u.m + t.m) 2 : Nat), .int .i64 (ex (u.m + t.m) 3 : Nat), .int .i64 (ex (u.m + t.m) 4 : Nat), .int .i64 (ex (u.m + t.m) 5 : Nat), .int .i64 (ex (u.m + t.m) 6 : Nat), .int .i64 (ex (u.m + t.m) 7 : Nat), .bool r.s, .slice r.N r.ns.length r.nc, .slice r.D r.ds.length r.dc]) (t := 82) (fr := (0, 0)) (heap_alloc_new _ _)) (by simp [Value.oneCell'])
            (by omega) (by unfold maxLen; omega) (by omega) (by simp; omega) (wx.heap.size + 1) (by simp) ?_
          intro gg cap w4 hown4 hgrow hat hlt4
          have ku4 := (kux.alloc _).grown hgrow hovl
          have kt4 := (ktx.alloc _).grown hgrow hovt
          have hI4 := (hIx.alloc _).grown hgrow hovr
          refine hK.out _ _ ?_ (fun hHeld => ?_)
          · exact ⟨hI4.ex8 0 (by omega), hI4.ex8 1 (by omega), hI4.ex8 2 (by omega), hI4.ex8 3 (by omega), hI4.ex8 4 (by omega), hI4.ex8 5 (by omega), hI4.ex8 6 (by omega), hI4.ex8 7 (by omega), ku4.facts.c8, ku4.facts.c9, ku4.facts.c10, kt4.facts.c8, kt4.facts.c9, kt4.facts.c10⟩
          clear hK K
          try simp only [Act.put, List.getElem_toArray, List.getElem_cons_zero, List.getElem_cons_succ, List.setIfInBounds_toArray, List.set_cons_zero, List.set_cons_succ]
          refine wpAnyL_last (by kernel_rfl) (by kernel_rfl) (by kernel_rfl) rfl (fun K hK => ?_)
          clear hHeld
          go_simp
          refine hK.out _ _ ?_
          clear hK K
          try simp only [Act.put, List.getElem_toArray, List.getElem_cons_zero, List.getElem_cons_succ, List.setIfInBounds_toArray, List.set_cons_zero, List.set_cons_succ]
          have hoff : Off wx w4 := ((Off.refl wx).alloc _).grown hgrow (fun g hg => ⟨82, by decide, ownsRow_type (World.ownsRow.alloc (HOWN.out.below HQX.out) _) g hg⟩)
          obtain ⟨o1, o2, o3⟩ := of_step ((HUS.out.off (Off.of_below HQX.out)).off hoff) (hr.off hrt hoff) (hrt.off hoff) (by omega) (by omega) rfl HGET.out hown4
          have HO1 := Lib.hid o1
          have HO2 := Lib.hid o2
          have HKT := Lib.hid kt4
          clear hoff hr hrt o1 o2 hI4 hIx kux ktx hI1 ku3 kt3 ku4 kt4 hu3 ht3
          go_wp2_with fail
          go_roundw
          case rel =>
            have hqx := HQX.out
            have hbt : Below w.heap.size w w4 := hbw.trans ((hqx.mono hbw.size).trans (((Below.refl _ _).alloc (by omega) _).grown hgrow (by simp; omega) fun g hg => by have := (World.ownsRow.lt HOWN.out g hg).1; omega))
            refine ⟨us ++ [(⟨u.m + t.m, r⟩ : TR)], ?_, ?_, HO1.out, ?_, HKT.out, hbt⟩
            · rw [o3]; omega
            · rw [o3]; go_num
            · rw [o3]; exact HO2.out
          case measure => simp [intOf]; omega
    · have hle : us.length = ts.length := by omega
      obtain ⟨VA, vc, rfl, hvc, hvr, hvn, hvlt⟩ := hown.form
      have hpl : (p.map fun u => (u.1 + t.m, u.2 * q)).take ts.length = p.map fun u => (u.1 + t.m, u.2 * q) := List.take_of_length_le (by rw [List.length_map, HH.out.hs.1]; exact Nat.le_refl _)
      have HTE : Hid (QHolds (l + M + 1) wo us (p.map fun u => (u.1 + t.m, u.2 * q))) := by have := HUS.out; rw [hle, hpl] at this; exact this
      clear hpl hle
      go_wp2
      go_ret
      exact ⟨VA, vc, us, rfl, hvc, ⟨hvr, HTE.out⟩, hbw⟩
end Go.Proofs.YtlbfoclhkdlafaaGreatDoor


/- isochroneref03.put onto nothing. -/
attribute [local go_sem ↓] Go.wp_at_zero Go.wp_at_succ
namespace Go.Proofs.YtlbfoclhkdlafaaGreatDoor
open Go.RowKit V

theorem RL.Ref.npos {w : World} {a : RL} {q : Rat} (h : a.Ref w q) (hq : q ≠ 0) : 0 < a.ns.length := by
  rcases Nat.eq_zero_or_pos a.ns.length with h0 | h0
  · exfalso
    have hz := h.q.2.1
    rw [List.eq_nil_of_length_eq_zero h0] at hz
    have hz2 : q.num.natAbs = 0 := by rw [← hz]; rfl
    exact hq (Rat.num_eq_zero.1 (Int.natAbs_eq_zero.1 hz2))
  · exact h0
set_option maxRecDepth 100000 in
set_option maxHeartbeats 3200000 in
theorem pput_nil (m L : Nat) (a : RL) (q : Rat) (w : World) (ha : a.Ref w q) (hty : a.TyI w) (hq : q ≠ 0) (l1 : a.ns.length ≤ L) (l2 : a.ds.length ≤ L) :
    Calls Tryz.prog 63 #[.slice none 0 0, .agg #[.int .i64 (ex m 0 : Nat), .int .i64 (ex m 1 : Nat), .int .i64 (ex m 2 : Nat), .int .i64 (ex m 3 : Nat), .int .i64 (ex m 4 : Nat), .int .i64 (ex m 5 : Nat), .int .i64 (ex m 6 : Nat), .int .i64 (ex m 7 : Nat)], .agg #[.bool a.s, .slice a.N a.ns.length a.nc, .slice a.D a.ds.length a.dc]] w (QP L [(m, q)] w) := by
  have hnp := ha.npos hq
  have HA := Lib.hid ha
  have HT := Lib.hid hty
  have hsg : ¬ sgnI a.s a.ns.length = 0 := by unfold sgnI; rw [if_neg (by omega)]; cases a.s <;> simp
  have HS := Lib.hid (fun W => rsign a.s a.N a.D a.ns.length a.nc a.ds.length a.dc W)
  obtain ⟨S, hS⟩ : ∃ S, sgnI a.s a.ns.length = S := ⟨_, rfl⟩
  rw [hS] at HS hsg
  clear ha hty hq hS
  go_enter Tryz.func63, Tryz.ntmps63
  go_upto_region 1 with fail
  obtain ⟨w1, hw1⟩ : ∃ x, w.alloc (.cells #[.int .i64 (ex m 0 : Nat), .int .i64 (ex m 1 : Nat), .int .i64 (ex m 2 : Nat), .int .i64 (ex m 3 : Nat), .int .i64 (ex m 4 : Nat), .int .i64 (ex m 5 : Nat), .int .i64 (ex m 6 : Nat), .int .i64 (ex m 7 : Nat)] 80) = x := ⟨_, rfl⟩
  obtain ⟨w2, hw2⟩ : ∃ x, w1.alloc (.cells #[.bool a.s, .slice a.N a.ns.length a.nc, .slice a.D a.ds.length a.dc] 46) = x := ⟨_, rfl⟩
  have hs1 : w1.heap.size = w.heap.size + 1 := by rw [← hw1]; simp
  have hI : IRow w2 w.heap.size (exI m 8) := by rw [← hw2, ← hw1]; exact (IRow.new w (exI m 8)).alloc _
  have kc : BlkT 46 w2 (w.heap.size + 1) (.bool a.s) (.slice a.N a.ns.length a.nc) (.slice a.D a.ds.length a.dc) := by rw [← hw2, ← hs1]; exact BlkT.new _ _ _ _ _
  have hb2 : Below w.heap.size w w2 := by rw [← hw2, ← hw1]; exact ((Below.refl _ _).alloc (Nat.le_refl _) _).alloc (by simp) _
  try rw [hw1]
  rw [hw2]
  clear hw1 hw2 hs1
  obtain ⟨c0, c1, c2, c3, c4, c5, c6⟩ := kc.facts
  go_wp2_with fail
  refine (HS.out _).mono ?_
  rintro e w3 ⟨rfl, hb3⟩
  have hw3 := hb2.trans (hb3.mono hb2.size)
  have hI3 := hI.below hb3
  have kc3 := kc.below hb3
  clear c0 c1 c2 c3 c4 c5 c6 hI kc hb2 hb3 HS
  have e0 := hI3.ex8 0 (by omega)
  have e1 := hI3.ex8 1 (by omega)
  have e2 := hI3.ex8 2 (by omega)
  have e3 := hI3.ex8 3 (by omega)
  have e4 := hI3.ex8 4 (by omega)
  have e5 := hI3.ex8 5 (by omega)
  have e6 := hI3.ex8 6 (by omega)
  have e7 := hI3.ex8 7 (by omega)
  obtain ⟨c0, c1, c2, c3, c4, c5, c6⟩ := kc3.facts
  have hws := hw3.size
  go_wp2_with fail
  go_loopw [7, 15] (fun _ si wr => si = .int .i64 0 ∧ w3 = wr) (fun _ _ _ => 0)
  case atStart => exact ⟨rfl, rfl⟩
  case round =>
    obtain ⟨rfl, rfl⟩ := hrel
    go_wp2_with (at_builtin; (refine wpList_appR rfl (.tmp 56) (.tmp 60) 32 rfl Tryz.underlying32 w3.heap.size _ [] ⟨m, a⟩ rfl (OwnR.nil_ _ _) rfl (Nat.le_refl _) (by simp) ?_); intro v' w4 hown4 hb4 hof4)
    obtain ⟨X, xc, hv, hxc, hxr, _, _⟩ := hown4.form
    go_ret
    refine ⟨X, xc, [⟨m, a⟩], by rw [hv]; rfl, hxc, ⟨hxr, ?_⟩, hw3.trans (hb4.mono hw3.size)⟩
    exact (QHolds.nil_ L w4).snoc (((HA.out.below hw3).off (HT.out.below hw3) hof4)) ((HT.out.below hw3).off hof4) l1 l2
end Go.Proofs.YtlbfoclhkdlafaaGreatDoor


/- isochroneref03.Mul of two polynomials of one term. -/
attribute [local go_sem ↓] Go.wp_at_zero Go.wp_at_succ
namespace Go.Proofs.YtlbfoclhkdlafaaGreatDoor
open Go.RowKit V

set_option maxRecDepth 100000 in
set_option maxHeartbeats 6400000 in
theorem pmul1 (A B : Option Addr) (c d L : Nat) (ts us : List TR) (a b : Nat) (p q : Rat) (w : World) (ha : QPR L w A ts [(a, p)]) (hb : QPR L w B us [(b, q)]) (hL : L ≤ 1000) (hab : ∀ i, i < 8 → ex b i + ex a i < 256) (h1 : a < 18446744073709551616) (h2 : b < 18446744073709551616) (hpq : q * p ≠ 0) :
    Calls Tryz.prog 20 #[.slice A ts.length c, .slice B us.length d] w (QP (L + L + 1) [(b + a, q * p)] w) := by
  have hla : ts.length = 1 := ha.hs.1
  have hlb : us.length = 1 := hb.hs.1
  have HA := Lib.hid ha
  have HB := Lib.hid hb
  have HAB := Lib.hid hab
  have HPQ := Lib.hid hpq
  have HLA := Lib.hid hla
  have HLB := Lib.hid hlb
  rw [hla]
  clear ha hb hab hpq hla hlb
  go_enter Tryz.func20, Tryz.ntmps20
  go_wp2_with fail
  go_loopw [5, 12] (fun sv si wr => Below w.heap.size w wr ∧ ((si = .int .i64 0 ∧ sv = .slice none 0 0) ∨ (si = .int .i64 1 ∧ ∃ X xc xs, sv = .slice X (xs : List TR).length xc ∧ xs.length ≤ xc ∧ Hid (QPR (L + L + 1) wr X xs [(b + a, q * p)])))) (fun _ si _ => 1 - (intOf si).toNat)
  case atStart => exact ⟨Below.refl _ _, .inl ⟨rfl, rfl⟩⟩
  case round =>
    obtain ⟨hbw, ⟨rfl, rfl⟩ | ⟨rfl, X, xc, xs, rfl, hxc, hx⟩⟩ := hrel
    · obtain ⟨ad, t, rfl, hbl, ht, hc⟩ := (HA.out.below hbw).rd.ask (k := 0) (by have := HLA.out; omega)
      obtain ⟨p2, hp2, htr, htt, htl1, htl2⟩ := (HA.out.below hbw).hs.2 0 t ht.out
      have hp3 : a = t.m ∧ p = p2 := by
        injection hp2 with h
        injection h with h3 h4
        exact ⟨h3, h4⟩
      obtain ⟨rfl, rfl⟩ := hp3
      obtain ⟨wo, rfl⟩ : ∃ x : World, x = wr := ⟨_, rfl⟩
      have HSH := Lib.hid (fun W (hW : Below wo.heap.size wo W) => pshift B d us [(b, q)] L L t p W ((HB.out.below hbw).below hW) (htr.below hW) (htt.below hW) htl1 htl2 (by omega) (fun x hx => by simp at hx; rw [hx]; exact h2) h1 (fun x hx i hi => by simp at hx; rw [hx]; exact HAB.out i hi) (by have := HLB.out; omega))
      rw [Nat.zero_mul, add_zero_] at hc
      obtain ⟨c0, c1, c2, c3, c4, c5, c6, c7, c8, c9, c10⟩ := hc
      clear hp2 htr htt ht
      go_wp2_with fail
      refine (HSH.out _ ((Below.refl _ _).alloc (Nat.le_refl _) _)).mono ?_
      rintro e w2 ⟨Y, yc, ys, rfl, hyc, hy, hb2⟩
      have hy1 : QPR (L + L + 1) w2 Y ys [(b + t.m, q * p)] := hy
      have hly : ys.length = 1 := hy1.hs.1
      have hw2 : Below w.heap.size w w2 := hbw.trans ((((Below.refl _ _).alloc (Nat.le_refl _) _).trans (hb2.mono (by simp))).mono hbw.size)
      have HY := Lib.hid hy1
      have HLY := Lib.hid hly
      rw [hly]
      clear hy hy1 hly hb2 HSH c0 c1 c2 c3 c4 c5 c6 c7 c8 c9 c10
      go_wp2_with fail
      go_loopw [5, 20] (fun sv si wr => Below w2.heap.size w2 wr ∧ ((si = .int .i64 0 ∧ sv = .slice none 0 0) ∨ (si = .int .i64 1 ∧ ∃ X xc xs, sv = .slice X (xs : List TR).length xc ∧ xs.length ≤ xc ∧ Hid (QPR (L + L + 1) wr X xs [(b + t.m, q * p)])))) (fun _ si _ => 1 - (intOf si).toNat)
      case atStart => exact ⟨Below.refl _ _, .inl ⟨rfl, rfl⟩⟩
      case round =>
        obtain ⟨hbq, ⟨rfl, rfl⟩ | ⟨rfl, X, xc, xs, rfl, hxc, hx⟩⟩ := hrel
        · obtain ⟨bd, v, rfl, hbl2, hv, hc⟩ := (HY.out.below hbq).rd.ask (k := 0) (by have := HLY.out; omega)
          obtain ⟨r2, hr2, hvr, hvt, hvl1, hvl2⟩ := (HY.out.below hbq).hs.2 0 v hv.out
          have hr3 : b + t.m = v.m ∧ q * p = r2 := by
            injection hr2 with h
            injection h with h3 h4
            exact ⟨h3, h4⟩
          rw [hr3.2] at HPQ
          have HPT := Lib.hid (fun W (hW : Below wr.heap.size wr W) => pput_nil v.m (L + L + 1) v.c r2 W (hvr.below hW) (hvt.below hW) HPQ.out hvl1 hvl2)
          have HR3 := Lib.hid hr3
          rw [Nat.zero_mul, add_zero_] at hc
          obtain ⟨c0, c1, c2, c3, c4, c5, c6, c7, c8, c9, c10⟩ := hc
          clear hr2 hr3 hvr hvt hv
          go_wp2_with fail
          refine (HPT.out _ ((Below.refl _ _).alloc (Nat.le_refl _) _)).mono ?_
          rintro e w3 ⟨Z, zc, zs, rfl, hzc, hz, hb3⟩
          have hq3 : Below w2.heap.size w2 w3 := hbq.trans ((((Below.refl _ _).alloc (Nat.le_refl _) _).trans (hb3.mono (by simp))).mono hbq.size)
          have HZ : Hid (QPR (L + L + 1) w3 Z zs [(b + t.m, q * p)]) := by show QPR _ _ _ _ _; rw [HR3.out.1, HR3.out.2]; exact hz
          clear hz
          go_wp2_with fail
          go_roundw
          case rel => exact ⟨hq3, .inr ⟨rfl, Z, zc, zs, rfl, hzc, HZ⟩⟩
          case measure => simp [intOf]
        · have HX := Lib.hid hx.out
          clear hx
          go_wp2_with fail
          go_roundw
          case rel => exact ⟨hw2.trans (hbq.mono hw2.size), .inr ⟨rfl, X, xc, xs, rfl, hxc, HX.out⟩⟩
          case measure => simp [intOf]
    · go_wp2
      go_ret
      exact ⟨X, xc, xs, rfl, hxc, hx.out, hbw⟩
end Go.Proofs.YtlbfoclhkdlafaaGreatDoor

