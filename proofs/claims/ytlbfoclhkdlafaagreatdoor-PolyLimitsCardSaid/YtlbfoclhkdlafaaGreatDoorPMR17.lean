/- rat.Valid. -/
import Derived.Test.YtlbfoclhkdlafaaGreatDoorPMR16
import Derived.Deep.DeepCutAuto
import Derived.Deep.RegionHeld3
namespace Go.Proofs.YtlbfoclhkdlafaaGreatDoor
open Go.RowKit V

/-- Which numbers are valid. -/
def RVal (s : Bool) (ns ds : List Nat) : Prop := Ok ns ∧ Ok ds ∧ 0 < ds.length ∧ (s = true → 0 < ns.length) ∧ Nat.gcd (V32 ns) (V32 ds) = 1
theorem RL.Is.okv {w : World} {a : RL} {q : Rat} (h : a.Is w q) (l1 : a.ns.length ≤ 4096) (l2 : a.ds.length ≤ 4096) : RVal a.s a.ns a.ds := by
  refine ⟨⟨l1, h.mn.2⟩, ⟨l2, h.md.2⟩, h.dpos, fun hs => ?_, h.q.cop⟩
  rcases Nat.eq_zero_or_pos a.ns.length with h0 | h0
  · have := h.q.zero (by rw [List.eq_nil_of_length_eq_zero h0]; simp [V32, val])
    rw [hs] at this; cases this
  · exact h0
theorem RVal.is {w : World} {s : Bool} {N D : Option Addr} {nc dc : Nat} {ns ds : List Nat} (h : RVal s ns ds) (rn : Rd .u32 w N ns) (rd : Rd .u32 w D ds) (cn : ns.length ≤ nc) (cd : ds.length ≤ dc) (dn : Dig 4294967296 ns) (dd : Dig 4294967296 ds) :
    RL.Is w ⟨s, N, nc, ns, D, dc, ds⟩ (mkRat (sgn s (V32 ns)) (V32 ds)) := by
  obtain ⟨h1, h2, h3, h4, h5⟩ := h
  have mn : Mag ns := ⟨dn, h1.2⟩
  have md : Mag ds := ⟨dd, h2.2⟩
  refine ⟨rn, rd, mn, md, cn, cd, QOf.mk_ (V32_pos md h3) h5 fun h0 => ?_⟩
  cases s with
  | false => rfl
  | true => have := V32_pos mn (h4 rfl); dsimp only at h0; omega

set_option maxHeartbeats 400000 in
theorem qvalid_no1 (s : Bool) (N D : Option Addr) (nc dc : Nat) (ns ds : List Nat) (w : World) (rn : Rd .u32 w N ns) (h : ¬ Ok ns) :
    Calls Tryz.prog 58 #[.agg #[.bool s, .slice N ns.length nc, .slice D ds.length dc]] w (Gives (.bool false) w) := by
  have hb : Below w.heap.size w (w.alloc (.cells #[.bool s, .slice N ns.length nc, .slice D ds.length dc] 27)) := (Below.refl _ _).alloc (Nat.le_refl _) _
  go_enter Tryz.func58, Tryz.ntmps58
  go_wp2_with fail
  refine (valid_no N nc ns _ (rn.below hb) h).mono ?_
  rintro e w1 ⟨rfl, rfl⟩
  go_wp2
  go_ret
  exact ⟨rfl, hb⟩
set_option maxHeartbeats 400000 in
theorem qvalid_no2 (s : Bool) (N D : Option Addr) (nc dc : Nat) (ns ds : List Nat) (w : World) (rn : Rd .u32 w N ns) (rd : Rd .u32 w D ds) (h1 : Ok ns) (h : ¬ Ok ds) :
    Calls Tryz.prog 58 #[.agg #[.bool s, .slice N ns.length nc, .slice D ds.length dc]] w (Gives (.bool false) w) := by
  have hb : Below w.heap.size w (w.alloc (.cells #[.bool s, .slice N ns.length nc, .slice D ds.length dc] 27)) := (Below.refl _ _).alloc (Nat.le_refl _) _
  go_enter Tryz.func58, Tryz.ntmps58
  go_wp2_with fail
  refine (valid_yes N nc ns _ (rn.below hb) h1).mono ?_
  rintro e w1 ⟨rfl, rfl⟩
  go_wp2_with fail
  refine (valid_no D dc ds _ (rd.below hb) h).mono ?_
  rintro e w1 ⟨rfl, rfl⟩
  go_wp2
  go_ret
  exact ⟨rfl, hb⟩
set_option maxHeartbeats 800000 in
theorem qvalid_no3 (s : Bool) (N D : Option Addr) (nc dc : Nat) (ns ds : List Nat) (w : World) (rn : Rd .u32 w N ns) (rd : Rd .u32 w D ds) (h1 : Ok ns) (h2 : Ok ds) (h : ds.length = 0 ∨ (0 < ds.length ∧ s = true ∧ ns.length = 0)) :
    Calls Tryz.prog 58 #[.agg #[.bool s, .slice N ns.length nc, .slice D ds.length dc]] w (Gives (.bool false) w) := by
  have hb : Below w.heap.size w (w.alloc (.cells #[.bool s, .slice N ns.length nc, .slice D ds.length dc] 27)) := (Below.refl _ _).alloc (Nat.le_refl _) _
  have V1 := Lib.hid (valid_yes N nc ns _ (rn.below hb) h1)
  have V2 := Lib.hid (valid_yes D dc ds _ (rd.below hb) h2)
  rcases h with h | ⟨h, rfl, h3⟩
  · obtain rfl : ds = [] := List.eq_nil_of_length_eq_zero h
    go_enter Tryz.func58, Tryz.ntmps58
    go_wp2_with fail
    refine V1.out.mono ?_
    rintro e w1 ⟨rfl, rfl⟩
    go_wp2_with fail
    refine V2.out.mono ?_
    rintro e w1 ⟨rfl, rfl⟩
    go_wp2
    go_ret
    exact ⟨rfl, hb⟩
  · obtain rfl : ns = [] := List.eq_nil_of_length_eq_zero h3
    have hne : ((ds.length : Int) == 0) = false := beq_eq_false_iff_ne.2 (by omega)
    go_enter Tryz.func58, Tryz.ntmps58
    go_wp2_with fail
    refine V1.out.mono ?_
    rintro e w1 ⟨rfl, rfl⟩
    go_wp2_with fail
    refine V2.out.mono ?_
    rintro e w1 ⟨rfl, rfl⟩
    go_wp2
    go_ret
    exact ⟨rfl, hb⟩

set_option maxRecDepth 100000 in
set_option maxHeartbeats 1600000 in
theorem qvalid_gcd (s : Bool) (N D : Option Addr) (nc dc : Nat) (ns ds : List Nat) (w : World) (rn : Rd .u32 w N ns) (rd : Rd .u32 w D ds) (cn : ns.length ≤ nc) (cd : ds.length ≤ dc) (dn : Dig 4294967296 ns) (dd : Dig 4294967296 ds) (h1 : Ok ns) (h2 : Ok ds) (hpos : 0 < ds.length) (hs : s = true → 0 < ns.length) (r : Bool) (hv : r = true ↔ Nat.gcd (V32 ns) (V32 ds) = 1) :
    Calls Tryz.prog 58 #[.agg #[.bool s, .slice N ns.length nc, .slice D ds.length dc]] w (Gives (.bool r) w) := by
  have mn : Mag ns := ⟨dn, h1.2⟩
  have md : Mag ds := ⟨dd, h2.2⟩
  have l1 := h1.1
  have l2 := h2.1
  have HR := Lib.hid hv
  clear hv
  have hk := Blk3.new w (.bool s) (.slice N ns.length nc) (.slice D ds.length dc)
  have hb : Below w.heap.size w (w.alloc (.cells #[.bool s, .slice N ns.length nc, .slice D ds.length dc] 27)) := (Below.refl _ _).alloc (Nat.le_refl _) _
  have V1 := Lib.hid (valid_yes N nc ns _ (rn.below hb) h1)
  have V2 := Lib.hid (valid_yes D dc ds _ (rd.below hb) h2)
  have hne : ((ds.length : Int) == 0) = false := beq_eq_false_iff_ne.2 (by omega)
  have hsn : s = false ∨ (s = true ∧ ((ns.length : Int) == 0) = false) := by
    cases s with
    | false => exact .inl rfl
    | true => exact .inr ⟨rfl, beq_eq_false_iff_ne.2 (by have := hs rfl; omega)⟩
  have HS := Lib.hid hs
  clear hs
  rcases hsn with rfl | ⟨rfl, hsn⟩
  all_goals
    go_enter Tryz.func58, Tryz.ntmps58
    go_wp2_with fail
    refine V1.out.mono ?_
    rintro e w1 ⟨rfl, rfl⟩
    go_wp2_with fail
    refine V2.out.mono ?_
    rintro e w1 ⟨rfl, rfl⟩
    go_wp2_with fail
    refine (isone_any D dc ds _ (rd.below hb) (by omega) md).mono ?_
    rintro e w2 ⟨he, n2, hwe⟩
    obtain ⟨o, ho⟩ : ∃ o, Hid (decide (V32 ds = 1) = o) := ⟨_, Lib.hid rfl⟩
    rw [ho.out] at he
    subst he
    have hb2 : Below w.heap.size w w2 := by rw [hwe]; exact below_drew_ hb n2
    have hk2 := hk.below (w' := w2) (by rw [hwe]; exact below_drew_ (Below.refl _ _) n2)
    clear hwe
    obtain ⟨a0, a1, a2, a3, a4, a5, a6⟩ := hk2.facts
    cases o
    · go_wp2_with fail
      refine (qgcd N D nc dc ns ds _ (rn.below hb2) (rd.below hb2) cn cd l1 l2 mn md).mono ?_
      rintro e w3 ⟨G, gc, gs, rfl, hgc, hg, hb3, hvg, mg⟩
      have hgl : gs.length ≤ ds.length := md.len_le mg (by rw [hvg]; exact Nat.gcd_le_right _ (V32_pos md hpos))
      have hrg : Hid (decide (V32 gs = 1) = r) := by show _ = _; rw [Bool.eq_iff_iff, decide_eq_true_iff, hvg, HR.out]
      clear hvg
      go_wp2_with fail
      refine (isone_any G gc gs _ hg (by omega) mg).mono ?_
      rintro e w4 ⟨he, n4, hwe⟩
      rw [hrg.out] at he
      subst he
      have hb4 : Below w.heap.size w w4 := by rw [hwe]; exact below_drew_ (hb2.trans (hb3.mono hb2.size)) n4
      clear hwe
      go_wp2
      go_ret
      exact ⟨rfl, hb4⟩
    · have hrt : Hid (true = r) := by
        show _ = _
        exact (HR.out.2 (by rw [of_decide_eq_true ho.out, Nat.gcd_one_right])).symm
      go_wp2
      go_ret
      exact ⟨ret_bool hrt.out, hb2⟩

theorem qvalid (s : Bool) (N D : Option Addr) (nc dc : Nat) (ns ds : List Nat) (w : World) (rn : Rd .u32 w N ns) (rd : Rd .u32 w D ds) (cn : ns.length ≤ nc) (cd : ds.length ≤ dc) (dn : Dig 4294967296 ns) (dd : Dig 4294967296 ds) (v : Bool) (hv : v = true ↔ RVal s ns ds) :
    Calls Tryz.prog 58 #[.agg #[.bool s, .slice N ns.length nc, .slice D ds.length dc]] w (Gives (.bool v) w) := by
  have hf : ¬ RVal s ns ds → v = false := fun h => by cases v with
    | false => rfl
    | true => exact absurd (hv.1 rfl) h
  by_cases h1 : Ok ns
  · by_cases h2 : Ok ds
    · by_cases h3 : ds.length = 0 ∨ (0 < ds.length ∧ s = true ∧ ns.length = 0)
      · rw [hf fun h => by rcases h3 with h3 | ⟨_, h3, h4⟩
                           · have := h.2.2.1; omega
                           · have := h.2.2.2.1 h3; omega]
        exact qvalid_no3 s N D nc dc ns ds w rn rd h1 h2 h3
      · have hpos : 0 < ds.length := by omega
        have hs : s = true → 0 < ns.length := fun h => by
          rcases Nat.eq_zero_or_pos ns.length with h0 | h0
          · exact absurd (.inr ⟨hpos, h, h0⟩) h3
          · exact h0
        exact qvalid_gcd s N D nc dc ns ds w rn rd cn cd dn dd h1 h2 hpos hs v (hv.trans ⟨fun h => h.2.2.2.2, fun h => ⟨h1, h2, hpos, hs, h⟩⟩)
    · rw [hf fun h => h2 h.2.1]; exact qvalid_no2 s N D nc dc ns ds w rn rd h1 h2
  · rw [hf fun h => h1 h.1]; exact qvalid_no1 s N D nc dc ns ds w rn h1
theorem qvalid_yes (a : RL) (q : Rat) (w : World) (h : a.Is w q) (l1 : a.ns.length ≤ 4096) (l2 : a.ds.length ≤ 4096) :
    Calls Tryz.prog 58 #[.agg #[.bool a.s, .slice a.N a.ns.length a.nc, .slice a.D a.ds.length a.dc]] w (Gives (.bool true) w) :=
  qvalid a.s a.N a.D a.nc a.dc a.ns a.ds w h.rn h.rd h.cn h.cd h.mn.1 h.md.1 true ⟨fun _ => h.okv l1 l2, fun _ => rfl⟩
end Go.Proofs.YtlbfoclhkdlafaaGreatDoor


/- The document's rational numbers: isochroneref02's Of, To, Same, Is, None, Short. -/
namespace Go.Proofs.YtlbfoclhkdlafaaGreatDoor
open Go.RowKit V

/-- A rational number of the document's: digits to the base 10000. -/
structure RL.Ref (w : World) (a : RL) (q : Rat) : Prop where
  rn : Rd .i64 w a.N a.ns
  rd : Rd .i64 w a.D a.ds
  mn : Nm a.ns
  md : Nm a.ds
  q : QOf a.s (VD a.ns) (VD a.ds) q
theorem RL.Ref.below {w w' : World} {a : RL} {q : Rat} (h : a.Ref w q) (hb : Below w.heap.size w w') : a.Ref w' q :=
  ⟨h.rn.below hb, h.rd.below hb, h.mn, h.md, h.q⟩
theorem RL.Ref.put3 {t : TypeId} {w : World} {a : RL} {q : Rat} {g n c d e : Nat} {p : Bool} {N D : Option Addr} (h : a.Ref w q) (hb : BlkT t w g (.bool p) (.slice N n c) (.slice D d e)) (x y z : Value) : a.Ref (Go.Proofs.YtlbfoclhkdlafaaGreatDoor.put3 w g x y z) q :=
  ⟨h.rn.put3 hb x y z, h.rd.put3 hb x y z, h.mn, h.md, h.q⟩
theorem RL.Ref.dpos {w : World} {a : RL} {q : Rat} (h : a.Ref w q) : 0 < a.ds.length := by
  rcases Nat.eq_zero_or_pos a.ds.length with h0 | h0
  · have := h.q.pos
    rw [List.eq_nil_of_length_eq_zero h0] at this
    simp [VD, val] at this
  · exact h0
def RefP (q : Rat) (L M : Nat) (w : World) (e : Ending) (w' : World) : Prop :=
  ∃ r : RL, e = .returned (.agg #[.bool r.s, .slice r.N r.ns.length r.nc, .slice r.D r.ds.length r.dc]) ∧ r.Ref w' q ∧ r.ns.length ≤ L ∧ r.ds.length ≤ M ∧ Below w.heap.size w w'
theorem RefP.put {t : TypeId} {w w' : World} {q : Rat} {L M g n c d e : Nat} {p : Bool} {N D : Option Addr} (r : RL) (hi : r.Ref w' q) (hb : BlkT t w' g (.bool p) (.slice N n c) (.slice D d e)) (hg : w.heap.size ≤ g) (hw : Below w.heap.size w w') (l1 : r.ns.length ≤ L) (l2 : r.ds.length ≤ M) :
    RefP q L M w (.returned (.agg #[.bool r.s, .slice r.N r.ns.length r.nc, .slice r.D r.ds.length r.dc])) (Go.Proofs.YtlbfoclhkdlafaaGreatDoor.put3 w' g (.bool r.s) (.slice r.N r.ns.length r.nc) (.slice r.D r.ds.length r.dc)) :=
  ⟨r, rfl, hi.put3 hb _ _ _, l1, l2, below_put3 hw hg _ _ _⟩
/-- Two and three boxes. -/
theorem boxes2 (t1 t2 : TypeId) (w : World) (a b c r s t : Value) : BlkT t1 ((w.alloc (.cells #[a, b, c] t1)).alloc (.cells #[r, s, t] t2)) w.heap.size a b c ∧
    BlkT t2 ((w.alloc (.cells #[a, b, c] t1)).alloc (.cells #[r, s, t] t2)) (w.heap.size + 1) r s t ∧ Below w.heap.size w ((w.alloc (.cells #[a, b, c] t1)).alloc (.cells #[r, s, t] t2)) := by
  refine ⟨(BlkT.new t1 w a b c).alloc _, ?_, ((Below.refl _ _).alloc (Nat.le_refl _) _).alloc (by simp) _⟩
  have := BlkT.new t2 (w.alloc (.cells #[a, b, c] t1)) r s t
  rwa [show (w.alloc (.cells #[a, b, c] t1)).heap.size = w.heap.size + 1 by simp] at this

theorem short_words {xs ys : List Nat} (mx : Mag xs) (h : V32 xs = VD ys) (my : Nm ys) {k : Nat} (hl : ys.length ≤ k) : xs.length ≤ k := by
  refine len_of_lt (B := 4294967296) (by omega) mx.2 ?_
  show V32 xs < _
  rw [h]
  have h1 := val_lt 10000 ys my.1
  have h2 : 10000 ^ ys.length ≤ 10000 ^ k := Nat.pow_le_pow_right (by omega) hl
  have h3 : (10000 : Nat) ^ k ≤ 4294967296 ^ k := Nat.pow_le_pow_left (by omega) k
  unfold VD
  omega

set_option maxRecDepth 100000 in
set_option maxHeartbeats 1600000 in
theorem qto (a : RL) (q : Rat) (w : World) (ha : a.Ref w q) (l1 : a.ns.length ≤ 100000) (l2 : a.ds.length ≤ 100000) :
    Calls Tryz.prog 42 #[.agg #[.bool a.s, .slice a.N a.ns.length a.nc, .slice a.D a.ds.length a.dc]] w (RatP q 100000 w) := by
  go_enter Tryz.func42, Tryz.ntmps42
  go_wp2_with fail
  have hbox := boxes2 46 27 w (.bool a.s) (.slice a.N a.ns.length a.nc) (.slice a.D a.ds.length a.dc) (.bool false) (.slice none 0 0) (.slice none 0 0)
  obtain ⟨w1, hwe⟩ : ∃ x, (w.alloc (.cells #[.bool a.s, .slice a.N a.ns.length a.nc, .slice a.D a.ds.length a.dc] 46)).alloc (.cells #[.bool false, .slice none 0 0, .slice none 0 0] 27) = x := ⟨_, rfl⟩
  rw [hwe] at hbox ⊢
  obtain ⟨ka1, kr1, hb1⟩ := hbox
  have HWE := Lib.hid hwe
  clear hwe HWE
  have ha1 := ha.below hb1
  have hw1 := hb1
  clear ha hb1
  obtain ⟨a0, a1, a2, a3, a4, a5, a6⟩ := ka1.facts
  go_upto_region 1 with fail
  go_region_held3 (fun w' => w'.cell? ⟨w.heap.size, 0, none⟩ = some (.bool a.s) ∧ w'.cell? ⟨w.heap.size, 1, none⟩ = some (.slice a.N a.ns.length a.nc) ∧ w'.cell? ⟨w.heap.size, 2, none⟩ = some (.slice a.D a.ds.length a.dc)) (first | exact ⟨‹_›, ‹_›, ‹_›⟩ | go_keep)
    (first
    | (go_at_call_of 88 (Value.slice a.N a.ns.length a.nc)
       refine (words_any a.N a.nc a.ns _ (by first | exact ha1.rn | exact ha1.rn.drew | exact (ha1.rn.below hbyq) | exact (ha1.rn.below hbyq).drew) l1 ha1.mn).mono ?_
       rintro e wx_ ⟨X, xc, xs, rfl, hxc, hX, hbx, hvx, mx⟩
       have HVX := Lib.hid hvx
       clear hvx
       have hbxq : Below w1.heap.size w1 wx_ := by first | exact below_of_drew hbx (Nat.le_refl _) | exact hbx | exact hbyq.trans (hbx.mono hbyq.size) | exact hbyq.trans (below_of_drew hbx hbyq.size)
       obtain ⟨c0wx_, c1wx_, c2wx_, c3wx_, c4wx_, c5wx_, c6wx_⟩ := (ka1.below hbxq).facts
       obtain ⟨d0wx_, d1wx_, d2wx_, d3wx_, d4wx_, d5wx_, d6wx_⟩ := (kr1.below hbxq).facts)
    | (go_at_call_of 88 (Value.slice a.D a.ds.length a.dc)
       refine (words_any a.D a.dc a.ds _ (by first | exact ha1.rd | exact ha1.rd.drew | exact (ha1.rd.below hbxq) | exact (ha1.rd.below hbxq).drew) l2 ha1.md).mono ?_
       rintro e wy_ ⟨Y, yc, ys, rfl, hyc, hY, hby, hvy, my⟩
       have HVY := Lib.hid hvy
       clear hvy
       have hbyq : Below w1.heap.size w1 wy_ := by first | exact below_of_drew hby (Nat.le_refl _) | exact hby | exact hbxq.trans (hby.mono hbxq.size) | exact hbxq.trans (below_of_drew hby hbxq.size)
       obtain ⟨c0wy_, c1wy_, c2wy_, c3wy_, c4wy_, c5wy_, c6wy_⟩ := (ka1.below hbyq).facts
       obtain ⟨d0wy_, d1wy_, d2wy_, d3wy_, d4wy_, d5wy_, d6wy_⟩ := (kr1.below hbyq).facts))
  all_goals
    go_wp2_with fail
    first
      | (refine bodyPost_ret (v := .agg #[.bool a.s, .slice X xs.length xc, .slice Y ys.length yc]) (by simp [results, Tryz.results42, go_sem, d0wy_, d1wy_, d2wy_]) rfl ?_
         exact RatP.put ⟨a.s, X, xc, xs, Y, yc, ys⟩ ⟨hX.below hby, hY, mx, my, hxc, hyc, by dsimp only; rw [HVX.out, HVY.out]; exact ha1.q⟩ (kr1.below hbyq) (by omega) (hw1.trans (hbyq.mono hw1.size)) (short_words mx HVX.out ha1.mn l1) (short_words my HVY.out ha1.md l2))
      | (refine bodyPost_ret (v := .agg #[.bool a.s, .slice X xs.length xc, .slice Y ys.length yc]) (by simp [results, Tryz.results42, go_sem, d0wx_, d1wx_, d2wx_]) rfl ?_
         exact RatP.put ⟨a.s, X, xc, xs, Y, yc, ys⟩ ⟨hX, hY.below hbx, mx, my, hxc, hyc, by dsimp only; rw [HVX.out, HVY.out]; exact ha1.q⟩ (kr1.below hbxq) (by omega) (hw1.trans (hbxq.mono hw1.size)) (short_words mx HVX.out ha1.mn l1) (short_words my HVY.out ha1.md l2))
end Go.Proofs.YtlbfoclhkdlafaaGreatDoor


/- isochroneref02's Same, Is, None, Short. -/
namespace Go.Proofs.YtlbfoclhkdlafaaGreatDoor
open Go.RowKit V

theorem boxes2p (t1 t2 : TypeId) (w : World) (a b c r s t : Value) : Below w.heap.size w ((w.alloc (.cells #[a, b, c] t1)).alloc (.cells #[r, s, t] t2)) := (boxes2 t1 t2 w a b c r s t).2.2
set_option maxHeartbeats 800000 in
theorem qsame_yes (s : Bool) (N M D E : Option Addr) (nc mc dc ec : Nat) (ns ds : List Nat) (w : World) (h1 : Rd .u32 w N ns) (h2 : Rd .u32 w M ns) (h3 : Rd .u32 w D ds) (h4 : Rd .u32 w E ds) (l1 : ns.length ≤ 200000) (l2 : ds.length ≤ 200000) :
    Calls Tryz.prog 67 #[.agg #[.bool s, .slice N ns.length nc, .slice D ds.length dc], .agg #[.bool s, .slice M ns.length mc, .slice E ds.length ec]] w (Yes w) := by
  have hb := boxes2p 27 27 w (.bool s) (.slice N ns.length nc) (.slice D ds.length dc) (.bool s) (.slice M ns.length mc) (.slice E ds.length ec)
  obtain ⟨ka, kb, _⟩ := boxes2 27 27 w (.bool s) (.slice N ns.length nc) (.slice D ds.length dc) (.bool s) (.slice M ns.length mc) (.slice E ds.length ec)
  cases s
  all_goals
    go_enter Tryz.func67, Tryz.ntmps67
    go_wp2_with fail
    refine (equal_yes N M nc mc ns.length ns _ rfl (h1.below hb) (h2.below hb) l1).mono ?_
    rintro e w1 ⟨rfl, n1, hwe⟩
    have hb1 : Below w.heap.size w w1 := by rw [hwe]; exact below_drew_ hb n1
    have ka1 := ka.below (w' := w1) (by rw [hwe]; exact below_drew_ (Below.refl _ _) n1)
    have kb1 := kb.below (w' := w1) (by rw [hwe]; exact below_drew_ (Below.refl _ _) n1)
    obtain ⟨a0, a1, a2, a3, a4, a5, a6⟩ := ka1.facts
    obtain ⟨b0, b1, b2, b3, b4, b5, b6⟩ := kb1.facts
    clear hwe
    go_wp2_with fail
    refine (equal_yes D E dc ec ds.length ds _ rfl (h3.below hb1) (h4.below hb1) l2).mono ?_
    rintro e w2 ⟨rfl, n2, hwe⟩
    have hb2 : Below w.heap.size w w2 := by rw [hwe]; exact below_drew_ hb1 n2
    clear hwe
    go_wp2_with fail
    go_ret
    exact ⟨rfl, hb2⟩

end Go.Proofs.YtlbfoclhkdlafaaGreatDoor


/- rat: numbers that may not be valid, and ErrForm of every function. -/
namespace Go.Proofs.YtlbfoclhkdlafaaGreatDoor
open Go.RowKit V

/-- A number as a caller may hand it in. -/
structure RL.Raw (w : World) (a : RL) : Prop where
  rn : Rd .u32 w a.N a.ns
  rd : Rd .u32 w a.D a.ds
  cn : a.ns.length ≤ a.nc
  cd : a.ds.length ≤ a.dc
  dn : Dig 4294967296 a.ns
  dd : Dig 4294967296 a.ds
theorem RL.Raw.below {w w' : World} {a : RL} (h : a.Raw w) (hb : Below w.heap.size w w') : a.Raw w' :=
  ⟨h.rn.below hb, h.rd.below hb, h.cn, h.cd, h.dn, h.dd⟩
theorem RL.Raw.drew {w : World} {a : RL} (h : a.Raw w) : a.Raw w.drew := ⟨h.rn.drew, h.rd.drew, h.cn, h.cd, h.dn, h.dd⟩
theorem RL.Raw.alloc {w : World} {a : RL} (h : a.Raw w) (o : Obj) : a.Raw (w.alloc o) := ⟨h.rn.alloc _, h.rd.alloc _, h.cn, h.cd, h.dn, h.dd⟩
theorem RL.Is.drew {w : World} {a : RL} {q : Rat} (h : a.Is w q) : a.Is w.drew q := ⟨h.rn.drew, h.rd.drew, h.mn, h.md, h.cn, h.cd, h.q⟩
theorem RL.Is.alloc {w : World} {a : RL} {q : Rat} (h : a.Is w q) (o : Obj) : a.Is (w.alloc o) q := ⟨h.rn.alloc _, h.rd.alloc _, h.mn, h.md, h.cn, h.cd, h.q⟩
/-- It is valid. -/
def RL.Val (a : RL) : Prop := RVal a.s a.ns a.ds
theorem RL.Raw.is {w : World} {a : RL} (h : a.Raw w) (v : a.Val) : a.Is w (mkRat (sgn a.s (V32 a.ns)) (V32 a.ds)) := RVal.is v h.rn h.rd h.cn h.cd h.dn h.dd
theorem qvalid_raw (a : RL) (w : World) (h : a.Raw w) (v : Bool) (hv : v = true ↔ a.Val) :
    Calls Tryz.prog 58 #[.agg #[.bool a.s, .slice a.N a.ns.length a.nc, .slice a.D a.ds.length a.dc]] w (Gives (.bool v) w) := qvalid a.s a.N a.D a.nc a.dc a.ns a.ds w h.rn h.rd h.cn h.cd h.dn h.dd v hv
end Go.Proofs.YtlbfoclhkdlafaaGreatDoor


/- poly.validNumber and poly.validCoef. -/
namespace Go.Proofs.YtlbfoclhkdlafaaGreatDoor
open Go.RowKit V

/-- A number that may be a coefficient, or zero. -/
def RL.CN (a : RL) : Prop := a.ns.length ≤ 200 ∧ a.ds.length ≤ 200 ∧ a.Val
/-- A number that may be a coefficient. -/
def RL.CV (a : RL) : Prop := 0 < a.ns.length ∧ a.CN
set_option maxRecDepth 100000 in
set_option maxHeartbeats 800000 in
theorem pvalidNumber (a : RL) (w : World) (h : a.Raw w) (v : Bool) (hv : v = true ↔ a.CN) :
    Calls Tryz.prog 131 #[.agg #[.bool a.s, .slice a.N a.ns.length a.nc, .slice a.D a.ds.length a.dc]] w (Gives (.bool v) w) := by
  have hb : Below w.heap.size w (w.alloc (.cells #[.bool a.s, .slice a.N a.ns.length a.nc, .slice a.D a.ds.length a.dc] 27)) := (Below.refl _ _).alloc (Nat.le_refl _) _
  have HV := Lib.hid hv
  clear hv
  have hno : ¬ a.CN → v = false := fun hn => by
    cases hb : v with
    | false => rfl
    | true => exact absurd (HV.out.1 hb) hn
  by_cases h1 : a.ns.length ≤ 200
  · by_cases h2 : a.ds.length ≤ 200
    · have hval : v = true ↔ a.Val := ⟨fun e => (HV.out.1 e).2.2, fun e => HV.out.2 ⟨h1, h2, e⟩⟩
      have HVV := Lib.hid hval
      clear hval hno
      go_enter Tryz.func131, Tryz.ntmps131
      go_wp2_with fail
      refine (qvalid_raw a _ (h.below hb) v HVV.out).mono ?_
      rintro e w2 ⟨rfl, hb2⟩
      go_wp2
      go_ret
      exact ⟨rfl, hb.trans (hb2.mono hb.size)⟩
    · obtain rfl := hno fun e => h2 e.2.1
      clear hno HV
      go_enter Tryz.func131, Tryz.ntmps131
      go_wp2
      go_ret
      exact ⟨rfl, hb⟩
  · obtain rfl := hno fun e => h1 e.1
    clear hno HV
    go_enter Tryz.func131, Tryz.ntmps131
    go_wp2
    go_ret
    exact ⟨rfl, hb⟩
set_option maxRecDepth 100000 in
set_option maxHeartbeats 800000 in
theorem pvalidCoef (a : RL) (w : World) (h : a.Raw w) (v : Bool) (hv : v = true ↔ a.CV) :
    Calls Tryz.prog 85 #[.agg #[.bool a.s, .slice a.N a.ns.length a.nc, .slice a.D a.ds.length a.dc]] w (Gives (.bool v) w) := by
  have hb : Below w.heap.size w (w.alloc (.cells #[.bool a.s, .slice a.N a.ns.length a.nc, .slice a.D a.ds.length a.dc] 27)) := (Below.refl _ _).alloc (Nat.le_refl _) _
  have HV := Lib.hid hv
  clear hv
  by_cases h1 : 0 < a.ns.length
  · have hval : v = true ↔ a.CN := ⟨fun e => (HV.out.1 e).2, fun e => HV.out.2 ⟨h1, e⟩⟩
    have HVV := Lib.hid hval
    clear hval
    go_enter Tryz.func85, Tryz.ntmps85
    go_wp2_with fail
    refine (pvalidNumber a _ (h.below hb) v HVV.out).mono ?_
    rintro e w2 ⟨rfl, hb2⟩
    go_wp2
    go_ret
    exact ⟨rfl, hb.trans (hb2.mono hb.size)⟩
  · have hf : v = false := by
      cases hb : v with
      | false => rfl
      | true => exact absurd (HV.out.1 hb).1 h1
    subst hf
    clear HV
    go_enter Tryz.func85, Tryz.ntmps85
    go_wp2
    go_ret
    exact ⟨rfl, hb⟩
end Go.Proofs.YtlbfoclhkdlafaaGreatDoor


/- Numbers of the reference with the type of the blocks in which their digits lie: the words. -/
namespace Go.Proofs.YtlbfoclhkdlafaaGreatDoor
open Go.RowKit V

section
variable {k : IntKind} {e : TypeId} {B : Nat} {w w' : World} {v : Value} {xs : List Nat}
theorem Own.formT (h : Own k e B w v xs) : ∃ A c, v = .slice A xs.length c ∧ xs.length ≤ c ∧ RT k e w A xs := by
  have h' := h
  rcases h.2 with ⟨rfl, h0⟩ | ⟨g, cap, cur, rfl, _, hg, hc, _⟩
  · have : xs = [] := List.eq_nil_of_length_eq_zero h0
    subst this
    exact ⟨none, 0, rfl, Nat.le_refl _, RT.nil_⟩
  · exact ⟨_, cap, rfl, hc, Rd.of_own h', fun _ => ⟨_, cur, (0, 0), rfl, hg⟩⟩
end
theorem OutT.of_take {k : IntKind} {t : TypeId} {Q : List Nat → Prop} {w w' : World} {A : Option Addr} {c m : Nat} {fin : List Nat} (hm : m ≤ fin.length) (hc : m ≤ c) (hr : RT k t w' A fin) (hb : Below w.heap.size w w')
    (hq : Q (fin.take m)) : OutT k t Q w (.returned (.slice A m c)) w' := by
  have hl : (fin.take m).length = m := by rw [List.length_take, Nat.min_eq_left hm]
  exact ⟨A, c, fin.take m, by rw [hl], by rw [hl]; exact hc, hr.take hm, hb, hq⟩
/-- The digits lie in blocks of ints. -/
structure RL.TyI (w : World) (a : RL) : Prop where
  n : RT .i64 3 w a.N a.ns
  d : RT .i64 3 w a.D a.ds
theorem RL.TyI.off {w w' : World} {a : RL} (h : a.TyI w) (ho : Off w w') : a.TyI w' := ⟨h.n.off_ (by decide) ho, h.d.off_ (by decide) ho⟩
theorem RL.TyI.below {w w' : World} {a : RL} (h : a.TyI w) (hb : Below w.heap.size w w') : a.TyI w' := h.off (Off.of_below hb)
theorem RL.TyI.put3 {t : TypeId} {w : World} {a : RL} {g n c d e : Nat} {p : Bool} {N D : Option Addr} (h : a.TyI w) (hb : BlkT t w g (.bool p) (.slice N n c) (.slice D d e)) (x y z : Value) : a.TyI (Go.Proofs.YtlbfoclhkdlafaaGreatDoor.put3 w g x y z) :=
  ⟨h.n.put3 hb x y z, h.d.put3 hb x y z⟩
theorem RL.Ref.off {w w' : World} {a : RL} {q : Rat} (h : a.Ref w q) (ht : a.TyI w) (ho : Off w w') : a.Ref w' q := ⟨(ht.off ho).n.rd, (ht.off ho).d.rd, h.mn, h.md, h.q⟩
/-- What comes out as a number of the reference, with its blocks' type. -/
def RefT (q : Rat) (L M : Nat) (w : World) (e : Ending) (w' : World) : Prop :=
  ∃ r : RL, e = .returned (.agg #[.bool r.s, .slice r.N r.ns.length r.nc, .slice r.D r.ds.length r.dc]) ∧ r.Ref w' q ∧ r.TyI w' ∧ r.ns.length ≤ L ∧ r.ds.length ≤ M ∧ Below w.heap.size w w'
theorem RefT.put {t : TypeId} {w w' : World} {q : Rat} {L M g n c d e : Nat} {p : Bool} {N D : Option Addr} (r : RL) (hi : r.Ref w' q) (hty : r.TyI w') (hb : BlkT t w' g (.bool p) (.slice N n c) (.slice D d e)) (hg : w.heap.size ≤ g) (hw : Below w.heap.size w w') (l1 : r.ns.length ≤ L) (l2 : r.ds.length ≤ M) :
    RefT q L M w (.returned (.agg #[.bool r.s, .slice r.N r.ns.length r.nc, .slice r.D r.ds.length r.dc])) (Go.Proofs.YtlbfoclhkdlafaaGreatDoor.put3 w' g (.bool r.s) (.slice r.N r.ns.length r.nc) (.slice r.D r.ds.length r.dc)) :=
  ⟨r, rfl, hi.put3 hb _ _ _, hty.put3 hb _ _ _, l1, l2, below_put3 hw hg _ _ _⟩
end Go.Proofs.YtlbfoclhkdlafaaGreatDoor


/- The reference's Small, Of, Int, Split with the type of the blocks. -/
namespace Go.Proofs.YtlbfoclhkdlafaaGreatDoor
open Go.RowKit V

set_option maxHeartbeats 800000 in
theorem small_anyT (A : Option Addr) (ca : Nat) (xs : List Nat) (k c : Nat) (w : World) (hx : Rd .i64 w A xs) (bl : xs.length ≤ 100000) (dx : Dig 10000 xs) (hk : k ≤ 65536) (hc : c ≤ 65536) :
    Calls Tryz.prog 121 #[.slice A xs.length ca, .int .i64 k, .int .i64 c] w
      (OutT .i64 3 (fun zs => VD zs = VD xs * k + c ∧ Nm zs ∧ zs.length ≤ xs.length + 2) w) := by
  have hmk := fun W => make_cap (xs.length + 2) ((xs.length : Int) + 2) (by omega) (by omega) W
  go_enter Tryz.func121, Tryz.ntmps121
  go_wp2
  clear hmk
  go_loopw [2, 7, 9, 16] (fun cv v _ i wr => ∃ n c' : Nat, ∃ out : List Nat, n ≤ xs.length ∧ i = .int .i64 n ∧ cv = .int .i64 c' ∧ c' ≤ 65536 ∧ out.length = n ∧ Dig 10000 out ∧
      val 10000 out + 10000 ^ n * c' = val 10000 (xs.take n) * k + c ∧ Own .i64 3 w.heap.size wr v out ∧ Below w.heap.size w wr) (fun _ _ _ i _ => xs.length - (intOf i).toNat)
  case atStart => exact ⟨0, c, [], Nat.zero_le _, rfl, rfl, hc, rfl, fun _ h => by simp at h, by simp [val], Own.made (Nat.le_refl _) _ (by omega), (Below.refl _ _).alloc (Nat.le_refl _) _⟩
  case round =>
    obtain ⟨n, c', out, hn, rfl, rfl, hc', hol, hdo, hv, hown, hbw⟩ := hrel
    have HV := Lib.hid hv
    have HOL := Lib.hid hol
    clear hv hol
    by_cases hlt : n < xs.length
    · obtain ⟨ad, x, rfl, hbx, ex, cx⟩ := (hx.below hbw).ask hlt
      have hxl : x < 10000 := by rw [← ex.out]; exact dig_getD dx (by omega) n
      have hm := digit_mul x k hxl hk
      have hm0 : (0 : Int) ≤ (x : Int) * k := Int.mul_nonneg (by omega) (by omega)
      obtain ⟨s, c2, hs, hc2, hsc, es, ec⟩ : ∃ s c2 : Nat, s < 10000 ∧ c2 ≤ 65536 ∧ Hid (s + 10000 * c2 = c' + x * k) ∧ Hid (((c' : Int) + (x : Int) * k) % 10000 = s) ∧ Hid (((c' : Int) + (x : Int) * k) / 10000 = c2) := by
        have e : ((c' + x * k : Nat) : Int) = (c' : Int) + (x : Int) * k := by simp
        have e2 : c' + x * k ≤ 655360000 := by omega
        refine ⟨(c' + x * k) % 10000, (c' + x * k) / 10000, Nat.mod_lt _ (by omega), by omega, Nat.mod_add_div _ _, ?_, ?_⟩
        · show _ = _
          rw [← e]; omega
        · show _ = _
          rw [← e]; omega
      go_wp2_with (at_builtin; refine wpList_app1 rfl (.tmp 25) (.tmp 28) 44 3 rfl .i64 8 info_i64 Tryz.underlying44 (by omega) _ _ out _ s es.out rfl hown rfl hbw (Nat.le_refl _) (by have := HOL.out; omega) ?_; intro v' w' hown' hbw')
      go_roundw
      case rel => exact ⟨n + 1, c2, out ++ [s], by omega, by go_num, by rw [ec.out], hc2, by rw [List.length_append, HOL.out]; rfl, hdo.snoc hs, small_step 10000 n s c' c2 x k c out xs HOL.out hlt ex.out hsc.out HV.out, hown', hbw'⟩
      case measure => simp [intOf]; omega
    · obtain rfl : n = xs.length := by omega
      go_wp2
      go_loopw [2, 7] (fun cv v wr => ∃ c' : Nat, ∃ out : List Nat, cv = .int .i64 c' ∧ c' ≤ 65536 ∧ out.length + c' ≤ xs.length + 65536 ∧ Dig 10000 out ∧
          val 10000 out + 10000 ^ out.length * c' = VD xs * k + c ∧ Own .i64 3 w.heap.size wr v out ∧ Below w.heap.size w wr) (fun cv _ _ => (intOf cv).toNat)
      case atStart => exact ⟨c', out, rfl, hc', by have := HOL.out; omega, hdo, by have := HV.out; rw [List.take_length] at this; rw [HOL.out]; exact this, hown, hbw⟩
      case round =>
        clear hc' hdo hown hbw HV HOL hn hlt
        obtain ⟨c', out, rfl, hc', hol, hdo, hv, hown, hbw⟩ := hrel
        have HV := Lib.hid hv
        clear hv
        by_cases h0 : c' = 0
        · subst h0
          obtain ⟨O, oc, rfl, hoc, hro⟩ := hown.formT
          have HVt := HV.out
          clear hown
          have hlen : out.length ≤ 200000 := by omega
          go_wp2_with (go_at_call 157; refine (trim_i64 O oc out _ hro.rd hoc hlen).mono ?_; rintro e w1 ⟨m, hm, rfl, hv3, hn3, rfl⟩; have HV3 := Lib.hid hv3; clear hv3)
          go_ret
          have hval : VD (out.take m) = VD xs * k + c := by
            show val 10000 (out.take m) = _
            rw [HV3.out]; simpa using HV.out
          refine OutT.of_take hm (by omega) hro hbw ⟨hval, ⟨hdo.take m, hn3⟩, ?_⟩
          refine len_of_lt (B := 10000) (by omega) hn3 ?_
          show VD (out.take m) < _
          rw [hval]
          have h1 := val_lt 10000 xs dx
          have h2 : (VD xs + 1) * 65537 ≤ 10000 ^ xs.length * 65537 := Nat.mul_le_mul_right _ h1
          have h3 : VD xs * k ≤ VD xs * 65536 := Nat.mul_le_mul_left _ hk
          rw [Nat.pow_add]
          omega
        · obtain ⟨s, c2, hs, hc2, hlt2, hsc, es, ec⟩ : ∃ s c2 : Nat, s < 10000 ∧ c2 ≤ 65536 ∧ c2 < c' ∧ Hid (s + 10000 * c2 = c') ∧ Hid ((c' : Int) % 10000 = s) ∧ Hid ((c' : Int) / 10000 = c2) :=
            ⟨c' % 10000, c' / 10000, Nat.mod_lt _ (by omega), by omega, by omega, Nat.mod_add_div _ _, by show _ = _; omega, by show _ = _; omega⟩
          go_wp2_with (at_builtin; refine wpList_app1 rfl (.tmp 35) (.tmp 38) 44 3 rfl .i64 8 info_i64 Tryz.underlying44 (by omega) _ _ out _ s es.out rfl hown rfl hbw (Nat.le_refl _) (by omega) ?_; intro v' w' hown' hbw')
          go_roundw
          case rel => exact ⟨c2, out ++ [s], by rw [ec.out], hc2, by rw [List.length_append, List.length_singleton]; omega, hdo.snoc hs, flush_step 10000 s c' c2 _ out hsc.out HV.out, hown', hbw'⟩
          case measure => simp [intOf]; omega
theorem small_zT (A : Option Addr) (ca n : Nat) (xs : List Nat) (k c : Nat) (K C : Int) (w : World) (hn : xs.length = n) (hK : K = k) (hC : C = c) (hx : Rd .i64 w A xs) (bl : n ≤ 100000) (dx : Dig 10000 xs) (hk : k ≤ 65536) (hc : c ≤ 65536) :
    Calls Tryz.prog 121 #[.slice A n ca, .int .i64 K, .int .i64 C] w
      (OutT .i64 3 (fun zs => VD zs = VD xs * k + c ∧ Nm zs ∧ zs.length ≤ xs.length + 2) w) := by
  subst hK; subst hC; subst hn
  exact small_anyT A ca xs k c w hx bl dx hk hc
set_option maxHeartbeats 800000 in
theorem of_anyT (A : Option Addr) (c : Nat) (xs : List Nat) (w : World) (hx : Rd .u32 w A xs) (bl : xs.length ≤ 5000) (dx : Dig 4294967296 xs) :
    Calls Tryz.prog 66 #[.slice A xs.length c] w
      (OutT .i64 3 (fun zs => VD zs = V32 xs ∧ Nm zs ∧ zs.length ≤ 4 * xs.length) w) := by
  go_enter Tryz.func66, Tryz.ntmps66
  go_wp2
  go_loopw [3, 4] (fun v i wr => ∃ j : Int, ∃ O oc out, -1 ≤ j ∧ j < xs.length ∧ i = .int .i64 j ∧ v = .slice O out.length oc ∧ out.length ≤ oc ∧ RT .i64 3 wr O out ∧ Nm out ∧
      VD out = V32 (xs.drop (j + 1).toNat) ∧ (out.length : Int) + 4 * (j + 1) ≤ 4 * xs.length ∧ Below w.heap.size w wr) (fun _ i _ => (intOf i + 1).toNat)
  case atStart => exact ⟨_, some ⟨w.heap.size, 0, none⟩, 0, [], by omega, by omega, rfl, rfl, Nat.le_refl _, RT.nil_, nm_nil, by rw [show ((xs.length : Int) - 1 + 1).toNat = xs.length by omega, List.drop_length]; rfl, by simp, (Below.refl _ _).alloc (Nat.le_refl _) _⟩
  case round =>
    obtain ⟨j, O, oc, out, hj, hjl, rfl, rfl, hoc, hro, hno, hv, hol, hbw⟩ := hrel
    have HV := Lib.hid hv
    clear hv
    by_cases h0 : j < 0
    · go_wp2
      go_ret
      exact ⟨O, oc, out, rfl, hoc, hro, hbw, by rw [HV.out, show (j + 1).toNat = 0 by omega, List.drop_zero], hno, by omega⟩
    · obtain ⟨k, rfl⟩ := Int.eq_ofNat_of_zero_le (show 0 ≤ j by omega)
      have hkx : k < xs.length := by omega
      obtain ⟨ad, x, rfl, hbx, ex, cx⟩ := (hx.below hbw).ask hkx
      have hxl : x < 4294967296 := by rw [← ex.out]; exact dig_getD dx (by omega) k
      have h1 : Hid ((x : Int) / 65536 = (x / 65536 : Nat)) := by show _ = _; omega
      have h2 : Hid (bits BinOp.and IntKind.u32 (x : Int) 65535 = (x % 65536 : Nat)) := by
        show _ = _
        have := u32_and_nat x 65535 hxl (by omega)
        rw [nat_mask16] at this
        exact this
      have h2a : 0 ≤ bits BinOp.and IntKind.u32 (x : Int) 65535 := by rw [h2.out]; omega
      have h2b : bits BinOp.and IntKind.u32 (x : Int) 65535 ≤ 65535 := by rw [h2.out]; omega
      have hnd : Dig 10000 out := hno.1
      go_wp2_with (first
        | (go_at_call 121; (with_reducible refine (small_zT O oc _ out 65536 (x / 65536) _ _ _ rfl (by omega) h1.out hro.rd (by omega) hnd (by omega) (by omega)).mono ?_); rintro e w1 ⟨O1, oc1, out1, rfl, hoc1, hro1, hb1, hv1, ⟨hd1, hn1⟩, hl1⟩; have HV1 := Lib.hid hv1; clear hv1; have hcell1 := (hb1.cell (p := ad.add k) (by rw [block_of_add]; exact hbx)).trans cx)
        | (go_at_call 121; (with_reducible refine (small_zT O1 oc1 _ out1 65536 (x % 65536) _ _ _ rfl (by omega) h2.out hro1.rd (by omega) hd1 (by omega) (by omega)).mono ?_); rintro e w2 ⟨O2, oc2, out2, rfl, hoc2, hro2, hb2, hv2, ⟨hd2, hn2⟩, hl2⟩; have HV2 := Lib.hid hv2; clear hv2))
      go_roundw
      case rel =>
        refine ⟨_, O2, oc2, out2, by omega, by omega, rfl, rfl, hoc2, hro2, ⟨hd2, hn2⟩, ?_, by omega, (hbw.trans (hb1.mono hbw.size)).trans (hb2.mono (Nat.le_trans hbw.size hb1.size))⟩
        rw [HV2.out, HV1.out, HV.out, show ((k : Int) - 1 + 1).toNat = k by omega, show ((k : Int) + 1).toNat = k + 1 by omega]
        unfold V32
        rw [val_drop _ xs k hkx, ex.out]
        omega
      case measure => simp [intOf]
set_option maxHeartbeats 400000 in
theorem int_anyT (n : Nat) (w : World) (hn : n ≤ 9223372036854775807) :
    Calls Tryz.prog 89 #[.int .i64 n] w (OutT .i64 3 (fun zs => VD zs = n ∧ Nm zs ∧ zs.length ≤ 5) w) := by
  obtain ⟨N, HN⟩ : ∃ N, Hid (n = N) := ⟨_, rfl⟩
  go_enter Tryz.func89, Tryz.ntmps89
  go_wp2
  go_loopw [0, 3] (fun nv v wr => ∃ m : Nat, ∃ out : List Nat, nv = .int .i64 m ∧ m ≤ 9223372036854775807 ∧ val 10000 out + 10000 ^ out.length * m = N ∧ Dig 10000 out ∧ (m = 0 → Nrm out) ∧
      Own .i64 3 w.heap.size wr v out ∧ Below w.heap.size w wr) (fun nv _ _ => (intOf nv).toNat)
  case atStart => exact ⟨n, [], rfl, hn, by rw [← HN.out]; simp [val], fun _ h => by simp at h, fun _ => nrm_nil, Own.made (Nat.le_refl _) 0 (by omega), (Below.refl _ _).alloc (Nat.le_refl _) _⟩
  case round =>
    obtain ⟨m, out, rfl, hm, hv, hdo, hnz, hown, hbw⟩ := hrel
    have HV := Lib.hid hv
    have HZ := Lib.hid hnz
    clear hv hnz
    by_cases h0 : m = 0
    · subst h0
      obtain ⟨O, oc, rfl, hoc, hro⟩ := hown.formT
      clear hown
      go_wp2
      go_ret
      have hval : VD out = n := by have := HV.out; rw [HN.out]; show val 10000 out = N; simpa using this
      exact ⟨O, oc, out, rfl, hoc, hro, hbw, hval, ⟨hdo, HZ.out trivial⟩, int_len ⟨hdo, HZ.out trivial⟩ hval (by omega)⟩
    · have hlen : out.length ≤ 4 := by
        have h1 := HV.out
        have h2 : 10000 ^ out.length * 1 ≤ 10000 ^ out.length * m := Nat.mul_le_mul_left _ (by omega)
        have h3 := HN.out
        exact pow_len (N := N) (by omega) (by omega)
      obtain ⟨s, c2, hs, hc2, hlt2, hsc, es, ec⟩ : ∃ s c2 : Nat, s < 10000 ∧ c2 ≤ 9223372036854775807 ∧ c2 < m ∧ Hid (s + 10000 * c2 = m) ∧ Hid ((m : Int) % 10000 = s) ∧ Hid ((m : Int) / 10000 = c2) :=
        ⟨m % 10000, m / 10000, Nat.mod_lt _ (by omega), by omega, by omega, Nat.mod_add_div _ _, by show _ = _; omega, by show _ = _; omega⟩
      go_wp2_with (at_builtin; refine wpList_app1 rfl (.tmp 7) (.tmp 10) 44 3 rfl .i64 8 info_i64 Tryz.underlying44 (by omega) _ _ out _ s es.out rfl hown rfl hbw (Nat.le_refl _) (by omega) ?_; intro v' w' hown' hbw')
      go_roundw
      case rel => exact ⟨c2, out ++ [s], by rw [ec.out], hc2, flush_step 10000 s m c2 _ out hsc.out HV.out, hdo.snoc hs, fun h => nrm_snoc (by have := hsc.out; omega), hown', hbw'⟩
      case measure => simp [intOf]; omega
def SplitT (xs : List Nat) (k : Nat) (w : World) (e : Ending) (w' : World) : Prop :=
  ∃ A c q r, e = .returned (.tuple #[.slice A q.length c, .int .i64 (r : Nat)]) ∧ q.length ≤ c ∧ RT .i64 3 w' A q ∧ Below w.heap.size w w' ∧ Hid (VD xs = VD q * k + r) ∧ r < k ∧ Nm q ∧ q.length ≤ xs.length ∧ ∀ ad, A = some ad → w.heap.size ≤ ad.block
set_option maxHeartbeats 1000000 in
theorem split_anyT (A : Option Addr) (ca k : Nat) (xs : List Nat) (w : World) (hx : Rd .i64 w A xs) (bl : xs.length ≤ 100000) (dx : Dig 10000 xs) (hk1 : 1 ≤ k) (hk : k ≤ 65536) :
    Calls Tryz.prog 133 #[.slice A xs.length ca, .int .i64 k] w (SplitT xs k w) := by
  have hmk := fun W => make_nat xs.length xs.length rfl (by omega) W
  go_enter Tryz.func133, Tryz.ntmps133
  go_wp2
  clear hmk
  go_loopw [7, 8] (fun rv i wr => ∃ j : Int, ∃ r : Nat, ∃ cur : List Nat, -1 ≤ j ∧ j < xs.length ∧ i = .int .i64 j ∧ rv = .int .i64 r ∧ r < k ∧ cur.length = xs.length ∧ Dig 10000 cur ∧
      val 10000 (xs.drop (j + 1).toNat) = val 10000 (cur.drop (j + 1).toNat) * k + r ∧ Row .i64 3 wr w.heap.size cur ∧ Below w.heap.size w wr) (fun _ i _ => (intOf i + 1).toNat)
  case atStart => exact ⟨_, 0, _, by omega, by omega, rfl, rfl, by omega, List.length_replicate, Dig.zeros (by omega) _, by rw [show ((xs.length : Int) - 1 + 1).toNat = xs.length by omega, List.drop_length, List.drop_of_length_le (by rw [List.length_replicate]; omega)]; simp [val], Row.new _ _, (Below.refl _ _).alloc (Nat.le_refl _) _⟩
  case round =>
    obtain ⟨j, r, cur, hj, hjl, rfl, rfl, hr, hcl, hdc, hv, hrow, hbw⟩ := hrel
    have HV := Lib.hid hv
    have HCL := Lib.hid hcl
    clear hv hcl
    by_cases h0 : j < 0
    · go_wp2_with (go_at_call 157; refine (trim_i64n _ _ _ cur _ HCL.out hrow.rd (Nat.le_refl _) (by omega)).mono ?_; rintro e w1 ⟨m, hm, rfl, hv3, hn3, rfl⟩; have HV3 := Lib.hid hv3; clear hv3)
      go_ret2
      have hfl := HCL.out
      have hl : (cur.take m).length = m := by rw [List.length_take, Nat.min_eq_left hm]
      refine ⟨some ⟨w.heap.size, 0, none⟩, xs.length, cur.take m, r, by rw [hl]; rfl, by omega, hrow.rt.take hm, hbw, ?_, hr, ⟨hdc.take m, hn3⟩, by omega, fun ad h => by injection h with h; subst h; exact Nat.le_refl _⟩
      have h1 := HV.out
      rw [show (j + 1).toNat = 0 by omega, List.drop_zero, List.drop_zero] at h1
      show val 10000 xs = val 10000 (cur.take m) * k + r
      rw [HV3.out]; exact h1
    · obtain ⟨i, rfl⟩ := Int.eq_ofNat_of_zero_le (show 0 ≤ j by omega)
      have hix : i < xs.length := by omega
      obtain ⟨ad, x, rfl, hbx, ex, cx⟩ := (hx.below hbw).ask hix
      have hxl : x < 10000 := by rw [← ex.out]; exact dig_getD dx (by omega) i
      have hkc : i < cur.length := by have := HCL.out; omega
      have hcell := hrow.cell hkc
      have hfr := hrow.frozen i
      have hq : (r * 10000 + x) / k < 10000 := Nat.div_lt_of_lt_mul (by have : (r + 1) * 10000 ≤ k * 10000 := Nat.mul_le_mul_right _ hr; omega)
      obtain ⟨s, r', hs, hr', hsc, es, er⟩ : ∃ s r' : Nat, s < 10000 ∧ r' < k ∧ Hid (s * k + r' = r * 10000 + x) ∧ Hid (((r : Int) * 10000 + x) / k = s) ∧ Hid (((r : Int) * 10000 + x) % k = r') := by
        have e : ((r * 10000 + x : Nat) : Int) = (r : Int) * 10000 + x := by simp
        refine ⟨(r * 10000 + x) / k, (r * 10000 + x) % k, hq, Nat.mod_lt _ (by omega), by show _ = _; rw [Nat.mul_comm]; exact Nat.div_add_mod _ _, ?_, ?_⟩
        · show _ = _
          rw [← e]; rfl
        · show _ = _
          rw [← e]; rfl
      clear hq
      go_wp2
      go_roundw
      case rel =>
        exact ⟨_, r', cur.set i s, by omega, by omega, rfl, by rw [er.out], hr', by rw [List.length_set]; exact HCL.out, hdc.set _ hs,
          by rw [show ((i : Int) - 1 + 1).toNat = i by omega]; exact split_step 10000 i k x r s r' cur xs hkc hix ex.out hsc.out HV.out, by rw [es.out]; exact hrow.set_ i s, hbw.setCell (Nat.le_refl _) _⟩
      case measure => simp [intOf]
end Go.Proofs.YtlbfoclhkdlafaaGreatDoor

