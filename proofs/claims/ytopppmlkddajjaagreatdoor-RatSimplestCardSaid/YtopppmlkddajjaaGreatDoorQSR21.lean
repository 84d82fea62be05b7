/- What every row of this seat needs: a slice of words that came in reads as a list; the listed tables as the contracts ask for them. -/
import Derived.Test.YtopppmlkddajjaaGreatDoorQSR20
import Derived.Test.YtopppmlkddajjaaGreatDoorRows
import Derived.WalkKit
import Derived.WalkSpells
import Derived.WalkLawsBesides
import Derived.Laws.BitsAllLaws
import Derived.BigQuiet
import Derived.StillTailTactics
import Derived.Lib.LazyBuf
import Derived.Deep.LoopGhost
import Derived.Lib.ItoaNum
import Derived.Test.YtopppmlkddajjaaGreatDoorShelf
import Derived.Lib.AppendIntMem
import Derived.Laws.IdiomCopy
import Derived.Lib.SmallJoins
import Derived.Laws.IdiomStrings
import Derived.ProofKit
import Derived.LaidMore
import Derived.OpenShut
import Derived.Stop.Joined
import Derived.Stop.LaidErr
import Derived.RangeFuncBox
import Derived.RangeFuncLeaves
import Derived.RangeFuncFrom
import Derived.RangeFuncBound
import Derived.RangeFuncCalls
import Derived.Shelf.Abstract
import Derived.OwnWalkIn
import Derived.TacticsInMore
import Derived.LoopNIn
import Derived.LoopIn
namespace Go.Proofs.YtopppmlkddajjaaGreatDoor
open Go.ChangeShapes Go.WideShapes Go.ChangeAt Go.WideMaps Go.WideElems Go.RowKit V

theorem own_ : ownKnob Tryz.prog.godebug = none := by kernel_rfl
theorem gPow : Tryz.prog.globalNamed "internal/strconv.uint64pow10" = some 0 := by kernel_rfl
theorem tPow : (Tryz.prog.globals[0]?).map (·.type) = some 150 := by kernel_rfl
theorem ceU64 : Tryz.prog.cellsOf 93 = 1 := by kernel_rfl
theorem ctPow : Tryz.prog.cellsOf 150 = 20 := by kernel_rfl

/-- The three listed tables. -/
def laid3 : List (String × DataW Unit) := [("math/bits.deBruijn32tab", Rows.laid_math_bits_deBruijn32tab), ("math/bits.deBruijn64tab", Rows.laid_math_bits_deBruijn64tab), ("internal/strconv.uint64pow10", Rows.laid_internal_strconv_uint64pow10)]

theorem door_met (os : Os) (args : Array Value) : laidMetH Tryz.prog laid3 ((World.doorLaid Tryz.prog 400 os).forCall (fun _ _ => 0) ⟨#[], args, []⟩).memory :=
  laidMetH_of_parts3 (fuel := 8) (laidMet_of_run' 8 (by kernel_rfl) (by kernel_rfl)) (by kernel_rfl) (by kernel_rfl)

theorem tab_of_laid {W : World} (h : laidMetH Tryz.prog laid3 W) : Lib.TabBelow Tryz.prog W.heap.size W "internal/strconv.uint64pow10" .u64 Lib.pow10Tab := by
  rw [MakeChecks.laidMetH_plain _ _ _ (by kernel_rfl)] at h
  have h2 : laidMet Tryz.prog (("internal/strconv.uint64pow10", Lib.tabData .u64 Lib.pow10Tab) :: []) W := h.tail.tail
  exact Lib.tabBelow_of_tabIs (Lib.tabIs_of_head gPow tPow Tryz.underlying150 Tryz.underlying93 ceU64 ctPow h2)

end Go.Proofs.YtopppmlkddajjaaGreatDoor


/- slices.Backward over words: what its rounds are handed. -/
namespace Go.Proofs.YtopppmlkddajjaaGreatDoor
open Go.RowKit Go.Shelf V

attribute [local go_sem] Oper.semAt_some

/-- A place of a list. -/
abbrev Pl (xs : List Nat) := { i : Nat // i < xs.length }
/-- The places that have come when m rounds are over, from the last one downwards. -/
def dn (n m : Nat) : List Nat := (List.range m).map fun t => n - 1 - t
theorem dn_succ (n m : Nat) : dn n (m + 1) = dn n m ++ [n - 1 - m] := by simp [dn, List.range_succ]
theorem dn_length (n m : Nat) : (dn n m).length = m := by simp [dn]
abbrev encP (xs : List Nat) (x : Pl xs) : Array Value := #[.int .i64 (x.1 : Int), .int .u32 (xs.getD x.1 0 : Nat)]

set_option maxRecDepth 100000 in
set_option maxHeartbeats 2000000 in
theorem back1_in (F : Fence) (n : Nat) (h7 : F.fn 121) (hro : F.round = none) (hn : 1 ≤ n) (l Bs n₀ cap : Nat) (ad : Addr) (xs : List Nat) (hreach : xs.length ≤ 100000) (hb : ad.block < n₀) (hBn : Bs < n₀) (J Jx : List (Pl xs) → World → Prop)
    (hY : ∀ pre x W, J pre W → pre.length < xs.length → YieldAt F (n - 1) Tryz.prog l (encP xs x) W fun e W' =>
      (e = .returned (.bool true) ∧ J (pre ++ [x]) W' ∧ Below n₀ W W') ∨ (e = .returned (.bool false) ∧ Jx (pre ++ [x]) W'))
    (W : World) (hBs : W.cell? ⟨Bs, 0, none⟩ = some (.slice (some ad) xs.length cap)) (hc : ∀ j, j < xs.length → W.cell? (ad.add j) = some (.int .u32 (xs.getD j 0 : Nat))) (h0 : J [] W) :
    CallsIn F n Tryz.prog 121 #[.func (.yield l) #[] #[], .pointer (some ⟨Bs, 0, none⟩)] W fun e W' => (∃ v, e = .returned v) ∧
      ((∃ ys, ys.map (·.1) = dn xs.length xs.length ∧ J ys W') ∨ (∃ pre, (∃ k, k ≤ xs.length ∧ pre.map (·.1) = dn xs.length k) ∧ Jx pre W')) := by
  refine callsIn_of_wp Tryz.func121 rfl h7 ?_ hro
  simp only [Tryz.ntmps121, List.size_toArray, List.length_cons, List.length_nil, Nat.reduceAdd, Nat.reduceSub, Array.replicate_succ, Array.replicate_zero, List.push_toArray, List.append_toArray, List.nil_append, List.cons_append]
  gi_wp2
  gi_loopw [3] (fun i wr => ∃ j : Int, -1 ≤ j ∧ j < xs.length ∧ i = .int .i64 j ∧ (∃ pre, Hid (pre.map (·.1) = dn xs.length ((xs.length : Int) - 1 - j).toNat) ∧ J pre wr) ∧ Below n₀ W wr)
    (fun i _ => (intOf i + 1).toNat)
  case atStart => exact ⟨(xs.length : Int) - 1, by omega, by omega, rfl, ⟨[], by show _ = _; rw [show ((xs.length : Int) - 1 - ((xs.length : Int) - 1)).toNat = 0 by omega]; rfl, h0⟩, Below.refl _ _⟩
  case round =>
    obtain ⟨j, hj, hjl, rfl, ⟨pre, hpre, hJs⟩, hnx⟩ := hrel
    have hBs' : wr.cell? ⟨Bs, 0, none⟩ = some (.slice (some ad) xs.length cap) := (hnx.cell (p := ⟨Bs, 0, none⟩) hBn).trans hBs
    by_cases hlt : 0 ≤ j
    · obtain ⟨k, rfl⟩ := Int.eq_ofNat_of_zero_le hlt
      have hkx : k < xs.length := by omega
      have hcx : wr.cell? (ad.add k) = some (.int .u32 (xs.getD k 0 : Nat)) := (hnx.cell (p := ad.add k) (by rw [block_of_add]; exact hb)).trans (hc k hkx)
      obtain ⟨m, hm⟩ : ∃ m : Nat, ((xs.length : Int) - 1 - (k : Int)).toNat = m := ⟨_, rfl⟩
      have hmk : xs.length - 1 - m = k := by omega
      rw [hm] at hpre
      have hpl : pre.length = m := by have h := congrArg List.length hpre.out; rw [dn_length, List.length_map] at h; exact h
      obtain ⟨fn, tmps, assign, body, hy, hR⟩ := hY pre ⟨k, hkx⟩ wr hJs (by omega)
      dsimp only [encP] at hy
      obtain ⟨x, hx⟩ : ∃ x, xs.getD k 0 = x := ⟨_, rfl⟩
      rw [hx] at hcx hy
      have HD : Hid ((pre ++ [(⟨k, hkx⟩ : Pl xs)]).map (·.1) = dn xs.length (m + 1)) := by show _ = _; rw [dn_succ, hmk, List.map_append, hpre.out]; rfl
      have HM := Lib.hid hm
      clear hm hmk hx hpl
      gi_wp2
      refine hR.mono ?_
      rintro e W3 (⟨rfl, hJ3, hk3⟩ | ⟨rfl, hJx3⟩)
      · gi_wp2
        go_roundw
        case rel => exact ⟨_, by omega, by omega, rfl, ⟨_, by show _ = _; rw [show ((xs.length : Int) - 1 - ((k : Int) - 1)).toNat = m + 1 by have := HM.out; omega]; exact HD.out, hJ3⟩, hnx.trans hk3⟩
        case measure => simp [intOf]
      · gi_wp2
        refine bodyPost_ret (results_none rfl _ _ _) rfl ?_
        exact ⟨⟨_, rfl⟩, .inr ⟨_, ⟨m + 1, by have := HM.out; omega, HD.out⟩, hJx3⟩⟩
    · obtain rfl : j = -1 := by omega
      rw [show ((xs.length : Int) - 1 - -1).toNat = xs.length by omega] at hpre
      gi_wp2
      go_end0
      exact ⟨⟨_, rfl⟩, .inl ⟨_, hpre.out, hJs⟩⟩

set_option maxRecDepth 100000 in
set_option maxHeartbeats 1000000 in
theorem back1_nil_in {α : Type} (F : Fence) (n : Nat) (h7 : F.fn 121) (hro : F.round = none) (l Bs cap : Nat) (A : Option Addr) (J : List α → World → Prop) (W : World) (hBs : W.cell? ⟨Bs, 0, none⟩ = some (.slice A 0 cap)) (h0 : J [] W) :
    CallsIn F n Tryz.prog 121 #[.func (.yield l) #[] #[], .pointer (some ⟨Bs, 0, none⟩)] W fun e W' => (∃ v, e = .returned v) ∧ J [] W' := by
  refine callsIn_of_wp Tryz.func121 rfl h7 ?_ hro
  simp only [Tryz.ntmps121, List.size_toArray, List.length_cons, List.length_nil, Nat.reduceAdd, Nat.reduceSub, Array.replicate_succ, Array.replicate_zero, List.push_toArray, List.append_toArray, List.nil_append, List.cons_append]
  gi_wp2
  gi_loopw [3] (fun i wr => i = .int .i64 (-1) ∧ J [] wr) (fun _ _ => 0)
  case atStart => exact ⟨rfl, h0⟩
  case round =>
    obtain ⟨rfl, hJs⟩ := hrel
    gi_wp2
    go_end0
    exact ⟨⟨_, rfl⟩, hJs⟩

set_option maxHeartbeats 1000000 in
theorem back_in (F : Fence) (n : Nat) (h5 : F.fn 106) (hro : F.round = none) (a : Option Addr) (len cap : Nat) (w : World) :
    CallsIn F n Tryz.prog 106 #[.slice a len cap] w fun e w' => e = .returned (.func (.func 121) #[] #[.pointer (some ⟨w.heap.size, 0, none⟩)]) ∧ w' = w.alloc (.cells #[.slice a len cap] 22) := by
  refine callsIn_of_wp Tryz.func106 rfl h5 ?_ hro
  simp only [Tryz.ntmps106, List.size_toArray, List.length_cons, List.length_nil, Nat.reduceAdd, Nat.reduceSub, Array.replicate_succ, Array.replicate_zero, List.push_toArray, List.append_toArray, List.nil_append, List.cons_append]
  gi_wp2
  go_ret
  exact ⟨rfl, rfl⟩

theorem back_stops (F : Fence) (n : Nat) (h7 : F.fn 121) (hro : F.round = none) (hn : 1 ≤ n) (Bs n₀ cap : Nat) (A : Option Addr) (xs : List Nat) (hreach : xs.length ≤ 100000) (w : World) (hBs : Bs < n₀) (hn₀ : n₀ ≤ w.heap.size)
    (hc : w.cell? ⟨Bs, 0, none⟩ = some (.slice A xs.length cap)) (hI : Rd .u32 w A xs) (hA : ∀ ad, A = some ad → 0 < xs.length → ad.block < n₀) :
    SeqStopsK F n Tryz.prog 121 #[.pointer (some ⟨Bs, 0, none⟩)] (encP xs) (Below n₀) (fun ys => ys.map (·.1) = dn xs.length xs.length) (fun pre => ∃ k, k ≤ xs.length ∧ pre.map (·.1) = dn xs.length k) xs.length w := fun l J Jx W hW _ _ hY h0 => by
  have hc' := (hW.cell (p := ⟨Bs, 0, none⟩) (by show Bs < w.heap.size; omega)).trans hc
  rcases Nat.eq_zero_or_pos xs.length with h | h
  · have e0 : dn xs.length xs.length = [] := by rw [h]; rfl
    rw [h] at hc'
    exact (back1_nil_in F n h7 hro l Bs cap A J W hc' h0).mono fun e W' ⟨he, hj⟩ => ⟨he, .inl ⟨[], e0.symm, hj⟩⟩
  · obtain ⟨ad, rfl, hlt, hcs⟩ := hI h
    exact back1_in F n h7 hro hn l Bs n₀ cap ad xs hreach (hA ad rfl h) hBs J Jx hY W hc' (fun j hj => (hW.cell (p := ad.add j) (by rw [block_of_add]; exact hlt)).trans (hcs j hj)) h0
end Go.Proofs.YtopppmlkddajjaaGreatDoor


/- rat.compare compares the numbers of two magnitudes of any length up to 100000 words. -/
namespace Go.Proofs.YtopppmlkddajjaaGreatDoor
open Go.RowKit Go.Shelf V

attribute [local go_sem] Oper.semAt_some

theorem one_cell (W : World) (v : Value) (t : TypeId) : (W.alloc (.cells #[v] t)).cell? ⟨W.heap.size, 0, none⟩ = some v ∧ (W.alloc (.cells #[v] t)).frozen? ⟨W.heap.size, 0, none⟩ = false := by
  have h := heap_alloc_new W (.cells #[v] t)
  constructor
  · unfold World.cell?; rw [h]; rfl
  · unfold World.frozen?; rw [h]; rfl
theorem cl_alloc {W : World} {a : Addr} {v : Value} (o : Obj) (h : W.cell? a = some v) : (W.alloc o).cell? a = some v := cell_kept h (World.grownBy_alloc W o none) (fun _ e => by cases e)
theorem frz_alloc {W : World} {a : Addr} {v : Value} (o : Obj) (h : W.cell? a = some v) (hf : W.frozen? a = false) : (W.alloc o).frozen? a = false := (frozen_kept h (World.grownBy_alloc W o none) (fun _ e => by cases e)).trans hf
theorem dn_all (n i : Nat) (h : i < n) : i ∈ dn n n := List.mem_map.2 ⟨n - 1 - i, List.mem_range.2 (by omega), by omega⟩
theorem drop_same {xs ys : List Nat} (hl : xs.length = ys.length) {k : Nat} (h : ∀ i, k ≤ i → i < xs.length → xs.getD i 0 = ys.getD i 0) : xs.drop k = ys.drop k := by
  apply List.ext_getElem
  · simp [hl]
  · intro i h1 h2
    have h3 : k + i < xs.length := by simp at h1; omega
    have h4 : k + i < ys.length := by omega
    have := h (k + i) (by omega) h3
    simpa [List.getD_eq_getElem?_getD, List.getElem?_eq_getElem h3, List.getElem?_eq_getElem h4] using this
theorem cmp_same {xs ys : List Nat} (hl : xs.length = ys.length) (h : ∀ i, i < xs.length → xs.getD i 0 = ys.getD i 0) : cmpOf (val 4294967296 xs) (val 4294967296 ys) = 0 := by
  have e : xs = ys := by have := drop_same (k := 0) hl (fun i _ => h i); simpa using this
  rw [e]; exact cmpOf_eq rfl

theorem stop_fact {xs ys : List Nat} (hl : xs.length = ys.length) {k : Nat} {pre : List (Pl xs)} {y : Pl xs} (hS : (pre ++ [y]).map (·.1) = dn xs.length k) (hp : ∀ z ∈ pre, xs.getD z.1 0 = ys.getD z.1 0) : xs.drop (y.1 + 1) = ys.drop (y.1 + 1) := by
  have hlen := congrArg List.length hS
  rw [dn_length, List.length_map, List.length_append] at hlen
  obtain ⟨m, rfl⟩ : ∃ m, k = m + 1 := ⟨pre.length, by simpa using hlen.symm⟩
  have hm : pre.length = m := by simpa using hlen
  rw [dn_succ, List.map_append] at hS
  obtain ⟨h1, h2⟩ := List.append_inj hS (by rw [List.length_map, dn_length]; exact hm)
  have h3 : y.1 = xs.length - 1 - m := by simpa using h2
  refine drop_same hl fun i hi hi2 => ?_
  have h4 : i ∈ pre.map (·.1) := by
    rw [h1]
    exact List.mem_map.2 ⟨xs.length - 1 - i, List.mem_range.2 (by omega), by omega⟩
  obtain ⟨z, hz, rfl⟩ := List.mem_map.1 h4
  exact hp z hz

set_option maxRecDepth 100000 in
set_option maxHeartbeats 3200000 in
theorem qcompare_eq (A B : Option Addr) (c d : Nat) (xs ys : List Nat) (w : World) (hx : Rd .u32 w A xs) (hy : Rd .u32 w B ys) (bx : xs.length ≤ 100000)
    (dx : Dig 4294967296 xs) (dy : Dig 4294967296 ys) (hl : Hid (xs.length = ys.length)) :
    Calls Tryz.prog 83 #[.slice A xs.length c, .slice B ys.length d] w (Gives (.int .i64 (cmpOf (val 4294967296 xs) (val 4294967296 ys))) w) := by
  have hb : ((xs.length : Int) != (ys.length : Int)) = false := by have := hl.out; simp [this]
  refine (callsIn_wide (n := 6)).1 ?_
  refine callsIn_of_wp_marks Tryz.func83 rfl trivial ?_ rfl
  simp only [Tryz.ntmps83, List.size_toArray, List.length_cons, List.length_nil, Nat.reduceAdd, Nat.reduceSub, Array.replicate_succ, Array.replicate_zero, List.push_toArray, List.append_toArray, List.nil_append, List.cons_append]
  gi_wp2_with (refine ⟨trivial, ?_⟩; gi_at_call 106; refine (back_in Fence.wide _ trivial rfl _ _ _ _).mono ?_; rintro e w' ⟨rfl, rfl⟩)
  obtain ⟨W0, hW0⟩ : ∃ W0, ((w.alloc (.cells #[.slice B ys.length d] 22)).alloc (.cells #[.int .i64 0] 3)).alloc (.cells #[.slice A xs.length c] 22) = W0 := ⟨_, rfl⟩
  have hs0 : W0.heap.size = w.heap.size + 3 := by rw [← hW0]; simp
  have hb1 := one_cell w (.slice B ys.length d) 22
  have hr1 := one_cell (w.alloc (.cells #[.slice B ys.length d] 22)) (.int .i64 0) 3
  have ha1 := one_cell ((w.alloc (.cells #[.slice B ys.length d] 22)).alloc (.cells #[.int .i64 0] 3)) (.slice A xs.length c) 22
  rw [World.size_alloc] at hr1
  rw [World.size_alloc, World.size_alloc] at ha1
  have cb0 : W0.cell? ⟨w.heap.size, 0, none⟩ = some (.slice B ys.length d) := by rw [← hW0]; exact cl_alloc _ (cl_alloc _ hb1.1)
  have cr0 : W0.cell? ⟨w.heap.size + 1, 0, none⟩ = some (.int .i64 0) := by rw [← hW0]; exact cl_alloc _ hr1.1
  have fr0 : W0.frozen? ⟨w.heap.size + 1, 0, none⟩ = false := by rw [← hW0]; exact frz_alloc _ hr1.1 hr1.2
  have ca0 : W0.cell? ⟨w.heap.size + 1 + 1, 0, none⟩ = some (.slice A xs.length c) := by rw [← hW0]; exact ha1.1
  have hB0 : Below w.heap.size w W0 := by rw [← hW0]; exact (((Below.refl _ _).alloc (Nat.le_refl _) _).alloc (by simp) _).alloc (by simp; omega) _
  clear hb1 hr1 ha1
  rw [hW0]
  clear hW0
  refine wpIn_rangeFunc_ownF rfl (by omega) (gf := 121) (lb := #[.pointer (some ⟨w.heap.size + 1 + 1, 0, none⟩)]) rfl trivial (enters_of Tryz.func121 (by kernel_rfl) rfl)
    (back_stops Fence.wide _ trivial rfl (by omega) (w.heap.size + 1 + 1) W0.heap.size c A xs bx W0 (by omega) (Nat.le_refl _) ca0 (hx.below hB0) (fun ad e h => by obtain ⟨ad', e', hlt, _⟩ := hx h; rw [e] at e'; cases e'; omega))
    belowK_t (belowK_b (Nat.le_refl _)) (Below.refl _ _) (fun _ => rfl)
    (fun pre W => ((∀ y ∈ pre, xs.getD y.1 0 = ys.getD y.1 0) ∧ W.cell? ⟨w.heap.size, 0, none⟩ = some (.slice B ys.length d) ∧ W.cell? ⟨w.heap.size + 1, 0, none⟩ = some (.int .i64 0) ∧ W.frozen? ⟨w.heap.size + 1, 0, none⟩ = false) ∧ Below w.heap.size w W)
    (fun c' pre W => (c' = .ret ∧ ∃ pre' y, pre = pre' ++ [y] ∧ (∀ z ∈ pre', xs.getD z.1 0 = ys.getD z.1 0) ∧ xs.getD y.1 0 ≠ ys.getD y.1 0 ∧ W.cell? ⟨w.heap.size + 1, 0, none⟩ = some (.int .i64 (cmpOf (xs.getD y.1 0 : Nat) (ys.getD y.1 0 : Nat)))) ∧ Below w.heap.size w W)
    (OwnFrom.and (Own.from (fun s A' B' row hs hg hr => ⟨hs.1, cell_kept hs.2.1 hg hr, cell_kept hs.2.2.1 hg hr, (frozen_kept hs.2.2.1 hg hr).trans hs.2.2.2⟩) _) (ownFrom_below (Nat.le_refl _) (by omega)))
    (fun c' => OwnFrom.and (Own.from (fun s A' B' row hs hg hr => ⟨hs.1, by obtain ⟨_, p1, y1, e1, e2, e3, e4⟩ := hs; exact ⟨p1, y1, e1, e2, e3, cell_kept e4 hg hr⟩⟩) _) (ownFrom_below (Nat.le_refl _) (by omega)))
    ⟨⟨by simp, cb0, cr0, fr0⟩, hB0⟩ ?a1 ?assign ?body ?done ?stop
  case assign =>
    intro l x W K hK
    gi_wp2
    exact hK
  case body =>
    rintro l pre ⟨i, hi⟩ W ⟨⟨hp, hcb, hcr, hfr⟩, hB⟩ _
    have hiy : i < ys.length := by have := hl.out; omega
    obtain ⟨bd, yv, rfl, hby, ey, cy⟩ := (hy.below hB).ask hiy
    obtain ⟨xv, hxv⟩ : ∃ v, xs.getD i 0 = v := ⟨_, rfl⟩
    have hxv2 : xs[i]?.getD 0 = xv := by rw [← List.getD_eq_getElem?_getD]; exact hxv
    dsimp only
    rw [hxv2]
    clear hxv2
    by_cases hxy : xv = yv
    · have HP : ∀ y ∈ pre ++ [(⟨i, hi⟩ : Pl xs)], xs.getD y.1 0 = ys.getD y.1 0 := fun y hy' => by
        rcases List.mem_append.1 hy' with h | h
        · exact hp y h
        · obtain rfl : y = ⟨i, hi⟩ := by simpa using h
          show xs.getD i 0 = ys.getD i 0
          rw [hxv, ey.out, hxy]
      subst hxy
      have HPH := Lib.hid HP
      clear HP hp hxv
      gi_wp2
      exact ⟨KeepsOthers.refl _, Below.refl _ _, ⟨⟨HPH.out, hcb, hcr, hfr⟩, hB⟩⟩
    · have hne : ((xv : Int) != (yv : Int)) = true := by simp; omega
      have HNE : Hid (xs.getD i 0 ≠ ys.getD i 0) := by show _ ≠ _; rw [hxv, ey.out]; exact hxy
      have HXV := Lib.hid hxv
      have HPP := Lib.hid hp
      clear hp hxv
      gi_wp2_with (refine ⟨trivial, ?_⟩; gi_at_call 107; refine (CallsIn.inRound l (callsIn_wide.2 (cmp_u32 _ _ _))).mono ?_; rintro e w' ⟨rfl, rfl⟩)
      exact ⟨KeepsOthers.setCell _ _ _, ⟨⟨rfl, pre, ⟨i, hi⟩, rfl, HPP.out, HNE.out, by rw [HXV.out, ey.out]; exact World.cell?_setCell_same' _ _ _ (by rw [hcr]; rfl)⟩, hB.setCell (p := ⟨w.heap.size + 1, 0, none⟩) (by simp) _⟩⟩
  case done =>
    rintro D zs W hD hS ⟨⟨hp, hcb, hcr, hfr⟩, hB⟩ hK
    have hall : Hid (cmpOf (val 4294967296 xs) (val 4294967296 ys) = 0) := cmp_same hl.out (fun i hi => by
      have hm : i ∈ zs.map (·.1) := by rw [hS]; exact dn_all _ _ hi
      obtain ⟨y, hy1, rfl⟩ := List.mem_map.1 hm
      exact hp y hy1)
    clear hp hS
    gi_wp2
    have hK' := (KeepsOthers.setCell W ⟨w.heap.size + 1, 0, none⟩ (.int .i64 0)).same D _ hK rfl
    refine ⟨by simp, .inl ⟨_, _, rfl, run_takeDeferred hK', ?_⟩⟩
    have hc5 := cell_kept (World.cell?_setCell_same' W ⟨w.heap.size + 1, 0, none⟩ (.int .i64 0) (by rw [hcr]; rfl)) (grownBy_putObj' _ D (.deferred none)) (fun r e => by cases e; exact ⟨_, hK', rfl⟩)
    refine ⟨.int .i64 0, ?_, ?_⟩
    · simp [results, Tryz.results83, go_sem, hc5]
    · exact ⟨by rw [hall.out], (hB.setCell (p := ⟨w.heap.size + 1, 0, none⟩) (by simp) _).trans (belowK_b (w := w) (Nat.le_refl _) _ D _ _ (by omega) hK' rfl rfl)⟩
  case stop =>
    rintro D c' pre W hD ⟨k, hk, hS⟩ ⟨⟨rfl, pre', y, rfl, hp, hne, hcr⟩, hB⟩ hK
    have hv : Hid (cmpOf (xs.getD y.1 0 : Nat) (ys.getD y.1 0 : Nat) = cmpOf (val 4294967296 xs) (val 4294967296 ys)) := cmp_top dx dy hl.out y.2 (stop_fact hl.out hS hp) rfl rfl hne
    rw [hv.out] at hcr
    clear hp hne hS
    gi_wp2
    refine ⟨by simp, .inl ⟨_, _, rfl, run_takeDeferred hK, ?_⟩⟩
    have hc5 := cell_kept hcr (grownBy_putObj' _ D (.deferred none)) (fun r e => by cases e; exact ⟨_, hK, rfl⟩)
    refine ⟨.int .i64 (cmpOf (val 4294967296 xs) (val 4294967296 ys)), ?_, ?_⟩
    · simp [results, Tryz.results83, go_sem, hc5]
    · exact ⟨rfl, hB.trans (belowK_b (w := w) (Nat.le_refl _) _ D _ _ (by omega) hK rfl rfl)⟩

set_option maxHeartbeats 400000 in
theorem qcompare_len (A B : Option Addr) (c d : Nat) (xs ys : List Nat) (w : World) (hl : xs.length ≠ ys.length) :
    Calls Tryz.prog 83 #[.slice A xs.length c, .slice B ys.length d] w (Gives (.int .i64 (cmpOf (xs.length : Int) (ys.length : Int))) w) := by
  have hb : ((xs.length : Int) != (ys.length : Int)) = true := by simp; omega
  have hbl : Below w.heap.size w ((w.alloc (.cells #[.slice B ys.length d] 22)).alloc (.cells #[.int .i64 (cmpOf (xs.length : Int) (ys.length : Int))] 3)) := ((Below.refl _ _).alloc (Nat.le_refl _) _).alloc (by simp) _
  go_enter Tryz.func83, Tryz.ntmps83
  go_wp2_with (go_at_call 82; refine (cmp_int _ _ _).mono ?_; rintro e w' ⟨rfl, rfl⟩)
  exact bodyPost_ret (v := .int .i64 (cmpOf (xs.length : Int) (ys.length : Int))) (by simp [results, Tryz.results83, go_sem]) rfl ⟨rfl, hbl⟩
theorem qcompare (A B : Option Addr) (c d : Nat) (xs ys : List Nat) (w : World) (hx : Rd .u32 w A xs) (hy : Rd .u32 w B ys) (bx : xs.length ≤ 100000) (mx : Mag xs) (my : Mag ys) :
    Calls Tryz.prog 83 #[.slice A xs.length c, .slice B ys.length d] w (Gives (.int .i64 (cmpOf (V32 xs) (V32 ys))) w) := by
  by_cases hl : xs.length = ys.length
  · exact qcompare_eq A B c d xs ys w hx hy bx mx.1 my.1 hl
  · have e := cmp_len (B := 4294967296) (by omega) mx.1 my.1 mx.2 my.2 hl
    have h := qcompare_len A B c d xs ys w hl
    rw [e] at h
    exact h
end Go.Proofs.YtopppmlkddajjaaGreatDoor

