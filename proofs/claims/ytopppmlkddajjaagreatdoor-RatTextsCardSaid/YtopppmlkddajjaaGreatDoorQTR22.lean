/- What every row of this seat needs: a slice of words that came in reads as a list; the listed tables as the contracts ask for them. -/
import Derived.Test.YtopppmlkddajjaaGreatDoorQTR21
import Derived.Lib.LazyBuf
import Derived.Deep.LoopGhost
import Derived.Lib.ItoaNum
import Derived.Test.YtopppmlkddajjaaGreatDoorShelf
import Derived.Lib.AppendIntMem
import Derived.Laws.IdiomCopy
import Derived.Lib.SmallJoins
import Derived.Laws.IdiomStrings
import Derived.ProofKit
import Derived.LaidMore
import Derived.OpenShut
import Derived.Stop.Joined
import Derived.Stop.LaidErr
import Derived.Test.YtopppmlkddajjaaGreatDoorRows
import Derived.Below
import Derived.Laws.OwnMore
import Derived.Laws.MakeOwn
import Derived.Deep.AppendLies
import Derived.Deep.Draws
import Derived.Laws.Rows
import Derived.Lib.Hide
import Derived.Deep.QuietTactic
import Derived.WalkKit
import Derived.WalkSpells
import Derived.WalkLawsBesides
import Derived.Laws.BitsAllLaws
import Derived.BigQuiet
import Derived.StillTailTactics
namespace Go.Proofs.YtopppmlkddajjaaGreatDoor
open Go.ChangeShapes Go.WideShapes Go.ChangeAt Go.WideMaps Go.WideElems Go.RowKit V

theorem own_ : ownKnob Tryz.prog.godebug = none := by kernel_rfl
theorem laidOut_ : laidOutB Tryz.prog = true := by kernel_rfl
theorem gPow : Tryz.prog.globalNamed "internal/strconv.uint64pow10" = some 0 := by kernel_rfl
theorem tPow : (Tryz.prog.globals[0]?).map (·.type) = some 150 := by kernel_rfl
theorem ceU64 : Tryz.prog.cellsOf 93 = 1 := by kernel_rfl
theorem ctPow : Tryz.prog.cellsOf 150 = 20 := by kernel_rfl

/-- The three listed tables. -/
def laid3 : List (String × DataW Unit) := [("math/bits.deBruijn32tab", Rows.laid_math_bits_deBruijn32tab), ("math/bits.deBruijn64tab", Rows.laid_math_bits_deBruijn64tab), ("internal/strconv.uint64pow10", Rows.laid_internal_strconv_uint64pow10)]

theorem door_met (os : Os) (args : Array Value) : laidMetH Tryz.prog laid3 ((World.doorLaid Tryz.prog 400 os).forCall (fun _ _ => 0) ⟨#[], args, []⟩).memory :=
  laidMetH_of_parts3 (fuel := 8) (laidMet_of_run' 8 (by kernel_rfl) (by kernel_rfl)) (by kernel_rfl) (by kernel_rfl)

theorem tab_of_laid {W : World} (h : laidMetH Tryz.prog laid3 W) : Lib.TabBelow Tryz.prog W.heap.size W "internal/strconv.uint64pow10" .u64 Lib.pow10Tab := by
  rw [MakeChecks.laidMetH_plain _ _ _ (by kernel_rfl)] at h
  have h2 : laidMet Tryz.prog (("internal/strconv.uint64pow10", Lib.tabData .u64 Lib.pow10Tab) :: []) W := h.tail.tail
  exact Lib.tabBelow_of_tabIs (Lib.tabIs_of_head gPow tPow Tryz.underlying150 Tryz.underlying93 ceU64 ctPow h2)

/-- A slice of words that came in. -/
def InWords (w : World) (a : Option Addr) (len : Nat) (xs : List Nat) : Prop := xs.length = len ∧ Rd .u32 w a xs ∧ Dig 4294967296 xs

theorem cell_lt {w : World} {a : Addr} {v : Value} (h : w.cell? a = some v) : a.block < w.heap.size := by
  rcases Nat.lt_or_ge a.block w.heap.size with h1 | h1
  · exact h1
  · unfold World.cell? at h
    rw [Array.getElem?_eq_none h1] at h
    cases h
theorem bounds_u32' {n : Int} (h : (Lit.int .u32 n).wf = true) : 0 ≤ n ∧ n ≤ 4294967295 := by
  simp [Lit.wf, IntKind.min, IntKind.max, IntKind.signed, IntKind.bits] at h
  omega

theorem inWords {H : Type} {enc : TypeId × Value → H} {W : World} {a : Option Addr} {len cap fuel : Nat} {x : DataW H × List MemPlace}
    (hf : DataW.trod enc Tryz.prog W 0 (fun _ => true) true fuel 22 (Value.slice a len cap).cells.toList = some x) : ∃ xs, InWords W a len xs := by
  rcases open_ints Tryz.underlying22 Tryz.underlying59 (by kernel_rfl) hf with ⟨hcs, _⟩ | ⟨x, l, c, zs, hcs, _, hl, hm, hz, _, hcell, hwz⟩
  · simp [Value.cells] at hcs
    obtain ⟨rfl, rfl, rfl⟩ := hcs
    exact ⟨[], rfl, Rd.nil_, fun _ h => by simp at h⟩
  · simp [Value.cells] at hcs
    obtain ⟨rfl, rfl, rfl⟩ := hcs
    have hzl : zs.length = cap := by simpa using hz
    have hget : ∀ j, j < len → zs.getD j 0 ∈ zs := fun j hj => by
      rw [List.getD_eq_getElem?_getD, List.getElem?_eq_getElem (by omega)]
      exact List.getElem_mem _
    refine ⟨(zs.take len).map Int.toNat, by rw [List.length_map, List.length_take, Nat.min_eq_left (by omega)], fun hn => ?_, fun y hy => ?_⟩
    · rw [List.length_map, List.length_take, Nat.min_eq_left (by omega)] at hn
      refine ⟨x, rfl, ?_, fun j hj => ?_⟩
      · have := cell_lt (hcell 0 (by omega))
        rwa [block_of_add] at this
      · rw [List.length_map, List.length_take, Nat.min_eq_left (by omega)] at hj
        rw [hcell j (by omega)]
        have hb := bounds_u32' (hwz _ (hget j hj))
        have e : ((zs.take len).map Int.toNat).getD j 0 = (zs.getD j 0).toNat := by
          simp [List.getD_eq_getElem?_getD, hj, List.getElem?_eq_getElem (show j < zs.length by omega)]
        rw [e, Int.toNat_of_nonneg hb.1]
    · obtain ⟨z, hz', rfl⟩ := List.mem_map.1 hy
      have hb := bounds_u32' (hwz z (List.mem_of_mem_take hz'))
      omega
end Go.Proofs.YtopppmlkddajjaaGreatDoor


/- A slice of words that came in, with its length within its capacity. -/
namespace Go.Proofs.YtopppmlkddajjaaGreatDoor
open Go.ChangeShapes Go.WideShapes Go.ChangeAt Go.WideMaps Go.WideElems Go.RowKit V

theorem inWordsC {H : Type} {enc : TypeId × Value → H} {W : World} {a : Option Addr} {len cap fuel : Nat} {x : DataW H × List MemPlace}
    (hf : DataW.trod enc Tryz.prog W 0 (fun _ => true) true fuel 22 (Value.slice a len cap).cells.toList = some x) : len ≤ cap := by
  rcases open_ints Tryz.underlying22 Tryz.underlying59 (by kernel_rfl) hf with ⟨hcs, _⟩ | ⟨x, l, c, zs, hcs, _, hl, hm, hz, _, hcell, hwz⟩
  · simp [Value.cells] at hcs
    omega
  · simp [Value.cells] at hcs
    omega
end Go.Proofs.YtopppmlkddajjaaGreatDoor


/- A rational number that came in, with what every caller's value keeps. -/
namespace Go.Proofs.YtopppmlkddajjaaGreatDoor
open Go.ChangeShapes Go.WideShapes Go.ChangeAt Go.WideMaps Go.WideElems Go.RowKit V

/-- One cell with a slice of words. -/
theorem inWords1 {H : Type} {enc : TypeId × Value → H} {W : World} {v : Value} {fuel : Nat} {x : DataW H × List MemPlace}
    (hf : DataW.trod enc Tryz.prog W 0 (fun _ => true) true fuel 22 [v] = some x) : ∃ A c xs, v = .slice A (xs : List Nat).length c ∧ Rd .u32 W A xs ∧ Dig 4294967296 xs ∧ xs.length ≤ c := by
  rcases open_ints Tryz.underlying22 Tryz.underlying59 (by kernel_rfl) hf with ⟨hcs, _⟩ | ⟨a, l, c, zs, hcs, hx, hl, hm, hz, h1, hcell, hwz⟩
  · have h0 : v = .slice none 0 0 := by simpa using hcs
    subst h0
    exact ⟨none, 0, [], rfl, Rd.nil_, fun _ h => by simp at h, Nat.le_refl _⟩
  · have h0 : v = .slice (some a) l c := by simpa using hcs
    subst h0
    have hf2 : DataW.trod enc Tryz.prog W 0 (fun _ => true) true fuel 22 (Value.slice (some a) l c).cells.toList = some x := by simpa [Value.cells] using hf
    obtain ⟨xs, rfl, hr, hd⟩ := inWords hf2
    exact ⟨some a, c, xs, rfl, hr, hd, inWordsC hf2⟩

set_option maxRecDepth 100000 in
theorem open_rat {H : Type} {enc : TypeId × Value → H} {W : World} {base : Nat} {v : Value} {d : DataW H} {p : List MemPlace} (hv : Value.okWide Tryz.prog W .any base 24 v)
    (h : DataW.Trod enc Tryz.prog W 0 (fun _ => true) true 24 v d p) : ∃ a : RL, v = .agg #[.bool a.s, .slice a.N a.ns.length a.nc, .slice a.D a.ds.length a.dc] ∧ a.Raw W := by
  obtain ⟨v0, v1, v2, y0, y1, y2, n, rfl, _, _, h0, h1, h2⟩ := Go.Joins.open_agg3 Tryz.underlying24 (by kernel_rfl) (by kernel_rfl) hv h
  obtain ⟨b, e0, _⟩ := DataW.trod_bool Tryz.underlying4 h0
  obtain ⟨N, nc, ns, rfl, rn, dn, cn⟩ := inWords1 h1
  obtain ⟨D, dc, ds, rfl, rd, dd, cd⟩ := inWords1 h2
  obtain rfl : v0 = .bool b := by simpa using e0
  exact ⟨⟨b, N, nc, ns, D, dc, ds⟩, rfl, rn, rd, cn, cd, dn, dd⟩
end Go.Proofs.YtopppmlkddajjaaGreatDoor

