/- What every row of this seat needs: a slice of words that came in reads as a list; the listed tables as the contracts ask for them. -/
import Derived.Test.YtlbfoclhkdlafaaGreatDoorPMR42
import Derived.Lib.LazyBuf
import Derived.Deep.LoopGhost
import Derived.Lib.ItoaNum
import Derived.Test.YtlbfoclhkdlafaaGreatDoorShelf
import Derived.Lib.AppendIntMem
import Derived.Laws.IdiomCopy
import Derived.Lib.SmallJoins
import Derived.Laws.IdiomStrings
import Derived.ProofKit
import Derived.LaidMore
import Derived.OpenShut
import Derived.Stop.Joined
import Derived.Stop.LaidErr
namespace Go.Proofs.YtlbfoclhkdlafaaGreatDoor
open Go.ChangeShapes Go.WideShapes Go.ChangeAt Go.WideMaps Go.WideElems Go.RowKit V

theorem own_ : ownKnob Tryz.prog.godebug = none := by kernel_rfl
theorem laidOut_ : laidOutB Tryz.prog = true := by kernel_rfl
theorem gPow : Tryz.prog.globalNamed "internal/strconv.uint64pow10" = some 1 := by kernel_rfl
theorem tPow : (Tryz.prog.globals[1]?).map (·.type) = some 267 := by kernel_rfl
theorem ceU64 : Tryz.prog.cellsOf 112 = 1 := by kernel_rfl
theorem ctPow : Tryz.prog.cellsOf 267 = 20 := by kernel_rfl

/-- The three listed tables. -/
def laid3 : List (String × DataW Unit) := [("math/bits.deBruijn32tab", Rows.laid_math_bits_deBruijn32tab), ("math/bits.deBruijn64tab", Rows.laid_math_bits_deBruijn64tab), ("internal/strconv.uint64pow10", Rows.laid_internal_strconv_uint64pow10)]

theorem door_met (os : Os) (args : Array Value) : laidMetH Tryz.prog laid3 ((World.doorLaid Tryz.prog 400 os).forCall (fun _ _ => 0) ⟨#[], args, []⟩).memory :=
  laidMetH_of_parts3 (fuel := 8) (laidMet_of_run' 8 (by kernel_rfl) (by kernel_rfl)) (by kernel_rfl) (by kernel_rfl)

theorem tab_of_laid {W : World} (h : laidMetH Tryz.prog laid3 W) : Lib.TabBelow Tryz.prog W.heap.size W "internal/strconv.uint64pow10" .u64 Lib.pow10Tab := by
  rw [MakeChecks.laidMetH_plain _ _ _ (by kernel_rfl)] at h
  have h2 : laidMet Tryz.prog (("internal/strconv.uint64pow10", Lib.tabData .u64 Lib.pow10Tab) :: []) W := h.tail.tail
  exact Lib.tabBelow_of_tabIs (Lib.tabIs_of_head gPow tPow Tryz.underlying267 Tryz.underlying112 ceU64 ctPow h2)

theorem cell_lt {w : World} {a : Addr} {v : Value} (h : w.cell? a = some v) : a.block < w.heap.size := by
  rcases Nat.lt_or_ge a.block w.heap.size with h1 | h1
  · exact h1
  · unfold World.cell? at h
    rw [Array.getElem?_eq_none h1] at h
    cases h
end Go.Proofs.YtlbfoclhkdlafaaGreatDoor


/- A slice of bytes that came in reads as a list. -/
namespace Go.Proofs.YtlbfoclhkdlafaaGreatDoor
open Go.ChangeShapes Go.WideShapes Go.ChangeAt Go.WideMaps Go.WideElems Go.RowKit V

def InBytes (w : World) (a : Option Addr) (len : Nat) (xs : List Nat) : Prop := xs.length = len ∧ Rd .u8 w a xs ∧ Dig 256 xs
theorem bounds_u8' {n : Int} (h : (Lit.int .u8 n).wf = true) : 0 ≤ n ∧ n ≤ 255 := by
  simp [Lit.wf, IntKind.min, IntKind.max, IntKind.signed, IntKind.bits] at h
  omega
theorem inBytes {H : Type} {enc : TypeId × Value → H} {W : World} {a : Option Addr} {len cap fuel : Nat} {x : DataW H × List MemPlace}
    (hf : DataW.trod enc Tryz.prog W 0 (fun _ => true) true fuel 71 (Value.slice a len cap).cells.toList = some x) : ∃ xs, InBytes W a len xs := by
  rcases open_ints Tryz.underlying71 Tryz.underlying5 (by kernel_rfl) hf with ⟨hcs, _⟩ | ⟨x, l, c, zs, hcs, _, hl, hm, hz, _, hcell, hwz⟩
  · simp [Value.cells] at hcs
    obtain ⟨rfl, rfl, rfl⟩ := hcs
    exact ⟨[], rfl, Rd.nil_, fun _ h => by simp at h⟩
  · simp [Value.cells] at hcs
    obtain ⟨rfl, rfl, rfl⟩ := hcs
    have hzl : zs.length = cap := by simpa using hz
    have hget : ∀ j, j < len → zs.getD j 0 ∈ zs := fun j hj => by
      rw [List.getD_eq_getElem?_getD, List.getElem?_eq_getElem (by omega)]
      exact List.getElem_mem _
    refine ⟨(zs.take len).map Int.toNat, by rw [List.length_map, List.length_take, Nat.min_eq_left (by omega)], fun hn => ?_, fun y hy => ?_⟩
    · rw [List.length_map, List.length_take, Nat.min_eq_left (by omega)] at hn
      refine ⟨x, rfl, ?_, fun j hj => ?_⟩
      · have := cell_lt (hcell 0 (by omega))
        rwa [block_of_add] at this
      · rw [List.length_map, List.length_take, Nat.min_eq_left (by omega)] at hj
        rw [hcell j (by omega)]
        have hb := bounds_u8' (hwz _ (hget j hj))
        have e : ((zs.take len).map Int.toNat).getD j 0 = (zs.getD j 0).toNat := by
          simp [List.getD_eq_getElem?_getD, hj, List.getElem?_eq_getElem (show j < zs.length by omega)]
        rw [e, Int.toNat_of_nonneg hb.1]
    · obtain ⟨z, hz', rfl⟩ := List.mem_map.1 hy
      have hb := bounds_u8' (hwz z (List.mem_of_mem_take hz'))
      omega

end Go.Proofs.YtlbfoclhkdlafaaGreatDoor


/- PolyLimits: the walk with its first argument as it comes in. -/
namespace Go.Proofs.YtlbfoclhkdlafaaGreatDoor
open Go.RowKit V
theorem plimits_row_ (n : Int) (wf : (Lit.int .u8 n).wf = true) (A : Option Addr) (c : Nat) (cs : List Nat) (B : Option Addr) (d : Nat) (bs : List Nat) (w : World) (ha : Rd .u8 w A cs) (hb : Rd .u8 w B bs) (htab : Lib.TabBelow Tryz.prog w.heap.size w "internal/strconv.uint64pow10" .u64 Lib.pow10Tab) :
    Calls Tryz.prog 7 #[.int .u8 n, .slice A cs.length c, .slice B bs.length d] w (Yes w) := by
  have h := bounds_u8' wf
  obtain ⟨x, rfl⟩ := Int.eq_ofNat_of_zero_le h.1
  exact plimits_row x (by omega) A B c d cs bs w ha hb htab
end Go.Proofs.YtlbfoclhkdlafaaGreatDoor

