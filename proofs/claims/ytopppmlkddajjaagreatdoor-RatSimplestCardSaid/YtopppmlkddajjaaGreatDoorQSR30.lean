/- isochronelaw02.RatSimplest answers true for all arguments. -/
import Derived.Test.YtopppmlkddajjaaGreatDoorQSR29
namespace Go.Proofs.YtopppmlkddajjaaGreatDoor
open Go.RowKit V
theorem wf_i32 {n : Int} (h : (Lit.int .i32 n).wf = true) : -2147483648 ≤ n ∧ n ≤ 2147483647 := by
  simp [Lit.wf, IntKind.min, IntKind.max, IntKind.signed, IntKind.bits] at h
  omega
theorem wf_u16 {n : Int} (h : (Lit.int .u16 n).wf = true) : 0 ≤ n ∧ n ≤ 65535 := by
  simp [Lit.wf, IntKind.min, IntKind.max, IntKind.signed, IntKind.bits] at h
  omega
theorem rs_row (n : Int) (wn : (Lit.int .i32 n).wf = true) (m : Int) (wm : (Lit.int .i32 m).wf = true) (d : Int) (wd : (Lit.int .u16 d).wf = true) (e : Int) (we : (Lit.int .u16 e).wf = true) (w : World) (htab : Lib.TabBelow Tryz.prog w.heap.size w "internal/strconv.uint64pow10" .u64 Lib.pow10Tab) :
    Calls Tryz.prog 4 #[.int .i32 n, .int .i32 m, .int .u16 d, .int .u16 e] w (Yes w) := by
  obtain ⟨n1, n2⟩ := wf_i32 wn
  obtain ⟨m1, m2⟩ := wf_i32 wm
  obtain ⟨d1, d2⟩ := wf_u16 wd
  obtain ⟨e1, e2⟩ := wf_u16 we
  obtain ⟨d, rfl⟩ : ∃ k : Nat, d = k := ⟨d.toNat, by omega⟩
  obtain ⟨e, rfl⟩ : ∃ k : Nat, e = k := ⟨e.toNat, by omega⟩
  have hp := small_parts (p := mkRat n (d % 400 + 1)) rfl (by omega)
  have hq := small_parts (p := mkRat m (e % 400 + 1)) rfl (by omega)
  have k1 : ((d : Int) % 400 + 1 = ((d % 400 + 1 : Nat) : Int)) := by omega
  have k2 : ((e : Int) % 400 + 1 = ((e % 400 + 1 : Nat) : Int)) := by omega
  rcases Int.lt_or_le ((mkRat m (e % 400 + 1)).num * (mkRat n (d % 400 + 1)).den) ((mkRat n (d % 400 + 1)).num * (mkRat m (e % 400 + 1)).den) with h | h
  · exact rs_gt n m d e n1 n2 m1 m2 (by omega) (by omega) (d % 400 + 1) (e % 400 + 1) (Lib.hid k1) (Lib.hid k2) (by omega) (by omega) (by omega) (by omega) _ _ (Lib.hid (div_int n _ (by omega))) (Lib.hid (div_int m _ (by omega))) (Lib.hid ⟨by omega, by omega⟩) (Lib.hid ⟨by omega, by omega⟩) (Lib.hid h) 1 (by omega) (Lib.hid (by unfold cmpOf; rw [if_neg (by omega), if_pos h])) w htab
  · exact rs_ok n m d e n1 n2 m1 m2 (by omega) (by omega) (d % 400 + 1) (e % 400 + 1) (Lib.hid k1) (Lib.hid k2) (by omega) (by omega) (by omega) (by omega) _ _ (Lib.hid (div_int n _ (by omega))) (Lib.hid (div_int m _ (by omega))) (Lib.hid ⟨by omega, by omega⟩) (Lib.hid ⟨by omega, by omega⟩) (Lib.hid h) _ (by unfold cmpOf; split; omega; rw [if_neg (by omega)]; omega) (Lib.hid rfl) w htab
end Go.Proofs.YtopppmlkddajjaaGreatDoor

