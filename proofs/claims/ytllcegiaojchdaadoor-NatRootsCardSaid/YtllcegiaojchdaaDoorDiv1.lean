/- nat.divide where the dividend is smaller or the divisor has one word. -/
import Derived.Test.YtllcegiaojchdaaDoorCmp
import Derived.Test.YtllcegiaojchdaaDoorClone
import Derived.Test.YtllcegiaojchdaaDoorDivw
import Derived.Test.YtllcegiaojchdaaDoorOps
namespace Go.Proofs.YtllcegiaojchdaaDoor
open Go.RowKit V

/-- Quotient and remainder. -/
def DivP (xs ys : List Nat) (w : World) (e : Ending) (w' : World) : Prop :=
  ∃ Q qc q R rc r, e = .returned (.tuple #[.slice Q (q : List Nat).length qc, .slice R (r : List Nat).length rc]) ∧ Rd .u32 w' Q q ∧ Rd .u32 w' R r ∧ Mag q ∧ Mag r ∧ q.length ≤ qc ∧ r.length ≤ rc ∧
    Hid (V32 xs = V32 q * V32 ys + V32 r) ∧ Hid (V32 r < V32 ys) ∧ Below w.heap.size w w'

theorem mag_nil : Mag [] := ⟨fun _ h => by simp at h, nrm_nil⟩

set_option maxHeartbeats 400000 in
theorem div_less (A B : Option Addr) (c d : Nat) (xs ys : List Nat) (w : World) (hx : Rd .u32 w A xs) (hy : Rd .u32 w B ys) (bx : xs.length ≤ 100000) (mx : Mag xs) (my : Mag ys) (hlt : V32 xs < V32 ys) :
    Calls Tryd.prog 33 #[.slice A xs.length c, .slice B ys.length d] w (DivP xs ys w) := by
  have hc : cmpOf (V32 xs) (V32 ys) < 0 := by rw [cmpOf_lt (by omega)]; omega
  unfold V32 at hc
  go_enter Tryd.func33, Tryd.ntmps33
  go_wp2_with (first
    | (go_at_call 54; refine (compare_any A B c d xs ys _ hx hy bx mx.1 my.1 mx.2 my.2).mono ?_; rintro e w1 ⟨rfl, n, rfl⟩)
    | (go_at_call 55; refine (clone_u32 A c xs _ (hx.drewN _) (by omega)).mono ?_; rintro e w2 ⟨v, rfl, hown, hb⟩; obtain ⟨R, rc, rfl, hrc, hr⟩ := hown.form))
  go_ret2
  exact ⟨none, 0, [], R, rc, xs, rfl, Rd.nil_, hr, mag_nil, mx, Nat.le_refl _, hrc, by show _ = _; unfold V32; simp [val], hlt, hb.os, hb.tape, hb.output, hb.size, hb.block⟩

theorem one_of_len {xs : List Nat} (h : xs.length = 1) : xs = [xs.getD 0 0] := by
  match xs, h with
  | [a], _ => rfl
theorem mag_take {ys : List Nat} (h : Dig 4294967296 ys) {m : Nat} (hn : Nrm (ys.take m)) : Mag (ys.take m) := ⟨h.take m, hn⟩
theorem rd_one (w : World) (r : Nat) : Rd .u32 (w.alloc (.cells #[.int .u32 (r : Nat)] 55)) (some ⟨w.heap.size, 0, none⟩) [r] := (Row.new (k := .u32) (t := 55) w [r]).rd

set_option maxHeartbeats 1000000 in
theorem div_one (A B : Option Addr) (c d : Nat) (xs ys : List Nat) (w : World) (hx : Rd .u32 w A xs) (hy : Rd .u32 w B ys) (bx : xs.length ≤ 100000) (mx : Mag xs) (my : Mag ys) (hge : V32 ys ≤ V32 xs) (hl : ys.length = 1) :
    Calls Tryd.prog 33 #[.slice A xs.length c, .slice B ys.length d] w (DivP xs ys w) := by
  have hc : 0 ≤ cmpOf (V32 xs) (V32 ys) := by unfold cmpOf; split <;> (try split) <;> omega
  unfold V32 at hc
  obtain ⟨bd, y, rfl, hby, ey, cy⟩ := hy.ask (i := 0) (by omega)
  rw [add_zero_] at cy
  have hyv : V32 ys = y := by rw [one_of_len hl, ey.out]; unfold V32; simp [val]
  have hyl : y < 4294967296 := by rw [← ey.out]; exact dig_getD my.1 (by omega) 0
  have hy0 : 1 ≤ y := by
    have := my.2 (by omega)
    rw [hl, ey.out] at this
    omega
  have hb1 : ((ys.length : Int) == 1) = true := by simp [hl]
  have hpos : 0 < ys.length := by omega
  have HYV := Lib.hid hyv
  have HL := Lib.hid hl
  clear hyv hl
  go_enter Tryd.func33, Tryd.ntmps33
  go_wp2_with (first
    | (go_at_call 54; refine (compare_any A (some bd) c d xs ys _ hx hy bx mx.1 my.1 mx.2 my.2).mono ?_; rintro e w1 ⟨rfl, n, rfl⟩)
    | (go_at_call 55; refine (clone_u32 A c xs _ (hx.drewN _) (by omega)).mono ?_; rintro e w2 ⟨v, rfl, hown, hb⟩; obtain ⟨Q, qc, rfl, hqc, hq, hsh⟩ := hown.shape; have cy2 := (hb.cell (p := bd) hby).trans cy)
    | (go_at_call 56; fail))
  have hblk2 : ∀ ad, Q = some ad → w.heap.size ≤ ad.block := fun ad e => by
    subst e
    exact (World.ownsRow.lt hown _ rfl).1
  refine (divw_any Q xs.length qc y w.heap.size xs _ rfl hown bx mx.1 hy0 hyl (fun h => by obtain ⟨g, e, _⟩ := hsh h; exact ⟨g, e⟩)).mono ?_
  rintro e w3 ⟨r, zs, rfl, hr, hzv, hzl, hdz, hownz, honly⟩
  have hb3 := hb.trans (honly.below hblk2)
  obtain ⟨Q', qc', hfe, _, hrz⟩ := hownz.form
  have hqq : Q = Q' := by injection hfe
  subst hqq
  clear hfe
  go_wp2_with fail
  refine (trim_u32n Q qc xs.length zs _ hzl.out hrz hqc (by omega)).mono ?_
  rintro e w4 ⟨m, hm, rfl, hv3, hn3, rfl⟩
  have HV3 := Lib.hid hv3
  clear hv3
  go_wp2_with fail
  have hr1 := rd_one w3 r
  refine (trim_u32n (some ⟨w3.heap.size, 0, none⟩) 1 1 [r] _ rfl hr1 (Nat.le_refl _) (by omega)).mono ?_
  rintro e w5 ⟨k, hk, rfl, hv4, hn4, rfl⟩
  have HV4 := Lib.hid hv4
  clear hv4
  go_wp2
  go_ret2
  have hml : (zs.take m).length = m := by rw [List.length_take, Nat.min_eq_left hm]
  have hkl : (([r] : List Nat).take k).length = k := by rw [List.length_take, Nat.min_eq_left hk]
  have hb5 : Below w.heap.size w (w3.alloc (.cells #[.int .u32 (r : Nat)] 55)) := ⟨hb3.os, hb3.tape, hb3.output, by have := hb3.size; simp at this ⊢; omega, fun b hb => (Below.heap_alloc w3 _ b (by have := hb3.size; simp at this; omega)).trans (hb3.block b hb)⟩
  refine ⟨Q, qc, zs.take m, some ⟨w3.heap.size, 0, none⟩, 1, ([r] : List Nat).take k, by rw [hml, hkl]; rfl, (hrz.alloc _).take hm, hr1.take hk, mag_take hdz hn3, mag_take (fun x hx => by simp at hx; omega) hn4, by have := hzl.out; omega, by rw [hkl]; simpa using hk, ?_, ?_, hb5⟩
  · show V32 xs = V32 (zs.take m) * V32 ys + V32 (([r] : List Nat).take k)
    unfold V32 at *
    rw [HV3.out, HV4.out, HYV.out, hzv.out, val_one]
  · show V32 (([r] : List Nat).take k) < V32 ys
    unfold V32 at *
    rw [HV4.out, HYV.out, val_one]
    exact hr
end Go.Proofs.YtllcegiaojchdaaDoor

