/- nat.split: the digits of a magnitude in base 1000000000, at least one; at most 50000 words. -/
import Derived.Test.YtdonbgjmcbhecaaGreatDoorFMR5
import Derived.Deep.LoopGhost
import Derived.Lib.LazyBuf
namespace Go.Proofs.YtdonbgjmcbhecaaGreatDoor
open Go.RowKit V

def BlocksP (xs : List Nat) (w : World) (e : Ending) (w' : World) : Prop :=
  ∃ v bs, e = .returned v ∧ Own .u32 109 w.heap.size w' v bs ∧ 0 < bs.length ∧ val 1000000000 bs = V32 xs ∧ Dig 1000000000 bs ∧ (1 < bs.length → Nrm bs) ∧ bs.length ≤ 2 * xs.length + 1 ∧ Below w.heap.size w w'

theorem blocks_len {xs : List Nat} (dx : Dig 4294967296 xs) {k : Nat} (h : 1000000000 ^ k ≤ V32 xs) : k ≤ 2 * xs.length := by
  have h1 := val_lt 4294967296 xs dx
  have h2 : 65536 ^ k ≤ 1000000000 ^ k := Nat.pow_le_pow_left (by omega) _
  rcases Nat.lt_or_ge (2 * xs.length) k with h3 | h3
  · have h4 : 65536 ^ (2 * xs.length) ≤ 65536 ^ k := Nat.pow_le_pow_right (by omega) (by omega)
    have h5 : (65536 : Nat) ^ (2 * xs.length) = 4294967296 ^ xs.length := by rw [Nat.pow_mul]
    unfold V32 at h; omega
  · exact h3
theorem blocks_step (B t r v vq : Nat) (hs : List Nat) (e : vq = v * B + r) (hv : t = val B hs + B ^ hs.length * vq) : t = val B (hs ++ [r]) + B ^ (hs ++ [r]).length * v := by
  rw [val_snoc, List.length_append, List.length_singleton, Nat.pow_succ, Nat.mul_assoc]
  have h := congrArg (B ^ hs.length * ·) e
  simp only [Nat.mul_add] at h
  rw [Nat.mul_comm B v]
  omega
theorem nrm_snoc {bs : List Nat} {r : Nat} (h : r ≠ 0) : Nrm (bs ++ [r]) := by
  intro _
  simpa [List.getD_eq_getElem?_getD] using h

set_option maxHeartbeats 1000000 in
theorem tsplit_any (X : Option Addr) (xc : Nat) (xs : List Nat) (w : World) (hx : Rd .u32 w X xs) (bl : xs.length ≤ 50000) (dx : Dig 4294967296 xs) (nx : Nrm xs) :
    Calls Tryz.prog 189 #[.slice X xs.length xc] w (BlocksP xs w) := by
  go_enter Tryz.func189, Tryz.ntmps189
  go_wp2_with (go_at_call 172; refine (clone_u32 X xc xs _ hx (by omega)).mono ?_; rintro e w1 ⟨v, rfl, hown1, hb1⟩; obtain ⟨A, c, rfl, hac, hra, hsh⟩ := hown1.shape)
  have hblk : ∀ ad, A = some ad → ad.block < w1.heap.size := fun ad e => by
    subst e
    exact (World.ownsRow.lt hown1 _ rfl).2
  have hblk2 : ∀ ad, A = some ad → w.heap.size ≤ ad.block := fun ad e => by
    subst e
    exact (World.ownsRow.lt hown1 _ rfl).1
  have hshG : Hid (0 < xs.length → ∃ g, A = some ⟨g, 0, none⟩) := fun h => by
    obtain ⟨g, e, _⟩ := hsh h
    exact ⟨g, e⟩
  clear hsh
  have hsz1 := hb1.size
  go_loopg [3, 4, 5] (V32 xs) (fun g rv bv _ wr => ∃ m cur bs, rv = .slice A m c ∧ cur.length = m ∧ V32 cur = g ∧ Dig 4294967296 cur ∧ Nrm cur ∧ m ≤ xs.length ∧ V32 xs = val 1000000000 bs + 1000000000 ^ bs.length * V32 cur ∧
      Dig 1000000000 bs ∧ (0 < bs.length → 1 ≤ V32 cur) ∧ Own .u32 109 w.heap.size wr (.slice A m c) cur ∧ Own .u32 109 w1.heap.size wr bv bs ∧ Below w.heap.size w wr ∧ w1.heap.size ≤ wr.heap.size)
  case atStart => exact ⟨xs.length, xs, [], rfl, rfl, rfl, dx, nx, Nat.le_refl _, by simp [val], fun _ h => by simp at h, fun h => by simp at h, hown1, Own.nil_, hb1, Nat.le_refl _⟩
  case round =>
    obtain ⟨m, cur, bs, rfl, hcl, hg, hdc, hnc, hml, hv, hdb, hpos, hown, hownb, hbw, hsz⟩ := hrel
    have HCL := Lib.hid hcl
    have HG := Lib.hid hg
    have HV := Lib.hid hv
    have HP := Lib.hid hpos
    have hbl : bs.length ≤ 2 * xs.length := by
      rcases Nat.eq_zero_or_pos bs.length with h | h
      · omega
      · refine blocks_len dx ?_
        have h1 : 1000000000 ^ bs.length * 1 ≤ 1000000000 ^ bs.length * V32 cur := Nat.mul_le_mul_left _ (hpos h)
        omega
    clear hcl hg hv hpos hown1 hra hb1
    go_wp2_with (first
      | (go_at_call 255; refine (divw_any A m c 1000000000 w.heap.size cur _ HCL.out hown (by omega) hdc (by omega) (by omega) (fun h => hshG.out (by omega))).mono ?_; rintro e w2 ⟨r, ys, rfl, hr, hyv, hyl, hdy, howny, honly⟩; have hbelow := honly.below hblk2; have hownb2 := honly.own hownb hblk)
      | (at_builtin; refine wpList_app1f rfl (.tmp 10) (.tmp 12) 22 109 rfl .u32 4 info_u32 Tryz.underlying22 (by omega) _ _ bs _ r rfl rfl hownb2 rfl (w0 := w2) (Below.refl _ _) (by have := honly.size; omega) (by omega) ?_; intro v' w' hown' hbw' hfar))
    have howny' : Own .u32 109 w.heap.size w' (.slice A m c) ys := howny.kept2 fun g hg hlt => hfar.2 g hlt fun hb => by
      have h1 := (World.ownsRow.lt hownb2 g hb).1
      rcases A with _ | ad
      · cases hg
      · have h2 := hblk ad rfl
        injection hg with hg
        omega
    have hylm : ys.length = m := hyl.out.trans HCL.out
    have HYL := Lib.hid hylm
    obtain ⟨A', c', hfe, _, hry⟩ := howny'.form
    obtain ⟨rfl, _, rfl⟩ : A = A' ∧ m = ys.length ∧ c = c' := by injection hfe with h1 h2 h3; exact ⟨h1, h2, h3⟩
    have hcm : m ≤ c := by omega
    clear hfe hylm
    have hbw2 : Below w.heap.size w w' := (hbw.trans hbelow).trans (hbw'.mono hsz1)
    have hvq : V32 cur = V32 ys * 1000000000 + r := hyv.out
    have HVQ := Lib.hid hvq
    clear hvq hownb2 hownb howny
    refine (trim_u32n A c m ys _ HYL.out hry hcm (by omega)).mono ?_
    rintro e w3 ⟨q, hq, rfl, hv3, hn3, rfl⟩
    have HV3 := Lib.hid hv3
    clear hv3
    have hqv : V32 (ys.take q) = V32 ys := HV3.out _
    have HQV := Lib.hid hqv
    have hdq : Dig 4294967296 (ys.take q) := hdy.take q
    have hql : (ys.take q).length = q := by rw [List.length_take, Nat.min_eq_left hq]
    have hownq := howny'.take_ HYL.out (m := q) (by have := HYL.out; omega)
    have HQL := Lib.hid hql
    have hstep := blocks_step 1000000000 _ r _ _ bs HVQ.out HV.out
    have HST := Lib.hid hstep
    have hdbr : Dig 1000000000 (bs ++ [r]) := hdb.snoc hr
    clear hqv hql hstep HV3
    by_cases h0 : q = 0
    · subst h0
      go_wp2
      go_ret
      have hv0 : V32 ys = 0 := by rw [← HQV.out]; rfl
      have hst := HST.out
      rw [hv0, Nat.mul_zero, Nat.add_zero] at hst
      refine ⟨v', bs ++ [r], rfl, hown'.base hsz1, by simp, hst.symm, hdbr, fun hl => nrm_snoc ?_, by rw [List.length_append, List.length_singleton]; omega, hbw2⟩
      have h1 := HP.out (by rw [List.length_append, List.length_singleton] at hl; omega)
      have h2 := HVQ.out
      rw [hv0] at h2
      omega
    · have hqb : ((q : Int) == 0) = false := beq_eq_false_iff_ne.2 (by omega)
      go_wp2
      have h2 := HVQ.out
      have hy1 : 1 ≤ V32 ys := by
        rw [← HQV.out]
        have h3 := val_ge (B := 4294967296) hn3 (by have := HQL.out; omega)
        have h4 : 0 < 4294967296 ^ ((ys.take q).length - 1) := Nat.pow_pos (by omega)
        unfold V32; omega
      go_roundg (V32 ys)
      case measure => have := HG.out; omega
      case rel =>
        exact ⟨q, ys.take q, bs ++ [r], rfl, HQL.out, HQV.out, hdq, hn3, by have := HYL.out; omega, by rw [HQV.out]; exact HST.out, hdbr, fun _ => by rw [HQV.out]; exact hy1, hownq, hown', hbw2, by have := hbw'.size; have := hbelow.size; omega⟩
end Go.Proofs.YtdonbgjmcbhecaaGreatDoor


/- isochroneref01.Words: a number as a magnitude; at most 100000 digits. -/
namespace Go.Proofs.YtdonbgjmcbhecaaGreatDoor
open Go.RowKit V

theorem VD_pos {q : List Nat} (hn : Nm q) (h : 0 < q.length) : 1 ≤ VD q := by
  have := val_ge (B := 10000) hn.2 h
  have h2 : 0 < 10000 ^ (q.length - 1) := Nat.pow_pos (by omega)
  unfold VD; omega
end Go.Proofs.YtdonbgjmcbhecaaGreatDoor


/- slices.Equal of two slices that read as one list; isochronelaw01.is, isochroneref01.Valid and isochronelaw01.small. -/
namespace Go.Proofs.YtdonbgjmcbhecaaGreatDoor
open Go.RowKit V

/-- The answer is true; what was there is as it was. -/
def Yes (w : World) (e : Ending) (w' : World) : Prop := e = .returned (.bool true) ∧ Below w.heap.size w w'

set_option maxHeartbeats 400000 in
theorem rvalid_yes (A : Option Addr) (c : Nat) (xs : List Nat) (w : World) (hx : Rd .u32 w A xs) (ok : Ok xs) :
    Calls Tryz.prog 120 #[.slice A xs.length c] w fun e w' => e = .returned (.bool true) ∧ w = w' := by
  obtain ⟨ok1, ok2⟩ := ok
  by_cases h0 : xs.length = 0
  · have hb : ((xs.length : Int) == 0) = true := by simp [h0]
    clear h0 ok2
    go_enter Tryz.func120, Tryz.ntmps120
    go_wp2
    go_ret
    exact ⟨rfl, rfl⟩
  · have hb : ((xs.length : Int) == 0) = false := beq_eq_false_iff_ne.2 (by omega)
    obtain ⟨ad, x, rfl, hbx, ex, cx⟩ := hx.ask (i := xs.length - 1) (by omega)
    have hn : ((x : Int) != 0) = true := by have := ok2 (by omega); rw [ex.out] at this; simpa using this
    have h1 : 1 ≤ xs.length := by omega
    clear ok2 h0
    go_enter Tryz.func120, Tryz.ntmps120
    go_wp2
    go_ret
    exact ⟨rfl, rfl⟩

set_option maxHeartbeats 400000 in
theorem rvalid_no (A : Option Addr) (c : Nat) (xs : List Nat) (w : World) (hx : Rd .u32 w A xs) (ok : ¬ Ok xs) :
    Calls Tryz.prog 120 #[.slice A xs.length c] w fun e w' => e = .returned (.bool false) ∧ w = w' := by
  by_cases hl : xs.length ≤ 4096
  · have ok2 : ¬ Nrm xs := fun h => ok ⟨hl, h⟩
    have h0 : 1 ≤ xs.length := by
      rcases Nat.eq_zero_or_pos xs.length with h | h
      · exact absurd (fun hh => by omega) ok2
      · exact h
    have hb : ((xs.length : Int) == 0) = false := beq_eq_false_iff_ne.2 (by omega)
    obtain ⟨ad, x, rfl, hbx, ex, cx⟩ := hx.ask (i := xs.length - 1) (by omega)
    have hx0 : x = 0 := by
      rcases Nat.eq_zero_or_pos x with h | h
      · exact h
      · exact absurd (fun _ => by rw [ex.out]; omega) ok2
    subst hx0
    clear ok2 ok
    go_enter Tryz.func120, Tryz.ntmps120
    go_wp2
    go_ret
    exact ⟨rfl, rfl⟩
  · have hb : ((xs.length : Int) == 0) = false := beq_eq_false_iff_ne.2 (by omega)
    clear ok
    go_enter Tryz.func120, Tryz.ntmps120
    go_wp2
    go_ret
    exact ⟨rfl, rfl⟩

end Go.Proofs.YtdonbgjmcbhecaaGreatDoor

