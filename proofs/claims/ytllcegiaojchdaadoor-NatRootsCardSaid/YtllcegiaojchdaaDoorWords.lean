/- isochroneref01.Words: a number as a magnitude; at most 100000 digits. -/
import Derived.Test.YtllcegiaojchdaaDoorOps
import Derived.Test.YtllcegiaojchdaaDoorSplit
import Derived.Deep.LoopGhost
namespace Go.Proofs.YtllcegiaojchdaaDoor
open Go.RowKit V

theorem int_eq {k : IntKind} {a b : Int} (h : a = b) : Value.int k a = .int k b := by rw [h]
theorem VD_pos {q : List Nat} (hn : Nm q) (h : 0 < q.length) : 1 ≤ VD q := by
  have := val_ge (B := 10000) hn.2 h
  have h2 : 0 < 10000 ^ (q.length - 1) := Nat.pow_pos (by omega)
  unfold VD; omega
/-- The halves of a number of so many digits of the document are not more than that. -/
theorem halves_len {hs xs : List Nat} (h : 0 < hs.length → 65536 ^ (hs.length - 1) ≤ VD xs) (hx : Dig 10000 xs) : hs.length ≤ xs.length := by
  rcases Nat.eq_zero_or_pos hs.length with h0 | h0
  · omega
  · have h1 := h h0
    have h2 := val_lt 10000 xs hx
    have h3 : 10000 ^ (hs.length - 1) ≤ 65536 ^ (hs.length - 1) := Nat.pow_le_pow_left (by omega) _
    rcases Nat.lt_or_ge xs.length hs.length with h4 | h4
    · have h5 : 10000 ^ xs.length ≤ 10000 ^ (hs.length - 1) := Nat.pow_le_pow_right (by omega) (by omega)
      unfold VD at h1; omega
    · exact h4

theorem flush2 (B t r v vq : Nat) (hs : List Nat) (e : vq = v * B + r) (hv : val B hs + B ^ hs.length * vq = t) : val B (hs ++ [r]) + B ^ (hs ++ [r]).length * v = t := by
  rw [val_snoc, List.length_append, List.length_singleton, Nat.pow_succ, Nat.mul_assoc]
  have h := congrArg (B ^ hs.length * ·) e
  simp only [Nat.mul_add] at h
  rw [Nat.mul_comm B v]
  omega
theorem pow2 (n : Nat) : (65536 : Nat) ^ (2 * n) = 4294967296 ^ n := by rw [Nat.pow_mul]
/-- Two halves make a word. -/
theorem pair_step (n a b : Nat) (hs out : List Nat) (hl : out.length = n) (ea : hs.getD (2 * n) 0 = a) (eb : hs.getD (2 * n + 1) 0 = b) (hv : val 4294967296 out = val 65536 (hs.take (2 * n))) :
    val 4294967296 (out ++ [a + b * 65536]) = val 65536 (hs.take (2 * n + 1 + 1)) := by
  rw [val_snoc, hl, val_take_any, val_take_any, ea, eb, hv, Nat.pow_succ, pow2, Nat.mul_add, Nat.mul_assoc, Nat.mul_comm 65536 b]
  omega
theorem nrm_words {hs out : List Nat} {xs : List Nat} (hd : Dig 4294967296 out) (hv : val 4294967296 out = VD xs) (hl : hs.length ≤ 2 * out.length) (hl2 : 2 * out.length ≤ hs.length + 1)
    (h : 0 < hs.length → 65536 ^ (hs.length - 1) ≤ VD xs) : Nrm out := by
  refine nrm_of_ge hd fun h0 => ?_
  have h1 := h (by omega)
  rw [hv, ← pow2]
  have h2 : 65536 ^ (2 * (out.length - 1)) ≤ 65536 ^ (hs.length - 1) := Nat.pow_le_pow_right (by omega) (by omega)
  omega

set_option maxHeartbeats 1000000 in
theorem words_any (A : Option Addr) (ca : Nat) (xs : List Nat) (w : World) (hx : Rd .i64 w A xs) (bl : xs.length ≤ 100000) (nmx : Nm xs) :
    Calls Tryd.prog 35 #[.slice A xs.length ca] w (OutP .u32 (fun zs => V32 zs = VD xs ∧ Mag zs) w) := by
  go_enter Tryd.func35, Tryd.ntmps35
  go_wp2
  go_loopg [0, 3, 4, 5] (VD xs) (fun g a v _ _ wr => ∃ Q qc q hs, a = .slice Q q.length qc ∧ VD q = g ∧ Nm q ∧ q.length ≤ xs.length ∧ Rd .i64 wr Q q ∧ Dig 65536 hs ∧ val 65536 hs + 65536 ^ hs.length * VD q = VD xs ∧
      (0 < hs.length → 65536 ^ (hs.length - 1) ≤ VD xs) ∧ Own .i64 3 w.heap.size wr v hs ∧ Below w.heap.size w wr)
  case atStart => exact ⟨A, ca, xs, [], rfl, rfl, nmx, Nat.le_refl _, hx, fun _ h => by simp at h, by simp [val], fun h => by simp at h, Own.nil_, Below.refl _ _⟩
  case round =>
    obtain ⟨Q, qc, q, hs, rfl, hg, hnq, hql, hrq, hdh, hv, hmin, hown, hbw⟩ := hrel
    have HG := Lib.hid hg
    have HV := Lib.hid hv
    have HM := Lib.hid hmin
    have hlen : hs.length ≤ xs.length := halves_len hmin nmx.1
    clear hg hv hmin
    by_cases h0 : 0 < q.length
    · have hdq : Dig 10000 q := hnq.1
      have hpos := VD_pos hnq h0
      have hb0 : decide ((0 : Int) < q.length) = true := by simpa using h0
      go_wp2_with (first
        | (go_at_call 37; refine (split_any Q qc 65536 q _ hrq (by omega) hdq (by omega) (by omega)).mono ?_; rintro e w1 ⟨Q1, qc1, q1, r, rfl, hqc1, hrq1, hb1, hsp, hr, hnq1, hql1, hfr1⟩)
        | (at_builtin; refine wpList_app1f rfl (.tmp 17) (.tmp 19) 25 3 rfl .i64 8 info_i64 Tryd.underlying25 (by omega) _ _ hs _ r rfl rfl (hown.kept hb1) rfl (hbw.trans (hb1.mono hbw.size)) (Nat.le_refl _) (by omega) ?_; intro v' w' hown' hbw' hfar))
      have hrq' : Rd .i64 w' Q1 q1 := hrq1.keep2 hfar.1 fun p ⟨ad, ha, hp⟩ hlt => World.cell?_of_block <| hfar.2 p.block hlt fun hv => by
        have h1 := (World.ownsRow.lt hown _ hv).2
        have h2 := hfr1 ad ha
        omega
      have hvq : VD q = VD q1 * 65536 + r := hsp.out
      go_roundg (VD q1)
      case measure => have := HG.out; omega
      case rel =>
        refine ⟨Q1, qc1, q1, hs ++ [r], rfl, rfl, hnq1, by omega, hrq', hdh.snoc hr, flush2 65536 _ r _ _ hs hvq HV.out, fun _ => ?_, hown', hbw'⟩
        rw [List.length_append, List.length_singleton, Nat.add_sub_cancel]
        have h1 := HV.out
        have h2 : 65536 ^ hs.length * 1 ≤ 65536 ^ hs.length * VD q := Nat.mul_le_mul_left _ hpos
        omega
    · have hqe : Hid (q = []) := List.eq_nil_of_length_eq_zero (by omega)
      have hb0 : decide ((0 : Int) < q.length) = false := by simpa using h0
      obtain ⟨H, hcap, rfl, hhc, hrh⟩ := hown.form
      have hmin := HM.out
      have HE : Hid (val 65536 hs = VD xs) := by have := HV.out; rw [hqe.out] at this; show val 65536 hs = VD xs; simpa [VD, val] using this
      clear hown HV HM hrq HG hnq hqe
      obtain ⟨w1, rfl⟩ : ∃ w1 : World, w1 = wr := ⟨_, rfl⟩
      have HMIN := Lib.hid hmin
      clear hmin
      go_wp2
      go_loopw [6, 7, 8] (fun v i _ wq => ∃ n : Nat, ∃ out : List Nat, i = .int .i64 (2 * n : Nat) ∧ 2 * n ≤ hs.length + 1 ∧ out.length = n ∧ val 4294967296 out = val 65536 (hs.take (2 * n)) ∧ Dig 4294967296 out ∧
          Own .u32 55 w1.heap.size wq v out ∧ Below w1.heap.size w1 wq) (fun _ i _ _ => hs.length + 1 - (intOf i).toNat)
      case atStart => exact ⟨0, [], rfl, by omega, rfl, rfl, fun _ h => by simp at h, Own.nil_, Below.refl _ _⟩
      case round =>
        obtain ⟨n, out, rfl, hn, hol, hv, hdo, hown, hbw2⟩ := hrel
        have HOL := Lib.hid hol
        have HV := Lib.hid hv
        clear hv hol
        have hrh' := hrh.below hbw2
        by_cases hlt : 2 * n < hs.length
        · obtain ⟨ad, a, rfl, hba, ea, ca'⟩ := hrh'.ask hlt
          have hal : a < 65536 := by rw [← ea.out]; exact dig_getD hdh (by omega) _
          by_cases hlt2 : 2 * n + 1 < hs.length
          · obtain ⟨ad2, b, hadd, hbb, eb, cb⟩ := hrh'.ask hlt2
            injection hadd with hadd
            subst hadd
            have hbl : b < 65536 := by rw [← eb.out]; exact dig_getD hdh (by omega) _
            have cb2 := cb
            unfold Addr.add at cb2
            rw [if_neg (by omega)] at cb2
            go_wp2_with (at_builtin; refine wpList_app1 rfl (.tmp 47) (.tmp 49) 22 55 rfl .u32 4 info_u32 Tryd.underlying22 (by omega) _ _ out _ (a + b * 65536) (by omega) rfl hown rfl hbw2 (Nat.le_refl _) (by have := HOL.out; omega) ?_; intro v' w' hown' hbw')
            go_roundw
            case rel => exact ⟨n + 1, out ++ [a + b * 65536], int_eq (by omega), by omega, by rw [List.length_append, HOL.out]; rfl, pair_step n a b hs out HOL.out ea.out eb.out HV.out, hdo.snoc (by omega), hown', hbw'⟩
            case measure => simp [intOf]; omega
          · have eb : Hid (hs.getD (2 * n + 1) 0 = 0) := getD_beyond hs _ (by omega)
            go_wp2_with (at_builtin; refine wpList_app1 rfl (.tmp 47) (.tmp 49) 22 55 rfl .u32 4 info_u32 Tryd.underlying22 (by omega) _ _ out _ (a + 0 * 65536) (by omega) rfl hown rfl hbw2 (Nat.le_refl _) (by have := HOL.out; omega) ?_; intro v' w' hown' hbw')
            go_roundw
            case rel => exact ⟨n + 1, out ++ [a + 0 * 65536], int_eq (by omega), by omega, by rw [List.length_append, HOL.out]; rfl, pair_step n a 0 hs out HOL.out ea.out eb.out HV.out, hdo.snoc (by omega), hown', hbw'⟩
            case measure => simp [intOf]; omega
        · obtain ⟨O, oc, rfl, hoc, hro⟩ := hown.form
          clear hown
          go_wp2
          go_ret
          have hol := HOL.out
          have hval : val 4294967296 out = VD xs := by rw [HV.out, List.take_of_length_le (by omega)]; exact HE.out
          exact ⟨O, oc, out, rfl, hoc, hro, hbw.trans (hbw2.mono hbw.size), hval, hdo, nrm_words hdo hval (by omega) (by omega) HMIN.out⟩
end Go.Proofs.YtllcegiaojchdaaDoor

