/- The reference's Words with the type of the blocks. -/
import Derived.Test.YtlbfoclhkdlafaaGreatDoorPMR17
import Derived.Deep.DeepCutAuto
import Derived.Deep.RegionHeld3
import Derived.Test.YtlbfoclhkdlafaaGreatDoorRows
import Derived.Below
import Derived.Laws.OwnMore
import Derived.Laws.MakeOwn
import Derived.Deep.AppendLies
import Derived.Deep.Draws
import Derived.Laws.Rows
import Derived.Lib.Hide
import Derived.Deep.QuietTactic
import Derived.WalkKit
import Derived.WalkSpells
import Derived.WalkLawsBesides
import Derived.Laws.BitsAllLaws
import Derived.BigQuiet
import Derived.StillTailTactics
import Derived.Lib.LazyBuf
import Derived.Deep.LoopGhost
import Derived.Lib.ItoaNum
import Derived.Test.YtlbfoclhkdlafaaGreatDoorShelf
import Derived.Lib.AppendIntMem
import Derived.Laws.IdiomCopy
import Derived.Lib.SmallJoins
import Derived.Laws.IdiomStrings
import Derived.Deep.RegionWith
import Derived.BigRegion
import Derived.IntWalk
import Derived.Laws.CopyOwn
namespace Go.Proofs.YtlbfoclhkdlafaaGreatDoor
open Go.RowKit V

set_option maxHeartbeats 1000000 in
theorem words_anyT (A : Option Addr) (ca : Nat) (xs : List Nat) (w : World) (hx : Rd .i64 w A xs) (bl : xs.length ≤ 100000) (nmx : Nm xs) :
    Calls Tryz.prog 88 #[.slice A xs.length ca] w (OutT .u32 140 (fun zs => V32 zs = VD xs ∧ Mag zs) w) := by
  go_enter Tryz.func88, Tryz.ntmps88
  go_wp2
  go_loopg [0, 3, 4, 5] (VD xs) (fun g a v _ _ wr => ∃ Q qc q hs, a = .slice Q q.length qc ∧ VD q = g ∧ Nm q ∧ q.length ≤ xs.length ∧ Rd .i64 wr Q q ∧ Dig 65536 hs ∧ val 65536 hs + 65536 ^ hs.length * VD q = VD xs ∧
      (0 < hs.length → 65536 ^ (hs.length - 1) ≤ VD xs) ∧ Own .i64 3 w.heap.size wr v hs ∧ Below w.heap.size w wr)
  case atStart => exact ⟨A, ca, xs, [], rfl, rfl, nmx, Nat.le_refl _, hx, fun _ h => by simp at h, by simp [val], fun h => by simp at h, Own.nil_, Below.refl _ _⟩
  case round =>
    obtain ⟨Q, qc, q, hs, rfl, hg, hnq, hql, hrq, hdh, hv, hmin, hown, hbw⟩ := hrel
    have HG := Lib.hid hg
    have HV := Lib.hid hv
    have HM := Lib.hid hmin
    have hlen : hs.length ≤ xs.length := halves_len hmin nmx.1
    clear hg hv hmin
    by_cases h0 : 0 < q.length
    · have hdq : Dig 10000 q := hnq.1
      have hpos := VD_pos hnq h0
      have hb0 : decide ((0 : Int) < q.length) = true := by simpa using h0
      go_wp2_with (first
        | (go_at_call 133; refine (split_any Q qc 65536 q _ hrq (by omega) hdq (by omega) (by omega)).mono ?_; rintro e w1 ⟨Q1, qc1, q1, r, rfl, hqc1, hrq1, hb1, hsp, hr, hnq1, hql1, hfr1⟩)
        | (at_builtin; refine wpList_app1f rfl (.tmp 17) (.tmp 19) 43 3 rfl .i64 8 info_i64 Tryz.underlying43 (by omega) _ _ hs _ r rfl rfl (hown.kept hb1) rfl (hbw.trans (hb1.mono hbw.size)) (Nat.le_refl _) (by omega) ?_; intro v' w' hown' hbw' hfar))
      have hrq' : Rd .i64 w' Q1 q1 := hrq1.keep2 hfar.1 fun p ⟨ad, ha, hp⟩ hlt => World.cell?_of_block <| hfar.2 p.block hlt fun hv => by
        have h1 := (World.ownsRow.lt hown _ hv).2
        have h2 := hfr1 ad ha
        omega
      have hvq : VD q = VD q1 * 65536 + r := hsp.out
      go_roundg (VD q1)
      case measure => have := HG.out; omega
      case rel =>
        refine ⟨Q1, qc1, q1, hs ++ [r], rfl, rfl, hnq1, by omega, hrq', hdh.snoc hr, flush2 65536 _ r _ _ hs hvq HV.out, fun _ => ?_, hown', hbw'⟩
        rw [List.length_append, List.length_singleton, Nat.add_sub_cancel]
        have h1 := HV.out
        have h2 : 65536 ^ hs.length * 1 ≤ 65536 ^ hs.length * VD q := Nat.mul_le_mul_left _ hpos
        omega
    · have hqe : Hid (q = []) := List.eq_nil_of_length_eq_zero (by omega)
      have hb0 : decide ((0 : Int) < q.length) = false := by simpa using h0
      obtain ⟨H, hcap, rfl, hhc, hrh⟩ := hown.form
      have hmin := HM.out
      have HE : Hid (val 65536 hs = VD xs) := by have := HV.out; rw [hqe.out] at this; show val 65536 hs = VD xs; simpa [VD, val] using this
      clear hown HV HM hrq HG hnq hqe
      obtain ⟨w1, rfl⟩ : ∃ w1 : World, w1 = wr := ⟨_, rfl⟩
      have HMIN := Lib.hid hmin
      clear hmin
      go_wp2
      go_loopw [6, 7, 8] (fun v i _ wq => ∃ n : Nat, ∃ out : List Nat, i = .int .i64 (2 * n : Nat) ∧ 2 * n ≤ hs.length + 1 ∧ out.length = n ∧ val 4294967296 out = val 65536 (hs.take (2 * n)) ∧ Dig 4294967296 out ∧
          Own .u32 140 w1.heap.size wq v out ∧ Below w1.heap.size w1 wq) (fun _ i _ _ => hs.length + 1 - (intOf i).toNat)
      case atStart => exact ⟨0, [], rfl, by omega, rfl, rfl, fun _ h => by simp at h, Own.nil_, Below.refl _ _⟩
      case round =>
        obtain ⟨n, out, rfl, hn, hol, hv, hdo, hown, hbw2⟩ := hrel
        have HOL := Lib.hid hol
        have HV := Lib.hid hv
        clear hv hol
        have hrh' := hrh.below hbw2
        by_cases hlt : 2 * n < hs.length
        · obtain ⟨ad, a, rfl, hba, ea, ca'⟩ := hrh'.ask hlt
          have hal : a < 65536 := by rw [← ea.out]; exact dig_getD hdh (by omega) _
          by_cases hlt2 : 2 * n + 1 < hs.length
          · obtain ⟨ad2, b, hadd, hbb, eb, cb⟩ := hrh'.ask hlt2
            injection hadd with hadd
            subst hadd
            have hbl : b < 65536 := by rw [← eb.out]; exact dig_getD hdh (by omega) _
            have cb2 := cb
            unfold Addr.add at cb2
            rw [if_neg (by omega)] at cb2
            go_wp2_with (at_builtin; refine wpList_app1 rfl (.tmp 47) (.tmp 49) 25 140 rfl .u32 4 info_u32 Tryz.underlying25 (by omega) _ _ out _ (a + b * 65536) (by omega) rfl hown rfl hbw2 (Nat.le_refl _) (by have := HOL.out; omega) ?_; intro v' w' hown' hbw')
            go_roundw
            case rel => exact ⟨n + 1, out ++ [a + b * 65536], int_eq (by omega), by omega, by rw [List.length_append, HOL.out]; rfl, pair_step n a b hs out HOL.out ea.out eb.out HV.out, hdo.snoc (by omega), hown', hbw'⟩
            case measure => simp [intOf]; omega
          · have eb : Hid (hs.getD (2 * n + 1) 0 = 0) := getD_beyond hs _ (by omega)
            go_wp2_with (at_builtin; refine wpList_app1 rfl (.tmp 47) (.tmp 49) 25 140 rfl .u32 4 info_u32 Tryz.underlying25 (by omega) _ _ out _ (a + 0 * 65536) (by omega) rfl hown rfl hbw2 (Nat.le_refl _) (by have := HOL.out; omega) ?_; intro v' w' hown' hbw')
            go_roundw
            case rel => exact ⟨n + 1, out ++ [a + 0 * 65536], int_eq (by omega), by omega, by rw [List.length_append, HOL.out]; rfl, pair_step n a 0 hs out HOL.out ea.out eb.out HV.out, hdo.snoc (by omega), hown', hbw'⟩
            case measure => simp [intOf]; omega
        · obtain ⟨O, oc, rfl, hoc, hro⟩ := hown.formT
          clear hown
          go_wp2
          go_ret
          have hol := HOL.out
          have hval : val 4294967296 out = VD xs := by rw [HV.out, List.take_of_length_le (by omega)]; exact HE.out
          exact ⟨O, oc, out, rfl, hoc, hro, hbw.trans (hbw2.mono hbw.size), hval, hdo, nrm_words hdo hval (by omega) (by omega) HMIN.out⟩
end Go.Proofs.YtlbfoclhkdlafaaGreatDoor


/- The reference's rational Of and To with the type of the blocks. -/
namespace Go.Proofs.YtlbfoclhkdlafaaGreatDoor
open Go.RowKit V

set_option maxRecDepth 100000 in
set_option maxHeartbeats 1600000 in
theorem qofT (a : RL) (q : Rat) (w : World) (ha : a.Is w q) (l1 : a.ns.length ≤ 5000) (l2 : a.ds.length ≤ 5000) :
    Calls Tryz.prog 22 #[.agg #[.bool a.s, .slice a.N a.ns.length a.nc, .slice a.D a.ds.length a.dc]] w (RefT q (4 * a.ns.length) (4 * a.ds.length) w) := by
  go_enter Tryz.func22, Tryz.ntmps22
  go_wp2_with fail
  have hbox := boxes2 27 46 w (.bool a.s) (.slice a.N a.ns.length a.nc) (.slice a.D a.ds.length a.dc) (.bool false) (.slice none 0 0) (.slice none 0 0)
  obtain ⟨w1, hwe⟩ : ∃ x, (w.alloc (.cells #[.bool a.s, .slice a.N a.ns.length a.nc, .slice a.D a.ds.length a.dc] 27)).alloc (.cells #[.bool false, .slice none 0 0, .slice none 0 0] 46) = x := ⟨_, rfl⟩
  rw [hwe] at hbox ⊢
  obtain ⟨ka1, kr1, hb1⟩ := hbox
  have HWE := Lib.hid hwe
  clear hwe HWE
  have ha1 := ha.below hb1
  have hw1 := hb1
  clear ha hb1
  obtain ⟨a0, a1, a2, a3, a4, a5, a6⟩ := ka1.facts
  go_upto_region 1 with fail
  go_region_held3 (fun w' => w'.cell? ⟨w.heap.size, 0, none⟩ = some (.bool a.s) ∧ w'.cell? ⟨w.heap.size, 1, none⟩ = some (.slice a.N a.ns.length a.nc) ∧ w'.cell? ⟨w.heap.size, 2, none⟩ = some (.slice a.D a.ds.length a.dc)) (first | exact ⟨‹_›, ‹_›, ‹_›⟩ | go_keep)
    (first
    | (go_at_call_of 66 (Value.slice a.N a.ns.length a.nc)
       refine (of_anyT a.N a.nc a.ns _ (by first | exact ha1.rn | exact ha1.rn.drew | exact (ha1.rn.below hbyq) | exact (ha1.rn.below hbyq).drew) l1 ha1.mn.1).mono ?_
       rintro e wx_ ⟨X, xc, xs, rfl, hxc, hX, hbx, hvx, mx, hxl⟩
       have HVX := Lib.hid hvx
       clear hvx
       have hbxq : Below w1.heap.size w1 wx_ := by first | exact below_of_drew hbx (Nat.le_refl _) | exact hbx | exact hbyq.trans (hbx.mono hbyq.size) | exact hbyq.trans (below_of_drew hbx hbyq.size)
       obtain ⟨c0wx_, c1wx_, c2wx_, c3wx_, c4wx_, c5wx_, c6wx_⟩ := (ka1.below hbxq).facts
       obtain ⟨d0wx_, d1wx_, d2wx_, d3wx_, d4wx_, d5wx_, d6wx_⟩ := (kr1.below hbxq).facts)
    | (go_at_call_of 66 (Value.slice a.D a.ds.length a.dc)
       refine (of_anyT a.D a.dc a.ds _ (by first | exact ha1.rd | exact ha1.rd.drew | exact (ha1.rd.below hbxq) | exact (ha1.rd.below hbxq).drew) l2 ha1.md.1).mono ?_
       rintro e wy_ ⟨Y, yc, ys, rfl, hyc, hY, hby, hvy, my, hyl⟩
       have HVY := Lib.hid hvy
       clear hvy
       have hbyq : Below w1.heap.size w1 wy_ := by first | exact below_of_drew hby (Nat.le_refl _) | exact hby | exact hbxq.trans (hby.mono hbxq.size) | exact hbxq.trans (below_of_drew hby hbxq.size)
       obtain ⟨c0wy_, c1wy_, c2wy_, c3wy_, c4wy_, c5wy_, c6wy_⟩ := (ka1.below hbyq).facts
       obtain ⟨d0wy_, d1wy_, d2wy_, d3wy_, d4wy_, d5wy_, d6wy_⟩ := (kr1.below hbyq).facts))
  all_goals
    go_wp2_with fail
    first
      | (refine bodyPost_ret (v := .agg #[.bool a.s, .slice X xs.length xc, .slice Y ys.length yc]) (by simp [results, Tryz.results22, go_sem, d0wy_, d1wy_, d2wy_]) rfl ?_
         exact RefT.put ⟨a.s, X, xc, xs, Y, yc, ys⟩ ⟨(hX.below hby).rd, hY.rd, mx, my, by dsimp only; rw [HVX.out, HVY.out]; exact ha1.q⟩ ⟨hX.below hby, hY⟩ (kr1.below hbyq) (by omega) (hw1.trans (hbyq.mono hw1.size)) hxl hyl)
      | (refine bodyPost_ret (v := .agg #[.bool a.s, .slice X xs.length xc, .slice Y ys.length yc]) (by simp [results, Tryz.results22, go_sem, d0wx_, d1wx_, d2wx_]) rfl ?_
         exact RefT.put ⟨a.s, X, xc, xs, Y, yc, ys⟩ ⟨hX.rd, (hY.below hbx).rd, mx, my, by dsimp only; rw [HVX.out, HVY.out]; exact ha1.q⟩ ⟨hX, hY.below hbx⟩ (kr1.below hbxq) (by omega) (hw1.trans (hbxq.mono hw1.size)) hxl hyl)

/-- What comes out as a number of package api, with its blocks' type. -/
def RatT (q : Rat) (L : Nat) (w : World) (e : Ending) (w' : World) : Prop :=
  ∃ r : RL, e = .returned (.agg #[.bool r.s, .slice r.N r.ns.length r.nc, .slice r.D r.ds.length r.dc]) ∧ r.Is w' q ∧ r.Ty w' ∧ r.ns.length ≤ L ∧ r.ds.length ≤ L ∧ Below w.heap.size w w'
theorem RatT.put {t : TypeId} {w w' : World} {q : Rat} {L g n c d e : Nat} {p : Bool} {N D : Option Addr} (r : RL) (hi : r.Is w' q) (hty : r.Ty w') (hb : BlkT t w' g (.bool p) (.slice N n c) (.slice D d e)) (hg : w.heap.size ≤ g) (hw : Below w.heap.size w w') (l1 : r.ns.length ≤ L) (l2 : r.ds.length ≤ L) :
    RatT q L w (.returned (.agg #[.bool r.s, .slice r.N r.ns.length r.nc, .slice r.D r.ds.length r.dc])) (Go.Proofs.YtlbfoclhkdlafaaGreatDoor.put3 w' g (.bool r.s) (.slice r.N r.ns.length r.nc) (.slice r.D r.ds.length r.dc)) :=
  ⟨r, rfl, hi.put3 hb _ _ _, hty.put3 hb _ _ _, l1, l2, below_put3 hw hg _ _ _⟩
set_option maxRecDepth 100000 in
set_option maxHeartbeats 1600000 in
theorem qtoT (a : RL) (q : Rat) (w : World) (ha : a.Ref w q) (L : Nat) (l1 : a.ns.length ≤ L) (l2 : a.ds.length ≤ L) (hL : L ≤ 100000) :
    Calls Tryz.prog 42 #[.agg #[.bool a.s, .slice a.N a.ns.length a.nc, .slice a.D a.ds.length a.dc]] w (RatT q L w) := by
  go_enter Tryz.func42, Tryz.ntmps42
  go_wp2_with fail
  have hbox := boxes2 46 27 w (.bool a.s) (.slice a.N a.ns.length a.nc) (.slice a.D a.ds.length a.dc) (.bool false) (.slice none 0 0) (.slice none 0 0)
  obtain ⟨w1, hwe⟩ : ∃ x, (w.alloc (.cells #[.bool a.s, .slice a.N a.ns.length a.nc, .slice a.D a.ds.length a.dc] 46)).alloc (.cells #[.bool false, .slice none 0 0, .slice none 0 0] 27) = x := ⟨_, rfl⟩
  rw [hwe] at hbox ⊢
  obtain ⟨ka1, kr1, hb1⟩ := hbox
  have HWE := Lib.hid hwe
  clear hwe HWE
  have ha1 := ha.below hb1
  have hw1 := hb1
  clear ha hb1
  obtain ⟨a0, a1, a2, a3, a4, a5, a6⟩ := ka1.facts
  go_upto_region 1 with fail
  go_region_held3 (fun w' => w'.cell? ⟨w.heap.size, 0, none⟩ = some (.bool a.s) ∧ w'.cell? ⟨w.heap.size, 1, none⟩ = some (.slice a.N a.ns.length a.nc) ∧ w'.cell? ⟨w.heap.size, 2, none⟩ = some (.slice a.D a.ds.length a.dc)) (first | exact ⟨‹_›, ‹_›, ‹_›⟩ | go_keep)
    (first
    | (go_at_call_of 88 (Value.slice a.N a.ns.length a.nc)
       refine (words_anyT a.N a.nc a.ns _ (by first | exact ha1.rn | exact ha1.rn.drew | exact (ha1.rn.below hbyq) | exact (ha1.rn.below hbyq).drew) (Nat.le_trans l1 hL) ha1.mn).mono ?_
       rintro e wx_ ⟨X, xc, xs, rfl, hxc, hX, hbx, hvx, mx⟩
       have HVX := Lib.hid hvx
       clear hvx
       have hbxq : Below w1.heap.size w1 wx_ := by first | exact below_of_drew hbx (Nat.le_refl _) | exact hbx | exact hbyq.trans (hbx.mono hbyq.size) | exact hbyq.trans (below_of_drew hbx hbyq.size)
       obtain ⟨c0wx_, c1wx_, c2wx_, c3wx_, c4wx_, c5wx_, c6wx_⟩ := (ka1.below hbxq).facts
       obtain ⟨d0wx_, d1wx_, d2wx_, d3wx_, d4wx_, d5wx_, d6wx_⟩ := (kr1.below hbxq).facts)
    | (go_at_call_of 88 (Value.slice a.D a.ds.length a.dc)
       refine (words_anyT a.D a.dc a.ds _ (by first | exact ha1.rd | exact ha1.rd.drew | exact (ha1.rd.below hbxq) | exact (ha1.rd.below hbxq).drew) (Nat.le_trans l2 hL) ha1.md).mono ?_
       rintro e wy_ ⟨Y, yc, ys, rfl, hyc, hY, hby, hvy, my⟩
       have HVY := Lib.hid hvy
       clear hvy
       have hbyq : Below w1.heap.size w1 wy_ := by first | exact below_of_drew hby (Nat.le_refl _) | exact hby | exact hbxq.trans (hby.mono hbxq.size) | exact hbxq.trans (below_of_drew hby hbxq.size)
       obtain ⟨c0wy_, c1wy_, c2wy_, c3wy_, c4wy_, c5wy_, c6wy_⟩ := (ka1.below hbyq).facts
       obtain ⟨d0wy_, d1wy_, d2wy_, d3wy_, d4wy_, d5wy_, d6wy_⟩ := (kr1.below hbyq).facts))
  all_goals
    go_wp2_with fail
    first
      | (refine bodyPost_ret (v := .agg #[.bool a.s, .slice X xs.length xc, .slice Y ys.length yc]) (by simp [results, Tryz.results42, go_sem, d0wy_, d1wy_, d2wy_]) rfl ?_
         exact RatT.put ⟨a.s, X, xc, xs, Y, yc, ys⟩ ⟨(hX.below hby).rd, hY.rd, mx, my, hxc, hyc, by dsimp only; rw [HVX.out, HVY.out]; exact ha1.q⟩ ⟨hX.below hby, hY⟩ (kr1.below hbyq) (by omega) (hw1.trans (hbyq.mono hw1.size)) (short_words mx HVX.out ha1.mn l1) (short_words my HVY.out ha1.md l2))
      | (refine bodyPost_ret (v := .agg #[.bool a.s, .slice X xs.length xc, .slice Y ys.length yc]) (by simp [results, Tryz.results42, go_sem, d0wx_, d1wx_, d2wx_]) rfl ?_
         exact RatT.put ⟨a.s, X, xc, xs, Y, yc, ys⟩ ⟨hX.rd, (hY.below hbx).rd, mx, my, hxc, hyc, by dsimp only; rw [HVX.out, HVY.out]; exact ha1.q⟩ ⟨hX, hY.below hbx⟩ (kr1.below hbxq) (by omega) (hw1.trans (hbxq.mono hw1.size)) (short_words mx HVX.out ha1.mn l1) (short_words my HVY.out ha1.md l2))
end Go.Proofs.YtlbfoclhkdlafaaGreatDoor


/- rat.Text: sign, numerator, denominator in decimal digits. -/
namespace Go.Proofs.YtlbfoclhkdlafaaGreatDoor
open Go.RowKit V

/-- The text of a number. -/
def ratText (s : Bool) (n d : Nat) : List UInt8 := (if s then [45] else []) ++ Lib.decDigits n ++ (if d = 1 then [] else 47 :: Lib.decDigits d)

set_option maxHeartbeats 1600000 in
theorem qtext (a : RL) (q : Rat) (w : World) (ha : a.Is w q) (l1 : a.ns.length ≤ 4096) (l2 : a.ds.length ≤ 4096)
    (htab : Lib.TabBelow Tryz.prog w.heap.size w "internal/strconv.uint64pow10" .u64 Lib.pow10Tab) :
    Calls Tryz.prog 79 #[.agg #[.bool a.s, .slice a.N a.ns.length a.nc, .slice a.D a.ds.length a.dc]] w
      (Gives (.tuple #[.string ⟨(ratText a.s (V32 a.ns) (V32 a.ds)).toArray⟩, .int .i64 0]) w) := by
  obtain ⟨s, N, nc, ns, D, dc, ds⟩ := a
  dsimp only at l1 l2 ⊢
  obtain ⟨o, ho⟩ : ∃ o, Hid (decide (V32 ds = 1) = o) := ⟨_, Lib.hid rfl⟩
  have HT := Lib.hid htab
  clear htab
  have mn : Mag ns := ha.mn
  have md : Mag ds := ha.md
  have hk := Blk3.new w (.bool s) (.slice N ns.length nc) (.slice D ds.length dc)
  have HV := Lib.hid (qvalid_yes ⟨s, N, nc, ns, D, dc, ds⟩ q _ (ha.below ((Below.refl _ _).alloc (Nat.le_refl w.heap.size) (.cells #[.bool s, .slice N ns.length nc, .slice D ds.length dc] 27))) l1 l2)
  have hX := dec_short mn l1 (by omega)
  have hY := dec_short md l2 (by omega)
  obtain ⟨X, hXe⟩ : ∃ X, Hid (Lib.decDigits (V32 ns) = X) := ⟨_, Lib.hid rfl⟩
  obtain ⟨Y, hYe⟩ : ∃ Y, Hid (Lib.decDigits (V32 ds) = Y) := ⟨_, Lib.hid rfl⟩
  rw [hXe.out] at hX
  rw [hYe.out] at hY
  have f1 := fun W => run_string_add_lists (P := Tryz.prog) W [45] X (by simp) (by omega)
  have f2 := fun W => run_string_add_lists (P := Tryz.prog) W [47] Y (by simp) (by omega)
  have f3 := fun W => run_string_add_lists (P := Tryz.prog) W X ([47] ++ Y) (by omega) (by simp; omega)
  have f4 := fun W => run_string_add_lists (P := Tryz.prog) W ([45] ++ X) ([47] ++ Y) (by simp; omega) (by simp; omega)
  simp only [List.cons_append, List.nil_append] at f1 f2 f3 f4
  cases s <;> cases o
  all_goals
    go_enter Tryz.func79, Tryz.ntmps79
    go_wp2_with fail
    refine HV.out.mono ?_
    rintro e w1 ⟨rfl, hb1⟩
    have hk1 := hk.below hb1
    have hw1 : Below w.heap.size w w1 := ((Below.refl _ _).alloc (Nat.le_refl _) _).trans (hb1.mono (by simp))
    have rn1 : Rd .u32 w1 N ns := ha.rn.below hw1
    have rd1 : Rd .u32 w1 D ds := ha.rd.below hw1
    have HT1 : Hid (Lib.TabBelow Tryz.prog w1.heap.size w1 "internal/strconv.uint64pow10" .u64 Lib.pow10Tab) := fun w' h => HT.out w' (hw1.trans (h.mono hw1.size))
    obtain ⟨a0, a1, a2, a3, a4, a5, a6⟩ := hk1.facts
    clear hb1
    go_wp2_with fail
    refine (text_any N nc ns _ rn1 mn l1 HT1.out).mono ?_
    rintro e w2 ⟨he, hb2⟩
    rw [hXe.out] at he
    subst he
    have hk2 := hk1.below hb2
    have hw2 := hw1.trans (hb2.mono hw1.size)
    have rd2 := rd1.below hb2
    have HT2 : Hid (Lib.TabBelow Tryz.prog w2.heap.size w2 "internal/strconv.uint64pow10" .u64 Lib.pow10Tab) := fun w' h => HT.out w' (hw2.trans (h.mono hw2.size))
    clear a0 a1 a2 a3 a4 a5 a6 hb2 hk1 rn1 rd1
    obtain ⟨a0, a1, a2, a3, a4, a5, a6⟩ := hk2.facts
    go_wp2_with fail
    refine (isone_any D dc ds _ rd2 (by omega) md).mono ?_
    rintro e w3 ⟨he, n3, hwe⟩
    rw [ho.out] at he
    subst he
    have hb3 : Below w2.heap.size w2 w3 := by rw [hwe]; exact below_drew_ (Below.refl _ _) n3
    have hk3 := hk2.below hb3
    have hw3 := hw2.trans (hb3.mono hw2.size)
    have rd3 := rd2.below hb3
    have HT3 : Hid (Lib.TabBelow Tryz.prog w3.heap.size w3 "internal/strconv.uint64pow10" .u64 Lib.pow10Tab) := fun w' h => HT.out w' (hw3.trans (h.mono hw3.size))
    clear a0 a1 a2 a3 a4 a5 a6 hb3 hk2 hwe rd2
    obtain ⟨a0, a1, a2, a3, a4, a5, a6⟩ := hk3.facts
    go_wp2_with fail
    first
      | (go_ret2
         exact ⟨by unfold ratText; rw [hXe.out, of_decide_eq_true ho.out]; simp, hw3⟩)
      | (refine (text_any D dc ds _ rd3 md l2 HT3.out).mono ?_
         rintro e w4 ⟨he, hb4⟩
         rw [hYe.out] at he
         subst he
         go_wp2_with fail
         go_ret2
         exact ⟨by unfold ratText; rw [hXe.out, hYe.out, if_neg (of_decide_eq_false ho.out)]; simp, hw3.trans (hb4.mono hw3.size)⟩)
end Go.Proofs.YtlbfoclhkdlafaaGreatDoor


/- isochroneref02.Zero and Make. -/
namespace Go.Proofs.YtlbfoclhkdlafaaGreatDoor
open Go.RowKit V

theorem qof_zero (s : Bool) (d : Nat) : QOf false 0 1 (mkRat (sgn s 0) d) := by
  have e : mkRat (sgn s 0) d = mkRat (sgn false 0) 1 := by cases s <;> simp [sgn]
  rw [e]
  exact QOf.mk_ (by omega) (by decide) (fun _ => rfl)
theorem nat1_rd (w : World) (k : Nat) (h : w.heap.size = k) : Rd .i64 (w.alloc (.cells #[.int .i64 1] 3)) (some ⟨k, 0, none⟩) [1] := h ▸ rd_nat1 w 1

theorem len1_val {xs : List Nat} (h : xs.length = 1) {x : Nat} (e : xs.getD 0 0 = x) : VD xs = x := by
  rw [one_of_len h, e]; unfold VD; simp [val]
/-- The test whether a number is 1, part by part. -/
def OneQ (xs : List Nat) (A : Option Addr) (w : World) (p : Bool) : Prop :=
  (p = false ∧ ((xs.length : Int) == 1) = false) ∨ (∃ ad x, A = some ad ∧ xs.length = 1 ∧ VD xs = x ∧ ((x : Int) == 1) = p ∧ w.cell? ad = some (.int .i64 (x : Nat)))
theorem oneQ {xs : List Nat} {A : Option Addr} {w : World} (h : Rd .i64 w A xs) : ∃ p, OneQ xs A w p ∧ (p = true → VD xs = 1) := by
  by_cases h1 : xs.length = 1
  · obtain ⟨ad, x, hA, _, ex, hc⟩ := h.ask (i := 0) (by omega)
    rw [add_zero_] at hc
    have hv := len1_val h1 ex.out
    refine ⟨_, .inr ⟨ad, x, hA, h1, hv, rfl, hc⟩, fun h => ?_⟩
    rw [hv]
    have := eq_of_beq h
    omega
  · exact ⟨false, .inl ⟨rfl, beq_eq_false_iff_ne.2 (by omega)⟩, fun h => by cases h⟩

end Go.Proofs.YtlbfoclhkdlafaaGreatDoor


/- rat.sign, inverse, opposite. -/
namespace Go.Proofs.YtlbfoclhkdlafaaGreatDoor
open Go.RowKit V

def sgnI (s : Bool) (n : Nat) : Int := if n = 0 then 0 else if s then -1 else 1

end Go.Proofs.YtlbfoclhkdlafaaGreatDoor


/- isochroneref02: Sign, One, Mul, Div, Pow. -/
namespace Go.Proofs.YtlbfoclhkdlafaaGreatDoor
open Go.RowKit V

theorem boxes3 (t : TypeId) (w : World) (a b c a2 b2 c2 r s u : Value) : BlkT t (((w.alloc (.cells #[a, b, c] t)).alloc (.cells #[a2, b2, c2] t)).alloc (.cells #[r, s, u] t)) w.heap.size a b c ∧
    BlkT t (((w.alloc (.cells #[a, b, c] t)).alloc (.cells #[a2, b2, c2] t)).alloc (.cells #[r, s, u] t)) (w.heap.size + 1) a2 b2 c2 ∧
    BlkT t (((w.alloc (.cells #[a, b, c] t)).alloc (.cells #[a2, b2, c2] t)).alloc (.cells #[r, s, u] t)) (w.heap.size + 1 + 1) r s u ∧
    Below w.heap.size w (((w.alloc (.cells #[a, b, c] t)).alloc (.cells #[a2, b2, c2] t)).alloc (.cells #[r, s, u] t)) := by
  obtain ⟨h1, h2, h3⟩ := boxes2 t t w a b c a2 b2 c2
  refine ⟨h1.alloc _, h2.alloc _, ?_, h3.alloc (by simp; omega) _⟩
  have := BlkT.new t ((w.alloc (.cells #[a, b, c] t)).alloc (.cells #[a2, b2, c2] t)) r s u
  rwa [show ((w.alloc (.cells #[a, b, c] t)).alloc (.cells #[a2, b2, c2] t)).heap.size = w.heap.size + 1 + 1 by simp] at this
theorem len_of_VD {xs : List Nat} (h : 0 < VD xs) : 0 < xs.length := by
  rcases Nat.eq_zero_or_pos xs.length with h0 | h0
  · rw [List.eq_nil_of_length_eq_zero h0] at h; simp [VD, val] at h
  · exact h0
set_option maxHeartbeats 400000 in
theorem rsign (s : Bool) (N D : Option Addr) (n nc d dc : Nat) (w : World) : Calls Tryz.prog 117 #[.agg #[.bool s, .slice N n nc, .slice D d dc]] w (Gives (.int .i64 (sgnI s n)) w) := by
  have hb : Below w.heap.size w (w.alloc (.cells #[.bool s, .slice N n nc, .slice D d dc] 46)) := (Below.refl _ _).alloc (Nat.le_refl _) _
  by_cases h0 : n = 0
  · subst h0
    go_enter Tryz.func117, Tryz.ntmps117
    go_wp2
    go_ret
    exact ⟨rfl, hb⟩
  · have hne : ((n : Int) == 0) = false := beq_eq_false_iff_ne.2 (by omega)
    have h1 : sgnI true n = -1 := by simp [sgnI, h0]
    have h2 : sgnI false n = 1 := by simp [sgnI, h0]
    cases s
    · rw [h2]
      go_enter Tryz.func117, Tryz.ntmps117
      go_wp2
      go_ret
      exact ⟨rfl, hb⟩
    · rw [h1]
      go_enter Tryz.func117, Tryz.ntmps117
      go_wp2
      go_ret
      exact ⟨rfl, hb⟩
set_option maxHeartbeats 400000 in
theorem rone (w : World) : Calls Tryz.prog 47 #[] w (RefP 1 1 1 w) := by
  have hq : QOf false 1 1 (1 : Rat) := by have := QOf.mk_ (neg := false) (n := 1) (d := 1) (by omega) (by decide) (fun h => by omega); exact this
  go_enter Tryz.func47, Tryz.ntmps47
  go_wp2
  exact bodyPost_ret (v := .agg #[.bool false, .slice (some ⟨w.heap.size + 1, 0, none⟩) 1 1, .slice (some ⟨w.heap.size + 1 + 1, 0, none⟩) 1 1]) (by simp [results, Tryz.results47, go_sem]) rfl
    ⟨⟨false, some ⟨w.heap.size + 1, 0, none⟩, 1, [1], some ⟨w.heap.size + 1 + 1, 0, none⟩, 1, [1]⟩, rfl, ⟨(nat1_rd _ _ (by simp)).alloc _, nat1_rd _ _ (by simp), nm_one, nm_one, by simpa [VD, val] using hq⟩, Nat.le_refl _, Nat.le_refl _, (((Below.refl _ _).alloc (Nat.le_refl _) _).alloc (by simp) _).alloc (by simp; omega) _⟩
end Go.Proofs.YtlbfoclhkdlafaaGreatDoor


/- The document's Valid of numbers as they come in; isochronelaw02.small. -/
namespace Go.Proofs.YtlbfoclhkdlafaaGreatDoor
open Go.RowKit V

theorem RL.Ref.drew {w : World} {a : RL} {q : Rat} (h : a.Ref w q) : a.Ref w.drew q := ⟨h.rn.drew, h.rd.drew, h.mn, h.md, h.q⟩
theorem RL.Ref.alloc {w : World} {a : RL} {q : Rat} (h : a.Ref w q) (o : Obj) : a.Ref (w.alloc o) q := ⟨h.rn.alloc _, h.rd.alloc _, h.mn, h.md, h.q⟩
end Go.Proofs.YtlbfoclhkdlafaaGreatDoor


/- The reference's Add, Sub, Mul with the type of the blocks. -/
namespace Go.Proofs.YtlbfoclhkdlafaaGreatDoor
open Go.RowKit V

set_option maxHeartbeats 2000000 in
theorem rmul_anyT (A B : Option Addr) (ca cb : Nat) (xs ys : List Nat) (w : World) (hx : Rd .i64 w A xs) (hy : Rd .i64 w B ys) (bl : xs.length + ys.length ≤ 100000)
    (nmx : Nm xs) (nmy : Nm ys) :
    Calls Tryz.prog 120 #[.slice A xs.length ca, .slice B ys.length cb] w
      (OutT .i64 3 (fun zs => VD zs = VD xs * VD ys ∧ Nm zs ∧ zs.length ≤ xs.length + ys.length + 1) w) := by
  obtain ⟨dx, nx⟩ := nmx
  obtain ⟨dy, ny⟩ := nmy
  have hmk := fun W => make_nat (xs.length + ys.length + 1) ((xs.length : Int) + ys.length + 1) (by omega) (by omega) W
  go_enter Tryz.func120, Tryz.ntmps120
  go_wp2
  clear hmk
  go_loopw [6, 7, 8, 9, 10, 11, 21] (fun _ _ _ _ _ _ n wr => ∃ i : Nat, ∃ cur : List Nat, i ≤ xs.length ∧ n = .int .i64 i ∧ cur.length = xs.length + ys.length + 1 ∧ Dig 10000 cur ∧
      val 10000 cur = val 10000 (xs.take i) * VD ys ∧ (∀ j, i + ys.length ≤ j → cur.getD j 0 = 0) ∧ Row .i64 3 wr w.heap.size cur ∧ Below w.heap.size w wr) (fun _ _ _ _ _ _ n _ => xs.length - (intOf n).toNat)
  case atStart => exact ⟨0, _, Nat.zero_le _, rfl, List.length_replicate, Dig.zeros (by omega) _, by simp [val, val_zeros], fun j _ => by simp [List.getD_eq_getElem?_getD, List.getElem?_replicate]; split <;> rfl, Row.new _ _, (Below.refl _ _).alloc (Nat.le_refl _) _⟩
  case round =>
    obtain ⟨i, cur, hi, rfl, hcl, hdc, hv, hout, hrow, hbw⟩ := hrel
    have HV := Lib.hid hv
    have HCL := Lib.hid hcl
    have HO := Lib.hid hout
    clear hv hcl hout
    by_cases hix : i < xs.length
    · obtain ⟨ad, x, rfl, hbx, ex, cx⟩ := (hx.below hbw).ask hix
      have hxl : x < 10000 := by rw [← ex.out]; exact dig_getD dx (by omega) i
      go_wp2
      go_loopw [8, 9, 10, 28] (fun cv _ _ n wq => ∃ k c : Nat, ∃ cur' : List Nat, k ≤ ys.length ∧ n = .int .i64 k ∧ cv = .int .i64 c ∧ c ≤ 9999 ∧ cur'.length = xs.length + ys.length + 1 ∧ Dig 10000 cur' ∧
          val 10000 cur' + 10000 ^ (i + k) * c = val 10000 cur + 10000 ^ i * (x * val 10000 (ys.take k)) ∧ (∀ j, i + k ≤ j → cur'.getD j 0 = cur.getD j 0) ∧ Row .i64 3 wq w.heap.size cur' ∧ Below w.heap.size w wq) (fun _ _ _ n _ => ys.length - (intOf n).toNat)
      case atStart => exact ⟨0, 0, cur, Nat.zero_le _, rfl, rfl, by omega, HCL.out, hdc, by simp [val], fun _ _ => rfl, hrow, hbw⟩
      case round =>
        clear hrow hdc hbw cx hbx
        obtain ⟨k, c, cur', hk, rfl, rfl, hc, hcl', hdc', hv', hout', hrow', hbw'⟩ := hrel
        have HV' := Lib.hid hv'
        have HCL' := Lib.hid hcl'
        have HO' := Lib.hid hout'
        clear hv' hcl' hout'
        by_cases hky : k < ys.length
        · obtain ⟨bd, y, rfl, hby, ey, cy⟩ := (hy.below hbw').ask hky
          have hyl : y < 10000 := by rw [← ey.out]; exact dig_getD dy (by omega) k
          have hkc : i + k < cur'.length := by have := HCL'.out; omega
          obtain ⟨o, ho⟩ : ∃ o, Hid (cur'.getD (i + k) 0 = o) := ⟨_, rfl⟩
          have hol : o < 10000 := by rw [← ho.out]; exact dig_getD hdc' (by omega) _
          have hcell : wr.cell? ⟨w.heap.size, i + k, none⟩ = some (.int .i64 o) := by have := hrow'.cell hkc; rwa [ho.out] at this
          have hfr := hrow'.frozen (i + k)
          have hm := digit_le x y hxl hyl
          have hm0 : (0 : Int) ≤ (x : Int) * y := Int.mul_nonneg (by omega) (by omega)
          obtain ⟨s, c', hs, hc', hsc, es, ec⟩ : ∃ s c' : Nat, s < 10000 ∧ c' ≤ 9999 ∧ Hid (s + 10000 * c' = y * x + o + c) ∧
              Hid (((c : Int) + (o + (x : Int) * y)) % 10000 = s) ∧ Hid (((c : Int) + (o + (x : Int) * y)) / 10000 = c') := by
            have e : ((y * x + o + c : Nat) : Int) = (c : Int) + (o + (x : Int) * y) := by rw [Nat.mul_comm]; simp; omega
            have e2 : y * x + o + c ≤ 99999999 := by omega
            refine ⟨(y * x + o + c) % 10000, (y * x + o + c) / 10000, Nat.mod_lt _ (by omega), by omega, Nat.mod_add_div _ _, ?_, ?_⟩
            · show _ = _
              rw [← e]; omega
            · show _ = _
              rw [← e]; omega
          go_wp2
          go_roundw
          case rel =>
            exact ⟨k + 1, c', cur'.set (i + k) s, by omega, by go_num, by rw [ec.out], hc', by rw [List.length_set]; exact HCL'.out, hdc'.set _ hs,
              times_step _ i k s c c' x y o cur' ys _ hkc hky ey.out ho.out hsc.out HV'.out, fun j hj => by rw [getD_set _ _ _ _ hkc, if_neg (by omega)]; exact HO'.out j (by omega),
              by rw [es.out]; exact hrow'.set_ (i + k) s, hbw'.setCell (Nat.le_refl _) _⟩
          case measure => simp [intOf]; omega
        · obtain rfl : k = ys.length := by omega
          go_wp2
          have HT : Hid (val 10000 cur' + 10000 ^ (i + ys.length) * c = val 10000 (xs.take (i + 1)) * VD ys) := by
            have h1 := HV'.out
            rw [HV.out, List.take_length] at h1
            show _ = _
            rw [h1, val_take_succ _ xs i hix, ex.out, Nat.add_mul, Nat.mul_assoc]
            rfl
          have HZ : Hid (∀ j, i + ys.length ≤ j → cur'.getD j 0 = 0) := fun j hj => (HO'.out j hj).trans (HO.out j hj)
          clear HV' HV HO' HO
          go_loopw [8, 11] (fun cv n wq => ∃ k c : Nat, ∃ cur2 : List Nat, n = .int .i64 k ∧ cv = .int .i64 c ∧ c ≤ 9999 ∧ i + ys.length ≤ k ∧ k ≤ i + ys.length + 1 ∧ (c = 0 ∨ k = i + ys.length) ∧
              cur2.length = xs.length + ys.length + 1 ∧ Dig 10000 cur2 ∧ val 10000 cur2 + 10000 ^ k * c = val 10000 (xs.take (i + 1)) * VD ys ∧ (∀ j, k ≤ j → cur2.getD j 0 = 0) ∧
              Row .i64 3 wq w.heap.size cur2 ∧ Below w.heap.size w wq) (fun cv _ _ => (intOf cv).toNat)
          case atStart => exact ⟨i + ys.length, c, cur', by go_num, rfl, hc, Nat.le_refl _, by omega, .inr rfl, HCL'.out, hdc', HT.out, HZ.out, hrow', hbw'⟩
          case round =>
            clear hrow' hdc' hbw' HT HZ hc hk HCL' hky
            obtain ⟨k, c, cur2, rfl, rfl, hc, hk1, hk2, hor, hcl2, hdc2, hv2, hz2, hrow2, hbw2⟩ := hrel
            have HV2 := Lib.hid hv2
            have HCL2 := Lib.hid hcl2
            have HZ2 := Lib.hid hz2
            have HOR := Lib.hid hor
            clear hv2 hcl2 hz2 hor
            by_cases h0 : c = 0
            · subst h0
              go_wp2
              go_roundw
              case rel => exact ⟨i + 1, cur2, by omega, by go_num, HCL2.out, hdc2, by simpa using HV2.out, fun j hj => HZ2.out j (by omega), hrow2, hbw2⟩
              case measure => simp [intOf]; omega
            · have hkk : k = i + ys.length := by rcases HOR.out with h | h; exact absurd h h0; exact h
              have HK := Lib.hid hkk
              have hkc : k < cur2.length := by have := HCL2.out; omega
              have hkl : k < xs.length + ys.length + 1 := by omega
              clear hkk HOR
              have hcell : wr.cell? ⟨w.heap.size, k, none⟩ = some (.int .i64 0) := by
                have := hrow2.cell hkc
                rw [HZ2.out k (Nat.le_refl _)] at this
                exact this
              have hfr := hrow2.frozen k
              have h1 : 1 ≤ c := by omega
              have em : Hid ((c : Int) % 10000 = c) := by show _ = _; omega
              have ed : Hid ((c : Int) / 10000 = (0 : Nat)) := by show _ = _; omega
              go_wp2
              go_roundw
              case rel =>
                exact ⟨k + 1, 0, cur2.set k c, by go_num, by rw [ed.out], by omega, by omega, by have := HK.out; omega, .inl rfl, by rw [List.length_set]; exact HCL2.out, hdc2.set _ (by omega),
                  by have h2 := val_set 10000 cur2 k c hkc; rw [HZ2.out k (Nat.le_refl _)] at h2; have := HV2.out; omega, fun j hj => by rw [getD_set _ _ _ _ hkc, if_neg (by omega)]; exact HZ2.out j (by omega),
                  by rw [em.out]; exact hrow2.set_ k c, hbw2.setCell (Nat.le_refl _) _⟩
              case measure => simp [intOf]; omega
    · obtain rfl : i = xs.length := by omega
      go_wp2_with (go_at_call 157; refine (trim_i64n _ _ _ cur _ HCL.out hrow.rd (Nat.le_refl _) (by omega)).mono ?_; rintro e w1 ⟨m, hm, rfl, hv3, hn3, rfl⟩; have HV3 := Lib.hid hv3; clear hv3)
      go_ret
      have hfl := HCL.out
      exact OutT.of_take hm (by omega) hrow.rt hbw ⟨by show val 10000 (cur.take m) = _; rw [HV3.out, HV.out, List.take_length]; rfl, ⟨hdc.take m, hn3⟩, by rw [List.length_take]; omega⟩
end Go.Proofs.YtlbfoclhkdlafaaGreatDoor

