/- nat.shiftDown: the integer part of a number by a power of two; at most 100000 words. -/
import Derived.Test.YtdonbgjmcbhecaaGreatDoorPMR8
import Derived.BigRegion
import Derived.Deep.LoopGhost
import Derived.Lib.ItoaNum
import Derived.Test.YtdonbgjmcbhecaaGreatDoorShelf
import Derived.Lib.AppendIntMem
import Derived.Laws.IdiomCopy
import Derived.Lib.SmallJoins
import Derived.Laws.IdiomStrings
import Derived.Deep.RegionWith
import Derived.Lib.LazyBuf
import Derived.Test.YtdonbgjmcbhecaaGreatDoorRows
import Derived.Below
import Derived.Laws.OwnMore
import Derived.Laws.MakeOwn
import Derived.Deep.AppendLies
import Derived.Deep.Draws
import Derived.Laws.Rows
import Derived.Lib.Hide
import Derived.Deep.QuietTactic
import Derived.WalkKit
import Derived.WalkSpells
import Derived.WalkLawsBesides
import Derived.Laws.BitsAllLaws
import Derived.BigQuiet
import Derived.StillTailTactics
namespace Go.Proofs.YtdonbgjmcbhecaaGreatDoor
open Go.RowKit V

/-- A word moved down by p places, with what comes in from above. -/
theorem shr_facts (x y p : Nat) (hx : x < 4294967296) (hp : p < 32) : ∃ s0 s : Nat, s0 < 4294967296 ∧ s < 4294967296 ∧ Hid ((x : Int) / 2 ^ p = s0) ∧
    Hid (bits BinOp.or IntKind.u32 (s0 : Int) ((y : Int) * 2 ^ (32 - p) % 4294967296) = s) ∧ Hid (s * 2 ^ p + x % 2 ^ p = x + 4294967296 * (y % 2 ^ p)) ∧ Hid (s0 * 2 ^ p + x % 2 ^ p = x + 4294967296 * (0 % 2 ^ p)) := by
  have h2 := two_split p hp
  have hpos : 0 < 2 ^ p := Nat.pow_pos (by omega)
  have hm : y * 2 ^ (32 - p) % 4294967296 = (y % 2 ^ p) * 2 ^ (32 - p) := by
    rw [← h2, Nat.mul_comm (2 ^ (32 - p)) (2 ^ p)]; exact Nat.mul_mod_mul_right _ _ _
  have hs0 : x / 2 ^ p < 2 ^ (32 - p) := Nat.div_lt_of_lt_mul (by rw [Nat.mul_comm, h2]; exact hx)
  have hor : x / 2 ^ p ||| y * 2 ^ (32 - p) % 4294967296 = x / 2 ^ p + y * 2 ^ (32 - p) % 4294967296 := by
    rw [hm, Nat.or_comm, Nat.add_comm, ← Nat.shiftLeft_eq, ← Nat.shiftLeft_add_eq_or_of_lt hs0]
  have hxl : x / 2 ^ p ≤ x := Nat.div_le_self _ _
  have hml : y * 2 ^ (32 - p) % 4294967296 < 2 ^ 32 := Nat.mod_lt _ (by omega)
  have hs : x / 2 ^ p ||| y * 2 ^ (32 - p) % 4294967296 < 2 ^ 32 := Nat.or_lt_two_pow (by omega) hml
  have hbo := u32_or_nat (x / 2 ^ p) (y * 2 ^ (32 - p) % 4294967296) (by omega) (by omega)
  refine ⟨x / 2 ^ p, x / 2 ^ p ||| y * 2 ^ (32 - p) % 4294967296, by omega, by omega, ?_, ?_, ?_, ?_⟩
  · show _ = _
    simp
  · show _ = _
    rw [← hbo]; congr 1
  · show _ = _
    rw [hor, hm, Nat.add_mul, Nat.mul_assoc, h2]
    have h3 := Nat.mod_add_div x (2 ^ p)
    rw [Nat.mul_comm (2 ^ p)] at h3
    omega
  · show _ = _
    have h3 := Nat.mod_add_div x (2 ^ p)
    rw [Nat.mul_comm (2 ^ p)] at h3
    rw [Nat.zero_mod]
    omega
theorem below_drew1 {B : Nat} {a w : World} (h : Below B a w) : Below B a w.drew := ⟨h.os, h.tape, h.output, h.size, h.block⟩
theorem down_step (p k s x y t : Nat) (cur ys : List Nat) (hc : k < cur.length) (hy : k < ys.length) (ex : ys.getD k 0 = x) (ey : ys.getD (k + 1) 0 = y) (e : s * 2 ^ p + x % 2 ^ p = x + 4294967296 * (y % 2 ^ p))
    (hv : val 4294967296 (cur.take k) * 2 ^ p + t = val 4294967296 (ys.take k) + 4294967296 ^ k * (ys.getD k 0 % 2 ^ p)) :
    val 4294967296 ((cur.set k s).take (k + 1)) * 2 ^ p + t = val 4294967296 (ys.take (k + 1)) + 4294967296 ^ (k + 1) * (ys.getD (k + 1) 0 % 2 ^ p) := by
  rw [ex] at hv
  rw [val_set_take _ cur k s hc, val_take_succ _ ys k hy, ex, ey, Nat.add_mul, Nat.pow_succ, Nat.mul_assoc, Nat.mul_assoc]
  have h := congrArg (4294967296 ^ k * ·) e
  simp only [Nat.mul_add] at h
  omega
theorem down_end {q p : Nat} {xs cur : List Nat} (hd : Dig 4294967296 xs) (hq : q ≤ xs.length) (hv : val 4294967296 cur * 2 ^ p + (xs.drop q).getD 0 0 % 2 ^ p = val 4294967296 (xs.drop q)) : val 4294967296 cur = val 4294967296 xs / 2 ^ (32 * q + p) := by
  have hpos : 0 < 2 ^ p := Nat.pow_pos (by omega)
  have h1 := val_split 4294967296 xs q hq
  have h2 := val_lt 4294967296 (xs.take q) (hd.take q)
  rw [List.length_take, Nat.min_eq_left hq] at h2
  have h3 : val 4294967296 xs / 4294967296 ^ q = val 4294967296 (xs.drop q) := by
    rw [h1, Nat.add_mul_div_left _ _ (by omega), Nat.div_eq_of_lt h2, Nat.zero_add]
  rw [pow_32, ← Nat.div_div_eq_div_mul, h3, ← hv, Nat.add_comm, Nat.mul_comm, Nat.add_mul_div_left _ _ hpos, Nat.div_eq_of_lt (Nat.mod_lt _ hpos), Nat.zero_add]

set_option maxRecDepth 100000 in
set_option maxHeartbeats 1000000 in
theorem shiftdn_any (A : Option Addr) (ca n : Nat) (xs : List Nat) (w : World) (hx : Rd .u32 w A xs) (hca : xs.length ≤ ca) (bx : xs.length ≤ 100000) (bn : n ≤ 10000000) (dx : Dig 4294967296 xs) (hpos : n / 32 < xs.length) :
    Calls Tryz.prog 250 #[.slice A xs.length ca, .int .i64 n] w (OutP .u32 (fun zs => V32 zs = V32 xs / 2 ^ n ∧ Mag zs ∧ zs.length ≤ xs.length) w) := by
  obtain ⟨q, p, hp, eq, ep, hn⟩ : ∃ q p : Nat, p < 32 ∧ (n : Int) / 32 = q ∧ (n : Int) % 32 = p ∧ Hid (n = 32 * q + p) := ⟨n / 32, n % 32, Nat.mod_lt _ (by omega), by omega, by omega, by show _ = _; omega⟩
  have hq : q < xs.length := by have := hn.out; omega
  obtain ⟨ad, _, rfl, _, _, _⟩ := hx.ask hq
  have hY : Rd .u32 w (some (ad.add q)) (xs.drop q) := hx.drop rfl
  obtain ⟨ys, eys⟩ : ∃ ys, Hid (xs.drop q = ys) := ⟨_, rfl⟩
  have hyl : ys.length = xs.length - q := by rw [← eys.out, List.length_drop]
  have dy : Dig 4294967296 ys := by rw [← eys.out]; exact dx.drop q
  rw [eys.out] at hY
  clear hpos
  obtain ⟨L, hL⟩ : ∃ L, xs.length - q = L := ⟨_, rfl⟩
  rw [hL] at hyl
  go_enter Tryz.func250, Tryz.ntmps250
  go_wp2_with fail
  have hcl := clone_u32 (some (ad.add q)) (ca - q) ys w hY (by omega)
  rw [hyl] at hcl
  refine hcl.mono ?_
  rintro e w1 ⟨v, rfl, hown1, hb1⟩
  obtain ⟨O, oc, rfl, hoc, hro1, hsh⟩ := hown1.shapeN hyl
  obtain ⟨g, rfl, hgB⟩ := hsh (by omega)
  clear hcl hsh hro1 hY
  go_wp2_with fail
  go_loopw [8, 9, 25] (fun _ _ i wr => ∃ k : Nat, ∃ cur : List Nat, k ≤ L ∧ i = .int .i64 k ∧ cur.length = L ∧ Dig 4294967296 cur ∧
      val 4294967296 (cur.take k) * 2 ^ p + ys.getD 0 0 % 2 ^ p = val 4294967296 (ys.take k) + 4294967296 ^ k * (ys.getD k 0 % 2 ^ p) ∧ (∀ j, k ≤ j → cur.getD j 0 = ys.getD j 0) ∧
      Own .u32 109 w.heap.size wr (.slice (some ⟨g, 0, none⟩) L oc) cur ∧ Below w.heap.size w wr) (fun _ _ i _ => L - (intOf i).toNat)
  case atStart => exact ⟨0, ys, Nat.zero_le _, rfl, hyl, dy, by simp [val], fun _ _ => rfl, hown1, hb1⟩
  case round =>
    obtain ⟨k, cur, hk, rfl, hcl, hdc, hv, hout, hown, hbw⟩ := hrel
    have HV := Lib.hid hv
    have HCL := Lib.hid hcl
    have HO := Lib.hid hout
    clear hv hcl hout
    by_cases hlt : k < L
    · have hkc : k < cur.length := by have := HCL.out; omega
      obtain ⟨x, ex⟩ : ∃ x, Hid (ys.getD k 0 = x) := ⟨_, rfl⟩
      obtain ⟨y, ey⟩ : ∃ y, Hid (ys.getD (k + 1) 0 = y) := ⟨_, rfl⟩
      have hxl : x < 4294967296 := by rw [← ex.out]; exact dig_getD dy (by omega) k
      have hcell : wr.cell? ⟨g, k, none⟩ = some (.int .u32 x) := by have := hown.cell HCL.out hlt; rwa [HO.out k (Nat.le_refl _), ex.out] at this
      have hfr := hown.frz (i := k) HCL.out
      obtain ⟨s0, s, hs0, hs, e0, es, hsc, hsc0⟩ := shr_facts x y p hxl hp
      by_cases hab : k + 1 < L
      · have e0' := e0.out
        have hown2 := hown.set_ (i := k) (d := s0) HCL.out
        have hbw2 := hbw.setCell (p := ⟨g, k, none⟩) hgB (.int .u32 (s0 : Nat))
        have hcl2 : Hid ((cur.set k s0).length = L) := by show _ = _; rw [List.length_set]; exact HCL.out
        have hcell2 := hown2.cell hcl2.out hlt
        rw [getD_set _ _ _ _ hkc, if_pos rfl] at hcell2
        have hfr2 := hown2.frz (i := k) hcl2.out
        obtain ⟨ad', y', had, hby, ey', cy⟩ := (hx.below hbw2).ask (i := q + k + 1) (by omega)
        injection had with had
        subst had
        obtain rfl : y = y' := by rw [← ey.out, ← ey'.out, ← eys.out]; simp [List.getD_eq_getElem?_getD, Nat.add_assoc]
        have cy2 := cy
        unfold Addr.add at cy2
        rw [if_neg (by omega)] at cy2
        go_wp2_with fail
        generalize wr.setCell ⟨g, k, none⟩ (.int .u32 (s0 : Nat)) = W1 at *
        go_region
        go_wp2
        go_roundw
        case rel => exact ⟨k + 1, cur.set k s, by omega, by go_num, by rw [List.length_set]; exact HCL.out, hdc.set _ hs, down_step p k s x y _ cur ys hkc (by omega) ex.out ey.out hsc.out HV.out,
          fun j hj => by rw [getD_set _ _ _ _ hkc, if_neg (by omega)]; exact HO.out j (by omega), by
            rw [es.out]
            have := hown2.set_ (i := k) (d := s) hcl2.out
            rw [List.set_set] at this
            exact this, below_drew1 (hbw2.setCell hgB _)⟩
        case measure => simp [intOf]; omega
      · have e0' := e0.out
        have ey0 : ys.getD (k + 1) 0 = 0 := getD_beyond _ _ (by omega)
        go_wp2
        go_roundw
        case rel => exact ⟨k + 1, cur.set k s0, by omega, by go_num, by rw [List.length_set]; exact HCL.out, hdc.set _ hs0, down_step p k s0 x 0 _ cur ys hkc (by omega) ex.out ey0 hsc0.out HV.out,
          fun j hj => by rw [getD_set _ _ _ _ hkc, if_neg (by omega)]; exact HO.out j (by omega), hown.set_ HCL.out, hbw.setCell hgB _⟩
        case measure => simp [intOf]; omega
    · obtain rfl : k = L := by omega
      have hrd : Rd .u32 wr (some ⟨g, 0, none⟩) cur := by
        obtain ⟨A', c', h1, _, h2⟩ := hown.form
        injection h1 with h1
        subst h1
        exact h2
      have HF : Hid (val 4294967296 cur = val 4294967296 xs / 2 ^ n) := by
        have h1 := HV.out
        have hcl := HCL.out
        rw [List.take_of_length_le (by omega), List.take_of_length_le (by omega), getD_beyond ys k (by omega), Nat.zero_mod, Nat.mul_zero, Nat.add_zero] at h1
        show _ = _
        rw [hn.out]
        exact down_end dx (by omega) (by rw [eys.out]; exact h1)
      go_wp2_with fail
      refine (trim_u32n _ oc k cur _ HCL.out hrd hoc (by omega)).mono ?_
      rintro e w2 ⟨m, hm, rfl, hv3, hn3, rfl⟩
      have HV3 := Lib.hid hv3
      clear hv3
      go_wp2
      go_ret
      have hfl := HCL.out
      exact OutP.of_take hm (by omega) hrd hbw ⟨by show val 4294967296 (cur.take m) = _; rw [HV3.out]; exact HF.out, ⟨hdc.take m, hn3⟩, by rw [List.length_take]; omega⟩

set_option maxHeartbeats 400000 in
theorem shiftdn_none (A : Option Addr) (ca n : Nat) (xs : List Nat) (w : World) (bn : n ≤ 10000000) (dx : Dig 4294967296 xs) (hpos : xs.length ≤ n / 32) :
    Calls Tryz.prog 250 #[.slice A xs.length ca, .int .i64 n] w (OutP .u32 (fun zs => V32 zs = V32 xs / 2 ^ n ∧ Mag zs ∧ zs.length ≤ xs.length) w) := by
  obtain ⟨q, p, hp, eq, ep, hn⟩ : ∃ q p : Nat, p < 32 ∧ (n : Int) / 32 = q ∧ (n : Int) % 32 = p ∧ Hid (n = 32 * q + p) := ⟨n / 32, n % 32, Nat.mod_lt _ (by omega), by omega, by omega, by show _ = _; omega⟩
  have hq : xs.length ≤ q := by have := hn.out; omega
  have HD := Lib.hid dx
  clear hpos
  go_enter Tryz.func250, Tryz.ntmps250
  go_wp2
  go_ret
  refine ⟨none, 0, [], rfl, Nat.le_refl _, Rd.nil_, Below.refl _ _, ?_, mag_nil, Nat.zero_le _⟩
  have h1 := val_lt 4294967296 xs HD.out
  have h2 : 4294967296 ^ xs.length ≤ 4294967296 ^ q := Nat.pow_le_pow_right (by omega) hq
  have h3 : 4294967296 ^ q * 1 ≤ 4294967296 ^ q * 2 ^ p := Nat.mul_le_mul_left _ (Nat.pow_pos (by omega))
  show 0 = V32 xs / 2 ^ n
  rw [hn.out, pow_32, Nat.div_eq_of_lt (by unfold V32; omega)]

theorem shiftdn_ok (A : Option Addr) (ca n : Nat) (xs : List Nat) (w : World) (hx : Rd .u32 w A xs) (hca : xs.length ≤ ca) (bx : xs.length ≤ 100000) (bn : n ≤ 10000000) (dx : Dig 4294967296 xs) :
    Calls Tryz.prog 250 #[.slice A xs.length ca, .int .i64 n] w (OutP .u32 (fun zs => V32 zs = V32 xs / 2 ^ n ∧ Mag zs ∧ zs.length ≤ xs.length) w) := by
  rcases Nat.lt_or_ge (n / 32) xs.length with h | h
  · exact shiftdn_any A ca n xs w hx hca bx bn dx h
  · exact shiftdn_none A ca n xs w bn dx h
end Go.Proofs.YtdonbgjmcbhecaaGreatDoor


/- nat.bitLen, nat.Bits and isochroneref01.Bits: the number of binary digits. -/
namespace Go.Proofs.YtdonbgjmcbhecaaGreatDoor
open Go.RowKit V

/-- b is the number of binary digits of v. -/
def IsBits (v b : Nat) : Prop := v < 2 ^ b ∧ (0 < b → 2 ^ (b - 1) ≤ v)
theorem IsBits.eq {v b c : Nat} (h : IsBits v b) (k : IsBits v c) : b = c := by
  have key : ∀ b c : Nat, IsBits v b → IsBits v c → b ≤ c := fun b c h k => by
    rcases Nat.lt_or_ge c b with h1 | h1
    · have h2 := h.2 (by omega)
      have h3 : 2 ^ c ≤ 2 ^ (b - 1) := Nat.pow_le_pow_right (by omega) (by omega)
      have := k.1
      omega
    · exact h1
  exact Nat.le_antisymm (key b c h k) (key c b k h)
theorem bits_zero : IsBits 0 0 := ⟨by simp, fun h => absurd h (by omega)⟩
theorem len_bits (x : Nat) (h : x < 4294967296) (h0 : x ≠ 0) : IsBits x (Lib.bitLen x) ∧ 1 ≤ Lib.bitLen x ∧ Lib.bitLen x ≤ 32 := by
  have h1 := Lib.bitLenAux_bounds 64 x (by omega) h0
  exact ⟨⟨h1.2.2, fun _ => h1.2.1⟩, h1.1, Lib.bitLen_le x 32 (by omega) (by omega)⟩
/-- The binary digits of a magnitude from those of its highest word. -/
theorem bits_top {xs : List Nat} (hd : Dig 4294967296 xs) (h : 0 < xs.length) {x l : Nat} (ex : xs.getD (xs.length - 1) 0 = x) (hl : IsBits x l) (hl1 : 1 ≤ l) : IsBits (V32 xs) (32 * (xs.length - 1) + l) := by
  have h1 := val_take_succ 4294967296 xs (xs.length - 1) (by omega)
  rw [Nat.sub_add_cancel (by omega), List.take_length, ex] at h1
  have h2 := val_lt 4294967296 (xs.take (xs.length - 1)) (hd.take _)
  rw [List.length_take, Nat.min_eq_left (by omega)] at h2
  have e : (4294967296 : Nat) ^ (xs.length - 1) = 2 ^ (32 * (xs.length - 1)) := by rw [Nat.pow_mul]
  rw [e] at h1 h2
  unfold V32
  rw [h1]
  refine ⟨?_, fun _ => ?_⟩
  · have h3 : 2 ^ (32 * (xs.length - 1)) * (x + 1) ≤ 2 ^ (32 * (xs.length - 1)) * 2 ^ l := Nat.mul_le_mul_left _ hl.1
    rw [Nat.pow_add]
    rw [Nat.mul_add] at h3
    omega
  · have h3 : 2 ^ (32 * (xs.length - 1)) * 2 ^ (l - 1) ≤ 2 ^ (32 * (xs.length - 1)) * x := Nat.mul_le_mul_left _ (hl.2 hl1)
    rw [show 32 * (xs.length - 1) + l - 1 = 32 * (xs.length - 1) + (l - 1) by omega, Nat.pow_add]
    omega

/-- The answer is the number of binary digits; the world is as it was. -/
def BitsP (v : Nat) (w : World) (e : Ending) (w' : World) : Prop := ∃ b : Nat, e = .returned (.int .i64 b) ∧ IsBits v b ∧ w = w'

set_option maxRecDepth 100000 in
set_option maxHeartbeats 400000 in
theorem bitlen_any (A : Option Addr) (ca : Nat) (xs : List Nat) (w : World) (hx : Rd .u32 w A xs) (bx : xs.length ≤ 200000) (mx : Mag xs) :
    Calls Tryz.prog 178 #[.slice A xs.length ca] w (BitsP (V32 xs) w) := by
  by_cases h0 : xs.length = 0
  · have hb : ((xs.length : Int) == 0) = true := by simp [h0]
    obtain rfl : xs = [] := List.eq_nil_of_length_eq_zero h0
    go_enter Tryz.func178, Tryz.ntmps178
    go_wp2
    go_ret
    exact ⟨0, rfl, bits_zero, rfl⟩
  · have hb : ((xs.length : Int) == 0) = false := beq_eq_false_iff_ne.2 (by omega)
    obtain ⟨ad, x, rfl, hbx, ex, cx⟩ := hx.ask (i := xs.length - 1) (by omega)
    have hxl : x < 4294967296 := by rw [← ex.out]; exact dig_getD mx.1 (by omega) _
    have hx0 : x ≠ 0 := by rw [← ex.out]; exact mx.2 (by omega)
    obtain ⟨h1, h2, h3⟩ := len_bits x hxl hx0
    have HB : Hid (IsBits (V32 xs) (32 * (xs.length - 1) + Lib.bitLen x)) := bits_top mx.1 (by omega) ex.out h1 h2
    obtain ⟨l, hl⟩ : ∃ l, Lib.bitLen x = l := ⟨_, rfl⟩
    have hcall := Tryz.bits_Len32 (x : Int) w (by omega) (by omega)
    rw [Int.toNat_natCast, hl] at hcall
    rw [hl] at HB h2 h3
    have HCALL := Lib.hid hcall
    clear hcall h1 hl
    go_enter Tryz.func178, Tryz.ntmps178
    go_wp2_with fail
    refine HCALL.out.mono ?_
    rintro e w2 ⟨rfl, rfl⟩
    go_wp2
    go_ret
    exact ⟨32 * (xs.length - 1) + l, by go_num, HB.out, rfl⟩

/-- v is what is left of V without its lowest n binary digits. -/
def Half (V n v : Nat) : Prop := v * 2 ^ n ≤ V ∧ V < (v + 1) * 2 ^ n
theorem Half.zero (V : Nat) : Half V 0 V := by unfold Half; simp
theorem Half.step {V n v q r k : Nat} (h : Half V n v) (e : v = q * 2 ^ k + r) (hr : r < 2 ^ k) : Half V (n + k) q := by
  have h1 : q * (2 ^ k * 2 ^ n) ≤ v * 2 ^ n := by rw [← Nat.mul_assoc]; exact Nat.mul_le_mul_right _ (by omega)
  have h2 : (v + 1) * 2 ^ n ≤ (q + 1) * (2 ^ k * 2 ^ n) := by rw [← Nat.mul_assoc]; exact Nat.mul_le_mul_right _ (by rw [Nat.add_mul]; omega)
  unfold Half at h ⊢
  rw [Nat.pow_add, Nat.mul_comm (2 ^ n)]
  omega
end Go.Proofs.YtdonbgjmcbhecaaGreatDoor


/- nat.Shift and isochroneref01.Two. -/
namespace Go.Proofs.YtdonbgjmcbhecaaGreatDoor
open Go.RowKit V

theorem rd_nat1 (w : World) (d : Nat) : Rd .i64 (w.alloc (.cells #[.int .i64 (d : Nat)] 3)) (some ⟨w.heap.size, 0, none⟩) [d] := (Row.new (k := .i64) (t := 3) w [d]).rd
theorem nm_one : Nm [1] := ⟨fun x hx => by simp at hx; omega, fun _ => by simp⟩

end Go.Proofs.YtdonbgjmcbhecaaGreatDoor


/- isochronelaw01.NatShifts answers true for all arguments. -/
namespace Go.Proofs.YtdonbgjmcbhecaaGreatDoor
open Go.RowKit V

theorem pow_words (k : Nat) : (4294967296 : Nat) ^ k = 2 ^ (32 * k) := by rw [Nat.pow_mul]
theorem V32_pos {xs : List Nat} (hx : Mag xs) (h : 0 < xs.length) : 1 ≤ V32 xs := by
  have h1 := val_ge (B := 4294967296) hx.2 h
  have h2 : 0 < 4294967296 ^ (xs.length - 1) := Nat.pow_pos (by omega)
  unfold V32; omega
end Go.Proofs.YtdonbgjmcbhecaaGreatDoor


/- isochronelaw01.NatShifts answers true for all arguments: downwards, and the whole. -/
namespace Go.Proofs.YtdonbgjmcbhecaaGreatDoor
open Go.RowKit V

theorem mul_ge (q d r : Nat) (h : 0 < d) : q ≤ q * d + r := by
  have : q * 1 ≤ q * d := Nat.mul_le_mul_left _ h
  omega

end Go.Proofs.YtdonbgjmcbhecaaGreatDoor


/- nat.pow, nat.Pow and isochroneref01.Pow. -/
namespace Go.Proofs.YtdonbgjmcbhecaaGreatDoor
open Go.RowKit V

theorem pow_len_le {v s m k : Nat} {zs : List Nat} (hz : Mag zs) (e : V32 zs = v ^ m) (hv : v < 2 ^ s) (h : s * m ≤ 32 * k) (hm : 1 ≤ k) : zs.length ≤ k := by
  refine len_of_lt (B := 4294967296) (by omega) hz.2 ?_
  show V32 zs < _
  rw [e, pow_words]
  rcases Nat.eq_zero_or_pos m with h0 | h0
  · subst h0
    have : 2 ^ 1 ≤ 2 ^ (32 * k) := Nat.pow_le_pow_right (by omega) (by omega)
    rw [Nat.pow_zero]; omega
  · have h1 : v ^ m < (2 ^ s) ^ m := Nat.pow_lt_pow_left hv (by omega)
    have h2 : 2 ^ (s * m) ≤ 2 ^ (32 * k) := Nat.pow_le_pow_right (by omega) h
    rw [Nat.pow_mul] at h2
    omega
theorem bit_step (n i : Nat) : n / 2 ^ i = 2 * (n / 2 ^ (i + 1)) + n / 2 ^ i % 2 := by
  rw [Nat.pow_succ, ← Nat.div_div_eq_div_mul]
  omega

theorem i64_and1 (n : Int) : bits .and .i64 n 1 = n % 2 := by
  have h1 : (BitVec.ofInt 64 1).toNat = 2 ^ 1 - 1 := by decide
  have key : (BitVec.ofInt 64 n &&& BitVec.ofInt 64 1).toNat = (n % ((2 ^ 64 : Nat) : Int)).toNat % 2 ^ 1 := by
    rw [BitVec.toNat_and, BitVec.toNat_ofInt, h1, Nat.and_two_pow_sub_one_eq_mod]
  show IntKind.i64.wrap ((BitVec.ofInt 64 n &&& BitVec.ofInt 64 1).toNat : Nat) = n % 2
  rw [key, IntKind.wrap_i64]
  omega
theorem bit_test (n i : Nat) : (bits .and .i64 ((n : Int) / 2 ^ i) 1 == 1) = decide (n / 2 ^ i % 2 = 1) := by
  rw [i64_and1]
  have e : ((n / 2 ^ i : Nat) : Int) = (n : Int) / 2 ^ i := by simp
  rw [← e]
  generalize n / 2 ^ i = d
  rcases Nat.mod_two_eq_zero_or_one d with h | h
  · rw [h]; simp; omega
  · rw [h]; simp; omega
theorem sq_step {v p q b z y : Nat} (hp : p = v ^ q) (hz : z = p * p) (hy : y = z * v ^ b) : y = v ^ (2 * q + b) := by
  rw [hy, hz, hp, Nat.pow_add, Nat.two_mul, Nat.pow_add]

set_option maxRecDepth 100000 in
set_option maxHeartbeats 1000000 in
theorem pow_any (A : Option Addr) (ca n s : Nat) (xs : List Nat) (w : World) (hx : Rd .u32 w A xs) (bx : xs.length ≤ 4096) (mx : Mag xs) (h1 : 1 ≤ n) (hn : n ≤ 200000) (hs : V32 xs < 2 ^ s) (hsn : s * n ≤ 300000) :
    Calls Tryz.prog 180 #[.slice A xs.length ca, .int .i64 n] w (OutP .u32 (fun zs => V32 zs = V32 xs ^ n ∧ Mag zs) w) := by
  have hlen := fun W => Tryz.bits_Len (n : Int) W (by omega) (by omega)
  obtain ⟨l, hl⟩ : ∃ l, Lib.bitLen n = l := ⟨_, rfl⟩
  have hbb := Lib.bitLenAux_bounds 64 n (by omega) (by omega)
  have hl1 : 1 ≤ l := by rw [← hl]; exact hbb.1
  have hl3 : l ≤ 18 := by rw [← hl]; exact Lib.bitLen_le n 18 (by omega) (by omega)
  have hl2 : n < 2 ^ l := by rw [← hl]; exact hbb.2.2
  have hdiv : Hid (n / 2 ^ l = 0) := Nat.div_eq_of_lt hl2
  simp only [Int.toNat_natCast, hl] at hlen
  have HLEN := Lib.hid hlen
  have HS := Lib.hid hs
  have HSN := Lib.hid hsn
  clear hlen hbb hl2 hl hs hsn
  go_enter Tryz.func180, Tryz.ntmps180
  go_wp2_with fail
  refine (from_any 1 _ (by omega)).mono ?_
  rintro e w1 ⟨P, pc, ps, rfl, hpc, hP, hb1, hvp, hmp, hlp⟩
  have HVP := Lib.hid hvp
  clear hvp
  go_wp2_with fail
  refine (HLEN.out _).mono ?_
  rintro e w2 ⟨rfl, rfl⟩
  go_wp2
  go_loopw [5, 6] (fun v iv wr => ∃ j : Int, ∃ P pc ps, -1 ≤ j ∧ j < l ∧ iv = .int .i64 j ∧ v = .slice P (ps : List Nat).length pc ∧ ps.length ≤ pc ∧ Rd .u32 wr P ps ∧ Mag ps ∧ V32 ps = V32 xs ^ (n / 2 ^ (j + 1).toNat) ∧ Below w.heap.size w wr) (fun _ iv _ => (intOf iv + 1).toNat)
  case atStart => exact ⟨_, P, pc, ps, by omega, by omega, rfl, rfl, hpc, hP, hmp, by rw [HVP.out, show ((l : Int) - 1 + 1).toNat = l by omega, hdiv.out, Nat.pow_zero], hb1⟩
  case round =>
    clear HVP hP hmp hb1 hlp hpc
    obtain ⟨j, P, pc, ps, hj, hjl, rfl, rfl, hpc, hP, hmp, hvp, hbw⟩ := hrel
    have HVP := Lib.hid hvp
    have hpl : ps.length ≤ 10000 := pow_len_le hmp hvp HS.out (by
      have h2 : n / 2 ^ (j + 1).toNat ≤ n := Nat.div_le_self _ _
      have h3 : s * (n / 2 ^ (j + 1).toNat) ≤ s * n := Nat.mul_le_mul_left _ h2
      have h4 := HSN.out
      omega) (by omega)
    clear hvp
    by_cases h0 : j < 0
    · go_wp2
      go_ret
      exact ⟨P, pc, ps, rfl, hpc, hP, hbw, by rw [HVP.out, show (j + 1).toNat = 0 by omega, Nat.pow_zero, Nat.div_one], hmp⟩
    · obtain ⟨i, rfl⟩ := Int.eq_ofNat_of_zero_le (show 0 ≤ j by omega)
      have dps : Dig 4294967296 ps := hmp.1
      go_wp2_with fail
      refine (mul_any P P pc pc ps ps _ hP hP (by omega) dps dps).mono ?_
      rintro e w3 ⟨Z, zc, zs, rfl, hzc, hz, hb3, hv3, hn3, hd3, hl3'⟩
      have HV3 := Lib.hid hv3
      clear hv3
      have hbw3 := hbw.trans (hb3.mono hbw.size)
      have hbt := bit_test n i
      have HVI : Hid (V32 ps = V32 xs ^ (n / 2 ^ (i + 1))) := by show _ = _; rw [HVP.out, show ((i : Int) + 1).toNat = i + 1 by omega]
      have hx3 := hx.below hbw3
      have mxd : Dig 4294967296 xs := mx.1
      by_cases hodd : n / 2 ^ i % 2 = 1
      · rw [decide_eq_true hodd] at hbt
        have HODD := Lib.hid hodd
        clear hodd
        go_wp2_with fail
        refine (mul_any Z A zc ca zs xs _ hz hx3 (by omega) hd3 mxd).mono ?_
        rintro e w4 ⟨Y, yc, ys, rfl, hyc, hy, hb4, hv4, hn4, hd4, hl4⟩
        have HV4 := Lib.hid hv4
        clear hv4
        go_wp2_with fail
        go_roundw
        case rel => exact ⟨_, Y, yc, ys, by omega, by omega, rfl, rfl, hyc, hy, ⟨hd4, hn4⟩, by
          rw [show ((i : Int) - 1 + 1).toNat = i by omega, bit_step n i, HODD.out]
          exact sq_step HVI.out HV3.out (by rw [Nat.pow_one]; exact HV4.out), hbw3.trans (hb4.mono hbw3.size)⟩
        case measure => simp [intOf]
      · rw [decide_eq_false hodd] at hbt
        have HODD : Hid (n / 2 ^ i % 2 = 0) := by show _ = _; omega
        clear hodd
        go_wp2_with fail
        go_roundw
        case rel => exact ⟨_, Z, zc, zs, by omega, by omega, rfl, rfl, hzc, hz, ⟨hd3, hn3⟩, by
          rw [show ((i : Int) - 1 + 1).toNat = i by omega, bit_step n i, HODD.out]
          exact sq_step HVI.out HV3.out (by rw [Nat.pow_zero, Nat.mul_one]; rfl), hbw3⟩
        case measure => simp [intOf]

set_option maxHeartbeats 400000 in
theorem Pow_zero (A : Option Addr) (ca : Nat) (xs : List Nat) (w : World) (hx : Rd .u32 w A xs) (ox : Ok xs) :
    Calls Tryz.prog 109 #[.slice A xs.length ca, .int .i64 0] w (OkP (fun zs => V32 zs = 1 ∧ Mag zs) w) := by
  go_enter Tryz.func109, Tryz.ntmps109
  go_wp2_with (first
    | (go_at_call 130; (with_reducible refine (valid_yes A ca xs _ hx ox).mono ?_); rintro e w1 ⟨rfl, rfl⟩)
    | (go_at_call 173; refine (from_any 1 _ (by omega)).mono ?_; rintro e w1 ⟨Z, zc, zs, rfl, hzc, hz, hb, hv, hm, hl⟩; have HV := Lib.hid hv; clear hv))
  go_ret2
  exact ⟨Z, zc, zs, hz, hzc, hb, ⟨HV.out, hm⟩, rfl⟩

theorem bits_small {v b : Nat} (h : IsBits v b) (hv : v ≤ 1) : b ≤ 1 := by
  rcases Nat.lt_or_ge 1 b with h1 | h1
  · have h2 := h.2 (by omega)
    have h3 : 2 ^ 1 ≤ 2 ^ (b - 1) := Nat.pow_le_pow_right (by omega) (by omega)
    omega
  · exact h1
theorem bits_large {v b : Nat} (h : IsBits v b) (hv : 2 ≤ v) : 2 ≤ b := by
  rcases Nat.lt_or_ge b 2 with h1 | h1
  · have h2 := h.1
    have h3 : 2 ^ b ≤ 2 ^ 1 := Nat.pow_le_pow_right (by omega) (by omega)
    omega
  · exact h1

set_option maxHeartbeats 400000 in
theorem Pow_one (A : Option Addr) (ca : Nat) (n : Int) (xs : List Nat) (w : World) (hx : Rd .u32 w A xs) (ox : Ok xs) (dx : Dig 4294967296 xs) (hn : 1 ≤ n) (hv : V32 xs ≤ 1) :
    Calls Tryz.prog 109 #[.slice A xs.length ca, .int .i64 n] w (OkP (fun zs => zs = xs) w) := by
  have hl : xs.length ≤ 4096 := ox.1
  have mx : Mag xs := ⟨dx, ox.2⟩
  have hn0 : (n == 0) = false := beq_eq_false_iff_ne.2 (by omega)
  go_enter Tryz.func109, Tryz.ntmps109
  go_wp2_with (first
    | (go_at_call 130; (with_reducible refine (valid_yes A ca xs _ hx ox).mono ?_); rintro e w1 ⟨rfl, rfl⟩)
    | (go_at_call 178; refine (bitlen_any A ca xs _ hx (by omega) mx).mono ?_; rintro e w1 ⟨b, rfl, hb, rfl⟩; have hb1 := bits_small hb hv)
    | (go_at_call 172; refine (clone_u32 A ca xs _ hx (by omega)).mono ?_; rintro e w1 ⟨v, rfl, hown, hbe⟩; obtain ⟨Z, zc, rfl, hzc, hz⟩ := hown.form))
  go_ret2
  exact ⟨Z, zc, xs, hz, hzc, hbe, rfl, rfl⟩

theorem bits_le {v b k : Nat} (h : IsBits v b) (hv : v < 2 ^ k) : b ≤ k := by
  rcases Nat.lt_or_ge k b with h1 | h1
  · have h2 := h.2 (by omega)
    have h3 : 2 ^ k ≤ 2 ^ (b - 1) := Nat.pow_le_pow_right (by omega) (by omega)
    omega
  · exact h1
theorem bits_words {xs : List Nat} {b k : Nat} (mx : Mag xs) (hl : xs.length ≤ k) (h : IsBits (V32 xs) b) : b ≤ 32 * k :=
  bits_le h (by have := V32_lt mx hl; rw [pow_words] at this; exact this)
theorem ok_bits {xs : List Nat} {b : Nat} (mx : Mag xs) (hl : xs.length ≤ 4096) (h : IsBits (V32 xs) b) : b ≤ 131072 :=
  Nat.le_trans (bits_words mx hl h) (by omega)

set_option maxRecDepth 100000 in
set_option maxHeartbeats 400000 in
theorem Pow_fit (A : Option Addr) (ca n b : Nat) (xs : List Nat) (w : World) (hx : Rd .u32 w A xs) (ox : Ok xs) (dx : Dig 4294967296 xs) (h1 : 1 ≤ n) (hv : 2 ≤ V32 xs) (hb : IsBits (V32 xs) b) (hq : n ≤ 131071 / (b - 1)) :
    Calls Tryz.prog 109 #[.slice A xs.length ca, .int .i64 n] w (FitP (fun zs => V32 zs = V32 xs ^ n ∧ Mag zs) w) := by
  have hl : xs.length ≤ 4096 := ox.1
  have mx : Mag xs := ⟨dx, ox.2⟩
  have hn0 : ((n : Int) == 0) = false := beq_eq_false_iff_ne.2 (by omega)
  have hb1 := bits_large hb hv
  have hb2 := ok_bits mx hl hb
  have hq2 : 131071 / (b - 1) ≤ 131071 := Nat.div_le_self _ _
  have hbn : b * n ≤ 300000 := by
    have h2 : (b - 1) * n ≤ (b - 1) * (131071 / (b - 1)) := Nat.mul_le_mul_left _ hq
    have h3 : (b - 1) * (131071 / (b - 1)) ≤ 131071 := Nat.mul_div_le _ _
    have h4 : b * n ≤ (2 * (b - 1)) * n := Nat.mul_le_mul_right _ (by omega)
    rw [Nat.mul_assoc] at h4
    omega
  have HBN := Lib.hid hbn
  obtain ⟨q, eq, hqn⟩ : ∃ q : Nat, (131071 : Int) / ((b : Int) - 1) = q ∧ (n : Int) ≤ q := by
    refine ⟨131071 / (b - 1), ?_, by omega⟩
    rw [show (b : Int) - 1 = ((b - 1 : Nat) : Int) by omega]
    simp
  have hq1 : q ≤ 131071 := by
    have h2 : (131071 : Int) / ((b : Int) - 1) = (131071 / (b - 1) : Nat) := by
      rw [show (b : Int) - 1 = ((b - 1 : Nat) : Int) by omega]
      simp
    omega
  have HB := Lib.hid hb
  clear hb hq hbn hq2
  go_enter Tryz.func109, Tryz.ntmps109
  go_wp2_with fail
  refine (valid_yes A ca xs _ hx ox).mono ?_
  rintro e w1 ⟨rfl, rfl⟩
  go_wp2_with fail
  refine (bitlen_any A ca xs _ hx (by omega) mx).mono ?_
  rintro e w1 ⟨b', rfl, hb', rfl⟩
  obtain rfl : b = b' := HB.out.eq hb'
  go_wp2_with fail
  refine (pow_any A ca n b xs _ hx hl mx h1 (by omega) hb'.1 HBN.out).mono ?_
  rintro e w1 ⟨Z, zc, zs, rfl, hzc, hz, hbz, hv, hm⟩
  have HV := Lib.hid hv
  clear hv
  go_wp2_with fail
  by_cases h4 : zs.length ≤ 4096
  · refine (fit_yes Z zc zs.length _ h4).mono ?_
    rintro e w2 ⟨rfl, rfl⟩
    go_wp2
    go_ret2
    exact ⟨Z, zc, zs, hz, hzc, hbz, ⟨HV.out, hm⟩, .inl ⟨h4, rfl⟩⟩
  · refine (fit_no Z zc zs.length _ (by omega)).mono ?_
    rintro e w2 ⟨rfl, rfl⟩
    go_wp2
    go_ret2
    exact ⟨Z, zc, zs, hz, hzc, hbz, ⟨HV.out, hm⟩, .inr ⟨by omega, rfl⟩⟩

theorem nm_mul_len {xs ys zs : List Nat} (hx : Nm xs) (hy : Nm ys) (hz : Nm zs) (e : VD zs = VD xs * VD ys) : zs.length ≤ xs.length + ys.length := by
  refine len_of_lt (B := 10000) (by omega) hz.2 ?_
  show VD zs < _
  rw [e, Nat.pow_add]
  exact Nat.mul_lt_mul'' (val_lt 10000 xs hx.1) (val_lt 10000 ys hy.1)

set_option maxRecDepth 100000 in
set_option maxHeartbeats 1000000 in
theorem rpow_any (A : Option Addr) (ca n : Nat) (xs : List Nat) (w : World) (hx : Rd .i64 w A xs) (bx : xs.length ≤ 100) (hn : n ≤ 100) (nmx : Nm xs) :
    Calls Tryz.prog 111 #[.slice A xs.length ca, .int .i64 n] w (OutP .i64 (fun zs => VD zs = VD xs ^ n ∧ Nm zs ∧ zs.length ≤ 100 * n + 1) w) := by
  have h1 := rd_nat1 w 1
  go_enter Tryz.func111, Tryz.ntmps111
  go_wp2
  go_loopw [5, 8] (fun v iv wr => ∃ i : Nat, ∃ O oc out, i ≤ n ∧ iv = .int .i64 i ∧ v = .slice O (out : List Nat).length oc ∧ out.length ≤ oc ∧ Rd .i64 wr O out ∧ Nm out ∧ VD out = VD xs ^ i ∧ out.length ≤ 100 * i + 1 ∧ Below w.heap.size w wr) (fun _ iv _ => n - (intOf iv).toNat)
  case atStart => exact ⟨0, _, _, [1], Nat.zero_le _, rfl, rfl, by simp, h1, nm_one, by simp [VD, val], by simp, (Below.refl _ _).alloc (Nat.le_refl _) _⟩
  case round =>
    obtain ⟨i, O, oc, out, hi, rfl, rfl, hoc, hro, hno, hv, hl, hbw⟩ := hrel
    have HV := Lib.hid hv
    clear hv
    by_cases hlt : i < n
    · have hx1 := hx.below hbw
      go_wp2_with fail
      refine (rmul_any O A oc ca out xs _ hro hx1 (by omega) hno nmx).mono ?_
      rintro e w2 ⟨Z, zc, zs, rfl, hzc, hz, hb2, hv2, hn2, hl2⟩
      have HV2 := Lib.hid hv2
      have hl3 := nm_mul_len hno nmx hn2 hv2
      clear hv2
      go_wp2_with fail
      go_roundw
      case rel => exact ⟨i + 1, Z, zc, zs, by omega, by go_num, rfl, hzc, hz, hn2, by rw [HV2.out, HV.out, Nat.pow_succ], by omega, hbw.trans (hb2.mono hbw.size)⟩
      case measure => simp [intOf]; omega
    · obtain rfl : i = n := by omega
      go_wp2
      go_ret
      exact ⟨O, oc, out, rfl, hoc, hro, hbw, HV.out, hno, hl⟩
end Go.Proofs.YtdonbgjmcbhecaaGreatDoor


/- isochronelaw01.NatPowers answers true for all arguments. -/
namespace Go.Proofs.YtdonbgjmcbhecaaGreatDoor
open Go.RowKit V

theorem exists_bits (v : Nat) : ∃ b, IsBits v b := by
  by_cases h : v = 0
  · exact ⟨0, by rw [h]; exact bits_zero⟩
  · exact ⟨Nat.log2 v + 1, Nat.lt_log2_self, fun _ => Nat.log2_self_le h⟩

/-- A slice and an error, whatever they are. -/
def SomeP (w : World) (e : Ending) (w' : World) : Prop := ∃ A c m en, e = .returned (.tuple #[.slice A m c, .int .i64 en]) ∧ Below w.heap.size w w'
theorem FitP.some {Q : List Nat → Prop} {w w' : World} {e : Ending} (h : FitP Q w e w') : SomeP w e w' := by
  obtain ⟨A, c, zs, h1, h2, h3, h4, h5⟩ := h
  rcases h5 with h5 | h5
  · exact ⟨A, c, _, _, h5.2, h3⟩
  · exact ⟨none, 0, _, _, h5.2, h3⟩
theorem ErrP.some {n : Int} {w w' : World} {e : Ending} (h : ErrP n w e w') : SomeP w e w' := ⟨none, 0, _, _, h.1, h.2⟩

end Go.Proofs.YtdonbgjmcbhecaaGreatDoor


/- nat.timesAdd: a number times a word and a word more, in place where it can. -/
namespace Go.Proofs.YtdonbgjmcbhecaaGreatDoor
open Go.RowKit V

theorem carry_facts (x f c : Nat) (hx : x < 4294967296) (hf : f < 4294967296) (hc : c < 4294967296) : ∃ s c2 : Nat, s < 4294967296 ∧ c2 < 4294967296 ∧ x * f + c < 18446744073709551616 ∧ Hid (((x : Int) * f + c) % 4294967296 = s) ∧ Hid (((x : Int) * f + c) / 4294967296 = c2) ∧ Hid (s + 4294967296 * c2 = x * f + c) := by
  have h1 : x * f ≤ 4294967295 * 4294967295 := Nat.mul_le_mul (by omega) (by omega)
  have e : ((x * f + c : Nat) : Int) = (x : Int) * f + c := by simp
  refine ⟨(x * f + c) % 4294967296, (x * f + c) / 4294967296, Nat.mod_lt _ (by omega), by omega, by omega, ?_, ?_, by show _ = _; omega⟩
  · show _ = _
    rw [← e]; omega
  · show _ = _
    rw [← e]; omega

end Go.Proofs.YtdonbgjmcbhecaaGreatDoor


/- isochroneref01.Text: the decimal digits of a number of at most 1000 digits of the document. -/
namespace Go.Proofs.YtdonbgjmcbhecaaGreatDoor
open Go.RowKit V

/-- The places of the digits of x below T. -/
def Place (T x k v : Nat) : Prop := (k = 1000 ∧ v = T) ∨ (k = 100 ∧ v = T * 10 + x / 1000) ∨ (k = 10 ∧ v = T * 100 + x / 100) ∨ (k = 1 ∧ v = T * 1000 + x / 10) ∨ (k = 0 ∧ v = T * 10000 + x)
theorem Place.step {T x k v : Nat} (h : Place T x k v) (hx : x < 10000) (hk : k ≠ 0) : Place T x (k / 10) (v * 10 + x / k % 10) := by
  unfold Place at h ⊢
  rcases h with ⟨rfl, rfl⟩ | ⟨rfl, rfl⟩ | ⟨rfl, rfl⟩ | ⟨rfl, rfl⟩ | ⟨rfl, rfl⟩ <;> omega
theorem Place.le {T x k v : Nat} (h : Place T x k v) : k ≤ 1000 := by unfold Place at h; omega

end Go.Proofs.YtdonbgjmcbhecaaGreatDoor


/- isochronelaw01.NatTexts answers true for all arguments. -/
namespace Go.Proofs.YtdonbgjmcbhecaaGreatDoor
open Go.RowKit V

theorem dec_short {xs : List Nat} {k : Nat} (hx : Mag xs) (hl : xs.length ≤ k) (hk : 1 ≤ k) : (Lib.decDigits (V32 xs)).length ≤ 10 * k := by
  refine (pad_eq (10 * k) (V32 xs) (by omega) ?_).1
  have h1 := V32_lt hx hl
  have h2 : 4294967296 ^ k ≤ 10000000000 ^ k := Nat.pow_le_pow_left (by omega) _
  have h3 : (10000000000 : Nat) ^ k = 10 ^ (10 * k) := by rw [Nat.pow_mul]
  omega
theorem OkP.some {Q : List Nat → Prop} {w w' : World} {e : Ending} (h : OkP Q w e w') : SomeP w e w' := by
  obtain ⟨A, c, zs, h1, h2, h3, h4, h5⟩ := h
  exact ⟨A, c, _, _, h5, h3⟩
end Go.Proofs.YtdonbgjmcbhecaaGreatDoor

