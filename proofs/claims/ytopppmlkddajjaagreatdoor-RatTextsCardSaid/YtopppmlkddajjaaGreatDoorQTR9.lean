/- nat.shiftDown: the integer part of a number by a power of two; at most 100000 words. -/
import Derived.Test.YtopppmlkddajjaaGreatDoorQTR8
import Derived.BigRegion
import Derived.Deep.LoopGhost
import Derived.Lib.ItoaNum
import Derived.Test.YtopppmlkddajjaaGreatDoorShelf
import Derived.Lib.AppendIntMem
import Derived.Laws.IdiomCopy
import Derived.Lib.SmallJoins
import Derived.Laws.IdiomStrings
import Derived.Deep.RegionWith
import Derived.Lib.LazyBuf
import Derived.Test.YtopppmlkddajjaaGreatDoorRows
import Derived.Below
import Derived.Laws.OwnMore
import Derived.Laws.MakeOwn
import Derived.Deep.AppendLies
import Derived.Deep.Draws
import Derived.Laws.Rows
import Derived.Lib.Hide
import Derived.Deep.QuietTactic
import Derived.WalkKit
import Derived.WalkSpells
import Derived.WalkLawsBesides
import Derived.Laws.BitsAllLaws
import Derived.BigQuiet
import Derived.StillTailTactics
namespace Go.Proofs.YtopppmlkddajjaaGreatDoor
open Go.RowKit V

/-- A word moved down by p places, with what comes in from above. -/
theorem shr_facts (x y p : Nat) (hx : x < 4294967296) (hp : p < 32) : ∃ s0 s : Nat, s0 < 4294967296 ∧ s < 4294967296 ∧ Hid ((x : Int) / 2 ^ p = s0) ∧
    Hid (bits BinOp.or IntKind.u32 (s0 : Int) ((y : Int) * 2 ^ (32 - p) % 4294967296) = s) ∧ Hid (s * 2 ^ p + x % 2 ^ p = x + 4294967296 * (y % 2 ^ p)) ∧ Hid (s0 * 2 ^ p + x % 2 ^ p = x + 4294967296 * (0 % 2 ^ p)) := by
  have h2 := two_split p hp
  have hpos : 0 < 2 ^ p := Nat.pow_pos (by omega)
  have hm : y * 2 ^ (32 - p) % 4294967296 = (y % 2 ^ p) * 2 ^ (32 - p) := by
    rw [← h2, Nat.mul_comm (2 ^ (32 - p)) (2 ^ p)]; exact Nat.mul_mod_mul_right _ _ _
  have hs0 : x / 2 ^ p < 2 ^ (32 - p) := Nat.div_lt_of_lt_mul (by rw [Nat.mul_comm, h2]; exact hx)
  have hor : x / 2 ^ p ||| y * 2 ^ (32 - p) % 4294967296 = x / 2 ^ p + y * 2 ^ (32 - p) % 4294967296 := by
    rw [hm, Nat.or_comm, Nat.add_comm, ← Nat.shiftLeft_eq, ← Nat.shiftLeft_add_eq_or_of_lt hs0]
  have hxl : x / 2 ^ p ≤ x := Nat.div_le_self _ _
  have hml : y * 2 ^ (32 - p) % 4294967296 < 2 ^ 32 := Nat.mod_lt _ (by omega)
  have hs : x / 2 ^ p ||| y * 2 ^ (32 - p) % 4294967296 < 2 ^ 32 := Nat.or_lt_two_pow (by omega) hml
  have hbo := u32_or_nat (x / 2 ^ p) (y * 2 ^ (32 - p) % 4294967296) (by omega) (by omega)
  refine ⟨x / 2 ^ p, x / 2 ^ p ||| y * 2 ^ (32 - p) % 4294967296, by omega, by omega, ?_, ?_, ?_, ?_⟩
  · show _ = _
    simp
  · show _ = _
    rw [← hbo]; congr 1
  · show _ = _
    rw [hor, hm, Nat.add_mul, Nat.mul_assoc, h2]
    have h3 := Nat.mod_add_div x (2 ^ p)
    rw [Nat.mul_comm (2 ^ p)] at h3
    omega
  · show _ = _
    have h3 := Nat.mod_add_div x (2 ^ p)
    rw [Nat.mul_comm (2 ^ p)] at h3
    rw [Nat.zero_mod]
    omega
theorem below_drew1 {B : Nat} {a w : World} (h : Below B a w) : Below B a w.drew := ⟨h.os, h.tape, h.output, h.size, h.block⟩
theorem down_step (p k s x y t : Nat) (cur ys : List Nat) (hc : k < cur.length) (hy : k < ys.length) (ex : ys.getD k 0 = x) (ey : ys.getD (k + 1) 0 = y) (e : s * 2 ^ p + x % 2 ^ p = x + 4294967296 * (y % 2 ^ p))
    (hv : val 4294967296 (cur.take k) * 2 ^ p + t = val 4294967296 (ys.take k) + 4294967296 ^ k * (ys.getD k 0 % 2 ^ p)) :
    val 4294967296 ((cur.set k s).take (k + 1)) * 2 ^ p + t = val 4294967296 (ys.take (k + 1)) + 4294967296 ^ (k + 1) * (ys.getD (k + 1) 0 % 2 ^ p) := by
  rw [ex] at hv
  rw [val_set_take _ cur k s hc, val_take_succ _ ys k hy, ex, ey, Nat.add_mul, Nat.pow_succ, Nat.mul_assoc, Nat.mul_assoc]
  have h := congrArg (4294967296 ^ k * ·) e
  simp only [Nat.mul_add] at h
  omega
theorem down_end {q p : Nat} {xs cur : List Nat} (hd : Dig 4294967296 xs) (hq : q ≤ xs.length) (hv : val 4294967296 cur * 2 ^ p + (xs.drop q).getD 0 0 % 2 ^ p = val 4294967296 (xs.drop q)) : val 4294967296 cur = val 4294967296 xs / 2 ^ (32 * q + p) := by
  have hpos : 0 < 2 ^ p := Nat.pow_pos (by omega)
  have h1 := val_split 4294967296 xs q hq
  have h2 := val_lt 4294967296 (xs.take q) (hd.take q)
  rw [List.length_take, Nat.min_eq_left hq] at h2
  have h3 : val 4294967296 xs / 4294967296 ^ q = val 4294967296 (xs.drop q) := by
    rw [h1, Nat.add_mul_div_left _ _ (by omega), Nat.div_eq_of_lt h2, Nat.zero_add]
  rw [pow_32, ← Nat.div_div_eq_div_mul, h3, ← hv, Nat.add_comm, Nat.mul_comm, Nat.add_mul_div_left _ _ hpos, Nat.div_eq_of_lt (Nat.mod_lt _ hpos), Nat.zero_add]

set_option maxRecDepth 100000 in
set_option maxHeartbeats 1000000 in
theorem shiftdn_any (A : Option Addr) (ca n : Nat) (xs : List Nat) (w : World) (hx : Rd .u32 w A xs) (hca : xs.length ≤ ca) (bx : xs.length ≤ 100000) (bn : n ≤ 10000000) (dx : Dig 4294967296 xs) (hpos : n / 32 < xs.length) :
    Calls Tryz.prog 152 #[.slice A xs.length ca, .int .i64 n] w (OutP .u32 (fun zs => V32 zs = V32 xs / 2 ^ n ∧ Mag zs ∧ zs.length ≤ xs.length) w) := by
  obtain ⟨q, p, hp, eq, ep, hn⟩ : ∃ q p : Nat, p < 32 ∧ (n : Int) / 32 = q ∧ (n : Int) % 32 = p ∧ Hid (n = 32 * q + p) := ⟨n / 32, n % 32, Nat.mod_lt _ (by omega), by omega, by omega, by show _ = _; omega⟩
  have hq : q < xs.length := by have := hn.out; omega
  obtain ⟨ad, _, rfl, _, _, _⟩ := hx.ask hq
  have hY : Rd .u32 w (some (ad.add q)) (xs.drop q) := hx.drop rfl
  obtain ⟨ys, eys⟩ : ∃ ys, Hid (xs.drop q = ys) := ⟨_, rfl⟩
  have hyl : ys.length = xs.length - q := by rw [← eys.out, List.length_drop]
  have dy : Dig 4294967296 ys := by rw [← eys.out]; exact dx.drop q
  rw [eys.out] at hY
  clear hpos
  obtain ⟨L, hL⟩ : ∃ L, xs.length - q = L := ⟨_, rfl⟩
  rw [hL] at hyl
  go_enter Tryz.func152, Tryz.ntmps152
  go_wp2_with fail
  have hcl := clone_u32 (some (ad.add q)) (ca - q) ys w hY (by omega)
  rw [hyl] at hcl
  refine hcl.mono ?_
  rintro e w1 ⟨v, rfl, hown1, hb1⟩
  obtain ⟨O, oc, rfl, hoc, hro1, hsh⟩ := hown1.shapeN hyl
  obtain ⟨g, rfl, hgB⟩ := hsh (by omega)
  clear hcl hsh hro1 hY
  go_wp2_with fail
  go_loopw [8, 9, 25] (fun _ _ i wr => ∃ k : Nat, ∃ cur : List Nat, k ≤ L ∧ i = .int .i64 k ∧ cur.length = L ∧ Dig 4294967296 cur ∧
      val 4294967296 (cur.take k) * 2 ^ p + ys.getD 0 0 % 2 ^ p = val 4294967296 (ys.take k) + 4294967296 ^ k * (ys.getD k 0 % 2 ^ p) ∧ (∀ j, k ≤ j → cur.getD j 0 = ys.getD j 0) ∧
      Own .u32 59 w.heap.size wr (.slice (some ⟨g, 0, none⟩) L oc) cur ∧ Below w.heap.size w wr) (fun _ _ i _ => L - (intOf i).toNat)
  case atStart => exact ⟨0, ys, Nat.zero_le _, rfl, hyl, dy, by simp [val], fun _ _ => rfl, hown1, hb1⟩
  case round =>
    obtain ⟨k, cur, hk, rfl, hcl, hdc, hv, hout, hown, hbw⟩ := hrel
    have HV := Lib.hid hv
    have HCL := Lib.hid hcl
    have HO := Lib.hid hout
    clear hv hcl hout
    by_cases hlt : k < L
    · have hkc : k < cur.length := by have := HCL.out; omega
      obtain ⟨x, ex⟩ : ∃ x, Hid (ys.getD k 0 = x) := ⟨_, rfl⟩
      obtain ⟨y, ey⟩ : ∃ y, Hid (ys.getD (k + 1) 0 = y) := ⟨_, rfl⟩
      have hxl : x < 4294967296 := by rw [← ex.out]; exact dig_getD dy (by omega) k
      have hcell : wr.cell? ⟨g, k, none⟩ = some (.int .u32 x) := by have := hown.cell HCL.out hlt; rwa [HO.out k (Nat.le_refl _), ex.out] at this
      have hfr := hown.frz (i := k) HCL.out
      obtain ⟨s0, s, hs0, hs, e0, es, hsc, hsc0⟩ := shr_facts x y p hxl hp
      by_cases hab : k + 1 < L
      · have e0' := e0.out
        have hown2 := hown.set_ (i := k) (d := s0) HCL.out
        have hbw2 := hbw.setCell (p := ⟨g, k, none⟩) hgB (.int .u32 (s0 : Nat))
        have hcl2 : Hid ((cur.set k s0).length = L) := by show _ = _; rw [List.length_set]; exact HCL.out
        have hcell2 := hown2.cell hcl2.out hlt
        rw [getD_set _ _ _ _ hkc, if_pos rfl] at hcell2
        have hfr2 := hown2.frz (i := k) hcl2.out
        obtain ⟨ad', y', had, hby, ey', cy⟩ := (hx.below hbw2).ask (i := q + k + 1) (by omega)
        injection had with had
        subst had
        obtain rfl : y = y' := by rw [← ey.out, ← ey'.out, ← eys.out]; simp [List.getD_eq_getElem?_getD, Nat.add_assoc]
        have cy2 := cy
        unfold Addr.add at cy2
        rw [if_neg (by omega)] at cy2
        go_wp2_with fail
        generalize wr.setCell ⟨g, k, none⟩ (.int .u32 (s0 : Nat)) = W1 at *
        go_region
        go_wp2
        go_roundw
        case rel => exact ⟨k + 1, cur.set k s, by omega, by go_num, by rw [List.length_set]; exact HCL.out, hdc.set _ hs, down_step p k s x y _ cur ys hkc (by omega) ex.out ey.out hsc.out HV.out,
          fun j hj => by rw [getD_set _ _ _ _ hkc, if_neg (by omega)]; exact HO.out j (by omega), by
            rw [es.out]
            have := hown2.set_ (i := k) (d := s) hcl2.out
            rw [List.set_set] at this
            exact this, below_drew1 (hbw2.setCell hgB _)⟩
        case measure => simp [intOf]; omega
      · have e0' := e0.out
        have ey0 : ys.getD (k + 1) 0 = 0 := getD_beyond _ _ (by omega)
        go_wp2
        go_roundw
        case rel => exact ⟨k + 1, cur.set k s0, by omega, by go_num, by rw [List.length_set]; exact HCL.out, hdc.set _ hs0, down_step p k s0 x 0 _ cur ys hkc (by omega) ex.out ey0 hsc0.out HV.out,
          fun j hj => by rw [getD_set _ _ _ _ hkc, if_neg (by omega)]; exact HO.out j (by omega), hown.set_ HCL.out, hbw.setCell hgB _⟩
        case measure => simp [intOf]; omega
    · obtain rfl : k = L := by omega
      have hrd : Rd .u32 wr (some ⟨g, 0, none⟩) cur := by
        obtain ⟨A', c', h1, _, h2⟩ := hown.form
        injection h1 with h1
        subst h1
        exact h2
      have HF : Hid (val 4294967296 cur = val 4294967296 xs / 2 ^ n) := by
        have h1 := HV.out
        have hcl := HCL.out
        rw [List.take_of_length_le (by omega), List.take_of_length_le (by omega), getD_beyond ys k (by omega), Nat.zero_mod, Nat.mul_zero, Nat.add_zero] at h1
        show _ = _
        rw [hn.out]
        exact down_end dx (by omega) (by rw [eys.out]; exact h1)
      go_wp2_with fail
      refine (trim_u32n _ oc k cur _ HCL.out hrd hoc (by omega)).mono ?_
      rintro e w2 ⟨m, hm, rfl, hv3, hn3, rfl⟩
      have HV3 := Lib.hid hv3
      clear hv3
      go_wp2
      go_ret
      have hfl := HCL.out
      exact OutP.of_take hm (by omega) hrd hbw ⟨by show val 4294967296 (cur.take m) = _; rw [HV3.out]; exact HF.out, ⟨hdc.take m, hn3⟩, by rw [List.length_take]; omega⟩

set_option maxHeartbeats 400000 in
theorem shiftdn_none (A : Option Addr) (ca n : Nat) (xs : List Nat) (w : World) (bn : n ≤ 10000000) (dx : Dig 4294967296 xs) (hpos : xs.length ≤ n / 32) :
    Calls Tryz.prog 152 #[.slice A xs.length ca, .int .i64 n] w (OutP .u32 (fun zs => V32 zs = V32 xs / 2 ^ n ∧ Mag zs ∧ zs.length ≤ xs.length) w) := by
  obtain ⟨q, p, hp, eq, ep, hn⟩ : ∃ q p : Nat, p < 32 ∧ (n : Int) / 32 = q ∧ (n : Int) % 32 = p ∧ Hid (n = 32 * q + p) := ⟨n / 32, n % 32, Nat.mod_lt _ (by omega), by omega, by omega, by show _ = _; omega⟩
  have hq : xs.length ≤ q := by have := hn.out; omega
  have HD := Lib.hid dx
  clear hpos
  go_enter Tryz.func152, Tryz.ntmps152
  go_wp2
  go_ret
  refine ⟨none, 0, [], rfl, Nat.le_refl _, Rd.nil_, Below.refl _ _, ?_, mag_nil, Nat.zero_le _⟩
  have h1 := val_lt 4294967296 xs HD.out
  have h2 : 4294967296 ^ xs.length ≤ 4294967296 ^ q := Nat.pow_le_pow_right (by omega) hq
  have h3 : 4294967296 ^ q * 1 ≤ 4294967296 ^ q * 2 ^ p := Nat.mul_le_mul_left _ (Nat.pow_pos (by omega))
  show 0 = V32 xs / 2 ^ n
  rw [hn.out, pow_32, Nat.div_eq_of_lt (by unfold V32; omega)]

theorem shiftdn_ok (A : Option Addr) (ca n : Nat) (xs : List Nat) (w : World) (hx : Rd .u32 w A xs) (hca : xs.length ≤ ca) (bx : xs.length ≤ 100000) (bn : n ≤ 10000000) (dx : Dig 4294967296 xs) :
    Calls Tryz.prog 152 #[.slice A xs.length ca, .int .i64 n] w (OutP .u32 (fun zs => V32 zs = V32 xs / 2 ^ n ∧ Mag zs ∧ zs.length ≤ xs.length) w) := by
  rcases Nat.lt_or_ge (n / 32) xs.length with h | h
  · exact shiftdn_any A ca n xs w hx hca bx bn dx h
  · exact shiftdn_none A ca n xs w bn dx h
end Go.Proofs.YtopppmlkddajjaaGreatDoor


/- nat.bitLen, nat.Bits and isochroneref01.Bits: the number of binary digits. -/
namespace Go.Proofs.YtopppmlkddajjaaGreatDoor
open Go.RowKit V

/-- b is the number of binary digits of v. -/
def IsBits (v b : Nat) : Prop := v < 2 ^ b ∧ (0 < b → 2 ^ (b - 1) ≤ v)
theorem IsBits.eq {v b c : Nat} (h : IsBits v b) (k : IsBits v c) : b = c := by
  have key : ∀ b c : Nat, IsBits v b → IsBits v c → b ≤ c := fun b c h k => by
    rcases Nat.lt_or_ge c b with h1 | h1
    · have h2 := h.2 (by omega)
      have h3 : 2 ^ c ≤ 2 ^ (b - 1) := Nat.pow_le_pow_right (by omega) (by omega)
      have := k.1
      omega
    · exact h1
  exact Nat.le_antisymm (key b c h k) (key c b k h)
theorem bits_zero : IsBits 0 0 := ⟨by simp, fun h => absurd h (by omega)⟩
theorem len_bits (x : Nat) (h : x < 4294967296) (h0 : x ≠ 0) : IsBits x (Lib.bitLen x) ∧ 1 ≤ Lib.bitLen x ∧ Lib.bitLen x ≤ 32 := by
  have h1 := Lib.bitLenAux_bounds 64 x (by omega) h0
  exact ⟨⟨h1.2.2, fun _ => h1.2.1⟩, h1.1, Lib.bitLen_le x 32 (by omega) (by omega)⟩
/-- The binary digits of a magnitude from those of its highest word. -/
theorem bits_top {xs : List Nat} (hd : Dig 4294967296 xs) (h : 0 < xs.length) {x l : Nat} (ex : xs.getD (xs.length - 1) 0 = x) (hl : IsBits x l) (hl1 : 1 ≤ l) : IsBits (V32 xs) (32 * (xs.length - 1) + l) := by
  have h1 := val_take_succ 4294967296 xs (xs.length - 1) (by omega)
  rw [Nat.sub_add_cancel (by omega), List.take_length, ex] at h1
  have h2 := val_lt 4294967296 (xs.take (xs.length - 1)) (hd.take _)
  rw [List.length_take, Nat.min_eq_left (by omega)] at h2
  have e : (4294967296 : Nat) ^ (xs.length - 1) = 2 ^ (32 * (xs.length - 1)) := by rw [Nat.pow_mul]
  rw [e] at h1 h2
  unfold V32
  rw [h1]
  refine ⟨?_, fun _ => ?_⟩
  · have h3 : 2 ^ (32 * (xs.length - 1)) * (x + 1) ≤ 2 ^ (32 * (xs.length - 1)) * 2 ^ l := Nat.mul_le_mul_left _ hl.1
    rw [Nat.pow_add]
    rw [Nat.mul_add] at h3
    omega
  · have h3 : 2 ^ (32 * (xs.length - 1)) * 2 ^ (l - 1) ≤ 2 ^ (32 * (xs.length - 1)) * x := Nat.mul_le_mul_left _ (hl.2 hl1)
    rw [show 32 * (xs.length - 1) + l - 1 = 32 * (xs.length - 1) + (l - 1) by omega, Nat.pow_add]
    omega

/-- The answer is the number of binary digits; the world is as it was. -/
def BitsP (v : Nat) (w : World) (e : Ending) (w' : World) : Prop := ∃ b : Nat, e = .returned (.int .i64 b) ∧ IsBits v b ∧ w = w'

set_option maxRecDepth 100000 in
set_option maxHeartbeats 400000 in
theorem bitlen_any (A : Option Addr) (ca : Nat) (xs : List Nat) (w : World) (hx : Rd .u32 w A xs) (bx : xs.length ≤ 200000) (mx : Mag xs) :
    Calls Tryz.prog 113 #[.slice A xs.length ca] w (BitsP (V32 xs) w) := by
  by_cases h0 : xs.length = 0
  · have hb : ((xs.length : Int) == 0) = true := by simp [h0]
    obtain rfl : xs = [] := List.eq_nil_of_length_eq_zero h0
    go_enter Tryz.func113, Tryz.ntmps113
    go_wp2
    go_ret
    exact ⟨0, rfl, bits_zero, rfl⟩
  · have hb : ((xs.length : Int) == 0) = false := beq_eq_false_iff_ne.2 (by omega)
    obtain ⟨ad, x, rfl, hbx, ex, cx⟩ := hx.ask (i := xs.length - 1) (by omega)
    have hxl : x < 4294967296 := by rw [← ex.out]; exact dig_getD mx.1 (by omega) _
    have hx0 : x ≠ 0 := by rw [← ex.out]; exact mx.2 (by omega)
    obtain ⟨h1, h2, h3⟩ := len_bits x hxl hx0
    have HB : Hid (IsBits (V32 xs) (32 * (xs.length - 1) + Lib.bitLen x)) := bits_top mx.1 (by omega) ex.out h1 h2
    obtain ⟨l, hl⟩ : ∃ l, Lib.bitLen x = l := ⟨_, rfl⟩
    have hcall := Tryz.bits_Len32 (x : Int) w (by omega) (by omega)
    rw [Int.toNat_natCast, hl] at hcall
    rw [hl] at HB h2 h3
    have HCALL := Lib.hid hcall
    clear hcall h1 hl
    go_enter Tryz.func113, Tryz.ntmps113
    go_wp2_with fail
    refine HCALL.out.mono ?_
    rintro e w2 ⟨rfl, rfl⟩
    go_wp2
    go_ret
    exact ⟨32 * (xs.length - 1) + l, by go_num, HB.out, rfl⟩

/-- v is what is left of V without its lowest n binary digits. -/
def Half (V n v : Nat) : Prop := v * 2 ^ n ≤ V ∧ V < (v + 1) * 2 ^ n
theorem Half.zero (V : Nat) : Half V 0 V := by unfold Half; simp
theorem Half.step {V n v q r k : Nat} (h : Half V n v) (e : v = q * 2 ^ k + r) (hr : r < 2 ^ k) : Half V (n + k) q := by
  have h1 : q * (2 ^ k * 2 ^ n) ≤ v * 2 ^ n := by rw [← Nat.mul_assoc]; exact Nat.mul_le_mul_right _ (by omega)
  have h2 : (v + 1) * 2 ^ n ≤ (q + 1) * (2 ^ k * 2 ^ n) := by rw [← Nat.mul_assoc]; exact Nat.mul_le_mul_right _ (by rw [Nat.add_mul]; omega)
  unfold Half at h ⊢
  rw [Nat.pow_add, Nat.mul_comm (2 ^ n)]
  omega
end Go.Proofs.YtopppmlkddajjaaGreatDoor


/- nat.Shift and isochroneref01.Two. -/
namespace Go.Proofs.YtopppmlkddajjaaGreatDoor
open Go.RowKit V

theorem rd_nat1 (w : World) (d : Nat) : Rd .i64 (w.alloc (.cells #[.int .i64 (d : Nat)] 3)) (some ⟨w.heap.size, 0, none⟩) [d] := (Row.new (k := .i64) (t := 3) w [d]).rd
theorem nm_one : Nm [1] := ⟨fun x hx => by simp at hx; omega, fun _ => by simp⟩

end Go.Proofs.YtopppmlkddajjaaGreatDoor


/- isochronelaw01.NatShifts answers true for all arguments. -/
namespace Go.Proofs.YtopppmlkddajjaaGreatDoor
open Go.RowKit V

theorem pow_words (k : Nat) : (4294967296 : Nat) ^ k = 2 ^ (32 * k) := by rw [Nat.pow_mul]
theorem V32_pos {xs : List Nat} (hx : Mag xs) (h : 0 < xs.length) : 1 ≤ V32 xs := by
  have h1 := val_ge (B := 4294967296) hx.2 h
  have h2 : 0 < 4294967296 ^ (xs.length - 1) := Nat.pow_pos (by omega)
  unfold V32; omega
end Go.Proofs.YtopppmlkddajjaaGreatDoor


/- isochronelaw01.NatShifts answers true for all arguments: downwards, and the whole. -/
namespace Go.Proofs.YtopppmlkddajjaaGreatDoor
open Go.RowKit V

theorem mul_ge (q d r : Nat) (h : 0 < d) : q ≤ q * d + r := by
  have : q * 1 ≤ q * d := Nat.mul_le_mul_left _ h
  omega

end Go.Proofs.YtopppmlkddajjaaGreatDoor


/- nat.pow, nat.Pow and isochroneref01.Pow. -/
namespace Go.Proofs.YtopppmlkddajjaaGreatDoor
open Go.RowKit V

theorem pow_len_le {v s m k : Nat} {zs : List Nat} (hz : Mag zs) (e : V32 zs = v ^ m) (hv : v < 2 ^ s) (h : s * m ≤ 32 * k) (hm : 1 ≤ k) : zs.length ≤ k := by
  refine len_of_lt (B := 4294967296) (by omega) hz.2 ?_
  show V32 zs < _
  rw [e, pow_words]
  rcases Nat.eq_zero_or_pos m with h0 | h0
  · subst h0
    have : 2 ^ 1 ≤ 2 ^ (32 * k) := Nat.pow_le_pow_right (by omega) (by omega)
    rw [Nat.pow_zero]; omega
  · have h1 : v ^ m < (2 ^ s) ^ m := Nat.pow_lt_pow_left hv (by omega)
    have h2 : 2 ^ (s * m) ≤ 2 ^ (32 * k) := Nat.pow_le_pow_right (by omega) h
    rw [Nat.pow_mul] at h2
    omega
theorem bit_step (n i : Nat) : n / 2 ^ i = 2 * (n / 2 ^ (i + 1)) + n / 2 ^ i % 2 := by
  rw [Nat.pow_succ, ← Nat.div_div_eq_div_mul]
  omega

theorem i64_and1 (n : Int) : bits .and .i64 n 1 = n % 2 := by
  have h1 : (BitVec.ofInt 64 1).toNat = 2 ^ 1 - 1 := by decide
  have key : (BitVec.ofInt 64 n &&& BitVec.ofInt 64 1).toNat = (n % ((2 ^ 64 : Nat) : Int)).toNat % 2 ^ 1 := by
    rw [BitVec.toNat_and, BitVec.toNat_ofInt, h1, Nat.and_two_pow_sub_one_eq_mod]
  show IntKind.i64.wrap ((BitVec.ofInt 64 n &&& BitVec.ofInt 64 1).toNat : Nat) = n % 2
  rw [key, IntKind.wrap_i64]
  omega
theorem bit_test (n i : Nat) : (bits .and .i64 ((n : Int) / 2 ^ i) 1 == 1) = decide (n / 2 ^ i % 2 = 1) := by
  rw [i64_and1]
  have e : ((n / 2 ^ i : Nat) : Int) = (n : Int) / 2 ^ i := by simp
  rw [← e]
  generalize n / 2 ^ i = d
  rcases Nat.mod_two_eq_zero_or_one d with h | h
  · rw [h]; simp; omega
  · rw [h]; simp; omega
theorem sq_step {v p q b z y : Nat} (hp : p = v ^ q) (hz : z = p * p) (hy : y = z * v ^ b) : y = v ^ (2 * q + b) := by
  rw [hy, hz, hp, Nat.pow_add, Nat.two_mul, Nat.pow_add]

set_option maxRecDepth 100000 in
set_option maxHeartbeats 1000000 in
theorem pow_any (A : Option Addr) (ca n s : Nat) (xs : List Nat) (w : World) (hx : Rd .u32 w A xs) (bx : xs.length ≤ 4096) (mx : Mag xs) (h1 : 1 ≤ n) (hn : n ≤ 200000) (hs : V32 xs < 2 ^ s) (hsn : s * n ≤ 300000) :
    Calls Tryz.prog 115 #[.slice A xs.length ca, .int .i64 n] w (OutP .u32 (fun zs => V32 zs = V32 xs ^ n ∧ Mag zs) w) := by
  have hlen := fun W => Tryz.bits_Len (n : Int) W (by omega) (by omega)
  obtain ⟨l, hl⟩ : ∃ l, Lib.bitLen n = l := ⟨_, rfl⟩
  have hbb := Lib.bitLenAux_bounds 64 n (by omega) (by omega)
  have hl1 : 1 ≤ l := by rw [← hl]; exact hbb.1
  have hl3 : l ≤ 18 := by rw [← hl]; exact Lib.bitLen_le n 18 (by omega) (by omega)
  have hl2 : n < 2 ^ l := by rw [← hl]; exact hbb.2.2
  have hdiv : Hid (n / 2 ^ l = 0) := Nat.div_eq_of_lt hl2
  simp only [Int.toNat_natCast, hl] at hlen
  have HLEN := Lib.hid hlen
  have HS := Lib.hid hs
  have HSN := Lib.hid hsn
  clear hlen hbb hl2 hl hs hsn
  go_enter Tryz.func115, Tryz.ntmps115
  go_wp2_with fail
  refine (from_any 1 _ (by omega)).mono ?_
  rintro e w1 ⟨P, pc, ps, rfl, hpc, hP, hb1, hvp, hmp, hlp⟩
  have HVP := Lib.hid hvp
  clear hvp
  go_wp2_with fail
  refine (HLEN.out _).mono ?_
  rintro e w2 ⟨rfl, rfl⟩
  go_wp2
  go_loopw [5, 6] (fun v iv wr => ∃ j : Int, ∃ P pc ps, -1 ≤ j ∧ j < l ∧ iv = .int .i64 j ∧ v = .slice P (ps : List Nat).length pc ∧ ps.length ≤ pc ∧ Rd .u32 wr P ps ∧ Mag ps ∧ V32 ps = V32 xs ^ (n / 2 ^ (j + 1).toNat) ∧ Below w.heap.size w wr) (fun _ iv _ => (intOf iv + 1).toNat)
  case atStart => exact ⟨_, P, pc, ps, by omega, by omega, rfl, rfl, hpc, hP, hmp, by rw [HVP.out, show ((l : Int) - 1 + 1).toNat = l by omega, hdiv.out, Nat.pow_zero], hb1⟩
  case round =>
    clear HVP hP hmp hb1 hlp hpc
    obtain ⟨j, P, pc, ps, hj, hjl, rfl, rfl, hpc, hP, hmp, hvp, hbw⟩ := hrel
    have HVP := Lib.hid hvp
    have hpl : ps.length ≤ 10000 := pow_len_le hmp hvp HS.out (by
      have h2 : n / 2 ^ (j + 1).toNat ≤ n := Nat.div_le_self _ _
      have h3 : s * (n / 2 ^ (j + 1).toNat) ≤ s * n := Nat.mul_le_mul_left _ h2
      have h4 := HSN.out
      omega) (by omega)
    clear hvp
    by_cases h0 : j < 0
    · go_wp2
      go_ret
      exact ⟨P, pc, ps, rfl, hpc, hP, hbw, by rw [HVP.out, show (j + 1).toNat = 0 by omega, Nat.pow_zero, Nat.div_one], hmp⟩
    · obtain ⟨i, rfl⟩ := Int.eq_ofNat_of_zero_le (show 0 ≤ j by omega)
      have dps : Dig 4294967296 ps := hmp.1
      go_wp2_with fail
      refine (mul_any P P pc pc ps ps _ hP hP (by omega) dps dps).mono ?_
      rintro e w3 ⟨Z, zc, zs, rfl, hzc, hz, hb3, hv3, hn3, hd3, hl3'⟩
      have HV3 := Lib.hid hv3
      clear hv3
      have hbw3 := hbw.trans (hb3.mono hbw.size)
      have hbt := bit_test n i
      have HVI : Hid (V32 ps = V32 xs ^ (n / 2 ^ (i + 1))) := by show _ = _; rw [HVP.out, show ((i : Int) + 1).toNat = i + 1 by omega]
      have hx3 := hx.below hbw3
      have mxd : Dig 4294967296 xs := mx.1
      by_cases hodd : n / 2 ^ i % 2 = 1
      · rw [decide_eq_true hodd] at hbt
        have HODD := Lib.hid hodd
        clear hodd
        go_wp2_with fail
        refine (mul_any Z A zc ca zs xs _ hz hx3 (by omega) hd3 mxd).mono ?_
        rintro e w4 ⟨Y, yc, ys, rfl, hyc, hy, hb4, hv4, hn4, hd4, hl4⟩
        have HV4 := Lib.hid hv4
        clear hv4
        go_wp2_with fail
        go_roundw
        case rel => exact ⟨_, Y, yc, ys, by omega, by omega, rfl, rfl, hyc, hy, ⟨hd4, hn4⟩, by
          rw [show ((i : Int) - 1 + 1).toNat = i by omega, bit_step n i, HODD.out]
          exact sq_step HVI.out HV3.out (by rw [Nat.pow_one]; exact HV4.out), hbw3.trans (hb4.mono hbw3.size)⟩
        case measure => simp [intOf]
      · rw [decide_eq_false hodd] at hbt
        have HODD : Hid (n / 2 ^ i % 2 = 0) := by show _ = _; omega
        clear hodd
        go_wp2_with fail
        go_roundw
        case rel => exact ⟨_, Z, zc, zs, by omega, by omega, rfl, rfl, hzc, hz, ⟨hd3, hn3⟩, by
          rw [show ((i : Int) - 1 + 1).toNat = i by omega, bit_step n i, HODD.out]
          exact sq_step HVI.out HV3.out (by rw [Nat.pow_zero, Nat.mul_one]; rfl), hbw3⟩
        case measure => simp [intOf]

set_option maxHeartbeats 400000 in
theorem Pow_zero (A : Option Addr) (ca : Nat) (xs : List Nat) (w : World) (hx : Rd .u32 w A xs) (ox : Ok xs) :
    Calls Tryz.prog 95 #[.slice A xs.length ca, .int .i64 0] w (OkP (fun zs => V32 zs = 1 ∧ Mag zs) w) := by
  go_enter Tryz.func95, Tryz.ntmps95
  go_wp2_with (first
    | (go_at_call 73; (with_reducible refine (valid_yes A ca xs _ hx ox).mono ?_); rintro e w1 ⟨rfl, rfl⟩)
    | (go_at_call 81; refine (from_any 1 _ (by omega)).mono ?_; rintro e w1 ⟨Z, zc, zs, rfl, hzc, hz, hb, hv, hm, hl⟩; have HV := Lib.hid hv; clear hv))
  go_ret2
  exact ⟨Z, zc, zs, hz, hzc, hb, ⟨HV.out, hm⟩, rfl⟩

theorem bits_large {v b : Nat} (h : IsBits v b) (hv : 2 ≤ v) : 2 ≤ b := by
  rcases Nat.lt_or_ge b 2 with h1 | h1
  · have h2 := h.1
    have h3 : 2 ^ b ≤ 2 ^ 1 := Nat.pow_le_pow_right (by omega) (by omega)
    omega
  · exact h1

theorem bits_le {v b k : Nat} (h : IsBits v b) (hv : v < 2 ^ k) : b ≤ k := by
  rcases Nat.lt_or_ge k b with h1 | h1
  · have h2 := h.2 (by omega)
    have h3 : 2 ^ k ≤ 2 ^ (b - 1) := Nat.pow_le_pow_right (by omega) (by omega)
    omega
  · exact h1
theorem bits_words {xs : List Nat} {b k : Nat} (mx : Mag xs) (hl : xs.length ≤ k) (h : IsBits (V32 xs) b) : b ≤ 32 * k :=
  bits_le h (by have := V32_lt mx hl; rw [pow_words] at this; exact this)
theorem ok_bits {xs : List Nat} {b : Nat} (mx : Mag xs) (hl : xs.length ≤ 4096) (h : IsBits (V32 xs) b) : b ≤ 131072 :=
  Nat.le_trans (bits_words mx hl h) (by omega)

set_option maxRecDepth 100000 in
set_option maxHeartbeats 400000 in
theorem Pow_fit (A : Option Addr) (ca n b : Nat) (xs : List Nat) (w : World) (hx : Rd .u32 w A xs) (ox : Ok xs) (dx : Dig 4294967296 xs) (h1 : 1 ≤ n) (hv : 2 ≤ V32 xs) (hb : IsBits (V32 xs) b) (hq : n ≤ 131071 / (b - 1)) :
    Calls Tryz.prog 95 #[.slice A xs.length ca, .int .i64 n] w (FitP (fun zs => V32 zs = V32 xs ^ n ∧ Mag zs) w) := by
  have hl : xs.length ≤ 4096 := ox.1
  have mx : Mag xs := ⟨dx, ox.2⟩
  have hn0 : ((n : Int) == 0) = false := beq_eq_false_iff_ne.2 (by omega)
  have hb1 := bits_large hb hv
  have hb2 := ok_bits mx hl hb
  have hq2 : 131071 / (b - 1) ≤ 131071 := Nat.div_le_self _ _
  have hbn : b * n ≤ 300000 := by
    have h2 : (b - 1) * n ≤ (b - 1) * (131071 / (b - 1)) := Nat.mul_le_mul_left _ hq
    have h3 : (b - 1) * (131071 / (b - 1)) ≤ 131071 := Nat.mul_div_le _ _
    have h4 : b * n ≤ (2 * (b - 1)) * n := Nat.mul_le_mul_right _ (by omega)
    rw [Nat.mul_assoc] at h4
    omega
  have HBN := Lib.hid hbn
  obtain ⟨q, eq, hqn⟩ : ∃ q : Nat, (131071 : Int) / ((b : Int) - 1) = q ∧ (n : Int) ≤ q := by
    refine ⟨131071 / (b - 1), ?_, by omega⟩
    rw [show (b : Int) - 1 = ((b - 1 : Nat) : Int) by omega]
    simp
  have hq1 : q ≤ 131071 := by
    have h2 : (131071 : Int) / ((b : Int) - 1) = (131071 / (b - 1) : Nat) := by
      rw [show (b : Int) - 1 = ((b - 1 : Nat) : Int) by omega]
      simp
    omega
  have HB := Lib.hid hb
  clear hb hq hbn hq2
  go_enter Tryz.func95, Tryz.ntmps95
  go_wp2_with fail
  refine (valid_yes A ca xs _ hx ox).mono ?_
  rintro e w1 ⟨rfl, rfl⟩
  go_wp2_with fail
  refine (bitlen_any A ca xs _ hx (by omega) mx).mono ?_
  rintro e w1 ⟨b', rfl, hb', rfl⟩
  obtain rfl : b = b' := HB.out.eq hb'
  go_wp2_with fail
  refine (pow_any A ca n b xs _ hx hl mx h1 (by omega) hb'.1 HBN.out).mono ?_
  rintro e w1 ⟨Z, zc, zs, rfl, hzc, hz, hbz, hv, hm⟩
  have HV := Lib.hid hv
  clear hv
  go_wp2_with fail
  by_cases h4 : zs.length ≤ 4096
  · refine (fit_yes Z zc zs.length _ h4).mono ?_
    rintro e w2 ⟨rfl, rfl⟩
    go_wp2
    go_ret2
    exact ⟨Z, zc, zs, hz, hzc, hbz, ⟨HV.out, hm⟩, .inl ⟨h4, rfl⟩⟩
  · refine (fit_no Z zc zs.length _ (by omega)).mono ?_
    rintro e w2 ⟨rfl, rfl⟩
    go_wp2
    go_ret2
    exact ⟨Z, zc, zs, hz, hzc, hbz, ⟨HV.out, hm⟩, .inr ⟨by omega, rfl⟩⟩

theorem nm_mul_len {xs ys zs : List Nat} (hx : Nm xs) (hy : Nm ys) (hz : Nm zs) (e : VD zs = VD xs * VD ys) : zs.length ≤ xs.length + ys.length := by
  refine len_of_lt (B := 10000) (by omega) hz.2 ?_
  show VD zs < _
  rw [e, Nat.pow_add]
  exact Nat.mul_lt_mul'' (val_lt 10000 xs hx.1) (val_lt 10000 ys hy.1)

end Go.Proofs.YtopppmlkddajjaaGreatDoor


/- isochronelaw01.NatPowers answers true for all arguments. -/
namespace Go.Proofs.YtopppmlkddajjaaGreatDoor
open Go.RowKit V

/-- The answer is false; what was there is as it was. -/
def No (w : World) (e : Ending) (w' : World) : Prop := e = .returned (.bool false) ∧ Below w.heap.size w w'

/-- A slice and an error, whatever they are. -/
def SomeP (w : World) (e : Ending) (w' : World) : Prop := ∃ A c m en, e = .returned (.tuple #[.slice A m c, .int .i64 en]) ∧ Below w.heap.size w w'
theorem FitP.some {Q : List Nat → Prop} {w w' : World} {e : Ending} (h : FitP Q w e w') : SomeP w e w' := by
  obtain ⟨A, c, zs, h1, h2, h3, h4, h5⟩ := h
  rcases h5 with h5 | h5
  · exact ⟨A, c, _, _, h5.2, h3⟩
  · exact ⟨none, 0, _, _, h5.2, h3⟩
theorem ErrP.some {n : Int} {w w' : World} {e : Ending} (h : ErrP n w e w') : SomeP w e w' := ⟨none, 0, _, _, h.1, h.2⟩

end Go.Proofs.YtopppmlkddajjaaGreatDoor


/- nat.timesAdd: a number times a word and a word more, in place where it can. -/
namespace Go.Proofs.YtopppmlkddajjaaGreatDoor
open Go.RowKit V

/-- One step of a product by a word. -/
theorem wordmul_step (B k s c c' x f t : Nat) (cur xs : List Nat) (hk : k < cur.length) (hx : k < xs.length) (ex : xs.getD k 0 = x) (e : s + B * c' = x * f + c)
    (hv : val B (cur.take k) + B ^ k * c = val B (xs.take k) * f + t) : val B ((cur.set k s).take (k + 1)) + B ^ (k + 1) * c' = val B (xs.take (k + 1)) * f + t := by
  rw [val_set_take B cur k s hk, val_take_succ B xs k hx, ex, Nat.pow_succ, Nat.mul_assoc, Nat.add_mul, Nat.mul_assoc]
  have h := congrArg (B ^ k * ·) e
  simp only [Nat.mul_add] at h
  omega
theorem carry_facts (x f c : Nat) (hx : x < 4294967296) (hf : f < 4294967296) (hc : c < 4294967296) : ∃ s c2 : Nat, s < 4294967296 ∧ c2 < 4294967296 ∧ x * f + c < 18446744073709551616 ∧ Hid (((x : Int) * f + c) % 4294967296 = s) ∧ Hid (((x : Int) * f + c) / 4294967296 = c2) ∧ Hid (s + 4294967296 * c2 = x * f + c) := by
  have h1 : x * f ≤ 4294967295 * 4294967295 := Nat.mul_le_mul (by omega) (by omega)
  have e : ((x * f + c : Nat) : Int) = (x : Int) * f + c := by simp
  refine ⟨(x * f + c) % 4294967296, (x * f + c) / 4294967296, Nat.mod_lt _ (by omega), by omega, by omega, ?_, ?_, by show _ = _; omega⟩
  · show _ = _
    rw [← e]; omega
  · show _ = _
    rw [← e]; omega

/-- The product and a word more, owned. -/
def TimesAP (B : Nat) (xs : List Nat) (f s : Nat) (w : World) (e : Ending) (w' : World) : Prop :=
  ∃ v zs, e = .returned v ∧ Own .u32 59 B w' v zs ∧ V32 zs = V32 xs * f + s ∧ Mag zs ∧ zs.length ≤ xs.length + 1 ∧ Below B w w'

set_option maxHeartbeats 1000000 in
theorem times_any (v : Value) (B f s : Nat) (xs : List Nat) (w : World) (hown0 : Own .u32 59 B w v xs) (hB : B ≤ w.heap.size) (bl : xs.length ≤ 10000) (mx : Mag xs) (hf : f < 4294967296) (hf1 : 1 ≤ f) (hs : s < 4294967296) :
    Calls Tryz.prog 112 #[v, .int .u32 f, .int .u32 s] w (TimesAP B xs f s w) := by
  obtain ⟨A, ca, rfl, hca, hr0, hsh⟩ := hown0.shape
  go_enter Tryz.func112, Tryz.ntmps112
  go_wp2
  go_loopw [7, 8, 9, 10, 15] (fun cy _ _ _ i wr => ∃ k c : Nat, ∃ cur : List Nat, k ≤ xs.length ∧ i = .int .i64 k ∧ cy = .int .u64 c ∧ c < 4294967296 ∧ cur.length = xs.length ∧ Dig 4294967296 cur ∧
      val 4294967296 (cur.take k) + 4294967296 ^ k * c = val 4294967296 (xs.take k) * f + s ∧ (∀ j, k ≤ j → cur.getD j 0 = xs.getD j 0) ∧ Own .u32 59 B wr (.slice A xs.length ca) cur ∧ Below B w wr) (fun _ _ _ _ i _ => xs.length - (intOf i).toNat)
  case atStart => exact ⟨0, s, xs, Nat.zero_le _, rfl, rfl, hs, rfl, mx.1, by simp [val], fun _ _ => rfl, hown0, Below.refl _ _⟩
  case round =>
    obtain ⟨k, c, cur, hk, rfl, rfl, hc, hcl, hdc, hv, hout, hown, hbw⟩ := hrel
    have HV := Lib.hid hv
    have HCL := Lib.hid hcl
    have HO := Lib.hid hout
    clear hv hcl hout
    by_cases hlt : k < xs.length
    · obtain ⟨g, rfl, hgB⟩ := hsh (by omega)
      have hkc : k < cur.length := by have := HCL.out; omega
      obtain ⟨x, ex⟩ : ∃ x, Hid (xs.getD k 0 = x) := ⟨_, rfl⟩
      have hxl : x < 4294967296 := by rw [← ex.out]; exact dig_getD mx.1 (by omega) k
      have hcell : wr.cell? ⟨g, k, none⟩ = some (.int .u32 x) := by have := hown.cell HCL.out hlt; rwa [HO.out k (Nat.le_refl _), ex.out] at this
      have hfr := hown.frz (i := k) HCL.out
      obtain ⟨t, c2, ht, hc2, hlim, et, ec, hsc⟩ := carry_facts x f c hxl hf hc
      have hlimI : (x : Int) * f + c < 18446744073709551616 := by have e : ((x * f + c : Nat) : Int) = (x : Int) * f + c := by simp
                                                                  rw [← e]; omega
      have hm0 : (0 : Int) ≤ (x : Int) * f := Int.mul_nonneg (by omega) (by omega)
      clear hlim
      go_wp2
      go_roundw
      case rel => exact ⟨k + 1, c2, cur.set k t, by omega, by go_num, by rw [ec.out], hc2, by rw [List.length_set]; exact HCL.out, hdc.set _ ht, wordmul_step _ k t c c2 x f s cur xs hkc hlt ex.out hsc.out HV.out, fun j hj => by rw [getD_set _ _ _ _ hkc, if_neg (by omega)]; exact HO.out j (by omega), by rw [et.out]; exact hown.set_ HCL.out, hbw.setCell hgB _⟩
      case measure => simp [intOf]; omega
    · obtain rfl : k = xs.length := by omega
      have HF : Hid (val 4294967296 cur + 4294967296 ^ cur.length * c = V32 xs * f + s) := by
        have h1 := HV.out
        have hl := HCL.out
        rw [List.take_length, List.take_of_length_le (by omega)] at h1
        show _ = val 4294967296 xs * f + s
        rw [hl]; exact h1
      have hge : V32 xs ≤ V32 xs * f + s := by
        have := Nat.mul_le_mul_left (V32 xs) hf1
        omega
      have HGE := Lib.hid hge
      clear hge
      by_cases h0 : c = 0
      · have hb0 : ((c : Int) == 0) = true := by simp [h0]
        have hval : Hid (V32 cur = V32 xs * f + s) := by have := HF.out; rw [h0] at this; show V32 cur = _; simpa [V32] using this
        clear h0
        go_wp2
        go_ret
        refine ⟨_, cur, by rfl, by have := HCL.out; exact hown, hval.out, ⟨hdc, nrm_of_ge hdc fun hp => ?_⟩, by have := HCL.out; omega, hbw⟩
        have h1 := val_ge (B := 4294967296) mx.2 (by have := HCL.out; omega)
        have h2 := hval.out
        have h3 := HGE.out
        rw [HCL.out]
        unfold V32 at *
        omega
      · have hb0 : ((c : Int) == 0) = false := beq_eq_false_iff_ne.2 (by omega)
        have hcl2 : cur.length ≤ 10000 := by have := HCL.out; omega
        have hsz := hbw.size
        go_wp2_with (at_builtin; refine wpList_app1 rfl (.tmp 38) (.tmp 41) 22 59 rfl .u32 4 info_u32 Tryz.underlying22 (by omega) B _ cur _ c (by omega) rfl hown rfl (Below.refl _ _) (by omega) (by omega) ?_; intro v' w' hown' hbw')
        go_ret
        refine ⟨v', cur ++ [c], rfl, hown', ?_, ⟨hdc.snoc hc, nrm_snoc h0⟩, by have := HCL.out; rw [List.length_append, List.length_singleton]; omega, hbw.trans hbw'⟩
        show val 4294967296 (cur ++ [c]) = _
        rw [val_snoc]; exact HF.out
end Go.Proofs.YtopppmlkddajjaaGreatDoor


/- Strings of decimal digits: isochroneref01.Decimal and Digits. -/
namespace Go.Proofs.YtopppmlkddajjaaGreatDoor
open Go.RowKit V

/-- A decimal digit. -/
def isD (c : UInt8) : Prop := 48 ≤ c.toNat ∧ c.toNat ≤ 57
def AllD (l : List UInt8) : Prop := ∀ c ∈ l, isD c
/-- The number that digits stand for. -/
def dnum (l : List UInt8) : Nat := l.foldl (fun n c => n * 10 + (c.toNat - 48)) 0
theorem dnum_nil : dnum [] = 0 := rfl
theorem dnum_snoc (l : List UInt8) (c : UInt8) : dnum (l ++ [c]) = dnum l * 10 + (c.toNat - 48) := by simp [dnum, List.foldl_append]
theorem bytes_snoc (s : ByteArray) (k : Nat) (h : k < s.size) : s.data.toList.take (k + 1) = s.data.toList.take k ++ [s[k]] := by
  rw [List.take_succ_eq_append_getElem (by simpa using h)]; rfl
theorem bytes_all (s : ByteArray) : s.data.toList.take s.size = s.data.toList := List.take_of_length_le (by simp)
theorem mem_bytes (s : ByteArray) (k : Nat) (h : k < s.size) : s[k] ∈ s.data.toList := by
  have : s[k] = s.data.toList[k]'(by simpa using h) := rfl
  rw [this]; exact List.getElem_mem _

theorem not_empty {s : ByteArray} (h : 0 < s.size) : s.toList.isEmpty = false := by
  rw [ByteArray.toList_eq]
  cases hl : s.data.toList with
  | nil => have : s.data.toList.length = 0 := by rw [hl]; rfl
           have h2 : s.data.toList.length = s.size := by simp
           omega
  | cons _ _ => rfl
theorem is_empty {s : ByteArray} (h : s.size = 0) : s.toList.isEmpty = true := by
  rw [ByteArray.toList_eq]
  cases hl : s.data.toList with
  | nil => rfl
  | cons a r => have : s.data.toList.length = s.size := by simp
                rw [hl] at this; simp at this; omega

set_option maxHeartbeats 400000 in
theorem decimal_yes (s : ByteArray) (w : World) (hs : s.size ≤ 100000) (h : AllD s.data.toList) (hpos : 0 < s.size) :
    Calls Tryz.prog 69 #[.string s] w (Plain (.bool true) w) := by
  have HH := Lib.hid h
  have hne := not_empty hpos
  have hne2 : (!s.toList.isEmpty) = true := by rw [hne]; rfl
  clear h
  go_enter Tryz.func69, Tryz.ntmps69
  go_wp2
  go_loop [3, 6] (fun _ i => ∃ k : Nat, k ≤ s.size ∧ i = .int .i64 k) (fun _ i => s.size - (intOf i).toNat)
  case atStart => exact ⟨0, Nat.zero_le _, rfl⟩
  case round =>
    obtain ⟨k, hk, rfl⟩ := hrel
    by_cases hlt : k < s.size
    · have hd := HH.out _ (mem_bytes s k hlt)
      obtain ⟨h1, h2⟩ := hd
      go_wp2
      go_round
      case rel => exact ⟨k + 1, by omega, by go_num⟩
      case measure => simp [intOf]; omega
    · go_wp2
      go_ret
      exact ⟨rfl, rfl⟩

/-- The first byte that is no digit, or none. -/
theorem find_bad (s : ByteArray) (h : ¬ AllD s.data.toList) : ∃ k, ∃ hk : k < s.size, (∀ j (hj : j < k), isD (s[j]'(by omega))) ∧ ¬ isD s[k] := by
  have key : ∀ n, n ≤ s.size → (∃ k, ∃ hk : k < s.size, (∀ j (hj : j < k), isD (s[j]'(by omega))) ∧ ¬ isD s[k]) ∨ ∀ j (hj : j < s.size), j < n → isD s[j] := by
    intro n
    induction n with
    | zero => intro _; exact .inr fun j _ h => absurd h (by omega)
    | succ n ih =>
      intro hn
      rcases ih (by omega) with h1 | h1
      · exact .inl h1
      · by_cases hd : isD (s[n]'(by omega))
        · refine .inr fun j hj hjn => ?_
          rcases Nat.lt_or_ge j n with h2 | h2
          · exact h1 j hj h2
          · obtain rfl : j = n := by omega
            exact hd
        · exact .inl ⟨n, by omega, fun j hj => h1 j (by omega) hj, hd⟩
  rcases key s.size (Nat.le_refl _) with h1 | h1
  · exact h1
  · refine absurd (fun c hc => ?_) h
    obtain ⟨j, hj, rfl⟩ := List.getElem_of_mem hc
    have hj2 : j < s.size := by simpa using hj
    exact h1 j hj2 hj2

set_option maxHeartbeats 400000 in
theorem decimal_empty (s : ByteArray) (w : World) (h : s.size = 0) :
    Calls Tryz.prog 69 #[.string s] w (Plain (.bool false) w) := by
  have hne := is_empty h
  have hne2 : (!s.toList.isEmpty) = false := by rw [hne]; rfl
  go_enter Tryz.func69, Tryz.ntmps69
  go_wp2
  go_loop [3, 6] (fun _ i => i = .int .i64 0) (fun _ i => (intOf i).toNat)
  case atStart => rfl
  case round =>
    subst hrel
    go_wp2
    go_ret
    exact ⟨rfl, rfl⟩

set_option maxHeartbeats 400000 in
theorem decimal_no (s : ByteArray) (w : World) (hs : s.size ≤ 100000) (h : ¬ AllD s.data.toList) :
    Calls Tryz.prog 69 #[.string s] w (Plain (.bool false) w) := by
  obtain ⟨b, hb, hall, hbad⟩ := find_bad s h
  have HA := Lib.hid hall
  have HB := Lib.hid hbad
  clear h hall hbad
  go_enter Tryz.func69, Tryz.ntmps69
  go_wp2
  go_loop [2, 3, 6] (fun r _ i => ∃ k : Nat, r = .bool false ∧ k ≤ b ∧ i = .int .i64 k) (fun _ _ i => s.size - (intOf i).toNat)
  case atStart => exact ⟨0, rfl, Nat.zero_le _, rfl⟩
  case round =>
    obtain ⟨k, rfl, hk, rfl⟩ := hrel
    have hlt : k < s.size := by omega
    by_cases hkb : k < b
    · obtain ⟨h1, h2⟩ := HA.out k hkb
      go_wp2
      go_round
      case rel => exact ⟨k + 1, rfl, by omega, by go_num⟩
      case measure => simp [intOf]; omega
    · obtain rfl : k = b := by omega
      by_cases h1 : (s[k].toNat : Int) < 48
      · go_wp2
        go_ret
        exact ⟨rfl, rfl⟩
      · have h2 : 57 < (s[k].toNat : Int) := by have := HB.out; unfold isD at this; omega
        go_wp2
        go_ret
        exact ⟨rfl, rfl⟩
end Go.Proofs.YtopppmlkddajjaaGreatDoor

