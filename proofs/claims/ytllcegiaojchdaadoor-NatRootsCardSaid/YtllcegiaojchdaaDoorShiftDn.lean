/- nat.shiftDown: the integer part of a number by a power of two; at most 100000 words. -/
import Derived.Test.YtllcegiaojchdaaDoorDiv1
import Derived.Test.YtllcegiaojchdaaDoorShiftUp
import Derived.BigRegion
namespace Go.Proofs.YtllcegiaojchdaaDoor
open Go.RowKit V

/-- A word moved down by p places, with what comes in from above. -/
theorem shr_facts (x y p : Nat) (hx : x < 4294967296) (hp : p < 32) : ∃ s0 s : Nat, s0 < 4294967296 ∧ s < 4294967296 ∧ Hid ((x : Int) / 2 ^ p = s0) ∧
    Hid (bits BinOp.or IntKind.u32 (s0 : Int) ((y : Int) * 2 ^ (32 - p) % 4294967296) = s) ∧ Hid (s * 2 ^ p + x % 2 ^ p = x + 4294967296 * (y % 2 ^ p)) ∧ Hid (s0 * 2 ^ p + x % 2 ^ p = x + 4294967296 * (0 % 2 ^ p)) := by
  have h2 := two_split p hp
  have hpos : 0 < 2 ^ p := Nat.pow_pos (by omega)
  have hm : y * 2 ^ (32 - p) % 4294967296 = (y % 2 ^ p) * 2 ^ (32 - p) := by
    rw [← h2, Nat.mul_comm (2 ^ (32 - p)) (2 ^ p)]; exact Nat.mul_mod_mul_right _ _ _
  have hs0 : x / 2 ^ p < 2 ^ (32 - p) := Nat.div_lt_of_lt_mul (by rw [Nat.mul_comm, h2]; exact hx)
  have hor : x / 2 ^ p ||| y * 2 ^ (32 - p) % 4294967296 = x / 2 ^ p + y * 2 ^ (32 - p) % 4294967296 := by
    rw [hm, Nat.or_comm, Nat.add_comm, ← Nat.shiftLeft_eq, ← Nat.shiftLeft_add_eq_or_of_lt hs0]
  have hxl : x / 2 ^ p ≤ x := Nat.div_le_self _ _
  have hml : y * 2 ^ (32 - p) % 4294967296 < 2 ^ 32 := Nat.mod_lt _ (by omega)
  have hs : x / 2 ^ p ||| y * 2 ^ (32 - p) % 4294967296 < 2 ^ 32 := Nat.or_lt_two_pow (by omega) hml
  have hbo := u32_or_nat (x / 2 ^ p) (y * 2 ^ (32 - p) % 4294967296) (by omega) (by omega)
  refine ⟨x / 2 ^ p, x / 2 ^ p ||| y * 2 ^ (32 - p) % 4294967296, by omega, by omega, ?_, ?_, ?_, ?_⟩
  · show _ = _
    simp
  · show _ = _
    rw [← hbo]; congr 1
  · show _ = _
    rw [hor, hm, Nat.add_mul, Nat.mul_assoc, h2]
    have h3 := Nat.mod_add_div x (2 ^ p)
    rw [Nat.mul_comm (2 ^ p)] at h3
    omega
  · show _ = _
    have h3 := Nat.mod_add_div x (2 ^ p)
    rw [Nat.mul_comm (2 ^ p)] at h3
    rw [Nat.zero_mod]
    omega
theorem below_drew1 {B : Nat} {a w : World} (h : Below B a w) : Below B a w.drew := ⟨h.os, h.tape, h.output, h.size, h.block⟩
theorem down_step (p k s x y t : Nat) (cur ys : List Nat) (hc : k < cur.length) (hy : k < ys.length) (ex : ys.getD k 0 = x) (ey : ys.getD (k + 1) 0 = y) (e : s * 2 ^ p + x % 2 ^ p = x + 4294967296 * (y % 2 ^ p))
    (hv : val 4294967296 (cur.take k) * 2 ^ p + t = val 4294967296 (ys.take k) + 4294967296 ^ k * (ys.getD k 0 % 2 ^ p)) :
    val 4294967296 ((cur.set k s).take (k + 1)) * 2 ^ p + t = val 4294967296 (ys.take (k + 1)) + 4294967296 ^ (k + 1) * (ys.getD (k + 1) 0 % 2 ^ p) := by
  rw [ex] at hv
  rw [val_set_take _ cur k s hc, val_take_succ _ ys k hy, ex, ey, Nat.add_mul, Nat.pow_succ, Nat.mul_assoc, Nat.mul_assoc]
  have h := congrArg (4294967296 ^ k * ·) e
  simp only [Nat.mul_add] at h
  omega
theorem down_end {q p : Nat} {xs cur : List Nat} (hd : Dig 4294967296 xs) (hq : q ≤ xs.length) (hv : val 4294967296 cur * 2 ^ p + (xs.drop q).getD 0 0 % 2 ^ p = val 4294967296 (xs.drop q)) : val 4294967296 cur = val 4294967296 xs / 2 ^ (32 * q + p) := by
  have hpos : 0 < 2 ^ p := Nat.pow_pos (by omega)
  have h1 := val_split 4294967296 xs q hq
  have h2 := val_lt 4294967296 (xs.take q) (hd.take q)
  rw [List.length_take, Nat.min_eq_left hq] at h2
  have h3 : val 4294967296 xs / 4294967296 ^ q = val 4294967296 (xs.drop q) := by
    rw [h1, Nat.add_mul_div_left _ _ (by omega), Nat.div_eq_of_lt h2, Nat.zero_add]
  rw [pow_32, ← Nat.div_div_eq_div_mul, h3, ← hv, Nat.add_comm, Nat.mul_comm, Nat.add_mul_div_left _ _ hpos, Nat.div_eq_of_lt (Nat.mod_lt _ hpos), Nat.zero_add]

set_option maxRecDepth 100000 in
set_option maxHeartbeats 1000000 in
theorem shiftdn_any (A : Option Addr) (ca n : Nat) (xs : List Nat) (w : World) (hx : Rd .u32 w A xs) (hca : xs.length ≤ ca) (bx : xs.length ≤ 100000) (bn : n ≤ 10000000) (dx : Dig 4294967296 xs) (hpos : n / 32 < xs.length) :
    Calls Tryd.prog 65 #[.slice A xs.length ca, .int .i64 n] w (OutP .u32 (fun zs => V32 zs = V32 xs / 2 ^ n ∧ Mag zs ∧ zs.length ≤ xs.length) w) := by
  obtain ⟨q, p, hp, eq, ep, hn⟩ : ∃ q p : Nat, p < 32 ∧ (n : Int) / 32 = q ∧ (n : Int) % 32 = p ∧ Hid (n = 32 * q + p) := ⟨n / 32, n % 32, Nat.mod_lt _ (by omega), by omega, by omega, by show _ = _; omega⟩
  have hq : q < xs.length := by have := hn.out; omega
  obtain ⟨ad, _, rfl, _, _, _⟩ := hx.ask hq
  have hY : Rd .u32 w (some (ad.add q)) (xs.drop q) := hx.drop rfl
  obtain ⟨ys, eys⟩ : ∃ ys, Hid (xs.drop q = ys) := ⟨_, rfl⟩
  have hyl : ys.length = xs.length - q := by rw [← eys.out, List.length_drop]
  have dy : Dig 4294967296 ys := by rw [← eys.out]; exact dx.drop q
  rw [eys.out] at hY
  clear hpos
  obtain ⟨L, hL⟩ : ∃ L, xs.length - q = L := ⟨_, rfl⟩
  rw [hL] at hyl
  go_enter Tryd.func65, Tryd.ntmps65
  go_wp2_with fail
  have hcl := clone_u32 (some (ad.add q)) (ca - q) ys w hY (by omega)
  rw [hyl] at hcl
  refine hcl.mono ?_
  rintro e w1 ⟨v, rfl, hown1, hb1⟩
  obtain ⟨O, oc, rfl, hoc, hro1, hsh⟩ := hown1.shapeN hyl
  obtain ⟨g, rfl, hgB⟩ := hsh (by omega)
  clear hcl hsh hro1 hY
  go_wp2_with fail
  go_loopw [8, 9, 25] (fun _ _ i wr => ∃ k : Nat, ∃ cur : List Nat, k ≤ L ∧ i = .int .i64 k ∧ cur.length = L ∧ Dig 4294967296 cur ∧
      val 4294967296 (cur.take k) * 2 ^ p + ys.getD 0 0 % 2 ^ p = val 4294967296 (ys.take k) + 4294967296 ^ k * (ys.getD k 0 % 2 ^ p) ∧ (∀ j, k ≤ j → cur.getD j 0 = ys.getD j 0) ∧
      Own .u32 55 w.heap.size wr (.slice (some ⟨g, 0, none⟩) L oc) cur ∧ Below w.heap.size w wr) (fun _ _ i _ => L - (intOf i).toNat)
  case atStart => exact ⟨0, ys, Nat.zero_le _, rfl, hyl, dy, by simp [val], fun _ _ => rfl, hown1, hb1⟩
  case round =>
    obtain ⟨k, cur, hk, rfl, hcl, hdc, hv, hout, hown, hbw⟩ := hrel
    have HV := Lib.hid hv
    have HCL := Lib.hid hcl
    have HO := Lib.hid hout
    clear hv hcl hout
    by_cases hlt : k < L
    · have hkc : k < cur.length := by have := HCL.out; omega
      obtain ⟨x, ex⟩ : ∃ x, Hid (ys.getD k 0 = x) := ⟨_, rfl⟩
      obtain ⟨y, ey⟩ : ∃ y, Hid (ys.getD (k + 1) 0 = y) := ⟨_, rfl⟩
      have hxl : x < 4294967296 := by rw [← ex.out]; exact dig_getD dy (by omega) k
      have hcell : wr.cell? ⟨g, k, none⟩ = some (.int .u32 x) := by have := hown.cell HCL.out hlt; rwa [HO.out k (Nat.le_refl _), ex.out] at this
      have hfr := hown.frz (i := k) HCL.out
      obtain ⟨s0, s, hs0, hs, e0, es, hsc, hsc0⟩ := shr_facts x y p hxl hp
      by_cases hab : k + 1 < L
      · have e0' := e0.out
        have hown2 := hown.set_ (i := k) (d := s0) HCL.out
        have hbw2 := hbw.setCell (p := ⟨g, k, none⟩) hgB (.int .u32 (s0 : Nat))
        have hcl2 : Hid ((cur.set k s0).length = L) := by show _ = _; rw [List.length_set]; exact HCL.out
        have hcell2 := hown2.cell hcl2.out hlt
        rw [getD_set _ _ _ _ hkc, if_pos rfl] at hcell2
        have hfr2 := hown2.frz (i := k) hcl2.out
        obtain ⟨ad', y', had, hby, ey', cy⟩ := (hx.below hbw2).ask (i := q + k + 1) (by omega)
        injection had with had
        subst had
        obtain rfl : y = y' := by rw [← ey.out, ← ey'.out, ← eys.out]; simp [List.getD_eq_getElem?_getD, Nat.add_assoc]
        have cy2 := cy
        unfold Addr.add at cy2
        rw [if_neg (by omega)] at cy2
        go_wp2_with fail
        generalize wr.setCell ⟨g, k, none⟩ (.int .u32 (s0 : Nat)) = W1 at *
        go_region
        go_wp2
        go_roundw
        case rel => exact ⟨k + 1, cur.set k s, by omega, by go_num, by rw [List.length_set]; exact HCL.out, hdc.set _ hs, down_step p k s x y _ cur ys hkc (by omega) ex.out ey.out hsc.out HV.out,
          fun j hj => by rw [getD_set _ _ _ _ hkc, if_neg (by omega)]; exact HO.out j (by omega), by
            rw [es.out]
            have := hown2.set_ (i := k) (d := s) hcl2.out
            rw [List.set_set] at this
            exact this, below_drew1 (hbw2.setCell hgB _)⟩
        case measure => simp [intOf]; omega
      · have e0' := e0.out
        have ey0 : ys.getD (k + 1) 0 = 0 := getD_beyond _ _ (by omega)
        go_wp2
        go_roundw
        case rel => exact ⟨k + 1, cur.set k s0, by omega, by go_num, by rw [List.length_set]; exact HCL.out, hdc.set _ hs0, down_step p k s0 x 0 _ cur ys hkc (by omega) ex.out ey0 hsc0.out HV.out,
          fun j hj => by rw [getD_set _ _ _ _ hkc, if_neg (by omega)]; exact HO.out j (by omega), hown.set_ HCL.out, hbw.setCell hgB _⟩
        case measure => simp [intOf]; omega
    · obtain rfl : k = L := by omega
      have hrd : Rd .u32 wr (some ⟨g, 0, none⟩) cur := by
        obtain ⟨A', c', h1, _, h2⟩ := hown.form
        injection h1 with h1
        subst h1
        exact h2
      have HF : Hid (val 4294967296 cur = val 4294967296 xs / 2 ^ n) := by
        have h1 := HV.out
        have hcl := HCL.out
        rw [List.take_of_length_le (by omega), List.take_of_length_le (by omega), getD_beyond ys k (by omega), Nat.zero_mod, Nat.mul_zero, Nat.add_zero] at h1
        show _ = _
        rw [hn.out]
        exact down_end dx (by omega) (by rw [eys.out]; exact h1)
      go_wp2_with fail
      refine (trim_u32n _ oc k cur _ HCL.out hrd hoc (by omega)).mono ?_
      rintro e w2 ⟨m, hm, rfl, hv3, hn3, rfl⟩
      have HV3 := Lib.hid hv3
      clear hv3
      go_wp2
      go_ret
      have hfl := HCL.out
      exact OutP.of_take hm (by omega) hrd hbw ⟨by show val 4294967296 (cur.take m) = _; rw [HV3.out]; exact HF.out, ⟨hdc.take m, hn3⟩, by rw [List.length_take]; omega⟩

set_option maxHeartbeats 400000 in
theorem shiftdn_none (A : Option Addr) (ca n : Nat) (xs : List Nat) (w : World) (bn : n ≤ 10000000) (dx : Dig 4294967296 xs) (hpos : xs.length ≤ n / 32) :
    Calls Tryd.prog 65 #[.slice A xs.length ca, .int .i64 n] w (OutP .u32 (fun zs => V32 zs = V32 xs / 2 ^ n ∧ Mag zs ∧ zs.length ≤ xs.length) w) := by
  obtain ⟨q, p, hp, eq, ep, hn⟩ : ∃ q p : Nat, p < 32 ∧ (n : Int) / 32 = q ∧ (n : Int) % 32 = p ∧ Hid (n = 32 * q + p) := ⟨n / 32, n % 32, Nat.mod_lt _ (by omega), by omega, by omega, by show _ = _; omega⟩
  have hq : xs.length ≤ q := by have := hn.out; omega
  have HD := Lib.hid dx
  clear hpos
  go_enter Tryd.func65, Tryd.ntmps65
  go_wp2
  go_ret
  refine ⟨none, 0, [], rfl, Nat.le_refl _, Rd.nil_, Below.refl _ _, ?_, mag_nil, Nat.zero_le _⟩
  have h1 := val_lt 4294967296 xs HD.out
  have h2 : 4294967296 ^ xs.length ≤ 4294967296 ^ q := Nat.pow_le_pow_right (by omega) hq
  have h3 : 4294967296 ^ q * 1 ≤ 4294967296 ^ q * 2 ^ p := Nat.mul_le_mul_left _ (Nat.pow_pos (by omega))
  show 0 = V32 xs / 2 ^ n
  rw [hn.out, pow_32, Nat.div_eq_of_lt (by unfold V32; omega)]

theorem shiftdn_ok (A : Option Addr) (ca n : Nat) (xs : List Nat) (w : World) (hx : Rd .u32 w A xs) (hca : xs.length ≤ ca) (bx : xs.length ≤ 100000) (bn : n ≤ 10000000) (dx : Dig 4294967296 xs) :
    Calls Tryd.prog 65 #[.slice A xs.length ca, .int .i64 n] w (OutP .u32 (fun zs => V32 zs = V32 xs / 2 ^ n ∧ Mag zs ∧ zs.length ≤ xs.length) w) := by
  rcases Nat.lt_or_ge (n / 32) xs.length with h | h
  · exact shiftdn_any A ca n xs w hx hca bx bn dx h
  · exact shiftdn_none A ca n xs w bn dx h
end Go.Proofs.YtllcegiaojchdaaDoor

