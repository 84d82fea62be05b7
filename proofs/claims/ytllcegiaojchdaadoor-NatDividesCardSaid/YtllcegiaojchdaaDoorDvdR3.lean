/- nat.compare compares the numbers of two magnitudes; of at most 100000 words. -/
import Derived.Test.YtllcegiaojchdaaDoorDvdR2
import Derived.BigQuiet
import Derived.StillTailTactics
import Derived.Test.YtllcegiaojchdaaDoorRows
import Derived.WalkKit
import Derived.WalkSpells
import Derived.WalkLawsBesides
import Derived.Laws.BitsAllLaws
import Derived.Below
import Derived.Laws.OwnMore
import Derived.Laws.MakeOwn
import Derived.Deep.AppendLies
import Derived.Deep.Draws
import Derived.Laws.Rows
import Derived.Lib.Hide
import Derived.Deep.QuietTactic
namespace Go.Proofs.YtllcegiaojchdaaDoor
open Go.RowKit V

theorem cmpOf_lt {x y : Int} (h : x < y) : cmpOf x y = -1 := by rw [cmpOf, if_pos h]
theorem cmpOf_gt {x y : Int} (h : y < x) : cmpOf x y = 1 := by rw [cmpOf, if_neg (by omega), if_pos h]
theorem cmpOf_eq {x y : Int} (h : x = y) : cmpOf x y = 0 := by rw [cmpOf, if_neg (by omega), if_neg (by omega)]
theorem ret_int {k : IntKind} {a b : Int} (h : a = b) : Ending.returned (.int k a) = .returned (.int k b) := by rw [h]

theorem cmp_len {B : Nat} (hB : 0 < B) {xs ys : List Nat} (hx : Dig B xs) (hy : Dig B ys) (nx : Nrm xs) (ny : Nrm ys) (h : xs.length ≠ ys.length) :
    cmpOf (xs.length : Int) (ys.length : Int) = cmpOf (val B xs) (val B ys) := by
  rcases Nat.lt_or_ge xs.length ys.length with h1 | h1
  · have := val_lt_of_len hB hx ny h1
    rw [cmpOf_lt (by omega), cmpOf_lt (by omega)]
  · have := val_lt_of_len hB hy nx (show ys.length < xs.length by omega)
    rw [cmpOf_gt (by omega), cmpOf_gt (by omega)]
theorem cmp_top {B : Nat} {xs ys : List Nat} (hx : Dig B xs) (hy : Dig B ys) (hl : xs.length = ys.length) {k x y : Nat} (hk : k < xs.length)
    (he : xs.drop (k + 1) = ys.drop (k + 1)) (ex : xs.getD k 0 = x) (ey : ys.getD k 0 = y) (hne : x ≠ y) : cmpOf (x : Int) (y : Int) = cmpOf (val B xs) (val B ys) := by
  subst ex; subst ey
  rcases Nat.lt_or_ge (xs.getD k 0) (ys.getD k 0) with h1 | h1
  · have := val_lt_of_top hx hl hk he h1
    rw [cmpOf_lt (by omega), cmpOf_lt (by omega)]
  · have := val_lt_of_top hy hl.symm (by omega) he.symm (show ys.getD k 0 < xs.getD k 0 by omega)
    rw [cmpOf_gt (by omega), cmpOf_gt (by omega)]

/-- The answer is n, and nothing but draws has happened. -/
def Says (v : Value) (w : World) (e : Ending) (w' : World) : Prop := e = .returned v ∧ ∃ n, w' = w.drewN n

set_option maxHeartbeats 400000 in
theorem compare_any (A B : Option Addr) (c d : Nat) (xs ys : List Nat) (w : World) (hx : Rd .u32 w A xs) (hy : Rd .u32 w B ys) (bx : xs.length ≤ 100000)
    (dx : Dig 4294967296 xs) (dy : Dig 4294967296 ys) (nx : Nrm xs) (ny : Nrm ys) :
    Calls Tryd.prog 54 #[.slice A xs.length c, .slice B ys.length d] w (Says (.int .i64 (cmpOf (val 4294967296 xs) (val 4294967296 ys))) w) := by
  by_cases hl : xs.length = ys.length
  · have hb : ((xs.length : Int) != (ys.length : Int)) = false := by simp [hl]
    have HL := Lib.hid hl
    clear hl
    go_enter Tryd.func54, Tryd.ntmps54
    go_wp2
    go_loopw [5] (fun i wr => ∃ j : Int, ∃ n : Nat, -1 ≤ j ∧ j < xs.length ∧ i = .int .i64 j ∧ xs.drop (j + 1).toNat = ys.drop (j + 1).toNat ∧ wr = w.drewN n) (fun i _ => (intOf i + 1).toNat)
    case atStart => exact ⟨_, 0, by omega, by omega, rfl, by rw [show ((xs.length : Int) - 1 + 1).toNat = xs.length by omega, List.drop_length, HL.out, List.drop_length], rfl⟩
    case round =>
      obtain ⟨j, n, hj, hjl, rfl, he, rfl⟩ := hrel
      have HE := Lib.hid he
      clear he
      by_cases h0 : j < 0
      · go_wp2
        go_ret
        exact ⟨ret_int (cmpOf_eq (by have := HE.out; rw [show (j + 1).toNat = 0 by omega] at this; simp only [List.drop_zero] at this; rw [this])).symm, n, rfl⟩
      · obtain ⟨k, rfl⟩ := Int.eq_ofNat_of_zero_le (show 0 ≤ j by omega)
        have hkx : k < xs.length := by omega
        have hky : k < ys.length := by have := HL.out; omega
        obtain ⟨ad, x, rfl, hbx, ex, cx⟩ := hx.ask hkx
        obtain ⟨bd, y, rfl, hby, ey, cy⟩ := hy.ask hky
        have ek : ((k : Int) + 1).toNat = k + 1 := by omega
        by_cases hxy : x = y
        · subst hxy
          have HS : Hid (xs.drop k = ys.drop k) := by
            have := HE.out
            rw [ek] at this
            show xs.drop k = ys.drop k
            rw [drop_eq xs k hkx, drop_eq ys k hky, ex.out, ey.out, this]
          go_wp2_with (go_quiet (fail))
          go_roundw
          case rel => exact ⟨_, _, by omega, by omega, rfl, by rw [show ((k : Int) - 1 + 1).toNat = k by omega]; exact HS.out, rfl⟩
          case measure => simp [intOf]
        · have HT := Lib.hid (cmp_top dx dy HL.out hkx (by have := HE.out; rwa [ek] at this) ex.out ey.out hxy)
          go_wp2_with (go_quiet ((go_at_call 77; exact quiet_add (cmp_u32 _ _ _))))
          go_ret
          exact ⟨ret_int HT.out, _, rfl⟩
  · have HE := Lib.hid (cmp_len (by omega) dx dy nx ny hl)
    go_enter Tryd.func54, Tryd.ntmps54
    go_wp2_with (go_at_call 76; refine (cmp_int _ _ _).mono ?_; rintro e w' ⟨rfl, rfl⟩)
    go_ret
    exact ⟨ret_int HE.out, 0, rfl⟩
end Go.Proofs.YtllcegiaojchdaaDoor


/- nat.Valid, nat.fit, nat.add: what they return; magnitudes of at most 100000 words. -/
namespace Go.Proofs.YtllcegiaojchdaaDoor
open Go.RowKit V

/-- A valid magnitude. -/
def Ok (xs : List Nat) : Prop := xs.length ≤ 4096 ∧ Nrm xs
set_option maxHeartbeats 400000 in
theorem valid_yes (A : Option Addr) (c : Nat) (xs : List Nat) (w : World) (hx : Rd .u32 w A xs) (ok : Ok xs) :
    Calls Tryd.prog 32 #[.slice A xs.length c] w fun e w' => e = .returned (.bool true) ∧ w = w' := by
  obtain ⟨ok1, ok2⟩ := ok
  by_cases h0 : xs.length = 0
  · have hb : ((xs.length : Int) == 0) = true := by simp [h0]
    clear h0 ok2
    go_enter Tryd.func32, Tryd.ntmps32
    go_wp2
    go_ret
    exact ⟨rfl, rfl⟩
  · have hb : ((xs.length : Int) == 0) = false := beq_eq_false_iff_ne.2 (by omega)
    obtain ⟨ad, x, rfl, hbx, ex, cx⟩ := hx.ask (i := xs.length - 1) (by omega)
    have hn : ((x : Int) != 0) = true := by have := ok2 (by omega); rw [ex.out] at this; simpa using this
    have h1 : 1 ≤ xs.length := by omega
    clear ok2 h0
    go_enter Tryd.func32, Tryd.ntmps32
    go_wp2
    go_ret
    exact ⟨rfl, rfl⟩

set_option maxHeartbeats 400000 in
theorem fit_yes (A : Option Addr) (c n : Nat) (w : World) (hn : n ≤ 4096) :
    Calls Tryd.prog 50 #[.slice A n c] w fun e w' => e = .returned (.tuple #[.slice A n c, .int .i64 0]) ∧ w = w' := by
  go_enter Tryd.func50, Tryd.ntmps50
  go_wp2
  go_ret2
  exact ⟨rfl, rfl⟩
set_option maxHeartbeats 400000 in
theorem fit_no (A : Option Addr) (c n : Nat) (w : World) (hn : 4096 < n) :
    Calls Tryd.prog 50 #[.slice A n c] w fun e w' => e = .returned (.tuple #[.slice none 0 0, .int .i64 2]) ∧ w = w' := by
  go_enter Tryd.func50, Tryd.ntmps50
  go_wp2
  go_ret2
  exact ⟨rfl, rfl⟩

theorem info_u32 : (Tryd.prog.info? 55).map (fun i => (i.zero, i.size, i.bytes)) = some (some (.int .u32 0), 1, 4) := by kernel_rfl

/-- make([]uint32, n) as the walk writes it. -/
theorem make_u32 (n : Nat) (N : Int) (hN : N = n) (hn : n ≤ 1000000) (w : World) :
    (Instr.makeSlice 22 (.int .i64 N) (.int .i64 N)).run Tryd.prog w = .ok (.slice (some ⟨w.heap.size, 0, none⟩) n n) (w.alloc (.cells (nums .u32 (List.replicate n 0)).toArray 55)) := by
  subst hN
  obtain ⟨i0, hi, hz0, hz1, hz2⟩ := info_parts info_u32
  have hr := run_make (P := Tryd.prog) w 22 55 i0 _ Tryd.underlying22 hi hz0 .i64 .i64 n n (by omega) (by omega) (by rw [hz2]; omega) (by omega)
  have e : madeCells (Value.cells (.int .u32 0)) (n * 1) = (nums .u32 (List.replicate n 0)).toArray := by
    apply Array.toList_inj.1
    rw [show Value.cells (.int .u32 0) = #[.int .u32 0] from rfl, Nat.mul_one, toList_madeCells_one]
    simp [nums]
  rw [hr, Int.toNat_natCast, hz1, e]


/-- A slice that reads as a list of which Q is said; what was there before the call is as it was. -/
def OutP (k : IntKind) (Q : List Nat → Prop) (w : World) (e : Ending) (w' : World) : Prop :=
  ∃ A c ys, e = .returned (.slice A ys.length c) ∧ ys.length ≤ c ∧ Rd k w' A ys ∧ Below w.heap.size w w' ∧ Q ys

theorem OutP.of_take {k : IntKind} {Q : List Nat → Prop} {w w' : World} {A : Option Addr} {c m : Nat} {fin : List Nat} (hm : m ≤ fin.length) (hc : m ≤ c) (hr : Rd k w' A fin) (hb : Below w.heap.size w w')
    (hq : Q (fin.take m)) : OutP k Q w (.returned (.slice A m c)) w' := by
  have hl : (fin.take m).length = m := by rw [List.length_take, Nat.min_eq_left hm]
  exact ⟨A, c, fin.take m, by rw [hl], by rw [hl]; exact hc, hr.take hm, hb, hq⟩

set_option maxHeartbeats 800000 in
theorem add_ge (L S : Option Addr) (lc sc : Nat) (ls ss : List Nat) (w : World) (hL : Rd .u32 w L ls) (hS : Rd .u32 w S ss) (bl : ls.length ≤ 100000) (hle : ss.length ≤ ls.length)
    (dl : Dig 4294967296 ls) (ds : Dig 4294967296 ss) :
    Calls Tryd.prog 51 #[.slice L ls.length lc, .slice S ss.length sc] w
      (OutP .u32 (fun ys => val 4294967296 ys = val 4294967296 ls + val 4294967296 ss ∧ Nrm ys ∧ Dig 4294967296 ys ∧ ys.length ≤ ls.length + 1) w) := by
  have hb : decide (ls.length < ss.length) = false := by simp; omega
  have hmk := fun W => make_u32 (ls.length + 1) ((ls.length : Int) + 1) (by omega) (by omega) W
  go_enter Tryd.func51, Tryd.ntmps51
  go_wp2
  clear hmk
  go_loopw [6, 7, 8, 23] (fun cy _ _ i wr => ∃ k c : Nat, ∃ cur : List Nat, k ≤ ss.length ∧ i = .int .i64 k ∧ cy = .int .u32 c ∧ c ≤ 1 ∧ cur.length = ls.length + 1 ∧ Dig 4294967296 cur ∧
      val 4294967296 (cur.take k) + 4294967296 ^ k * c = val 4294967296 (ls.take k) + val 4294967296 (ss.take k) ∧ Row .u32 55 wr w.heap.size cur ∧ Below w.heap.size w wr) (fun _ _ _ i _ => ss.length - (intOf i).toNat)
  case atStart => exact ⟨0, 0, _, Nat.zero_le _, rfl, rfl, by omega, List.length_replicate, Dig.zeros (by omega) _, by simp [val], Row.new _ _, (Below.refl _ _).alloc (Nat.le_refl _) _⟩
  case round =>
    obtain ⟨k, c, cur, hk, rfl, rfl, hc1, hcl, hdc, hv, hrow, hbw⟩ := hrel
    have HV := Lib.hid hv
    have HCL := Lib.hid hcl
    clear hv hcl
    by_cases hlt : k < ss.length
    · obtain ⟨ad, x, rfl, hbx, ex, cx⟩ := (hL.below hbw).ask (i := k) (by omega)
      obtain ⟨bd, y, rfl, hby, ey, cy⟩ := (hS.below hbw).ask hlt
      have hkc : k < cur.length := by have := HCL.out; omega
      have hcell := hrow.cell hkc
      have hfr := hrow.frozen k
      have hxl : x < 4294967296 := by rw [← ex.out]; exact dig_getD dl (by omega) k
      have hyl : y < 4294967296 := by rw [← ey.out]; exact dig_getD ds (by omega) k
      go_wp2_with (go_at_call 74; refine (add32_ _ _ _ _ hxl hyl (by omega)).mono ?_; rintro e w1 ⟨s, d, hs, hd, hsd, rfl, rfl⟩)
      go_roundw
      case rel => exact ⟨k + 1, d, _, by omega, by go_num, rfl, hd, by rw [List.length_set]; exact HCL.out, hdc.set k hs, add_step _ k s c d x y cur ls ss hkc (by omega) hlt ex.out ey.out hsd.out HV.out, hrow.set_ k _, hbw.setCell (Nat.le_refl _) _⟩
      case measure => simp [intOf]; omega
    · obtain rfl : k = ss.length := by omega
      go_wp2
      go_loopw [6, 9] (fun cy i wr => ∃ k c : Nat, ∃ cur : List Nat, k ≤ ls.length ∧ i = .int .i64 k ∧ cy = .int .u32 c ∧ c ≤ 1 ∧ cur.length = ls.length + 1 ∧ Dig 4294967296 cur ∧
          val 4294967296 (cur.take k) + 4294967296 ^ k * c = val 4294967296 (ls.take k) + val 4294967296 ss ∧ Row .u32 55 wr w.heap.size cur ∧ Below w.heap.size w wr) (fun _ i _ => ls.length - (intOf i).toNat)
      case atStart => exact ⟨ss.length, c, cur, hle, rfl, rfl, hc1, HCL.out, hdc, by have := HV.out; rwa [List.take_length (l := ss)] at this, hrow, hbw⟩
      case round =>
        clear hdc hrow hbw HV HCL hk hlt hc1
        obtain ⟨k, c, cur, hk, rfl, rfl, hc1, hcl, hdc, hv, hrow, hbw⟩ := hrel
        have HV := Lib.hid hv
        have HCL := Lib.hid hcl
        clear hv hcl
        by_cases hlt : k < ls.length
        · obtain ⟨ad, x, rfl, hbx, ex, cx⟩ := (hL.below hbw).ask hlt
          have hkc : k < cur.length := by have := HCL.out; omega
          have hcell := hrow.cell hkc
          have hfr := hrow.frozen k
          have hxl : x < 4294967296 := by rw [← ex.out]; exact dig_getD dl (by omega) k
          go_wp2_with (go_at_call 74; refine (add32_ x 0 c _ hxl (by omega) hc1).mono ?_; rintro e w1 ⟨s, d, hs, hd, hsd, rfl, rfl⟩)
          go_roundw
          case rel => exact ⟨k + 1, d, _, by omega, by go_num, rfl, hd, by rw [List.length_set]; exact HCL.out, hdc.set k hs, add_step1 _ k s c d x _ cur ls hkc hlt ex.out (by have := hsd.out; omega) HV.out, hrow.set_ k _, hbw.setCell (Nat.le_refl _) _⟩
          case measure => simp [intOf]; omega
        · obtain rfl : k = ls.length := by omega
          have hkc : ls.length < cur.length := by have := HCL.out; omega
          have hcell := hrow.cell hkc
          have hfr := hrow.frozen ls.length
          have hrow2 := hrow.set_ ls.length c
          have hbw2 := hbw.setCell (p := ⟨w.heap.size, ls.length, none⟩) (Nat.le_refl _) (.int .u32 c)
          have hdc2 : Dig 4294967296 (cur.set ls.length c) := hdc.set _ (by omega)
          have HV2 : Hid (val 4294967296 (cur.set ls.length c) = val 4294967296 ls + val 4294967296 ss) := by
            have h1 := HV.out
            rw [List.take_length] at h1
            show _ = _
            rw [← h1, ← val_set_take _ cur ls.length c hkc, List.take_of_length_le (by rw [List.length_set]; have := HCL.out; omega)]
          have HL2 : Hid ((cur.set ls.length c).length = ls.length + 1) := by show _ = _; rw [List.length_set]; exact HCL.out
          generalize cur.set ls.length c = fin at *
          clear HV HCL
          go_wp2_with (go_at_call 57; refine (trim_u32n _ _ _ fin _ HL2.out hrow2.rd (Nat.le_refl _) (by omega)).mono ?_; rintro e w1 ⟨m, hm, rfl, hv3, hn3, rfl⟩; have HV3 := Lib.hid hv3; clear hv3)
          go_ret
          have hfl := HL2.out
          exact OutP.of_take hm (by omega) hrow2.rd hbw2 ⟨by rw [HV3.out]; exact HV2.out, hn3, hdc2.take m, by rw [List.length_take]; omega⟩

set_option maxHeartbeats 800000 in
theorem add_lt (L S : Option Addr) (lc sc : Nat) (ls ss : List Nat) (w : World) (hL : Rd .u32 w L ls) (hS : Rd .u32 w S ss) (bl : ls.length ≤ 100000) (hle : ss.length < ls.length)
    (dl : Dig 4294967296 ls) (ds : Dig 4294967296 ss) :
    Calls Tryd.prog 51 #[.slice S ss.length sc, .slice L ls.length lc] w
      (OutP .u32 (fun ys => val 4294967296 ys = val 4294967296 ls + val 4294967296 ss ∧ Nrm ys ∧ Dig 4294967296 ys ∧ ys.length ≤ ls.length + 1) w) := by
  have hb : decide (ss.length < ls.length) = true := by simp; omega
  have hmk := fun W => make_u32 (ls.length + 1) ((ls.length : Int) + 1) (by omega) (by omega) W
  go_enter Tryd.func51, Tryd.ntmps51
  go_wp2
  clear hmk
  go_loopw [6, 7, 8, 23] (fun cy _ _ i wr => ∃ k c : Nat, ∃ cur : List Nat, k ≤ ss.length ∧ i = .int .i64 k ∧ cy = .int .u32 c ∧ c ≤ 1 ∧ cur.length = ls.length + 1 ∧ Dig 4294967296 cur ∧
      val 4294967296 (cur.take k) + 4294967296 ^ k * c = val 4294967296 (ls.take k) + val 4294967296 (ss.take k) ∧ Row .u32 55 wr w.heap.size cur ∧ Below w.heap.size w wr) (fun _ _ _ i _ => ss.length - (intOf i).toNat)
  case atStart => exact ⟨0, 0, _, Nat.zero_le _, rfl, rfl, by omega, List.length_replicate, Dig.zeros (by omega) _, by simp [val], Row.new _ _, (Below.refl _ _).alloc (Nat.le_refl _) _⟩
  case round =>
    obtain ⟨k, c, cur, hk, rfl, rfl, hc1, hcl, hdc, hv, hrow, hbw⟩ := hrel
    have HV := Lib.hid hv
    have HCL := Lib.hid hcl
    clear hv hcl
    by_cases hlt : k < ss.length
    · obtain ⟨ad, x, rfl, hbx, ex, cx⟩ := (hL.below hbw).ask (i := k) (by omega)
      obtain ⟨bd, y, rfl, hby, ey, cy⟩ := (hS.below hbw).ask hlt
      have hkc : k < cur.length := by have := HCL.out; omega
      have hcell := hrow.cell hkc
      have hfr := hrow.frozen k
      have hxl : x < 4294967296 := by rw [← ex.out]; exact dig_getD dl (by omega) k
      have hyl : y < 4294967296 := by rw [← ey.out]; exact dig_getD ds (by omega) k
      go_wp2_with (go_at_call 74; refine (add32_ _ _ _ _ hxl hyl (by omega)).mono ?_; rintro e w1 ⟨s, d, hs, hd, hsd, rfl, rfl⟩)
      go_roundw
      case rel => exact ⟨k + 1, d, _, by omega, by go_num, rfl, hd, by rw [List.length_set]; exact HCL.out, hdc.set k hs, add_step _ k s c d x y cur ls ss hkc (by omega) hlt ex.out ey.out hsd.out HV.out, hrow.set_ k _, hbw.setCell (Nat.le_refl _) _⟩
      case measure => simp [intOf]; omega
    · obtain rfl : k = ss.length := by omega
      go_wp2
      go_loopw [6, 9] (fun cy i wr => ∃ k c : Nat, ∃ cur : List Nat, k ≤ ls.length ∧ i = .int .i64 k ∧ cy = .int .u32 c ∧ c ≤ 1 ∧ cur.length = ls.length + 1 ∧ Dig 4294967296 cur ∧
          val 4294967296 (cur.take k) + 4294967296 ^ k * c = val 4294967296 (ls.take k) + val 4294967296 ss ∧ Row .u32 55 wr w.heap.size cur ∧ Below w.heap.size w wr) (fun _ i _ => ls.length - (intOf i).toNat)
      case atStart => exact ⟨ss.length, c, cur, Nat.le_of_lt hle, rfl, rfl, hc1, HCL.out, hdc, by have := HV.out; rwa [List.take_length (l := ss)] at this, hrow, hbw⟩
      case round =>
        clear hdc hrow hbw HV HCL hk hlt hc1
        obtain ⟨k, c, cur, hk, rfl, rfl, hc1, hcl, hdc, hv, hrow, hbw⟩ := hrel
        have HV := Lib.hid hv
        have HCL := Lib.hid hcl
        clear hv hcl
        by_cases hlt : k < ls.length
        · obtain ⟨ad, x, rfl, hbx, ex, cx⟩ := (hL.below hbw).ask hlt
          have hkc : k < cur.length := by have := HCL.out; omega
          have hcell := hrow.cell hkc
          have hfr := hrow.frozen k
          have hxl : x < 4294967296 := by rw [← ex.out]; exact dig_getD dl (by omega) k
          go_wp2_with (go_at_call 74; refine (add32_ x 0 c _ hxl (by omega) hc1).mono ?_; rintro e w1 ⟨s, d, hs, hd, hsd, rfl, rfl⟩)
          go_roundw
          case rel => exact ⟨k + 1, d, _, by omega, by go_num, rfl, hd, by rw [List.length_set]; exact HCL.out, hdc.set k hs, add_step1 _ k s c d x _ cur ls hkc hlt ex.out (by have := hsd.out; omega) HV.out, hrow.set_ k _, hbw.setCell (Nat.le_refl _) _⟩
          case measure => simp [intOf]; omega
        · obtain rfl : k = ls.length := by omega
          have hkc : ls.length < cur.length := by have := HCL.out; omega
          have hcell := hrow.cell hkc
          have hfr := hrow.frozen ls.length
          have hrow2 := hrow.set_ ls.length c
          have hbw2 := hbw.setCell (p := ⟨w.heap.size, ls.length, none⟩) (Nat.le_refl _) (.int .u32 c)
          have hdc2 : Dig 4294967296 (cur.set ls.length c) := hdc.set _ (by omega)
          have HV2 : Hid (val 4294967296 (cur.set ls.length c) = val 4294967296 ls + val 4294967296 ss) := by
            have h1 := HV.out
            rw [List.take_length] at h1
            show _ = _
            rw [← h1, ← val_set_take _ cur ls.length c hkc, List.take_of_length_le (by rw [List.length_set]; have := HCL.out; omega)]
          have HL2 : Hid ((cur.set ls.length c).length = ls.length + 1) := by show _ = _; rw [List.length_set]; exact HCL.out
          generalize cur.set ls.length c = fin at *
          clear HV HCL
          go_wp2_with (go_at_call 57; refine (trim_u32n _ _ _ fin _ HL2.out hrow2.rd (Nat.le_refl _) (by omega)).mono ?_; rintro e w1 ⟨m, hm, rfl, hv3, hn3, rfl⟩; have HV3 := Lib.hid hv3; clear hv3)
          go_ret
          have hfl := HL2.out
          exact OutP.of_take hm (by omega) hrow2.rd hbw2 ⟨by rw [HV3.out]; exact HV2.out, hn3, hdc2.take m, by rw [List.length_take]; omega⟩

/-- nat.add: the sum of the numbers. -/
theorem add_any (A B : Option Addr) (c d : Nat) (xs ys : List Nat) (w : World) (hx : Rd .u32 w A xs) (hy : Rd .u32 w B ys) (bx : xs.length ≤ 100000) (by_ : ys.length ≤ 100000)
    (dx : Dig 4294967296 xs) (dy : Dig 4294967296 ys) :
    Calls Tryd.prog 51 #[.slice A xs.length c, .slice B ys.length d] w
      (OutP .u32 (fun zs => val 4294967296 zs = val 4294967296 xs + val 4294967296 ys ∧ Nrm zs ∧ Dig 4294967296 zs ∧ zs.length ≤ max xs.length ys.length + 1) w) := by
  rcases Nat.lt_or_ge xs.length ys.length with h | h
  · refine (add_lt B A d c ys xs w hy hx by_ h dy dx).mono fun e w' => ?_
    rintro ⟨A, c, zs, he, hc, hr, hb, h1, h2, h3, h4⟩
    exact ⟨A, c, zs, he, hc, hr, hb, by omega, h2, h3, by omega⟩
  · refine (add_ge A B c d xs ys w hx hy bx h dx dy).mono fun e w' => ?_
    rintro ⟨A, c, zs, he, hc, hr, hb, h1, h2, h3, h4⟩
    exact ⟨A, c, zs, he, hc, hr, hb, h1, h2, h3, by omega⟩
end Go.Proofs.YtllcegiaojchdaaDoor


/- Slices of numbers that a call makes and appends to: the words and the one law that the walks use. -/
namespace Go.Proofs.YtllcegiaojchdaaDoor
open Go.RowKit V

theorem nums_snoc (k : IntKind) (xs : List Nat) (d : Nat) : nums k (xs ++ [d]) = nums k xs ++ [.int k (d : Nat)] := by simp [nums]

/-- The slice value v owns the list: nil and nothing, or the head of a row from block B on. -/
def Own (k : IntKind) (e : TypeId) (B : Nat) (w : World) (v : Value) (xs : List Nat) : Prop := w.ownsRow B e 1 v xs.length (nums k xs)

section
variable {k : IntKind} {e : TypeId} {B : Nat} {w w' : World} {v : Value} {xs : List Nat}
theorem Own.nil_ : Own k e B w (.slice none 0 0) [] := World.ownsRow_nil _ _ _ _
theorem Own.form (h : Own k e B w v xs) : ∃ A c, v = .slice A xs.length c ∧ xs.length ≤ c ∧ Rd k w A xs := by
  have h' := h
  rcases h.2 with ⟨rfl, h0⟩ | ⟨g, cap, cur, rfl, _, _, hc, _⟩
  · have : xs = [] := List.eq_nil_of_length_eq_zero h0
    subst this
    exact ⟨none, 0, rfl, Nat.le_refl _, Rd.nil_⟩
  · exact ⟨_, cap, rfl, hc, Rd.of_own h'⟩
theorem Own.made (hb : B ≤ w.heap.size) (n : Nat) (hn : n ≤ 1000000) : Own k e B (w.alloc (.cells (nums k (List.replicate n 0)).toArray e)) (.slice (some ⟨w.heap.size, 0, none⟩) 0 n) [] :=
  World.ownsRow_made w _ n hb (by unfold maxLen; omega) (by simp [nums])
theorem Own.alloc (h : Own k e B w v xs) (o : Obj) : Own k e B (w.alloc o) v xs := World.ownsRow.alloc h o
theorem Own.kept (h : Own k e B w v xs) (hb : Below w.heap.size w w') : Own k e B w' v xs := by
  have h' := h
  refine ⟨h.1, ?_⟩
  rcases h.2 with h2 | ⟨g, cap, cur, h1, h2, h3, h4⟩
  · exact .inl h2
  · exact .inr ⟨g, cap, cur, h1, h2, by rw [hb.block g (Array.getElem?_eq_some_iff.1 h3).1]; exact h3, h4⟩
end

section
variable {k : IntKind} {e : TypeId} {B g n c i d : Nat} {w : World} {v : Value} {xs : List Nat}
theorem Own.shape (h : Own k e B w v xs) : ∃ A c, v = .slice A xs.length c ∧ xs.length ≤ c ∧ Rd k w A xs ∧ (0 < xs.length → ∃ g, A = some ⟨g, 0, none⟩ ∧ B ≤ g) := by
  have h' := h
  rcases h.2 with ⟨rfl, h0⟩ | ⟨g, cap, cur, rfl, hB, _, hc, _⟩
  · have : xs = [] := List.eq_nil_of_length_eq_zero h0
    subst this
    exact ⟨none, 0, rfl, Nat.le_refl _, Rd.nil_, fun h => by simp at h⟩
  · exact ⟨_, cap, rfl, hc, Rd.of_own h', fun _ => ⟨g, rfl, hB⟩⟩
theorem Own.shapeN (h : Own k e B w v xs) (hn : xs.length = n) : ∃ A c, v = .slice A n c ∧ n ≤ c ∧ Rd k w A xs ∧ (0 < n → ∃ g, A = some ⟨g, 0, none⟩ ∧ B ≤ g) := by
  subst hn; exact h.shape
theorem Own.cell (h : Own k e B w (.slice (some ⟨g, 0, none⟩) n c) xs) (hn : xs.length = n) (hi : i < n) : w.cell? ⟨g, i, none⟩ = some (.int k (xs.getD i 0 : Nat)) := by
  subst hn
  rw [World.ownsRow.cellAt h i (by omega)]
  exact nums_get hi
theorem Own.frz (h : Own k e B w (.slice (some ⟨g, 0, none⟩) n c) xs) (hn : xs.length = n) : w.frozen? ⟨g, i, none⟩ = false := by
  subst hn
  exact World.ownsRow.frozenAt h i
theorem Own.set_ (h : Own k e B w (.slice (some ⟨g, 0, none⟩) n c) xs) (hn : xs.length = n) : Own k e B (w.setCell ⟨g, i, none⟩ (.int k (d : Nat))) (.slice (some ⟨g, 0, none⟩) n c) (xs.set i d) := by
  subst hn
  have := (World.ownsRow.stored h i (.int k (d : Nat))).1
  show World.ownsRow _ B e 1 _ (xs.set i d).length (nums k (xs.set i d))
  rw [List.length_set, show nums k (xs.set i d) = (nums k xs).set i (.int k (d : Nat)) by simp [nums, List.map_set]]
  exact this
end

theorem Own.take_ {k : IntKind} {e : TypeId} {B n c m : Nat} {w : World} {A : Option Addr} {xs : List Nat} (h : Own k e B w (.slice A n c) xs) (hn : xs.length = n) (hm : m ≤ n) : Own k e B w (.slice A m c) (xs.take m) := by
  subst hn
  have hl : (xs.take m).length = m := by rw [List.length_take, Nat.min_eq_left hm]
  show World.ownsRow _ _ _ _ _ _ _
  rw [hl]
  rcases h.2 with ⟨h1, h2⟩ | ⟨g, cap, cur, h1, h2, h3, h4, h5, h6, h7⟩
  · injection h1 with h1 h1' h1''
    obtain rfl : m = 0 := by omega
    exact ⟨by rw [nums_len, hl], .inl ⟨by rw [h1, h1''], rfl⟩⟩
  · injection h1 with h1 h1' h1''
    subst h1; subst h1''
    refine ⟨by rw [nums_len, hl, Nat.mul_one], .inr ⟨g, c, cur, rfl, h2, h3, by omega, h5, h6, ?_⟩⟩
    rw [Nat.mul_one] at h7 ⊢
    have e2 : nums k (xs.take m) = (nums k xs).take m := by simp [nums, List.map_take]
    rw [e2, ← h7, List.take_take, Nat.min_eq_left hm]

theorem Own.base {k : IntKind} {e : TypeId} {B B' : Nat} {w : World} {v : Value} {xs : List Nat} (h : Own k e B w v xs) (hB : B' ≤ B) : Own k e B' w v xs := by
  refine ⟨h.1, ?_⟩
  rcases h.2 with h2 | ⟨g, cap, cur, h1, h2, h3⟩
  · exact .inl h2
  · exact .inr ⟨g, cap, cur, h1, Nat.le_trans hB h2, h3⟩

theorem Own.kept2 {k : IntKind} {e : TypeId} {B : Nat} {w w' : World} {v : Value} {xs : List Nat} (h : Own k e B w v xs) (hk : ∀ g, v.ownBlock = some g → g < w.heap.size → w'.heap[g]? = w.heap[g]?) : Own k e B w' v xs := by
  have hl := World.ownsRow.lt h
  refine ⟨h.1, ?_⟩
  rcases h.2 with h2 | ⟨g, cap, cur, rfl, h2, h3, h4⟩
  · exact .inl h2
  · exact .inr ⟨g, cap, cur, rfl, h2, by rw [hk g rfl (hl g rfl).2]; exact h3, h4⟩

/-- Only the block of A has been written. -/
structure OnlyAt (A : Option Addr) (w w' : World) : Prop where
  os : w'.os = w.os
  tape : w'.tape = w.tape
  output : w'.output = w.output
  size : w'.heap.size = w.heap.size
  block : ∀ b, (∀ ad, A = some ad → ad.block ≠ b) → w'.heap[b]? = w.heap[b]?
theorem OnlyAt.refl (A : Option Addr) (w : World) : OnlyAt A w w := ⟨rfl, rfl, rfl, rfl, fun _ _ => rfl⟩
theorem OnlyAt.trans {A : Option Addr} {a b c : World} (h : OnlyAt A a b) (k : OnlyAt A b c) : OnlyAt A a c :=
  ⟨k.os.trans h.os, k.tape.trans h.tape, k.output.trans h.output, k.size.trans h.size, fun x hx => (k.block x hx).trans (h.block x hx)⟩
theorem OnlyAt.setCell {a w : World} {g i : Nat} {o : Option Addr} (h : OnlyAt o a w) (ho : o = some ⟨g, 0, none⟩) (u : Value) : OnlyAt o a (w.setCell ⟨g, i, none⟩ u) :=
  ⟨h.os, h.tape, h.output, by have := h.size; simpa [World.setCell] using this, fun b hb => (Below.heap_setCell w ⟨g, i, none⟩ u b (fun e => hb _ ho e.symm)).trans (h.block b hb)⟩
theorem OnlyAt.below {A : Option Addr} {w w' : World} {B : Nat} (h : OnlyAt A w w') (hA : ∀ ad, A = some ad → B ≤ ad.block) : Below B w w' :=
  ⟨h.os, h.tape, h.output, Nat.le_of_eq h.size.symm, fun b hb => h.block b fun ad e => by have := hA ad e; omega⟩
theorem OnlyAt.own {A : Option Addr} {w w' : World} {B : Nat} {k : IntKind} {e : TypeId} {v : Value} {xs : List Nat} (h : OnlyAt A w w') (ho : Own k e B w v xs) (hA : ∀ ad, A = some ad → ad.block < B) : Own k e B w' v xs := by
  refine ⟨ho.1, ?_⟩
  rcases ho.2 with h2 | ⟨g, cap, cur, h1, h2, h3, h4⟩
  · exact .inl h2
  · exact .inr ⟨g, cap, cur, h1, h2, by rw [h.block g (fun ad e => by have := hA ad e; omega)]; exact h3, h4⟩

/-- append(out, d) of one number, as the walk meets it: the number lies in a new block. -/
theorem wpList_app1f {P : Program} {ops : Array Oper} {rest : List Oper} {o : Oper} {a : Act} {Q : Exit → Act → World → Prop} {w w0 : World} (hgd : o.guard = none) (s x : Operand) (t e : TypeId)
    (ho : o.op = .call { callee := .builtin .append, args := #[s, x], argTypes := #[t, t] }) (k : IntKind) (bytes : Nat)
    (hinfo : (P.info? e).map (fun i => (i.zero, i.size, i.bytes)) = some (some (.int k 0), 1, bytes)) (ht : P.underlying t = some (.slice e)) (h8 : bytes ≤ 8)
    (B : Nat) (v : Value) (out : List Nat) (D : Int) (d : Nat) (hd : D = d) (hs : a.eval s = v) (hown : Own k e B w v out)
    (hx : a.eval x = .slice (some ⟨w.heap.size, 0, none⟩) 1 1) (hb : Below B w0 w) (hB : B ≤ w0.heap.size) (hlen : out.length ≤ 1000000)
    (h : ∀ v' w', Own k e B w' v' (out ++ [d]) → Below B w0 w' → (w.heap.size ≤ w'.heap.size ∧ ∀ b, b < w.heap.size → v.ownBlock ≠ some b → w'.heap[b]? = w.heap[b]?) → wpList P ops Q rest (a.put o.dst v') w') : wpList P ops Q (o :: rest) a (w.alloc (.cells #[.int k D] e)) := by
  subst hd
  obtain ⟨i0, hi, hz0, hz1, hz2⟩ := info_parts hinfo
  have hsz := hb.size
  refine wpList_append_own _ hgd s x t ho B e i0 (.int k 0) 1 bytes ht hi hz0 hz1 hz2 rfl (by decide) v out.length (nums k out) hs (World.ownsRow.alloc hown _) ⟨w.heap.size, 0, none⟩ 1 1 [.int k (d : Nat)] hx rfl
    (cell_one_new _ _ _) (by intro u hu; simp at hu; subst hu; rfl) (by unfold maxLen; omega) ?_ (by simp; omega) ?_
  · have h1 : (out.length + 1) * bytes ≤ 1000001 * 8 := Nat.mul_le_mul (by omega) h8
    omega
  · intro v' w' hown' hg _
    refine h v' w' ?_ ?_ ?_
    · show w'.ownsRow B e 1 v' (out ++ [d]).length (nums k (out ++ [d]))
      rw [nums_snoc, List.length_append]
      exact hown'
    · refine (hb.alloc (by omega) _).grown hg (by simp; omega) fun g hg => ?_
      exact (World.ownsRow.lt hown g hg).1
    · have hs := hg.size
      refine ⟨by simp at hs; omega, fun b hb hne => ?_⟩
      rw [hg.block b (by simp; omega) (fun e => hne e.symm)]
      exact Below.heap_alloc w _ b hb

/-- append(out, d) of one number, as the walk meets it: the number lies in a new block. -/
theorem wpList_app1 {P : Program} {ops : Array Oper} {rest : List Oper} {o : Oper} {a : Act} {Q : Exit → Act → World → Prop} {w w0 : World} (hgd : o.guard = none) (s x : Operand) (t e : TypeId)
    (ho : o.op = .call { callee := .builtin .append, args := #[s, x], argTypes := #[t, t] }) (k : IntKind) (bytes : Nat)
    (hinfo : (P.info? e).map (fun i => (i.zero, i.size, i.bytes)) = some (some (.int k 0), 1, bytes)) (ht : P.underlying t = some (.slice e)) (h8 : bytes ≤ 8)
    (B : Nat) (v : Value) (out : List Nat) (D : Int) (d : Nat) (hd : D = d) (hs : a.eval s = v) (hown : Own k e B w v out)
    (hx : a.eval x = .slice (some ⟨w.heap.size, 0, none⟩) 1 1) (hb : Below B w0 w) (hB : B ≤ w0.heap.size) (hlen : out.length ≤ 1000000)
    (h : ∀ v' w', Own k e B w' v' (out ++ [d]) → Below B w0 w' → wpList P ops Q rest (a.put o.dst v') w') : wpList P ops Q (o :: rest) a (w.alloc (.cells #[.int k D] e)) := by
  exact wpList_app1f hgd s x t e ho k bytes hinfo ht h8 B v out D d hd hs hown hx hb hB hlen fun v' w' h1 h2 _ => h v' w' h1 h2

/-- append(out, xs...) of a slice that reads as a list. -/
theorem wpList_appN {P : Program} {ops : Array Oper} {rest : List Oper} {o : Oper} {a : Act} {Q : Exit → Act → World → Prop} {w w0 : World} (hgd : o.guard = none) (s x : Operand) (t e : TypeId)
    (ho : o.op = .call { callee := .builtin .append, args := #[s, x], argTypes := #[t, t] }) (k : IntKind) (bytes : Nat)
    (hinfo : (P.info? e).map (fun i => (i.zero, i.size, i.bytes)) = some (some (.int k 0), 1, bytes)) (ht : P.underlying t = some (.slice e)) (h8 : bytes ≤ 8)
    (B : Nat) (v : Value) (out xs : List Nat) (hs : a.eval s = v) (hown : Own k e B w v out) (ad : Addr) (n c : Nat) (hn : xs.length = n)
    (hx : a.eval x = .slice (some ad) n c) (hr : Rd k w (some ad) xs) (hb : Below B w0 w) (hB : B ≤ w0.heap.size) (hlen : out.length + n ≤ 1000000)
    (h : ∀ v' w', Own k e B w' v' (out ++ xs) → Below B w0 w' → wpList P ops Q rest (a.put o.dst v') w') : wpList P ops Q (o :: rest) a w := by
  subst hn
  obtain ⟨i0, hi, hz0, hz1, hz2⟩ := info_parts hinfo
  have hsz := hb.size
  refine wpList_append_own _ hgd s x t ho B e i0 (.int k 0) 1 bytes ht hi hz0 hz1 hz2 rfl (by decide) v out.length (nums k out) hs hown ad xs.length c (nums k xs) hx (by rw [nums_len, Nat.mul_one])
    (fun j u hu => ?_) (fun u hu => ?_) (by unfold maxLen; omega) ?_ (by omega) ?_
  · have hj : j < xs.length := by
      rcases Nat.lt_or_ge j xs.length with h1 | h1
      · exact h1
      · rw [List.getElem?_eq_none (by rw [nums_len]; exact h1)] at hu; cases hu
    rw [nums_get hj] at hu
    obtain ⟨ad', e, _, hc⟩ := hr (by omega)
    injection e with e
    subst e
    injection hu with hu
    rw [hc j hj, hu]
  · unfold nums at hu
    obtain ⟨q, _, rfl⟩ := List.mem_map.1 hu
    rfl
  · have h1 : (out.length + xs.length) * bytes ≤ 1000000 * 8 := Nat.mul_le_mul hlen h8
    omega
  · intro v' w' hown' hg _
    refine h v' w' ?_ ?_
    · show w'.ownsRow B e 1 v' (out ++ xs).length (nums k (out ++ xs))
      rw [List.length_append, show nums k (out ++ xs) = nums k out ++ nums k xs by simp [nums]]
      exact hown'
    · refine hb.grown hg (by omega) fun g hg => ?_
      exact (World.ownsRow.lt hown g hg).1

theorem info_i64 : (Tryd.prog.info? 3).map (fun i => (i.zero, i.size, i.bytes)) = some (some (.int .i64 0), 1, 8) := by kernel_rfl

/-- make(Nat, 0, n) as the walk writes it. -/
theorem make_cap (n : Nat) (N : Int) (hN : N = n) (hn : n ≤ 1000000) (w : World) :
    (Instr.makeSlice 26 (.int .i64 0) (.int .i64 N)).run Tryd.prog w = .ok (.slice (some ⟨w.heap.size, 0, none⟩) 0 n) (w.alloc (.cells (nums .i64 (List.replicate n 0)).toArray 3)) := by
  subst hN
  obtain ⟨i0, hi, hz0, hz1, hz2⟩ := info_parts info_i64
  have hr := run_make (P := Tryd.prog) w 26 3 i0 _ Tryd.underlying26 hi hz0 .i64 .i64 0 n (by omega) (by omega) (by rw [hz2]; omega) (by omega)
  have e : madeCells (Value.cells (.int .i64 0)) (n * 1) = (nums .i64 (List.replicate n 0)).toArray := by
    apply Array.toList_inj.1
    rw [show Value.cells (.int .i64 0) = #[.int .i64 0] from rfl, Nat.mul_one, toList_madeCells_one]
    simp [nums]
  rw [hr, Int.toNat_natCast, hz1, e]
  rfl
/-- make(Nat, n) as the walk writes it. -/
theorem make_nat (n : Nat) (N : Int) (hN : N = n) (hn : n ≤ 1000000) (w : World) :
    (Instr.makeSlice 26 (.int .i64 N) (.int .i64 N)).run Tryd.prog w = .ok (.slice (some ⟨w.heap.size, 0, none⟩) n n) (w.alloc (.cells (nums .i64 (List.replicate n 0)).toArray 3)) := by
  subst hN
  obtain ⟨i0, hi, hz0, hz1, hz2⟩ := info_parts info_i64
  have hr := run_make (P := Tryd.prog) w 26 3 i0 _ Tryd.underlying26 hi hz0 .i64 .i64 n n (by omega) (by omega) (by rw [hz2]; omega) (by omega)
  have e : madeCells (Value.cells (.int .i64 0)) (n * 1) = (nums .i64 (List.replicate n 0)).toArray := by
    apply Array.toList_inj.1
    rw [show Value.cells (.int .i64 0) = #[.int .i64 0] from rfl, Nat.mul_one, toList_madeCells_one]
    simp [nums]
  rw [hr, Int.toNat_natCast, hz1, e]
end Go.Proofs.YtllcegiaojchdaaDoor


/- nat.addTimes and nat.mul: the product of the numbers; at most 100000 words together. -/
namespace Go.Proofs.YtllcegiaojchdaaDoor
open Go.RowKit V

theorem addr_at (g i : Nat) : (⟨g, 0, none⟩ : Addr).add i = ⟨g, i, none⟩ := by unfold Addr.add; split <;> simp_all

end Go.Proofs.YtllcegiaojchdaaDoor


/- nat.Cmp, Add, Sub, Mul on valid magnitudes: the comparison, the sum, the difference, the product, or the error of the document. -/
namespace Go.Proofs.YtllcegiaojchdaaDoor
open Go.RowKit V

/-- The result of fit: the list if it has at most 4096 words, else error 2. -/
def FitP (Q : List Nat → Prop) (w : World) (e : Ending) (w' : World) : Prop :=
  ∃ A c zs, Rd .u32 w' A zs ∧ zs.length ≤ c ∧ Below w.heap.size w w' ∧ Q zs ∧
    ((zs.length ≤ 4096 ∧ e = .returned (.tuple #[.slice A zs.length c, .int .i64 0])) ∨ (4096 < zs.length ∧ e = .returned (.tuple #[.slice none 0 0, .int .i64 2])))
/-- What comes out as a list, with error 0. -/
def OkP (Q : List Nat → Prop) (w : World) (e : Ending) (w' : World) : Prop :=
  ∃ A c zs, Rd .u32 w' A zs ∧ zs.length ≤ c ∧ Below w.heap.size w w' ∧ Q zs ∧ e = .returned (.tuple #[.slice A zs.length c, .int .i64 0])
/-- Nothing and an error. -/
def ErrP (n : Int) (w : World) (e : Ending) (w' : World) : Prop := e = .returned (.tuple #[.slice none 0 0, .int .i64 n]) ∧ Below w.heap.size w w'

/-- The value of a magnitude. -/
def V32 (xs : List Nat) : Nat := val 4294967296 xs
/-- Words below 2^32, the last one not zero. -/
def Mag (xs : List Nat) : Prop := Dig 4294967296 xs ∧ Nrm xs
theorem Mag.eq {xs ys : List Nat} (hx : Mag xs) (hy : Mag ys) (h : V32 xs = V32 ys) : xs = ys := val_inj hx.1 hy.1 hx.2 hy.2 h
theorem Mag.len_le {xs ys : List Nat} (hx : Mag xs) (hy : Mag ys) (h : V32 ys ≤ V32 xs) : ys.length ≤ xs.length := by
  rcases Nat.lt_or_ge xs.length ys.length with h1 | h1
  · have := val_lt_of_len (B := 4294967296) (by omega) hx.1 hy.2 h1
    unfold V32 at h; omega
  · exact h1

set_option maxHeartbeats 400000 in
theorem Add_ok (A B : Option Addr) (c d : Nat) (xs ys : List Nat) (w : World) (hx : Rd .u32 w A xs) (hy : Rd .u32 w B ys) (mx : Mag xs) (my : Mag ys) (lx : xs.length ≤ 4096) (ly : ys.length ≤ 4096) :
    Calls Tryd.prog 28 #[.slice A xs.length c, .slice B ys.length d] w (FitP (fun zs => V32 zs = V32 xs + V32 ys ∧ Mag zs) w) := by
  have ox : Ok xs := ⟨lx, mx.2⟩
  have oy : Ok ys := ⟨ly, my.2⟩
  go_enter Tryd.func28, Tryd.ntmps28
  go_wp2_with (first
    | (go_at_call 32; (with_reducible refine (valid_yes A c xs _ hx ox).mono ?_); rintro e w1 ⟨rfl, rfl⟩)
    | (go_at_call 32; (with_reducible refine (valid_yes B d ys _ hy oy).mono ?_); rintro e w1 ⟨rfl, rfl⟩)
    | (go_at_call 51; refine (add_any A B c d xs ys _ hx hy (by omega) (by omega) mx.1 my.1).mono ?_; rintro e w1 ⟨Z, zc, zs, rfl, hzc, hz, hb, hv, hn, hd, hl⟩; have HV := Lib.hid hv; clear hv)
    | (go_at_call 50; fail))
  by_cases h4 : zs.length ≤ 4096
  · go_wp2_with (go_at_call 50; refine (fit_yes Z zc zs.length _ h4).mono ?_; rintro e w2 ⟨rfl, rfl⟩)
    go_ret2
    exact ⟨Z, zc, zs, hz, hzc, hb, ⟨HV.out, hd, hn⟩, .inl ⟨h4, rfl⟩⟩
  · go_wp2_with (go_at_call 50; refine (fit_no Z zc zs.length _ (by omega)).mono ?_; rintro e w2 ⟨rfl, rfl⟩)
    go_ret2
    exact ⟨Z, zc, zs, hz, hzc, hb, ⟨HV.out, hd, hn⟩, .inr ⟨by omega, rfl⟩⟩

end Go.Proofs.YtllcegiaojchdaaDoor

