/- nat.Valid, nat.fit, nat.add: what they return; magnitudes of at most 100000 words. -/
import Derived.Test.YtllcegiaojchdaaDoorTrim
import Derived.Test.YtllcegiaojchdaaDoorScal
import Derived.BigQuiet
import Derived.StillTailTactics
namespace Go.Proofs.YtllcegiaojchdaaDoor
open Go.RowKit V

/-- A valid magnitude. -/
def Ok (xs : List Nat) : Prop := xs.length ≤ 4096 ∧ Nrm xs
set_option maxHeartbeats 400000 in
theorem valid_yes (A : Option Addr) (c : Nat) (xs : List Nat) (w : World) (hx : Rd .u32 w A xs) (ok : Ok xs) :
    Calls Tryd.prog 32 #[.slice A xs.length c] w fun e w' => e = .returned (.bool true) ∧ w = w' := by
  obtain ⟨ok1, ok2⟩ := ok
  by_cases h0 : xs.length = 0
  · have hb : ((xs.length : Int) == 0) = true := by simp [h0]
    clear h0 ok2
    go_enter Tryd.func32, Tryd.ntmps32
    go_wp2
    go_ret
    exact ⟨rfl, rfl⟩
  · have hb : ((xs.length : Int) == 0) = false := beq_eq_false_iff_ne.2 (by omega)
    obtain ⟨ad, x, rfl, hbx, ex, cx⟩ := hx.ask (i := xs.length - 1) (by omega)
    have hn : ((x : Int) != 0) = true := by have := ok2 (by omega); rw [ex.out] at this; simpa using this
    have h1 : 1 ≤ xs.length := by omega
    clear ok2 h0
    go_enter Tryd.func32, Tryd.ntmps32
    go_wp2
    go_ret
    exact ⟨rfl, rfl⟩

set_option maxHeartbeats 400000 in
theorem fit_yes (A : Option Addr) (c n : Nat) (w : World) (hn : n ≤ 4096) :
    Calls Tryd.prog 50 #[.slice A n c] w fun e w' => e = .returned (.tuple #[.slice A n c, .int .i64 0]) ∧ w = w' := by
  go_enter Tryd.func50, Tryd.ntmps50
  go_wp2
  go_ret2
  exact ⟨rfl, rfl⟩
set_option maxHeartbeats 400000 in
theorem fit_no (A : Option Addr) (c n : Nat) (w : World) (hn : 4096 < n) :
    Calls Tryd.prog 50 #[.slice A n c] w fun e w' => e = .returned (.tuple #[.slice none 0 0, .int .i64 2]) ∧ w = w' := by
  go_enter Tryd.func50, Tryd.ntmps50
  go_wp2
  go_ret2
  exact ⟨rfl, rfl⟩

theorem info_u32 : (Tryd.prog.info? 55).map (fun i => (i.zero, i.size, i.bytes)) = some (some (.int .u32 0), 1, 4) := by kernel_rfl

/-- make([]uint32, n) as the walk writes it. -/
theorem make_u32 (n : Nat) (N : Int) (hN : N = n) (hn : n ≤ 1000000) (w : World) :
    (Instr.makeSlice 22 (.int .i64 N) (.int .i64 N)).run Tryd.prog w = .ok (.slice (some ⟨w.heap.size, 0, none⟩) n n) (w.alloc (.cells (nums .u32 (List.replicate n 0)).toArray 55)) := by
  subst hN
  obtain ⟨i0, hi, hz0, hz1, hz2⟩ := info_parts info_u32
  have hr := run_make (P := Tryd.prog) w 22 55 i0 _ Tryd.underlying22 hi hz0 .i64 .i64 n n (by omega) (by omega) (by rw [hz2]; omega) (by omega)
  have e : madeCells (Value.cells (.int .u32 0)) (n * 1) = (nums .u32 (List.replicate n 0)).toArray := by
    apply Array.toList_inj.1
    rw [show Value.cells (.int .u32 0) = #[.int .u32 0] from rfl, Nat.mul_one, toList_madeCells_one]
    simp [nums]
  rw [hr, Int.toNat_natCast, hz1, e]


/-- A slice that reads as a list of which Q is said; what was there before the call is as it was. -/
def OutP (k : IntKind) (Q : List Nat → Prop) (w : World) (e : Ending) (w' : World) : Prop :=
  ∃ A c ys, e = .returned (.slice A ys.length c) ∧ ys.length ≤ c ∧ Rd k w' A ys ∧ Below w.heap.size w w' ∧ Q ys

theorem OutP.of_take {k : IntKind} {Q : List Nat → Prop} {w w' : World} {A : Option Addr} {c m : Nat} {fin : List Nat} (hm : m ≤ fin.length) (hc : m ≤ c) (hr : Rd k w' A fin) (hb : Below w.heap.size w w')
    (hq : Q (fin.take m)) : OutP k Q w (.returned (.slice A m c)) w' := by
  have hl : (fin.take m).length = m := by rw [List.length_take, Nat.min_eq_left hm]
  exact ⟨A, c, fin.take m, by rw [hl], by rw [hl]; exact hc, hr.take hm, hb, hq⟩

set_option maxHeartbeats 800000 in
theorem add_ge (L S : Option Addr) (lc sc : Nat) (ls ss : List Nat) (w : World) (hL : Rd .u32 w L ls) (hS : Rd .u32 w S ss) (bl : ls.length ≤ 100000) (hle : ss.length ≤ ls.length)
    (dl : Dig 4294967296 ls) (ds : Dig 4294967296 ss) :
    Calls Tryd.prog 51 #[.slice L ls.length lc, .slice S ss.length sc] w
      (OutP .u32 (fun ys => val 4294967296 ys = val 4294967296 ls + val 4294967296 ss ∧ Nrm ys ∧ Dig 4294967296 ys ∧ ys.length ≤ ls.length + 1) w) := by
  have hb : decide (ls.length < ss.length) = false := by simp; omega
  have hmk := fun W => make_u32 (ls.length + 1) ((ls.length : Int) + 1) (by omega) (by omega) W
  go_enter Tryd.func51, Tryd.ntmps51
  go_wp2
  clear hmk
  go_loopw [6, 7, 8, 23] (fun cy _ _ i wr => ∃ k c : Nat, ∃ cur : List Nat, k ≤ ss.length ∧ i = .int .i64 k ∧ cy = .int .u32 c ∧ c ≤ 1 ∧ cur.length = ls.length + 1 ∧ Dig 4294967296 cur ∧
      val 4294967296 (cur.take k) + 4294967296 ^ k * c = val 4294967296 (ls.take k) + val 4294967296 (ss.take k) ∧ Row .u32 55 wr w.heap.size cur ∧ Below w.heap.size w wr) (fun _ _ _ i _ => ss.length - (intOf i).toNat)
  case atStart => exact ⟨0, 0, _, Nat.zero_le _, rfl, rfl, by omega, List.length_replicate, Dig.zeros (by omega) _, by simp [val], Row.new _ _, (Below.refl _ _).alloc (Nat.le_refl _) _⟩
  case round =>
    obtain ⟨k, c, cur, hk, rfl, rfl, hc1, hcl, hdc, hv, hrow, hbw⟩ := hrel
    have HV := Lib.hid hv
    have HCL := Lib.hid hcl
    clear hv hcl
    by_cases hlt : k < ss.length
    · obtain ⟨ad, x, rfl, hbx, ex, cx⟩ := (hL.below hbw).ask (i := k) (by omega)
      obtain ⟨bd, y, rfl, hby, ey, cy⟩ := (hS.below hbw).ask hlt
      have hkc : k < cur.length := by have := HCL.out; omega
      have hcell := hrow.cell hkc
      have hfr := hrow.frozen k
      have hxl : x < 4294967296 := by rw [← ex.out]; exact dig_getD dl (by omega) k
      have hyl : y < 4294967296 := by rw [← ey.out]; exact dig_getD ds (by omega) k
      go_wp2_with (go_at_call 74; refine (add32_ _ _ _ _ hxl hyl (by omega)).mono ?_; rintro e w1 ⟨s, d, hs, hd, hsd, rfl, rfl⟩)
      go_roundw
      case rel => exact ⟨k + 1, d, _, by omega, by go_num, rfl, hd, by rw [List.length_set]; exact HCL.out, hdc.set k hs, add_step _ k s c d x y cur ls ss hkc (by omega) hlt ex.out ey.out hsd.out HV.out, hrow.set_ k _, hbw.setCell (Nat.le_refl _) _⟩
      case measure => simp [intOf]; omega
    · obtain rfl : k = ss.length := by omega
      go_wp2
      go_loopw [6, 9] (fun cy i wr => ∃ k c : Nat, ∃ cur : List Nat, k ≤ ls.length ∧ i = .int .i64 k ∧ cy = .int .u32 c ∧ c ≤ 1 ∧ cur.length = ls.length + 1 ∧ Dig 4294967296 cur ∧
          val 4294967296 (cur.take k) + 4294967296 ^ k * c = val 4294967296 (ls.take k) + val 4294967296 ss ∧ Row .u32 55 wr w.heap.size cur ∧ Below w.heap.size w wr) (fun _ i _ => ls.length - (intOf i).toNat)
      case atStart => exact ⟨ss.length, c, cur, hle, rfl, rfl, hc1, HCL.out, hdc, by have := HV.out; rwa [List.take_length (l := ss)] at this, hrow, hbw⟩
      case round =>
        clear hdc hrow hbw HV HCL hk hlt hc1
        obtain ⟨k, c, cur, hk, rfl, rfl, hc1, hcl, hdc, hv, hrow, hbw⟩ := hrel
        have HV := Lib.hid hv
        have HCL := Lib.hid hcl
        clear hv hcl
        by_cases hlt : k < ls.length
        · obtain ⟨ad, x, rfl, hbx, ex, cx⟩ := (hL.below hbw).ask hlt
          have hkc : k < cur.length := by have := HCL.out; omega
          have hcell := hrow.cell hkc
          have hfr := hrow.frozen k
          have hxl : x < 4294967296 := by rw [← ex.out]; exact dig_getD dl (by omega) k
          go_wp2_with (go_at_call 74; refine (add32_ x 0 c _ hxl (by omega) hc1).mono ?_; rintro e w1 ⟨s, d, hs, hd, hsd, rfl, rfl⟩)
          go_roundw
          case rel => exact ⟨k + 1, d, _, by omega, by go_num, rfl, hd, by rw [List.length_set]; exact HCL.out, hdc.set k hs, add_step1 _ k s c d x _ cur ls hkc hlt ex.out (by have := hsd.out; omega) HV.out, hrow.set_ k _, hbw.setCell (Nat.le_refl _) _⟩
          case measure => simp [intOf]; omega
        · obtain rfl : k = ls.length := by omega
          have hkc : ls.length < cur.length := by have := HCL.out; omega
          have hcell := hrow.cell hkc
          have hfr := hrow.frozen ls.length
          have hrow2 := hrow.set_ ls.length c
          have hbw2 := hbw.setCell (p := ⟨w.heap.size, ls.length, none⟩) (Nat.le_refl _) (.int .u32 c)
          have hdc2 : Dig 4294967296 (cur.set ls.length c) := hdc.set _ (by omega)
          have HV2 : Hid (val 4294967296 (cur.set ls.length c) = val 4294967296 ls + val 4294967296 ss) := by
            have h1 := HV.out
            rw [List.take_length] at h1
            show _ = _
            rw [← h1, ← val_set_take _ cur ls.length c hkc, List.take_of_length_le (by rw [List.length_set]; have := HCL.out; omega)]
          have HL2 : Hid ((cur.set ls.length c).length = ls.length + 1) := by show _ = _; rw [List.length_set]; exact HCL.out
          generalize cur.set ls.length c = fin at *
          clear HV HCL
          go_wp2_with (go_at_call 57; refine (trim_u32n _ _ _ fin _ HL2.out hrow2.rd (Nat.le_refl _) (by omega)).mono ?_; rintro e w1 ⟨m, hm, rfl, hv3, hn3, rfl⟩; have HV3 := Lib.hid hv3; clear hv3)
          go_ret
          have hfl := HL2.out
          exact OutP.of_take hm (by omega) hrow2.rd hbw2 ⟨by rw [HV3.out]; exact HV2.out, hn3, hdc2.take m, by rw [List.length_take]; omega⟩

set_option maxHeartbeats 800000 in
theorem add_lt (L S : Option Addr) (lc sc : Nat) (ls ss : List Nat) (w : World) (hL : Rd .u32 w L ls) (hS : Rd .u32 w S ss) (bl : ls.length ≤ 100000) (hle : ss.length < ls.length)
    (dl : Dig 4294967296 ls) (ds : Dig 4294967296 ss) :
    Calls Tryd.prog 51 #[.slice S ss.length sc, .slice L ls.length lc] w
      (OutP .u32 (fun ys => val 4294967296 ys = val 4294967296 ls + val 4294967296 ss ∧ Nrm ys ∧ Dig 4294967296 ys ∧ ys.length ≤ ls.length + 1) w) := by
  have hb : decide (ss.length < ls.length) = true := by simp; omega
  have hmk := fun W => make_u32 (ls.length + 1) ((ls.length : Int) + 1) (by omega) (by omega) W
  go_enter Tryd.func51, Tryd.ntmps51
  go_wp2
  clear hmk
  go_loopw [6, 7, 8, 23] (fun cy _ _ i wr => ∃ k c : Nat, ∃ cur : List Nat, k ≤ ss.length ∧ i = .int .i64 k ∧ cy = .int .u32 c ∧ c ≤ 1 ∧ cur.length = ls.length + 1 ∧ Dig 4294967296 cur ∧
      val 4294967296 (cur.take k) + 4294967296 ^ k * c = val 4294967296 (ls.take k) + val 4294967296 (ss.take k) ∧ Row .u32 55 wr w.heap.size cur ∧ Below w.heap.size w wr) (fun _ _ _ i _ => ss.length - (intOf i).toNat)
  case atStart => exact ⟨0, 0, _, Nat.zero_le _, rfl, rfl, by omega, List.length_replicate, Dig.zeros (by omega) _, by simp [val], Row.new _ _, (Below.refl _ _).alloc (Nat.le_refl _) _⟩
  case round =>
    obtain ⟨k, c, cur, hk, rfl, rfl, hc1, hcl, hdc, hv, hrow, hbw⟩ := hrel
    have HV := Lib.hid hv
    have HCL := Lib.hid hcl
    clear hv hcl
    by_cases hlt : k < ss.length
    · obtain ⟨ad, x, rfl, hbx, ex, cx⟩ := (hL.below hbw).ask (i := k) (by omega)
      obtain ⟨bd, y, rfl, hby, ey, cy⟩ := (hS.below hbw).ask hlt
      have hkc : k < cur.length := by have := HCL.out; omega
      have hcell := hrow.cell hkc
      have hfr := hrow.frozen k
      have hxl : x < 4294967296 := by rw [← ex.out]; exact dig_getD dl (by omega) k
      have hyl : y < 4294967296 := by rw [← ey.out]; exact dig_getD ds (by omega) k
      go_wp2_with (go_at_call 74; refine (add32_ _ _ _ _ hxl hyl (by omega)).mono ?_; rintro e w1 ⟨s, d, hs, hd, hsd, rfl, rfl⟩)
      go_roundw
      case rel => exact ⟨k + 1, d, _, by omega, by go_num, rfl, hd, by rw [List.length_set]; exact HCL.out, hdc.set k hs, add_step _ k s c d x y cur ls ss hkc (by omega) hlt ex.out ey.out hsd.out HV.out, hrow.set_ k _, hbw.setCell (Nat.le_refl _) _⟩
      case measure => simp [intOf]; omega
    · obtain rfl : k = ss.length := by omega
      go_wp2
      go_loopw [6, 9] (fun cy i wr => ∃ k c : Nat, ∃ cur : List Nat, k ≤ ls.length ∧ i = .int .i64 k ∧ cy = .int .u32 c ∧ c ≤ 1 ∧ cur.length = ls.length + 1 ∧ Dig 4294967296 cur ∧
          val 4294967296 (cur.take k) + 4294967296 ^ k * c = val 4294967296 (ls.take k) + val 4294967296 ss ∧ Row .u32 55 wr w.heap.size cur ∧ Below w.heap.size w wr) (fun _ i _ => ls.length - (intOf i).toNat)
      case atStart => exact ⟨ss.length, c, cur, Nat.le_of_lt hle, rfl, rfl, hc1, HCL.out, hdc, by have := HV.out; rwa [List.take_length (l := ss)] at this, hrow, hbw⟩
      case round =>
        clear hdc hrow hbw HV HCL hk hlt hc1
        obtain ⟨k, c, cur, hk, rfl, rfl, hc1, hcl, hdc, hv, hrow, hbw⟩ := hrel
        have HV := Lib.hid hv
        have HCL := Lib.hid hcl
        clear hv hcl
        by_cases hlt : k < ls.length
        · obtain ⟨ad, x, rfl, hbx, ex, cx⟩ := (hL.below hbw).ask hlt
          have hkc : k < cur.length := by have := HCL.out; omega
          have hcell := hrow.cell hkc
          have hfr := hrow.frozen k
          have hxl : x < 4294967296 := by rw [← ex.out]; exact dig_getD dl (by omega) k
          go_wp2_with (go_at_call 74; refine (add32_ x 0 c _ hxl (by omega) hc1).mono ?_; rintro e w1 ⟨s, d, hs, hd, hsd, rfl, rfl⟩)
          go_roundw
          case rel => exact ⟨k + 1, d, _, by omega, by go_num, rfl, hd, by rw [List.length_set]; exact HCL.out, hdc.set k hs, add_step1 _ k s c d x _ cur ls hkc hlt ex.out (by have := hsd.out; omega) HV.out, hrow.set_ k _, hbw.setCell (Nat.le_refl _) _⟩
          case measure => simp [intOf]; omega
        · obtain rfl : k = ls.length := by omega
          have hkc : ls.length < cur.length := by have := HCL.out; omega
          have hcell := hrow.cell hkc
          have hfr := hrow.frozen ls.length
          have hrow2 := hrow.set_ ls.length c
          have hbw2 := hbw.setCell (p := ⟨w.heap.size, ls.length, none⟩) (Nat.le_refl _) (.int .u32 c)
          have hdc2 : Dig 4294967296 (cur.set ls.length c) := hdc.set _ (by omega)
          have HV2 : Hid (val 4294967296 (cur.set ls.length c) = val 4294967296 ls + val 4294967296 ss) := by
            have h1 := HV.out
            rw [List.take_length] at h1
            show _ = _
            rw [← h1, ← val_set_take _ cur ls.length c hkc, List.take_of_length_le (by rw [List.length_set]; have := HCL.out; omega)]
          have HL2 : Hid ((cur.set ls.length c).length = ls.length + 1) := by show _ = _; rw [List.length_set]; exact HCL.out
          generalize cur.set ls.length c = fin at *
          clear HV HCL
          go_wp2_with (go_at_call 57; refine (trim_u32n _ _ _ fin _ HL2.out hrow2.rd (Nat.le_refl _) (by omega)).mono ?_; rintro e w1 ⟨m, hm, rfl, hv3, hn3, rfl⟩; have HV3 := Lib.hid hv3; clear hv3)
          go_ret
          have hfl := HL2.out
          exact OutP.of_take hm (by omega) hrow2.rd hbw2 ⟨by rw [HV3.out]; exact HV2.out, hn3, hdc2.take m, by rw [List.length_take]; omega⟩

/-- nat.add: the sum of the numbers. -/
theorem add_any (A B : Option Addr) (c d : Nat) (xs ys : List Nat) (w : World) (hx : Rd .u32 w A xs) (hy : Rd .u32 w B ys) (bx : xs.length ≤ 100000) (by_ : ys.length ≤ 100000)
    (dx : Dig 4294967296 xs) (dy : Dig 4294967296 ys) :
    Calls Tryd.prog 51 #[.slice A xs.length c, .slice B ys.length d] w
      (OutP .u32 (fun zs => val 4294967296 zs = val 4294967296 xs + val 4294967296 ys ∧ Nrm zs ∧ Dig 4294967296 zs ∧ zs.length ≤ max xs.length ys.length + 1) w) := by
  rcases Nat.lt_or_ge xs.length ys.length with h | h
  · refine (add_lt B A d c ys xs w hy hx by_ h dy dx).mono fun e w' => ?_
    rintro ⟨A, c, zs, he, hc, hr, hb, h1, h2, h3, h4⟩
    exact ⟨A, c, zs, he, hc, hr, hb, by omega, h2, h3, by omega⟩
  · refine (add_ge A B c d xs ys w hx hy bx h dx dy).mono fun e w' => ?_
    rintro ⟨A, c, zs, he, hc, hr, hb, h1, h2, h3, h4⟩
    exact ⟨A, c, zs, he, hc, hr, hb, h1, h2, h3, by omega⟩
end Go.Proofs.YtllcegiaojchdaaDoor

