/- nat.takeTimes and nat.addBack: a multiple of the divisor is taken from a window of the rest, or given back. -/
import Derived.Test.YtdonbgjmcbhecaaGreatDoorPMR9
namespace Go.Proofs.YtdonbgjmcbhecaaGreatDoor
open Go.RowKit V

theorem seg_get {pre win post : List Nat} {i k : Nat} (hi : pre.length = i) (hk : k < win.length) : (pre ++ (win ++ post)).getD (i + k) 0 = win.getD k 0 := by
  rw [List.getD_eq_getElem?_getD, List.getD_eq_getElem?_getD, List.getElem?_append_right (by omega), List.getElem?_append_left (by omega), show i + k - pre.length = k by omega]
theorem seg_set {pre win post : List Nat} {i k s : Nat} (hi : pre.length = i) (hk : k < win.length) : (pre ++ (win ++ post)).set (i + k) s = pre ++ (win.set k s ++ post) := by
  rw [List.set_append, if_neg (by omega), List.set_append, if_pos (by omega), show i + k - pre.length = k by omega]
theorem seg_len {pre win post : List Nat} {i : Nat} (hi : pre.length = i) : (pre ++ (win ++ post)).length = i + (win.length + post.length) := by simp [hi]
/-- One step of taking a multiple. -/
theorem take_step (B k s c c' b b' x v f : Nat) (cur ls ss : List Nat) (hk : k < cur.length) (hl : k < ls.length) (hs : k < ss.length) (ex : ls.getD k 0 = x) (ev : ss.getD k 0 = v)
    (e : s + v * f + c + b = x + B * (c' + b')) (hv : val B (cur.take k) + f * val B (ss.take k) = val B (ls.take k) + B ^ k * (c + b)) :
    val B ((cur.set k s).take (k + 1)) + f * val B (ss.take (k + 1)) = val B (ls.take (k + 1)) + B ^ (k + 1) * (c' + b') := by
  rw [val_set_take B cur k s hk, val_take_succ B ls k hl, val_take_succ B ss k hs, ex, ev, Nat.pow_succ, Nat.mul_assoc]
  have h := congrArg (B ^ k * ·) e
  have h2 : f * (val B (ss.take k) + B ^ k * v) = f * val B (ss.take k) + B ^ k * (v * f) := by
    rw [Nat.mul_add, Nat.mul_left_comm, Nat.mul_comm f v]
  rw [h2]
  simp only [Nat.mul_add] at h hv ⊢
  omega
theorem take_end (B k s c b b' x t : Nat) (cur ls : List Nat) (hk : cur.length = k + 1) (hl : ls.length = k + 1) (ex : ls.getD k 0 = x)
    (e : s + c + b = x + B * b') (hv : val B (cur.take k) + t = val B (ls.take k) + B ^ k * (c + b)) :
    val B (cur.set k s) + t = val B ls + B ^ (k + 1) * b' := by
  have h1 := val_set_take B cur k s (by omega)
  rw [List.take_of_length_le (by rw [List.length_set]; omega)] at h1
  have h2 := val_take_succ B ls k (by omega)
  rw [List.take_of_length_le (by omega), ex] at h2
  rw [h1, h2, Nat.pow_succ, Nat.mul_assoc]
  have h := congrArg (B ^ k * ·) e
  simp only [Nat.mul_add] at h hv ⊢
  omega

theorem OnlyAt.cell_ {g : Nat} {w w' : World} {p : Addr} (h : OnlyAt (some ⟨g, 0, none⟩) w w') (hp : g ≠ p.block) : w'.cell? p = w.cell? p :=
  World.cell?_of_block (h.block p.block fun ad e => by injection e with e; subst e; exact hp)
theorem OnlyAt.row {k : IntKind} {t : TypeId} {g g2 : Nat} {w w' : World} {xs : List Nat} (h : OnlyAt (some ⟨g, 0, none⟩) w w') (hr : Row k t w g2 xs) (hne : g ≠ g2) : Row k t w' g2 xs :=
  (h.block g2 fun ad e => by injection e with e; subst e; exact hne).trans hr

/-- What is left in the window, and whether it was too much. -/
def TakeP (g : Nat) (pre win post ds : List Nat) (f : Nat) (w : World) (e : Ending) (w' : World) : Prop :=
  ∃ b : Nat, ∃ win', b ≤ 1 ∧ e = .returned (.bool (decide (b = 1))) ∧ win'.length = win.length ∧ Dig 4294967296 win' ∧ Hid (val 4294967296 win' + f * val 4294967296 ds = val 4294967296 win + 4294967296 ^ win.length * b) ∧
    Row .u32 109 w' g (pre ++ (win' ++ post)) ∧ OnlyAt (some ⟨g, 0, none⟩) w w'

set_option maxHeartbeats 1000000 in
theorem take_any (g i n f c d : Nat) (B : Option Addr) (pre win post ds : List Nat) (w : World) (hrow : Row .u32 109 w g (pre ++ (win ++ post))) (hi : pre.length = i) (hwl : win.length = n + 1) (hdl : ds.length = n)
    (hy : Rd .u32 w B ds) (hB : ∀ b, B = some b → 0 < n → b.block < g) (bl : i + n ≤ 200000) (hf : f < 4294967296) (dw : Dig 4294967296 win) (dd : Dig 4294967296 ds) :
    Calls Tryz.prog 342 #[.slice (some ⟨g, i, none⟩) (n + 1) c, .slice B n d, .int .u32 f] w (TakeP g pre win post ds f w) := by
  have HI := Lib.hid hi
  have HWL := Lib.hid hwl
  have HDL := Lib.hid hdl
  clear hi hwl hdl
  go_enter Tryz.func342, Tryz.ntmps342
  go_wp2
  go_loopw [7, 8, 9, 10, 11, 14] (fun cv bv _ _ _ kv wr => ∃ k c b : Nat, ∃ win', k ≤ n ∧ kv = .int .i64 k ∧ cv = .int .u64 c ∧ bv = .int .u32 b ∧ c < 4294967296 ∧ b ≤ 1 ∧ win'.length = n + 1 ∧ Dig 4294967296 win' ∧
      val 4294967296 (win'.take k) + f * val 4294967296 (ds.take k) = val 4294967296 (win.take k) + 4294967296 ^ k * (c + b) ∧ (∀ j, k ≤ j → win'.getD j 0 = win.getD j 0) ∧ Row .u32 109 wr g (pre ++ (win' ++ post)) ∧ OnlyAt (some ⟨g, 0, none⟩) w wr) (fun _ _ _ _ _ kv _ => n - (intOf kv).toNat)
  case atStart => exact ⟨0, 0, 0, win, Nat.zero_le _, rfl, rfl, rfl, by omega, by omega, HWL.out, dw, by simp [val], fun _ _ => rfl, hrow, OnlyAt.refl _ _⟩
  case round =>
    obtain ⟨k, c, b, win', hk, rfl, rfl, rfl, hc, hb, hwl, hdw, hv, hout, hrow', hbw⟩ := hrel
    have HV := Lib.hid hv
    have HL := Lib.hid hwl
    have HO := Lib.hid hout
    have hkw : k < win'.length := by omega
    clear hv hwl hout
    obtain ⟨x, ex⟩ : ∃ x, Hid (win.getD k 0 = x) := ⟨_, rfl⟩
    have hxl : x < 4294967296 := by rw [← ex.out]; exact dig_getD dw (by omega) k
    have hcell : wr.cell? ⟨g, i + k, none⟩ = some (.int .u32 x) := by
      have h1 := hrow'.cell (i := i + k) (by rw [seg_len HI.out]; omega)
      rwa [seg_get HI.out hkw, HO.out k (Nat.le_refl _), ex.out] at h1
    have hfr := hrow'.frozen (i + k)
    by_cases hlt : k < n
    · obtain ⟨bd, v, rfl, hby, ev, cv⟩ := hy.ask (i := k) (by rw [HDL.out]; exact hlt)
      have hbg : bd.block < g := hB bd rfl (by omega)
      have cv' : wr.cell? (bd.add k) = some (.int .u32 v) := (hbw.cell_ (by rw [block_of_add]; exact Nat.ne_of_gt hbg)).trans cv
      have hvl : v < 4294967296 := by rw [← ev.out]; exact dig_getD dd (by omega) k
      obtain ⟨t, c2, ht, hc2, hlim, et, ec, hsc⟩ := carry_facts v f c hvl hf hc
      have hlimI : (v : Int) * f + c < 18446744073709551616 := by
        have e : ((v * f + c : Nat) : Int) = (v : Int) * f + c := by simp
        rw [← e]; omega
      have hm0 : (0 : Int) ≤ (v : Int) * f := Int.mul_nonneg (by omega) (by omega)
      have et' := et.out
      clear hlim
      go_wp2_with (go_at_call 348; refine (sub32_ x t b _ hxl ht hb).mono ?_; rintro e w1 ⟨s, d2, hs, hd2, hsd, rfl, rfl⟩)
      go_roundw
      case rel =>
        exact ⟨k + 1, c2, d2, win'.set k s, by omega, by go_num, by rw [ec.out], rfl, hc2, hd2, by rw [List.length_set]; exact HL.out, hdw.set _ hs,
          take_step _ k s c c2 b d2 x v f win' win ds hkw (by have := HWL.out; omega) (by rw [HDL.out]; exact hlt) ex.out ev.out (by have h1 := hsd.out; have h2 := hsc.out; omega) HV.out,
          fun j hj => by rw [getD_set _ _ _ _ hkw, if_neg (by omega)]; exact HO.out j (by omega),
          by have := hrow'.set_ (i + k) s; rwa [seg_set HI.out hkw] at this, hbw.setCell rfl _⟩
      case measure => simp [intOf]; omega
    · obtain rfl : k = n := by omega
      go_wp2_with (go_at_call 348; refine (sub32_ x c b _ hxl hc hb).mono ?_; rintro e w1 ⟨s, d2, hs, hd2, hsd, rfl, rfl⟩)
      go_ret
      have hbl : Ending.returned (.bool ((d2 : Int) != 0)) = .returned (.bool (decide (d2 = 1))) := by
        rcases Nat.le_one_iff_eq_zero_or_eq_one.1 hd2 with h | h
        · subst h; rfl
        · subst h; rfl
      refine ⟨d2, win'.set k s, hd2, hbl, by rw [List.length_set, HL.out, HWL.out], hdw.set _ hs, ?_, ?_, hbw.setCell rfl _⟩
      · show _ = _
        have h1 := HV.out
        rw [List.take_of_length_le (l := ds) (by rw [HDL.out]; exact Nat.le_refl _)] at h1
        rw [HWL.out]
        exact take_end _ k s c b d2 x _ win' win HL.out HWL.out ex.out hsd.out h1
      · have := hrow'.set_ (i + k) s
        rwa [seg_set HI.out hkw] at this

/-- The divisor is added back. -/
def BackP (g : Nat) (pre win post ds : List Nat) (w : World) (e : Ending) (w' : World) : Prop :=
  ∃ b : Nat, ∃ win', b ≤ 1 ∧ e = .returned (.tuple #[]) ∧ win'.length = win.length ∧ Dig 4294967296 win' ∧ Hid (val 4294967296 win' + 4294967296 ^ win.length * b = val 4294967296 win + val 4294967296 ds) ∧
    Row .u32 109 w' g (pre ++ (win' ++ post)) ∧ OnlyAt (some ⟨g, 0, none⟩) w w'
theorem back_end (B k s c c' x t : Nat) (cur ls : List Nat) (hk : cur.length = k + 1) (hl : ls.length = k + 1) (ex : ls.getD k 0 = x)
    (e : s + B * c' = x + c) (hv : val B (cur.take k) + B ^ k * c = val B (ls.take k) + t) :
    val B (cur.set k s) + B ^ (k + 1) * c' = val B ls + t := by
  have h1 := val_set_take B cur k s (by omega)
  rw [List.take_of_length_le (by rw [List.length_set]; omega)] at h1
  have h2 := val_take_succ B ls k (by omega)
  rw [List.take_of_length_le (by omega), ex] at h2
  rw [h1, h2, Nat.pow_succ, Nat.mul_assoc]
  have h := congrArg (B ^ k * ·) e
  simp only [Nat.mul_add] at h hv ⊢
  omega

set_option maxHeartbeats 1000000 in
theorem back_any (g i n c d : Nat) (B : Option Addr) (pre win post ds : List Nat) (w : World) (hrow : Row .u32 109 w g (pre ++ (win ++ post))) (hi : pre.length = i) (hwl : win.length = n + 1) (hdl : ds.length = n)
    (hy : Rd .u32 w B ds) (hB : ∀ b, B = some b → 0 < n → b.block < g) (bl : i + n ≤ 200000) (dw : Dig 4294967296 win) (dd : Dig 4294967296 ds) :
    Calls Tryz.prog 343 #[.slice (some ⟨g, i, none⟩) (n + 1) c, .slice B n d] w (BackP g pre win post ds w) := by
  have HI := Lib.hid hi
  have HWL := Lib.hid hwl
  have HDL := Lib.hid hdl
  clear hi hwl hdl
  go_enter Tryz.func343, Tryz.ntmps343
  go_wp2
  go_loopw [4, 5, 6, 9] (fun cv _ _ kv wr => ∃ k c : Nat, ∃ win', k ≤ n ∧ kv = .int .i64 k ∧ cv = .int .u32 c ∧ c ≤ 1 ∧ win'.length = n + 1 ∧ Dig 4294967296 win' ∧
      val 4294967296 (win'.take k) + 4294967296 ^ k * c = val 4294967296 (win.take k) + val 4294967296 (ds.take k) ∧ (∀ j, k ≤ j → win'.getD j 0 = win.getD j 0) ∧ Row .u32 109 wr g (pre ++ (win' ++ post)) ∧ OnlyAt (some ⟨g, 0, none⟩) w wr) (fun _ _ _ kv _ => n - (intOf kv).toNat)
  case atStart => exact ⟨0, 0, win, Nat.zero_le _, rfl, rfl, by omega, HWL.out, dw, by simp [val], fun _ _ => rfl, hrow, OnlyAt.refl _ _⟩
  case round =>
    obtain ⟨k, c, win', hk, rfl, rfl, hc, hwl, hdw, hv, hout, hrow', hbw⟩ := hrel
    have HV := Lib.hid hv
    have HL := Lib.hid hwl
    have HO := Lib.hid hout
    have hkw : k < win'.length := by omega
    clear hv hwl hout
    obtain ⟨x, ex⟩ : ∃ x, Hid (win.getD k 0 = x) := ⟨_, rfl⟩
    have hxl : x < 4294967296 := by rw [← ex.out]; exact dig_getD dw (by omega) k
    have hcell : wr.cell? ⟨g, i + k, none⟩ = some (.int .u32 x) := by
      have h1 := hrow'.cell (i := i + k) (by rw [seg_len HI.out]; omega)
      rwa [seg_get HI.out hkw, HO.out k (Nat.le_refl _), ex.out] at h1
    have hfr := hrow'.frozen (i + k)
    by_cases hlt : k < n
    · obtain ⟨bd, v, rfl, hby, ev, cv⟩ := hy.ask (i := k) (by rw [HDL.out]; exact hlt)
      have hbg : bd.block < g := hB bd rfl (by omega)
      have cv' : wr.cell? (bd.add k) = some (.int .u32 v) := (hbw.cell_ (by rw [block_of_add]; exact Nat.ne_of_gt hbg)).trans cv
      have hvl : v < 4294967296 := by rw [← ev.out]; exact dig_getD dd (by omega) k
      go_wp2_with (go_at_call 349; refine (add32_ x v c _ hxl hvl hc).mono ?_; rintro e w1 ⟨s, d2, hs, hd2, hsd, rfl, rfl⟩)
      go_roundw
      case rel =>
        exact ⟨k + 1, d2, win'.set k s, by omega, by go_num, rfl, hd2, by rw [List.length_set]; exact HL.out, hdw.set _ hs,
          add_step _ k s c d2 x v win' win ds hkw (by have := HWL.out; omega) (by rw [HDL.out]; exact hlt) ex.out ev.out hsd.out HV.out,
          fun j hj => by rw [getD_set _ _ _ _ hkw, if_neg (by omega)]; exact HO.out j (by omega),
          by have := hrow'.set_ (i + k) s; rwa [seg_set HI.out hkw] at this, hbw.setCell rfl _⟩
      case measure => simp [intOf]; omega
    · obtain rfl : k = n := by omega
      obtain ⟨s, d2, hs, hd2, es, hsd⟩ : ∃ s d2 : Nat, s < 4294967296 ∧ d2 ≤ 1 ∧ Hid (((x : Int) + c) % 4294967296 = s) ∧ Hid (s + 4294967296 * d2 = x + c) :=
        ⟨(x + c) % 4294967296, (x + c) / 4294967296, Nat.mod_lt _ (by omega), by omega, by show _ = _; omega, by show _ = _; omega⟩
      go_wp2
      go_end0
      refine ⟨d2, win'.set k s, hd2, rfl, by rw [List.length_set, HL.out, HWL.out], hdw.set _ hs, ?_, ?_, hbw.setCell rfl _⟩
      · show _ = _
        have h1 := HV.out
        rw [List.take_of_length_le (l := ds) (by rw [HDL.out]; exact Nat.le_refl _)] at h1
        rw [HWL.out]
        exact back_end _ k s c d2 x _ win' win HL.out HWL.out ex.out hsd.out h1
      · have := hrow'.set_ (i + k) s
        rw [seg_set HI.out hkw] at this
        rw [es.out]
        exact this
end Go.Proofs.YtdonbgjmcbhecaaGreatDoor

