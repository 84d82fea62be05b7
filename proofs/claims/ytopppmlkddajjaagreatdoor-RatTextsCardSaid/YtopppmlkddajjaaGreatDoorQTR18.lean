/- Texts of rational numbers: plain facts. -/
import Derived.Test.YtopppmlkddajjaaGreatDoorQTR17
import Derived.Lib.CutLaws
import Derived.Lib.Strings
namespace Go.Proofs.YtopppmlkddajjaaGreatDoor
open Go.RowKit V

theorem index_miss {c : UInt8} : ∀ {l : List UInt8}, c ∉ l → Lib.index l [c] = -1
  | [], _ => rfl
  | b :: l, h => by
    have h1 : ([c].isPrefixOf (b :: l)) = false := by
      have : (c == b) = false := beq_eq_false_iff_ne.2 (fun e => h (by simp [e]))
      simp [List.isPrefixOf, this]
    have ih := index_miss (l := l) (c := c) (fun hm => h (List.mem_cons_of_mem _ hm))
    unfold Lib.index
    rw [h1, ih]; rfl
theorem index_found {c : UInt8} : ∀ {p q : List UInt8}, c ∉ p → Lib.index (p ++ c :: q) [c] = p.length
  | [], q, _ => by
    show Lib.index (c :: q) [c] = _
    unfold Lib.index
    rw [if_pos (by simp [List.isPrefixOf])]; rfl
  | b :: p, q, h => by
    have h1 : ([c].isPrefixOf (b :: (p ++ c :: q))) = false := by
      have : (c == b) = false := beq_eq_false_iff_ne.2 (fun e => h (by simp [e]))
      simp [List.isPrefixOf, this]
    have ih := index_found (p := p) (q := q) (c := c) (fun hm => h (List.mem_cons_of_mem _ hm))
    show Lib.index (b :: (p ++ c :: q)) [c] = _
    unfold Lib.index
    rw [h1, ih]
    have : ((p.length : Int) == -1) = false := by rw [beq_eq_false_iff_ne]; omega
    simp [this]
theorem cut_miss {l : List UInt8} {c : UInt8} (h : c ∉ l) : Lib.cut l [c] = (l, [], false) := by
  unfold Lib.cut
  rw [index_miss h, if_neg (by omega)]
theorem cut_found {p q : List UInt8} {c : UInt8} (h : c ∉ p) : Lib.cut (p ++ c :: q) [c] = (p, q, true) := by
  unfold Lib.cut
  rw [index_found h, if_pos (by omega)]
  simp
theorem first_mark (l : List UInt8) (c : UInt8) (h : c ∈ l) : ∃ p q, l = p ++ c :: q ∧ c ∉ p := by
  induction l with
  | nil => simp at h
  | cons b l ih =>
    by_cases e : b = c
    · exact ⟨[], l, by simp [e], by simp⟩
    · obtain ⟨p, q, h1, h2⟩ := ih (by simpa [Ne.symm e] using h)
      exact ⟨b :: p, q, by simp [h1], by simp [h2, Ne.symm e]⟩
theorem AllD.no {l : List UInt8} (h : AllD l) {c : UInt8} (hc : c.toNat < 48) : c ∉ l := fun hm => by
  have := (h c hm).1
  omega
theorem allD_app {p q : List UInt8} : AllD (p ++ q) ↔ AllD p ∧ AllD q := by
  constructor
  · intro h
    exact ⟨fun c hc => h c (List.mem_append_left _ hc), fun c hc => h c (List.mem_append_right _ hc)⟩
  · rintro ⟨h1, h2⟩ c hc
    rcases List.mem_append.1 hc with h | h
    · exact h1 c h
    · exact h2 c h
/-- One or more digits. -/
def Digs (l : List UInt8) : Prop := AllD l ∧ 0 < l.length
theorem Digs.s {l : List UInt8} (h : Digs l) : AllD (⟨l.toArray⟩ : ByteArray).data.toList ∧ 0 < (⟨l.toArray⟩ : ByteArray).size := h
/-- A text without a sign, and its fraction. -/
inductive Txt : List UInt8 → Nat → Nat → Prop
  | int (l : List UInt8) : Digs l → Txt l (dnum l) 1
  | frac (p q : List UInt8) : Digs p → Digs q → Txt (p ++ 47 :: q) (dnum p) (dnum q)
  | dec (p q : List UInt8) : Digs p → Digs q → Txt (p ++ 46 :: q) (dnum (p ++ q)) (10 ^ q.length)
/-- A text without a sign that is none. -/
def NoTxt (l : List UInt8) : Prop := ∀ n d, ¬ Txt l n d
/-- How a text that is none is refused: by the first slash; by the first point, without a slash; without either. -/
theorem noTxt_slash {p q : List UInt8} (h : NoTxt (p ++ 47 :: q)) : ¬ Digs p ∨ (Digs p ∧ ¬ Digs q) := by
  by_cases h1 : Digs p
  · exact Or.inr ⟨h1, fun h2 => h _ _ (Txt.frac p q h1 h2)⟩
  · exact Or.inl h1
theorem noTxt_point {p q : List UInt8} (h : NoTxt (p ++ 46 :: q)) : p.length = 0 ∨ (0 < p.length ∧ q.length = 0) ∨ (0 < p.length ∧ 0 < q.length ∧ ¬ AllD (p ++ q)) := by
  rcases Nat.eq_zero_or_pos p.length with h1 | h1
  · exact Or.inl h1
  · rcases Nat.eq_zero_or_pos q.length with h2 | h2
    · exact Or.inr (Or.inl ⟨h1, h2⟩)
    · exact Or.inr (Or.inr ⟨h1, h2, fun h3 => h _ _ (Txt.dec p q ⟨(allD_app.1 h3).1, h1⟩ ⟨(allD_app.1 h3).2, h2⟩)⟩)
theorem noTxt_plain {l : List UInt8} (h : NoTxt l) : ¬ Digs l := fun h1 => h _ _ (Txt.int l h1)
/-- The document's first mark. -/
theorem mark_cases (l : List UInt8) : (47 ∉ l ∧ 46 ∉ l) ∨ ∃ p q c, l = p ++ c :: q ∧ (c = 47 ∨ c = 46) ∧ 47 ∉ p ∧ 46 ∉ p := by
  induction l with
  | nil => left; simp
  | cons b l ih =>
    by_cases h1 : b = 47
    · exact Or.inr ⟨[], l, b, rfl, Or.inl h1, by simp, by simp⟩
    · by_cases h2 : b = 46
      · exact Or.inr ⟨[], l, b, rfl, Or.inr h2, by simp, by simp⟩
      · rcases ih with ⟨h3, h4⟩ | ⟨p, q, c, h3, h4, h5, h6⟩
        · exact Or.inl ⟨by simp [Ne.symm h1, h3], by simp [Ne.symm h2, h4]⟩
        · exact Or.inr ⟨b :: p, q, c, by simp [h3], h4, by simp [Ne.symm h1, h5], by simp [Ne.symm h2, h6]⟩
/-- At the document's first mark a text that is none has no digits before or behind it. -/
theorem noTxt_mark {p q : List UInt8} {c : UInt8} (h : NoTxt (p ++ c :: q)) (hc : c = 47 ∨ c = 46) : ¬ Digs p ∨ (Digs p ∧ ¬ Digs q) := by
  by_cases h1 : Digs p
  · refine Or.inr ⟨h1, fun h2 => ?_⟩
    rcases hc with rfl | rfl
    · exact h _ _ (Txt.frac p q h1 h2)
    · exact h _ _ (Txt.dec p q h1 h2)
  · exact Or.inl h1
/-- The sign and the rest of a text. -/
def Sgn (l : List UInt8) (neg : Bool) (t : List UInt8) : Prop := (neg = true ∧ l = 45 :: t) ∨ (neg = false ∧ l = t ∧ ∀ u, t ≠ 45 :: u)
theorem sgn_of (l : List UInt8) : ∃ neg t, Sgn l neg t := by
  cases l with
  | nil => exact ⟨false, [], Or.inr ⟨rfl, rfl, fun u => by simp⟩⟩
  | cons b l =>
    by_cases h : b = 45
    · exact ⟨true, l, Or.inl ⟨rfl, by rw [h]⟩⟩
    · exact ⟨false, b :: l, Or.inr ⟨rfl, rfl, fun u e => h (by injection e)⟩⟩
theorem Sgn.cut {l t : List UInt8} {neg : Bool} (h : Sgn l neg t) : Lib.trimPrefix l [45] = t ∧ Lib.hasPrefix l [45] = neg := by
  rcases h with ⟨rfl, rfl⟩ | ⟨rfl, rfl, h⟩
  · simp [Lib.trimPrefix, Lib.hasPrefix]
  · have : Lib.hasPrefix l [45] = false := by
      unfold Lib.hasPrefix
      cases l with
      | nil => rfl
      | cons b r =>
        have h1 : b ≠ 45 := fun e => h r (by rw [e])
        have h2 : ((45 : UInt8) == b) = false := beq_eq_false_iff_ne.2 (Ne.symm h1)
        simp [List.isPrefixOf, h2]
    exact ⟨by unfold Lib.trimPrefix; rw [this]; rfl, this⟩
theorem Sgn.len {l t : List UInt8} {neg : Bool} (h : Sgn l neg t) : t.length ≤ l.length := by
  rcases h with ⟨rfl, rfl⟩ | ⟨rfl, rfl, h⟩ <;> simp
theorem txt_or (l : List UInt8) : (∃ n d, Txt l n d) ∨ NoTxt l := by
  by_cases h : ∃ n d, Txt l n d
  · exact Or.inl h
  · exact Or.inr fun n d h2 => h ⟨n, d, h2⟩
end Go.Proofs.YtopppmlkddajjaaGreatDoor


/- rat.parts and rat.Parse. -/
namespace Go.Proofs.YtopppmlkddajjaaGreatDoor
open Go.RowKit V

theorem dig_short {zs : List Nat} (mz : Mag zs) {v k : Nat} (hv : V32 zs = v) (h : v ≤ 10 ^ k) : zs.length ≤ k / 8 + 1 := by
  refine short_of_lt mz ?_
  rw [pow_words, hv]
  have h1 : 10 ^ k ≤ 16 ^ k := Nat.pow_le_pow_left (by omega) _
  have h2 : (16 : Nat) ^ k = 2 ^ (4 * k) := by rw [Nat.pow_mul]
  have h3 : 2 ^ (4 * k) < 2 ^ (32 * (k / 8 + 1)) := Nat.pow_lt_pow_right (by omega) (by omega)
  omega
theorem natpow10 (A : Option Addr) (ca k : Nat) (xs : List Nat) (w : World) (hx : Rd .u32 w A xs) (mx : Mag xs) (hl : xs.length ≤ 2) (hv : V32 xs = 10) (hk : k ≤ 20000) :
    Calls Tryz.prog 95 #[.slice A xs.length ca, .int .i64 k] w (OkP (fun zs => V32 zs = 10 ^ k ∧ Mag zs ∧ zs.length ≤ k / 8 + 1) w) := by
  have ox : Ok xs := ⟨by omega, mx.2⟩
  rcases Nat.eq_zero_or_pos k with rfl | h1
  · refine (Pow_zero A ca xs w hx ox).mono fun e w' h => ?_
    obtain ⟨B, c, zs, r1, r2, r3, ⟨r4, r6⟩, r5⟩ := h
    refine ⟨B, c, zs, r1, r2, r3, ⟨by simpa using r4, r6, dig_short r6 r4 (by simp)⟩, r5⟩
  · have hb : IsBits (V32 xs) 4 := by rw [hv]; exact ⟨by decide, fun _ => by decide⟩
    refine (Pow_fit A ca k 4 xs w hx ox mx.1 h1 (by omega) hb (by omega)).mono fun e w' h => ?_
    obtain ⟨B, c, zs, r1, r2, r3, ⟨r4, r6⟩, r5⟩ := h
    rw [hv] at r4
    have hz := dig_short r6 r4 (Nat.le_refl _)
    rcases r5 with ⟨_, r5⟩ | ⟨r5, _⟩
    · exact ⟨B, c, zs, r1, r2, r3, ⟨r4, r6, hz⟩, r5⟩
    · omega
/-- A string of digits, read. -/
theorem parse_digs (l : List UInt8) (w : World) (hl : l.length ≤ 20000) (h : Digs l) :
    Calls Tryz.prog 94 #[.string ⟨l.toArray⟩] w (OkP (fun zs => V32 zs = dnum l ∧ Mag zs ∧ zs.length ≤ l.length / 8 + 1) w) := by
  refine (parse_ok ⟨l.toArray⟩ w (by rw [str_size]; exact hl) h.s.2 h.s.1).mono fun e w' h2 => ?_
  obtain ⟨A, c, zs, r1, r2, r3, ⟨r4, r5⟩, r6⟩ := h2
  exact ⟨A, c, zs, r1, r2, r3, ⟨r4, r5, dig_short r5 r4 (Nat.le_of_lt (dnum_lt l h.1))⟩, r6⟩
theorem parse_none (l : List UInt8) (w : World) (hl : l.length ≤ 20000) (h : ¬ Digs l) :
    Calls Tryz.prog 94 #[.string ⟨l.toArray⟩] w (ErrP 90 w) := by
  rcases Nat.eq_zero_or_pos l.length with h0 | h0
  · exact parse_empty ⟨l.toArray⟩ w (by rw [str_size]; exact h0)
  · exact parse_bad ⟨l.toArray⟩ w (by rw [str_size]; exact hl) (by rw [str_size]; exact h0) (fun h2 => h ⟨h2, h0⟩)
theorem cell_in {w : World} {a : Addr} {v : Value} (h : w.cell? a = some v) : a.block < w.heap.size := by
  rcases Nat.lt_or_ge a.block w.heap.size with h1 | h1
  · exact h1
  · unfold World.cell? at h
    rw [Array.getElem?_eq_none h1] at h
    cases h
/-- Two magnitudes and no error. -/
def PartsOk (n d L : Nat) (w : World) (e : Ending) (w' : World) : Prop :=
  ∃ A c xs B k ys, e = .returned (.tuple #[.slice A (xs : List Nat).length c, .slice B (ys : List Nat).length k, .int .i64 0]) ∧ Rd .u32 w' A xs ∧ Rd .u32 w' B ys ∧ ys.length ≤ k ∧ V32 xs = n ∧ V32 ys = d ∧ Mag xs ∧ Mag ys ∧ xs.length ≤ L ∧ ys.length ≤ L ∧ Below w.heap.size w w'
/-- No number. -/
def PartsErr (w : World) (e : Ending) (w' : World) : Prop := ∃ A n c, e = .returned (.tuple #[.slice A n c, .slice none 0 0, .int .i64 90]) ∧ Below w.heap.size w w'

set_option maxHeartbeats 1600000 in
theorem parts_frac (p q : List UInt8) (m : Int) (w : World) (hp : Digs p) (hq : Digs q) (hl : (p ++ 47 :: q).length ≤ 20000) (hm : w.cell? ⟨1, 0, none⟩ = some (.int .i64 m)) :
    Calls Tryz.prog 65 #[.string ⟨(p ++ 47 :: q).toArray⟩] w (PartsOk (dnum p) (dnum q) ((p ++ 47 :: q).length / 8 + 1) w) := by
  have HC : Hid (Lib.cut (⟨(p ++ 47 :: q).toArray⟩ : ByteArray).data.toList (⟨#[47]⟩ : ByteArray).data.toList = (p, q, true)) := Lib.hid (cut_found (hp.1.no (by decide)))
  have hl1 : p.length ≤ 20000 := by simp at hl; omega
  have hl2 : q.length ≤ 20000 := by simp at hl; omega
  have hl3 : (p ++ 47 :: q).length = p.length + q.length + 1 := by simp; omega
  have HL3 := Lib.hid hl3
  have hsz : (⟨(p ++ 47 :: q).toArray⟩ : ByteArray).size < 4294967281 := by rw [str_size]; omega
  clear hl3 hl
  go_enter Tryz.func65, Tryz.ntmps65
  go_wp2_with fail
  refine (Tryz.strings_Cut ⟨(p ++ 47 :: q).toArray⟩ ⟨#[47]⟩ m _ hsz hm).mono ?_
  rintro e w1 ⟨he, n1, hwe⟩
  have hb1 : Below w.heap.size w w1 := by rw [hwe]; exact below_drew_ (Below.refl _ _) n1
  rw [HC.out] at he
  dsimp only at he
  subst he
  clear hwe hm
  go_wp2_with fail
  refine (parse_digs p _ hl1 hp).mono ?_
  rintro e w2 ⟨A, ca, xs, hX, hxc, hb2, ⟨hvx, mx, lx⟩, rfl⟩
  have HVX := Lib.hid hvx
  clear hvx
  have hw2 := hb1.trans (hb2.mono hb1.size)
  go_wp2_with fail
  refine (parse_digs q _ hl2 hq).mono ?_
  rintro e w3 ⟨B, cb, ys, hY, hyc, hb3, ⟨hvy, my, ly⟩, rfl⟩
  have HVY := Lib.hid hvy
  clear hvy
  go_wp2_with fail
  go_ret3
  have := HL3.out
  exact ⟨A, ca, xs, B, cb, ys, rfl, hX.below hb3, hY, hyc, HVX.out, HVY.out, mx, my, by omega, by omega, hw2.trans (hb3.mono hw2.size)⟩

set_option maxHeartbeats 1600000 in
theorem parts_int (l : List UInt8) (m : Int) (w : World) (hp : Digs l) (hl : l.length ≤ 20000) (hm : w.cell? ⟨1, 0, none⟩ = some (.int .i64 m)) :
    Calls Tryz.prog 65 #[.string ⟨l.toArray⟩] w (PartsOk (dnum l) 1 (l.length / 8 + 1) w) := by
  have HC1 : Hid (Lib.cut (⟨l.toArray⟩ : ByteArray).data.toList (⟨#[47]⟩ : ByteArray).data.toList = (l, [], false)) := Lib.hid (cut_miss (hp.1.no (by decide)))
  have HC2 : Hid (Lib.cut (⟨l.toArray⟩ : ByteArray).data.toList (⟨#[46]⟩ : ByteArray).data.toList = (l, [], false)) := Lib.hid (cut_miss (hp.1.no (by decide)))
  have hsz : (⟨l.toArray⟩ : ByteArray).size < 4294967281 := by rw [str_size]; omega
  have f1 := fun W => run_string_add_lists (P := Tryz.prog) W l [] (by omega) (by simp)
  simp only [List.append_nil] at f1
  go_enter Tryz.func65, Tryz.ntmps65
  go_wp2_with fail
  refine (Tryz.strings_Cut ⟨l.toArray⟩ ⟨#[47]⟩ m _ hsz hm).mono ?_
  rintro e w1 ⟨he, n1, hwe⟩
  have hb1 : Below w.heap.size w w1 := by rw [hwe]; exact below_drew_ (Below.refl _ _) n1
  have hm1 : w1.cell? ⟨1, 0, none⟩ = some (.int .i64 m) := by rw [hwe]; exact hm
  rw [HC1.out] at he
  dsimp only at he
  subst he
  clear hwe hm
  go_wp2_with fail
  refine (Tryz.strings_Cut ⟨l.toArray⟩ ⟨#[46]⟩ m _ hsz hm1).mono ?_
  rintro e w2 ⟨he, n2, hwe⟩
  have hb2 : Below w1.heap.size w1 w2 := by rw [hwe]; exact below_drew_ (Below.refl _ _) n2
  have hw2 := hb1.trans (hb2.mono hb1.size)
  rw [HC2.out] at he
  dsimp only at he
  subst he
  clear hwe hm1
  go_wp2_with fail
  refine (parse_digs l _ hl hp).mono ?_
  rintro e w3 ⟨A, ca, xs, hX, hxc, hb3, ⟨hvx, mx, lx⟩, rfl⟩
  have HVX := Lib.hid hvx
  clear hvx
  have hw3 := hw2.trans (hb3.mono hw2.size)
  go_wp2_with fail
  refine (from_any 10 _ (by omega)).mono ?_
  rintro e w4 ⟨B, cb, ys, rfl, hyc, hY, hb4, hvy, my, ly⟩
  have hw4 := hw3.trans (hb4.mono hw3.size)
  have HVY := Lib.hid hvy
  clear hvy
  go_wp2_with fail
  refine (natpow10 B cb 0 ys _ hY my ly HVY.out (by omega)).mono ?_
  rintro e w5 ⟨C, cc, zs, hZ, hzc, hb5, ⟨hvz, mz, lz⟩, rfl⟩
  have HVZ := Lib.hid hvz
  clear hvz
  go_wp2_with fail
  go_ret3
  exact ⟨A, ca, xs, C, cc, zs, rfl, (hX.below hb4).below hb5, hZ, hzc, HVX.out, HVZ.out, mx, mz, by omega, by omega, hw4.trans (hb5.mono hw4.size)⟩

set_option maxHeartbeats 1600000 in
theorem parts_dec (p q : List UInt8) (m : Int) (w : World) (hp : Digs p) (hq : Digs q) (hl : (p ++ 46 :: q).length ≤ 20000) (hm : w.cell? ⟨1, 0, none⟩ = some (.int .i64 m)) :
    Calls Tryz.prog 65 #[.string ⟨(p ++ 46 :: q).toArray⟩] w (PartsOk (dnum (p ++ q)) (10 ^ q.length) ((p ++ 46 :: q).length / 8 + 1) w) := by
  have HC1 : Hid (Lib.cut (⟨(p ++ 46 :: q).toArray⟩ : ByteArray).data.toList (⟨#[47]⟩ : ByteArray).data.toList = (p ++ 46 :: q, [], false)) := Lib.hid (cut_miss (by
    have h1 := hp.1.no (c := 47) (by decide)
    have h2 := hq.1.no (c := 47) (by decide)
    simp [h1, h2]))
  have HC2 : Hid (Lib.cut (⟨(p ++ 46 :: q).toArray⟩ : ByteArray).data.toList (⟨#[46]⟩ : ByteArray).data.toList = (p, q, true)) := Lib.hid (cut_found (hp.1.no (by decide)))
  have hl1 : p.length + q.length ≤ 19999 := by simp at hl; omega
  have hl3 : (p ++ 46 :: q).length = p.length + q.length + 1 := by simp; omega
  have hl4 : (p ++ q).length = p.length + q.length := by simp
  have HL3 := Lib.hid hl3
  have HL4 := Lib.hid hl4
  have hsz : (⟨(p ++ 46 :: q).toArray⟩ : ByteArray).size < 4294967281 := by rw [str_size]; omega
  have hpq : Digs (p ++ q) := ⟨allD_app.2 ⟨hp.1, hq.1⟩, by rw [hl4]; have := hp.2; omega⟩
  have hne1 := not_empty (s := ⟨p.toArray⟩) hp.2
  have hne2 := not_empty (s := ⟨q.toArray⟩) hq.2
  have hn1 : ¬ p = [] := fun h => by have := hp.2; rw [h] at this; simp at this
  have hn2 : ¬ q = [] := fun h => by have := hq.2; rw [h] at this; simp at this
  have hn3 : p.isEmpty = false := by simpa using hn1
  have hn4 : q.isEmpty = false := by simpa using hn2
  have f1 := fun W => run_string_add_lists (P := Tryz.prog) W p q (by omega) (by omega)
  have hqs : (⟨q.toArray⟩ : ByteArray).size = q.length := rfl
  clear hl3 hl4 hl
  go_enter Tryz.func65, Tryz.ntmps65
  go_wp2_with fail
  refine (Tryz.strings_Cut ⟨(p ++ 46 :: q).toArray⟩ ⟨#[47]⟩ m _ hsz hm).mono ?_
  rintro e w1 ⟨he, n1, hwe⟩
  have hb1 : Below w.heap.size w w1 := by rw [hwe]; exact below_drew_ (Below.refl _ _) n1
  have hm1 : w1.cell? ⟨1, 0, none⟩ = some (.int .i64 m) := by rw [hwe]; exact hm
  rw [HC1.out] at he
  dsimp only at he
  subst he
  clear hwe hm
  go_wp2_with fail
  refine (Tryz.strings_Cut ⟨(p ++ 46 :: q).toArray⟩ ⟨#[46]⟩ m _ hsz hm1).mono ?_
  rintro e w2 ⟨he, n2, hwe⟩
  have hb2 : Below w1.heap.size w1 w2 := by rw [hwe]; exact below_drew_ (Below.refl _ _) n2
  have hw2 := hb1.trans (hb2.mono hb1.size)
  rw [HC2.out] at he
  dsimp only at he
  subst he
  clear hwe hm1
  go_wp2_with fail
  refine (parse_digs (p ++ q) _ (by rw [HL4.out]; omega) hpq).mono ?_
  rintro e w3 ⟨A, ca, xs, hX, hxc, hb3, ⟨hvx, mx, lx⟩, rfl⟩
  have HVX := Lib.hid hvx
  clear hvx
  have hw3 := hw2.trans (hb3.mono hw2.size)
  go_wp2_with fail
  refine (from_any 10 _ (by omega)).mono ?_
  rintro e w4 ⟨B, cb, ys, rfl, hyc, hY, hb4, hvy, my, ly⟩
  have hw4 := hw3.trans (hb4.mono hw3.size)
  have HVY := Lib.hid hvy
  clear hvy
  go_wp2_with fail
  refine (natpow10 B cb q.length ys _ hY my ly HVY.out (by omega)).mono ?_
  rintro e w5 ⟨C, cc, zs, hZ, hzc, hb5, ⟨hvz, mz, lz⟩, rfl⟩
  have HVZ := Lib.hid hvz
  clear hvz
  go_wp2_with fail
  go_ret3
  have h3 := HL3.out
  have h4 := HL4.out
  exact ⟨A, ca, xs, C, cc, zs, rfl, (hX.below hb4).below hb5, hZ, hzc, HVX.out, HVZ.out, mx, mz, by omega, by omega, hw4.trans (hb5.mono hw4.size)⟩
end Go.Proofs.YtopppmlkddajjaaGreatDoor


/- rat.parts refuses what is no text; rat.Parse. -/
namespace Go.Proofs.YtopppmlkddajjaaGreatDoor
open Go.RowKit V

set_option maxHeartbeats 1600000 in
theorem parts_slash1 (p q : List UInt8) (m : Int) (w : World) (hp : 47 ∉ p) (hd : ¬ Digs p) (hl : (p ++ 47 :: q).length ≤ 20000) (hm : w.cell? ⟨1, 0, none⟩ = some (.int .i64 m)) :
    Calls Tryz.prog 65 #[.string ⟨(p ++ 47 :: q).toArray⟩] w (PartsErr w) := by
  have HC : Hid (Lib.cut (⟨(p ++ 47 :: q).toArray⟩ : ByteArray).data.toList (⟨#[47]⟩ : ByteArray).data.toList = (p, q, true)) := Lib.hid (cut_found hp)
  have hl1 : p.length ≤ 20000 := by simp at hl; omega
  have hl2 : q.length ≤ 20000 := by simp at hl; omega
  have hsz : (⟨(p ++ 47 :: q).toArray⟩ : ByteArray).size < 4294967281 := by rw [str_size]; omega
  clear hl hp
  go_enter Tryz.func65, Tryz.ntmps65
  go_wp2_with fail
  refine (Tryz.strings_Cut ⟨(p ++ 47 :: q).toArray⟩ ⟨#[47]⟩ m _ hsz hm).mono ?_
  rintro e w1 ⟨he, n1, hwe⟩
  have hb1 : Below w.heap.size w w1 := by rw [hwe]; exact below_drew_ (Below.refl _ _) n1
  have hm1 : w1.cell? ⟨1, 0, none⟩ = some (.int .i64 m) := by rw [hwe]; exact hm
  have hw1 : Below w.heap.size w w1 := hb1
  rw [HC.out] at he
  dsimp only at he
  subst he
  clear hwe hm
  go_wp2_with fail
  refine (parse_none p _ hl1 hd).mono ?_
  rintro e w2 ⟨rfl, hb2⟩
  have hw2 := hw1.trans (hb2.mono hw1.size)
  go_wp2_with fail
  go_ret3
  exact ⟨_, _, _, rfl, hw2⟩

set_option maxHeartbeats 1600000 in
theorem parts_slash2 (p q : List UInt8) (m : Int) (w : World) (hp : 47 ∉ p) (hd : Digs p) (hd2 : ¬ Digs q) (hl : (p ++ 47 :: q).length ≤ 20000) (hm : w.cell? ⟨1, 0, none⟩ = some (.int .i64 m)) :
    Calls Tryz.prog 65 #[.string ⟨(p ++ 47 :: q).toArray⟩] w (PartsErr w) := by
  have HC : Hid (Lib.cut (⟨(p ++ 47 :: q).toArray⟩ : ByteArray).data.toList (⟨#[47]⟩ : ByteArray).data.toList = (p, q, true)) := Lib.hid (cut_found hp)
  have hl1 : p.length ≤ 20000 := by simp at hl; omega
  have hl2 : q.length ≤ 20000 := by simp at hl; omega
  have hsz : (⟨(p ++ 47 :: q).toArray⟩ : ByteArray).size < 4294967281 := by rw [str_size]; omega
  clear hl hp
  go_enter Tryz.func65, Tryz.ntmps65
  go_wp2_with fail
  refine (Tryz.strings_Cut ⟨(p ++ 47 :: q).toArray⟩ ⟨#[47]⟩ m _ hsz hm).mono ?_
  rintro e w1 ⟨he, n1, hwe⟩
  have hb1 : Below w.heap.size w w1 := by rw [hwe]; exact below_drew_ (Below.refl _ _) n1
  have hm1 : w1.cell? ⟨1, 0, none⟩ = some (.int .i64 m) := by rw [hwe]; exact hm
  have hw1 : Below w.heap.size w w1 := hb1
  rw [HC.out] at he
  dsimp only at he
  subst he
  clear hwe hm
  go_wp2_with fail
  refine (parse_digs p _ hl1 hd).mono ?_
  rintro e w2 ⟨A2, c2, xs2, hX2, hxc2, hb2, _, rfl⟩
  have hw2 := hw1.trans (hb2.mono hw1.size)
  go_wp2_with fail
  refine (parse_none q _ hl2 hd2).mono ?_
  rintro e w3 ⟨rfl, hb3⟩
  have hw3 := hw2.trans (hb3.mono hw2.size)
  go_wp2_with fail
  go_ret3
  exact ⟨_, _, _, rfl, hw3⟩

set_option maxHeartbeats 1600000 in
theorem parts_point1 (q : List UInt8) (m : Int) (w : World) (h47 : 47 ∉ 46 :: q) (hl : (46 :: q : List UInt8).length ≤ 20000) (hm : w.cell? ⟨1, 0, none⟩ = some (.int .i64 m)) :
    Calls Tryz.prog 65 #[.string ⟨(46 :: q).toArray⟩] w (PartsErr w) := by
  have hp : (46 : UInt8) ∉ ([] : List UInt8) := by simp
  have HC1 : Hid (Lib.cut (⟨(46 :: q).toArray⟩ : ByteArray).data.toList (⟨#[47]⟩ : ByteArray).data.toList = (46 :: q, [], false)) := Lib.hid (cut_miss h47)
  have HC2 : Hid (Lib.cut (⟨(46 :: q).toArray⟩ : ByteArray).data.toList (⟨#[46]⟩ : ByteArray).data.toList = ([], q, true)) := Lib.hid (cut_found hp)
  have hl1 : q.length ≤ 19999 := by simp at hl; omega
  have hsz : (⟨(46 :: q).toArray⟩ : ByteArray).size < 4294967281 := by rw [str_size]; omega
  clear hl hp h47
  go_enter Tryz.func65, Tryz.ntmps65
  go_wp2_with fail
  refine (Tryz.strings_Cut ⟨(46 :: q).toArray⟩ ⟨#[47]⟩ m _ hsz hm).mono ?_
  rintro e w1 ⟨he, n1, hwe⟩
  have hb1 : Below w.heap.size w w1 := by rw [hwe]; exact below_drew_ (Below.refl _ _) n1
  have hm1 : w1.cell? ⟨1, 0, none⟩ = some (.int .i64 m) := by rw [hwe]; exact hm
  have hw1 : Below w.heap.size w w1 := hb1
  rw [HC1.out] at he
  dsimp only at he
  subst he
  clear hwe hm
  go_wp2_with fail
  refine (Tryz.strings_Cut ⟨(46 :: q).toArray⟩ ⟨#[46]⟩ m _ hsz hm1).mono ?_
  rintro e w2 ⟨he, n2, hwe⟩
  have hb2 : Below w1.heap.size w1 w2 := by rw [hwe]; exact below_drew_ (Below.refl _ _) n2
  have hm2 : w2.cell? ⟨1, 0, none⟩ = some (.int .i64 m) := by rw [hwe]; exact hm1
  have hw2 : Below w.heap.size w w2 := hw1.trans (hb2.mono hw1.size)
  rw [HC2.out] at he
  dsimp only at he
  subst he
  clear hwe hm1
  go_wp2_with fail
  go_ret3
  exact ⟨_, _, _, rfl, hw2⟩

set_option maxHeartbeats 1600000 in
theorem parts_point2 (l p : List UInt8) (m : Int) (w : World) (hle : l = p ++ [46]) (h47 : 47 ∉ l) (hp : 46 ∉ p) (hpos : 0 < p.length) (hl : l.length ≤ 20000) (hm : w.cell? ⟨1, 0, none⟩ = some (.int .i64 m)) :
    Calls Tryz.prog 65 #[.string ⟨l.toArray⟩] w (PartsErr w) := by
  have HC1 : Hid (Lib.cut (⟨l.toArray⟩ : ByteArray).data.toList (⟨#[47]⟩ : ByteArray).data.toList = (l, [], false)) := Lib.hid (cut_miss h47)
  have HC2 : Hid (Lib.cut (⟨l.toArray⟩ : ByteArray).data.toList (⟨#[46]⟩ : ByteArray).data.toList = (p, [], true)) := Lib.hid (by show Lib.cut l [46] = _; rw [hle]; exact cut_found hp)
  have hsz : (⟨l.toArray⟩ : ByteArray).size < 4294967281 := by rw [str_size]; omega
  clear hle hl hp h47
  have hne1 := not_empty (s := ⟨p.toArray⟩) hpos
  have hn1 : ¬ p = [] := fun h => by rw [h] at hpos; simp at hpos
  have hn3 : p.isEmpty = false := by simpa using hn1
  go_enter Tryz.func65, Tryz.ntmps65
  go_wp2_with fail
  refine (Tryz.strings_Cut ⟨l.toArray⟩ ⟨#[47]⟩ m _ hsz hm).mono ?_
  rintro e w1 ⟨he, n1, hwe⟩
  have hb1 : Below w.heap.size w w1 := by rw [hwe]; exact below_drew_ (Below.refl _ _) n1
  have hm1 : w1.cell? ⟨1, 0, none⟩ = some (.int .i64 m) := by rw [hwe]; exact hm
  have hw1 : Below w.heap.size w w1 := hb1
  rw [HC1.out] at he
  dsimp only at he
  subst he
  clear hwe hm
  go_wp2_with fail
  refine (Tryz.strings_Cut ⟨l.toArray⟩ ⟨#[46]⟩ m _ hsz hm1).mono ?_
  rintro e w2 ⟨he, n2, hwe⟩
  have hb2 : Below w1.heap.size w1 w2 := by rw [hwe]; exact below_drew_ (Below.refl _ _) n2
  have hm2 : w2.cell? ⟨1, 0, none⟩ = some (.int .i64 m) := by rw [hwe]; exact hm1
  have hw2 : Below w.heap.size w w2 := hw1.trans (hb2.mono hw1.size)
  rw [HC2.out] at he
  dsimp only at he
  subst he
  clear hwe hm1
  go_wp2_with fail
  go_ret3
  exact ⟨_, _, _, rfl, hw2⟩

set_option maxHeartbeats 1600000 in
theorem parts_point3 (p q : List UInt8) (m : Int) (w : World) (h47 : 47 ∉ p ++ 46 :: q) (hp : 46 ∉ p) (hl : (p ++ 46 :: q).length ≤ 20000) (hpos : 0 < p.length) (hpos2 : 0 < q.length) (hd : ¬ AllD (p ++ q)) (hm : w.cell? ⟨1, 0, none⟩ = some (.int .i64 m)) :
    Calls Tryz.prog 65 #[.string ⟨(p ++ 46 :: q).toArray⟩] w (PartsErr w) := by
  have HC1 : Hid (Lib.cut (⟨(p ++ 46 :: q).toArray⟩ : ByteArray).data.toList (⟨#[47]⟩ : ByteArray).data.toList = (p ++ 46 :: q, [], false)) := Lib.hid (cut_miss h47)
  have HC2 : Hid (Lib.cut (⟨(p ++ 46 :: q).toArray⟩ : ByteArray).data.toList (⟨#[46]⟩ : ByteArray).data.toList = (p, q, true)) := Lib.hid (cut_found hp)
  have hl1 : p.length + q.length ≤ 19999 := by simp at hl; omega
  have hsz : (⟨(p ++ 46 :: q).toArray⟩ : ByteArray).size < 4294967281 := by rw [str_size]; omega
  clear hl hp h47
  have hne1 := not_empty (s := ⟨p.toArray⟩) hpos
  have hne2 := not_empty (s := ⟨q.toArray⟩) hpos2
  have hn1 : ¬ p = [] := fun h => by rw [h] at hpos; simp at hpos
  have hn2 : ¬ q = [] := fun h => by rw [h] at hpos2; simp at hpos2
  have hn3 : p.isEmpty = false := by simpa using hn1
  have hn4 : q.isEmpty = false := by simpa using hn2
  have f1 := fun W => run_string_add_lists (P := Tryz.prog) W p q (by omega) (by omega)
  have hd2 : ¬ Digs (p ++ q) := fun h => hd h.1
  have hl4 : (p ++ q).length ≤ 20000 := by simp; omega
  go_enter Tryz.func65, Tryz.ntmps65
  go_wp2_with fail
  refine (Tryz.strings_Cut ⟨(p ++ 46 :: q).toArray⟩ ⟨#[47]⟩ m _ hsz hm).mono ?_
  rintro e w1 ⟨he, n1, hwe⟩
  have hb1 : Below w.heap.size w w1 := by rw [hwe]; exact below_drew_ (Below.refl _ _) n1
  have hm1 : w1.cell? ⟨1, 0, none⟩ = some (.int .i64 m) := by rw [hwe]; exact hm
  have hw1 : Below w.heap.size w w1 := hb1
  rw [HC1.out] at he
  dsimp only at he
  subst he
  clear hwe hm
  go_wp2_with fail
  refine (Tryz.strings_Cut ⟨(p ++ 46 :: q).toArray⟩ ⟨#[46]⟩ m _ hsz hm1).mono ?_
  rintro e w2 ⟨he, n2, hwe⟩
  have hb2 : Below w1.heap.size w1 w2 := by rw [hwe]; exact below_drew_ (Below.refl _ _) n2
  have hm2 : w2.cell? ⟨1, 0, none⟩ = some (.int .i64 m) := by rw [hwe]; exact hm1
  have hw2 : Below w.heap.size w w2 := hw1.trans (hb2.mono hw1.size)
  rw [HC2.out] at he
  dsimp only at he
  subst he
  clear hwe hm1
  go_wp2_with fail
  refine (parse_none (p ++ q) _ hl4 hd2).mono ?_
  rintro e w3 ⟨rfl, hb3⟩
  have hw3 := hw2.trans (hb3.mono hw2.size)
  go_wp2_with fail
  go_ret3
  exact ⟨_, _, _, rfl, hw3⟩

set_option maxHeartbeats 1600000 in
theorem parts_plain (l : List UInt8) (m : Int) (w : World) (h1 : 47 ∉ l) (h2 : 46 ∉ l) (hd : ¬ Digs l) (hl : l.length ≤ 20000) (hm : w.cell? ⟨1, 0, none⟩ = some (.int .i64 m)) :
    Calls Tryz.prog 65 #[.string ⟨l.toArray⟩] w (PartsErr w) := by
  have HC1 : Hid (Lib.cut (⟨l.toArray⟩ : ByteArray).data.toList (⟨#[47]⟩ : ByteArray).data.toList = (l, [], false)) := Lib.hid (cut_miss h1)
  have HC2 : Hid (Lib.cut (⟨l.toArray⟩ : ByteArray).data.toList (⟨#[46]⟩ : ByteArray).data.toList = (l, [], false)) := Lib.hid (cut_miss h2)
  have hsz : (⟨l.toArray⟩ : ByteArray).size < 4294967281 := by rw [str_size]; omega
  have f1 := fun W => run_string_add_lists (P := Tryz.prog) W l [] (by omega) (by simp)
  simp only [List.append_nil] at f1
  clear h1 h2
  go_enter Tryz.func65, Tryz.ntmps65
  go_wp2_with fail
  refine (Tryz.strings_Cut ⟨l.toArray⟩ ⟨#[47]⟩ m _ hsz hm).mono ?_
  rintro e w1 ⟨he, n1, hwe⟩
  have hb1 : Below w.heap.size w w1 := by rw [hwe]; exact below_drew_ (Below.refl _ _) n1
  have hm1 : w1.cell? ⟨1, 0, none⟩ = some (.int .i64 m) := by rw [hwe]; exact hm
  have hw1 : Below w.heap.size w w1 := hb1
  rw [HC1.out] at he
  dsimp only at he
  subst he
  clear hwe hm
  go_wp2_with fail
  refine (Tryz.strings_Cut ⟨l.toArray⟩ ⟨#[46]⟩ m _ hsz hm1).mono ?_
  rintro e w2 ⟨he, n2, hwe⟩
  have hb2 : Below w1.heap.size w1 w2 := by rw [hwe]; exact below_drew_ (Below.refl _ _) n2
  have hm2 : w2.cell? ⟨1, 0, none⟩ = some (.int .i64 m) := by rw [hwe]; exact hm1
  have hw2 : Below w.heap.size w w2 := hw1.trans (hb2.mono hw1.size)
  rw [HC2.out] at he
  dsimp only at he
  subst he
  clear hwe hm1
  go_wp2_with fail
  refine (parse_none l _ hl hd).mono ?_
  rintro e w3 ⟨rfl, hb3⟩
  have hw3 := hw2.trans (hb3.mono hw2.size)
  go_wp2_with fail
  go_ret3
  exact ⟨_, _, _, rfl, hw3⟩

theorem parts_bad (l : List UInt8) (m : Int) (w : World) (h : NoTxt l) (hl : l.length ≤ 20000) (hm : w.cell? ⟨1, 0, none⟩ = some (.int .i64 m)) :
    Calls Tryz.prog 65 #[.string ⟨l.toArray⟩] w (PartsErr w) := by
  by_cases h1 : (47 : UInt8) ∈ l
  · obtain ⟨p, q, rfl, hp⟩ := first_mark l 47 h1
    rcases noTxt_slash h with hd | ⟨hd, hd2⟩
    · exact parts_slash1 p q m w hp hd hl hm
    · exact parts_slash2 p q m w hp hd hd2 hl hm
  · by_cases h2 : (46 : UInt8) ∈ l
    · obtain ⟨p, q, rfl, hp⟩ := first_mark l 46 h2
      rcases noTxt_point h with hd | ⟨hd, hd2⟩ | ⟨hd, hd2, hd3⟩
      · obtain rfl : p = [] := List.eq_nil_of_length_eq_zero hd
        exact parts_point1 q m w h1 hl hm
      · obtain rfl : q = [] := List.eq_nil_of_length_eq_zero hd2
        exact parts_point2 _ p m w rfl h1 hp hd hl hm
      · exact parts_point3 p q m w h1 hp hl hd hd2 hd3 hm
    · exact parts_plain l m w h1 h2 (noTxt_plain h) hl hm
theorem parts_ok (l : List UInt8) (n d : Nat) (m : Int) (w : World) (h : Txt l n d) (hl : l.length ≤ 20000) (hm : w.cell? ⟨1, 0, none⟩ = some (.int .i64 m)) :
    Calls Tryz.prog 65 #[.string ⟨l.toArray⟩] w (PartsOk n d (l.length / 8 + 1) w) := by
  cases h with
  | int _ h1 => exact parts_int l m w h1 hl hm
  | frac p q h1 h2 => exact parts_frac p q m w h1 h2 hl hm
  | dec p q h1 h2 => exact parts_dec p q m w h1 h2 hl hm

set_option maxHeartbeats 1600000 in
theorem ratparse_bad (s : ByteArray) (neg : Bool) (t : List UInt8)  (m : Int) (w : World) (hs : Sgn s.data.toList neg t) (h : NoTxt t) (hl : s.size ≤ 20000) (hm : w.cell? ⟨1, 0, none⟩ = some (.int .i64 m)) :
    Calls Tryz.prog 35 #[.string s] w (RatErr 90 w) := by
  have hlt : t.length ≤ 20000 := by have := hs.len; simp at this; omega
  have HC1 : Hid (Lib.trimPrefix s.data.toList (⟨#[45]⟩ : ByteArray).data.toList = t) := Lib.hid hs.cut.1
  have HC2 : Hid (Lib.hasPrefix s.data.toList (⟨#[45]⟩ : ByteArray).data.toList = neg) := Lib.hid hs.cut.2
  have HS := Lib.hid hs
  clear hs
  have hbl : Below w.heap.size w (w.alloc (.cells #[.bool false, .slice none 0 0, .slice none 0 0] 24)) := (Below.refl _ _).alloc (Nat.le_refl _) _
  have kr := Blk3.new w (.bool false) (.slice none 0 0) (.slice none 0 0)
  go_enter Tryz.func35, Tryz.ntmps35
  go_wp2_with fail
  refine (Tryz.strings_CutPrefix s ⟨#[45]⟩ _).mono ?_
  rintro e w1 ⟨he, hwe⟩
  obtain ⟨w1, rfl⟩ : ∃ x, x = w1 := ⟨_, rfl⟩
  rw [HC1.out, HC2.out] at he
  subst he
  rw [← hwe] at hbl kr
  clear hwe
  have hm1 : w1.cell? ⟨1, 0, none⟩ = some (.int .i64 m) := by rw [hbl.cell (cell_in hm)]; exact hm
  clear hm
  go_wp2_with fail
  refine (parts_bad t m _ h hlt hm1).mono ?_
  rintro e w2 ⟨A, n, c, rfl, hb2⟩
  have kr2 := kr.below hb2
  have hw2 := hbl.trans (hb2.mono hbl.size)
  clear hbl kr hm1
  obtain ⟨a0, a1, a2, a3, a4, a5, a6⟩ := kr2.facts
  go_wp2_with fail
  refine bodyPost_ret (v := .tuple #[.agg #[.bool false, .slice none 0 0, .slice none 0 0], .int .i64 90]) (by simp [results, Tryz.results35, go_sem, a0, a1, a2]) rfl ?_
  exact ⟨rfl, by first | exact hw2 | exact below_put3 hw2 (Nat.le_refl _) _ _ _⟩

set_option maxHeartbeats 1600000 in
theorem ratparse_zero (s : ByteArray) (neg : Bool) (t : List UInt8) (n : Nat) (m : Int) (w : World) (hs : Sgn s.data.toList neg t) (HT : Txt t n 0) (hl : s.size ≤ 20000) (hm : w.cell? ⟨1, 0, none⟩ = some (.int .i64 m)) :
    Calls Tryz.prog 35 #[.string s] w (RatErr 20 w) := by
  have hlt : t.length ≤ 20000 := by have := hs.len; simp at this; omega
  have HC1 : Hid (Lib.trimPrefix s.data.toList (⟨#[45]⟩ : ByteArray).data.toList = t) := Lib.hid hs.cut.1
  have HC2 : Hid (Lib.hasPrefix s.data.toList (⟨#[45]⟩ : ByteArray).data.toList = neg) := Lib.hid hs.cut.2
  have HS := Lib.hid hs
  clear hs
  have hbl : Below w.heap.size w (w.alloc (.cells #[.bool false, .slice none 0 0, .slice none 0 0] 24)) := (Below.refl _ _).alloc (Nat.le_refl _) _
  have kr := Blk3.new w (.bool false) (.slice none 0 0) (.slice none 0 0)
  go_enter Tryz.func35, Tryz.ntmps35
  go_wp2_with fail
  refine (Tryz.strings_CutPrefix s ⟨#[45]⟩ _).mono ?_
  rintro e w1 ⟨he, hwe⟩
  obtain ⟨w1, rfl⟩ : ∃ x, x = w1 := ⟨_, rfl⟩
  rw [HC1.out, HC2.out] at he
  subst he
  rw [← hwe] at hbl kr
  clear hwe
  have hm1 : w1.cell? ⟨1, 0, none⟩ = some (.int .i64 m) := by rw [hbl.cell (cell_in hm)]; exact hm
  clear hm
  go_wp2_with fail
  refine (parts_ok t n 0 m _ HT hlt hm1).mono ?_
  rintro e w2 ⟨A, c, xs, B, k, ys, rfl, hX, hY, hyk, hvx, hvy, mx, my, lx, ly, hb2⟩
  have kr2 := kr.below hb2
  have hw2 := hbl.trans (hb2.mono hbl.size)
  have HVX := Lib.hid hvx
  have HVY := Lib.hid hvy
  clear hvx hvy hbl kr hm1
  have hlx : xs.length ≤ 2501 := by omega
  have hly : ys.length ≤ 2501 := by omega
  have hy0 : ys.length = 0 := by
    rcases Nat.eq_zero_or_pos ys.length with h | h
    · exact h
    · have := (V32_pos_iff my).1 h; rw [HVY.out] at this; omega
  have oy : Ok xs := ⟨by omega, mx.2⟩
  obtain rfl : ys = [] := List.eq_nil_of_length_eq_zero hy0
  obtain ⟨a0, a1, a2, a3, a4, a5, a6⟩ := kr2.facts
  go_wp2_with fail
  refine (make_zero neg A B c k xs _ hX oy).mono ?_
  rintro e w3 ⟨rfl, hb3⟩
  have kr3 := kr2.below hb3
  have hw3 := hw2.trans (hb3.mono hw2.size)
  clear a0 a1 a2 a3 a4 a5 a6
  obtain ⟨a0, a1, a2, a3, a4, a5, a6⟩ := kr3.facts
  go_wp2_with fail
  refine bodyPost_ret (v := .tuple #[.agg #[.bool false, .slice none 0 0, .slice none 0 0], .int .i64 20]) (by simp [results, Tryz.results35, go_sem, a0, a1, a2]) rfl ?_
  exact ⟨rfl, by first | exact hw3 | exact below_put3 hw3 (Nat.le_refl _) _ _ _⟩

set_option maxHeartbeats 1600000 in
theorem ratparse_ok (s : ByteArray) (neg : Bool) (t : List UInt8) (n d : Nat) (m : Int) (w : World) (hs : Sgn s.data.toList neg t) (HT : Txt t n d) (hd : 0 < d) (hl : s.size ≤ 20000) (hm : w.cell? ⟨1, 0, none⟩ = some (.int .i64 m)) :
    Calls Tryz.prog 35 #[.string s] w (RatOk (mkRat (sgn neg n) d) (t.length / 8 + 1) w) := by
  have hlt : t.length ≤ 20000 := by have := hs.len; simp at this; omega
  have HC1 : Hid (Lib.trimPrefix s.data.toList (⟨#[45]⟩ : ByteArray).data.toList = t) := Lib.hid hs.cut.1
  have HC2 : Hid (Lib.hasPrefix s.data.toList (⟨#[45]⟩ : ByteArray).data.toList = neg) := Lib.hid hs.cut.2
  have HS := Lib.hid hs
  clear hs
  have hbl : Below w.heap.size w (w.alloc (.cells #[.bool false, .slice none 0 0, .slice none 0 0] 24)) := (Below.refl _ _).alloc (Nat.le_refl _) _
  have kr := Blk3.new w (.bool false) (.slice none 0 0) (.slice none 0 0)
  go_enter Tryz.func35, Tryz.ntmps35
  go_wp2_with fail
  refine (Tryz.strings_CutPrefix s ⟨#[45]⟩ _).mono ?_
  rintro e w1 ⟨he, hwe⟩
  obtain ⟨w1, rfl⟩ : ∃ x, x = w1 := ⟨_, rfl⟩
  rw [HC1.out, HC2.out] at he
  subst he
  rw [← hwe] at hbl kr
  clear hwe
  have hm1 : w1.cell? ⟨1, 0, none⟩ = some (.int .i64 m) := by rw [hbl.cell (cell_in hm)]; exact hm
  clear hm
  go_wp2_with fail
  refine (parts_ok t n d m _ HT hlt hm1).mono ?_
  rintro e w2 ⟨A, c, xs, B, k, ys, rfl, hX, hY, hyk, hvx, hvy, mx, my, lx, ly, hb2⟩
  have kr2 := kr.below hb2
  have hw2 := hbl.trans (hb2.mono hbl.size)
  have HVX := Lib.hid hvx
  have HVY := Lib.hid hvy
  clear hvx hvy hbl kr hm1
  have hlx : xs.length ≤ 2501 := by omega
  have hly : ys.length ≤ 2501 := by omega
  have hy0 : 0 < ys.length := (V32_pos_iff my).2 (by rw [HVY.out]; exact hd)
  have ox : Ok xs := ⟨by omega, mx.2⟩
  have oy : Ok ys := ⟨by omega, my.2⟩
  obtain ⟨a0, a1, a2, a3, a4, a5, a6⟩ := kr2.facts
  go_wp2_with fail
  refine (make_ok neg A B c k xs ys _ hX hY hyk mx.1 my.1 ox oy hy0).mono ?_
  rintro e w3 ⟨r, rfl, hr3, hra, hrb, hb3⟩
  rw [HVX.out, HVY.out] at hr3
  have kr3 := kr2.below hb3
  have hw3 := hw2.trans (hb3.mono hw2.size)
  clear a0 a1 a2 a3 a4 a5 a6
  obtain ⟨a0, a1, a2, a3, a4, a5, a6⟩ := kr3.facts
  go_wp2_with fail
  refine bodyPost_ret (v := .tuple #[.agg #[.bool r.s, .slice r.N r.ns.length r.nc, .slice r.D r.ds.length r.dc], .int .i64 0]) (by simp [results, Tryz.results35, go_sem, a0, a1, a2]) rfl ?_
  exact RatOk.put r hr3 kr3 (Nat.le_refl _) hw3 (by omega) (by omega)

set_option maxHeartbeats 1600000 in
theorem ratparse_long (s : ByteArray) (n : Int) (w : World) (hn : (s.size : Int) = n) (hs : 20000 < n) :
    Calls Tryz.prog 35 #[.string s] w (RatErr 2 w) := by
  have hbl : Below w.heap.size w (w.alloc (.cells #[.bool false, .slice none 0 0, .slice none 0 0] 24)) := (Below.refl _ _).alloc (Nat.le_refl _) _
  go_enter Tryz.func35, Tryz.ntmps35
  go_wp2_with fail
  refine bodyPost_ret (v := .tuple #[.agg #[.bool false, .slice none 0 0, .slice none 0 0], .int .i64 2]) (by simp [results, Tryz.results35, go_sem]) rfl ?_
  exact ⟨rfl, by first | exact hbl | exact below_put3 hbl (Nat.le_refl _) _ _ _⟩
end Go.Proofs.YtopppmlkddajjaaGreatDoor

