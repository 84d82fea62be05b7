/- isochroneref01.Text: the decimal digits of a number of at most 1000 digits of the document. -/
import Derived.Test.YtgfojfiopcooeaaDoorParse
namespace Go.Proofs.YtgfojfiopcooeaaDoor
open Go.RowKit V

/-- The digits, none for zero. -/
def decs (v : Nat) : List UInt8 := if v = 0 then [] else Lib.decDigits v
theorem decs_zero : decs 0 = [] := rfl
theorem decs_pos {v : Nat} (h : 0 < v) : decs v = Lib.decDigits v := by unfold decs; rw [if_neg (by omega)]
theorem decs_len {v : Nat} (h : 0 < v) : 0 < (decs v).length := by rw [decs_pos h]; exact dec_pos v
theorem decs_step (v d : Nat) (hd : d < 10) (h : 0 < v ∨ 0 < d) : decs (v * 10 + d) = decs v ++ [UInt8.ofNat (48 + d)] := by
  rw [decs_pos (by omega)]
  rcases Nat.eq_zero_or_pos v with h0 | h0
  · subst h0
    rw [decs_zero, Lib.decDigits, dif_pos (by omega)]
    simp
  · rw [dec_step v d (by omega) hd, decs_pos h0]
theorem dig_byte (d : Nat) (hd : d < 10) : (UInt8.ofNat (48 + d)).toNat = 48 + d := by
  simp [UInt8.toNat_ofNat']; omega
theorem asN_snoc (l : List UInt8) (c : UInt8) : asN (l ++ [c]) = asN l ++ [c.toNat] := by simp [asN]
/-- The places of the digits of x below T. -/
def Place (T x k v : Nat) : Prop := (k = 1000 ∧ v = T) ∨ (k = 100 ∧ v = T * 10 + x / 1000) ∨ (k = 10 ∧ v = T * 100 + x / 100) ∨ (k = 1 ∧ v = T * 1000 + x / 10) ∨ (k = 0 ∧ v = T * 10000 + x)
theorem Place.step {T x k v : Nat} (h : Place T x k v) (hx : x < 10000) (hk : k ≠ 0) : Place T x (k / 10) (v * 10 + x / k % 10) := by
  unfold Place at h ⊢
  rcases h with ⟨rfl, rfl⟩ | ⟨rfl, rfl⟩ | ⟨rfl, rfl⟩ | ⟨rfl, rfl⟩ | ⟨rfl, rfl⟩ <;> omega
theorem Place.done {T x v : Nat} (h : Place T x 0 v) : v = T * 10000 + x := by unfold Place at h; omega
theorem Place.bound {T x k v : Nat} (h : Place T x k v) : v ≤ T * 10000 + x := by unfold Place at h; omega
theorem Place.le {T x k v : Nat} (h : Place T x k v) : k ≤ 1000 := by unfold Place at h; omega

/-- The text, and what was there is as it was. -/
def RTextP (v : Nat) (w : World) (e : Ending) (w' : World) : Prop := e = .returned (.string ⟨(Lib.decDigits v).toArray⟩) ∧ Below w.heap.size w w'

theorem decs_small {v : Nat} {k : Nat} (h : v < 10 ^ k) : (decs v).length ≤ k := by
  unfold decs
  split
  · simp
  · rename_i h0
    rcases Nat.eq_zero_or_pos k with hk | hk
    · subst hk; simp at h; omega
    · exact (pad_eq k v hk h).1

set_option maxRecDepth 100000 in
set_option maxHeartbeats 1000000 in
theorem rtext_any (A : Option Addr) (ca : Nat) (xs : List Nat) (w : World) (hx : Rd .i64 w A xs) (bl : xs.length ≤ 1000) (nmx : Nm xs) (hpos : 0 < xs.length) :
    Calls Tryd.prog 38 #[.slice A xs.length ca] w (RTextP (VD xs) w) := by
  have hb0 : ((xs.length : Int) == 0) = false := beq_eq_false_iff_ne.2 (by omega)
  have hvp := VD_pos nmx hpos
  have dx : Dig 10000 xs := nmx.1
  go_enter Tryd.func38, Tryd.ntmps38
  go_wp2
  go_loopw [3, 4, 5, 6] (fun v iv _ _ wr => ∃ j : Int, ∃ T : Nat, -1 ≤ j ∧ j < xs.length ∧ iv = .int .i64 j ∧ T = val 10000 (xs.drop (j + 1).toNat) ∧ Own .u8 5 w.heap.size wr v (asN (decs T)) ∧ Below w.heap.size w wr) (fun _ iv _ _ _ => (intOf iv + 1).toNat)
  case atStart => exact ⟨_, 0, by omega, by omega, rfl, by rw [show ((xs.length : Int) - 1 + 1).toNat = xs.length by omega, List.drop_length]; rfl, Own.nil_, Below.refl _ _⟩
  case round =>
    obtain ⟨j, T, hj, hjl, rfl, hT, hown, hbw⟩ := hrel
    have HT := Lib.hid hT
    clear hT
    by_cases h0 : j < 0
    · have hfin : T = VD xs := by rw [HT.out, show (j + 1).toNat = 0 by omega, List.drop_zero]; rfl
      subst hfin
      have hlp : 0 < (decs (VD xs)).length := decs_len (by omega)
      have HD := Lib.hid (decs_pos (v := VD xs) (by omega))
      obtain ⟨l, hl⟩ : ∃ l, decs (VD xs) = l := ⟨_, rfl⟩
      rw [hl] at hown hlp HD
      clear hl HT
      obtain ⟨S, tc, rfl, htc, htr, hsh⟩ := hown.shapeN (asN_len l)
      obtain ⟨tg, rfl, htg⟩ := hsh hlp
      have hcell : ∀ i (hi : i < l.length), wr.cell? ((⟨tg, 0, none⟩ : Addr).add i) = some (.int .u8 (l[i].toNat : Int)) := fun i hi => by
        obtain ⟨ad, e, _, hc⟩ := htr (by rw [asN_len]; exact hlp)
        injection e with e
        subst e
        rw [hc i (by rw [asN_len]; exact hi)]
        simp [asN, List.getD_eq_getElem?_getD, List.getElem?_eq_getElem hi]
      have hcv := run_convert_bytes_back (P := Tryd.prog) wr 77 9 5 ⟨tg, 0, none⟩ tc l Tryd.underlying77 Tryd.underlying5 Tryd.underlying9 hcell
      clear hcell hsh
      go_wp2
      go_ret
      exact ⟨congrArg (fun q : List UInt8 => Ending.returned (.string ⟨q.toArray⟩)) HD.out, hbw⟩
    · obtain ⟨i, rfl⟩ := Int.eq_ofNat_of_zero_le (show 0 ≤ j by omega)
      have hix : i < xs.length := by omega
      obtain ⟨ad, x, rfl, hbx0, ex, cx0⟩ := hx.ask hix
      have hxl : x < 10000 := by rw [← ex.out]; exact dig_getD dx (by omega) i
      have HT2 : Hid (T * 10000 + x = val 10000 (xs.drop i)) := by
        show _ = _
        rw [val_drop 10000 xs i hix, ex.out, HT.out, show ((i : Int) + 1).toNat = i + 1 by omega]
        omega
      have HTL : Hid (T * 10000 + x < 10 ^ (4 * xs.length)) := by
        have h1 := dig_drop_lt dx i
        have h2 : 10000 ^ (xs.length - i) ≤ 10000 ^ xs.length := Nat.pow_le_pow_right (by omega) (by omega)
        have h3 : (10000 : Nat) ^ xs.length = 10 ^ (4 * xs.length) := by rw [Nat.pow_mul]
        show _ < _
        rw [HT2.out]
        rw [h3] at h2
        exact Nat.lt_of_lt_of_le h1 h2
      go_wp2
      go_loopw [3, 5, 6] (fun v kv _ wr => ∃ k u : Nat, kv = .int .i64 k ∧ Place T x k u ∧ Own .u8 5 w.heap.size wr v (asN (decs u)) ∧ Below w.heap.size w wr) (fun _ kv _ _ => (intOf kv).toNat)
      case atStart => exact ⟨1000, T, rfl, .inl ⟨rfl, rfl⟩, hown, hbw⟩
      case round =>
        clear hown hbw
        obtain ⟨k, u, rfl, hpl, hown, hbw⟩ := hrel
        have HPL := Lib.hid hpl
        have hk1 := hpl.le
        have hdl : (decs u).length ≤ 4000 := Nat.le_trans (decs_small (Nat.lt_of_le_of_lt hpl.bound HTL.out)) (by omega)
        clear hpl
        by_cases hk0 : k = 0
        · subst hk0
          have hu := HPL.out.done
          go_wp2
          go_roundw
          case rel => exact ⟨_, u, by omega, by omega, rfl, by rw [hu, show ((i : Int) - 1 + 1).toNat = i by omega]; exact HT2.out, hown, hbw⟩
          case measure => simp [intOf]
        · have cx : wr.cell? (ad.add i) = some (.int .i64 x) := (hbw.cell (p := ad.add i) (by rw [block_of_add]; exact hbx0)).trans cx0
          obtain ⟨q, hqx, hq⟩ : ∃ q, x / k = q ∧ q ≤ 9999 := ⟨_, rfl, by have := Nat.div_le_self x k; omega⟩
          obtain ⟨d, hd, hdx⟩ : ∃ d, d < 10 ∧ q % 10 = d := ⟨_, Nat.mod_lt _ (by omega), rfl⟩
          have hqi : (x : Int) / k = q := by rw [← hqx]; simp
          have hdi : (q : Int) % 10 = d := by omega
          have hstep := HPL.out.step hxl hk0
          rw [hqx, hdx] at hstep
          have HSTEP := Lib.hid hstep
          clear hstep hdx hqx
          obtain ⟨l, hl⟩ : ∃ l, decs u = l := ⟨_, rfl⟩
          have hlz : 0 < u → 0 < l.length := fun h => by rw [← hl]; exact decs_len h
          have hlz0 : ¬ 0 < u → l.length = 0 := fun h => by rw [← hl, show u = 0 by omega]; rfl
          have HL := Lib.hid hl
          rw [hl] at hown hdl
          have hal : (asN l).length = l.length := asN_len l
          have HAL := Lib.hid hal
          obtain ⟨S, sc, rfl, hsc, hrs⟩ := hown.form
          rw [hal] at hsc ⊢
          have hown2 : Own .u8 5 w.heap.size wr (.slice S l.length sc) (asN l) := by rw [← HAL.out]; exact hown
          clear hl hrs hown hal hsc
          by_cases hz : 0 < u ∨ 0 < d
          · have HDEC : Hid (asN (decs (u * 10 + d)) = asN l ++ [48 + d]) := by show _ = _; rw [decs_step u d hd hz, asN_snoc, dig_byte d hd, HL.out]
            have holen : (asN l).length ≤ 1000000 := by have := HAL.out; omega
            have HOLEN := Lib.hid holen
            clear holen
            by_cases hu : 0 < u
            · have hpl := hlz hu
              clear hlz hlz0 hz
              go_wp2_with (at_builtin; refine wpList_app1 rfl (.tmp 35) (.tmp 39) 77 5 rfl .u8 1 info_u8 Tryd.underlying77 (by omega) _ _ (asN l) _ (48 + d) (by omega) rfl hown2 rfl hbw (Nat.le_refl _) HOLEN.out ?_; intro v' w' hown' hbw')
              go_roundw
              case rel => exact ⟨k / 10, u * 10 + d, by go_num, HSTEP.out, by rw [HDEC.out]; exact hown', hbw'⟩
              case measure => simp [intOf]; omega
            · have hpl := hlz0 hu
              have hd0 : 0 < d := by omega
              clear hlz hlz0 hz hu
              go_wp2_with (at_builtin; refine wpList_app1 rfl (.tmp 35) (.tmp 39) 77 5 rfl .u8 1 info_u8 Tryd.underlying77 (by omega) _ _ (asN l) _ (48 + d) (by omega) rfl hown2 rfl hbw (Nat.le_refl _) HOLEN.out ?_; intro v' w' hown' hbw')
              go_roundw
              case rel => exact ⟨k / 10, u * 10 + d, by go_num, HSTEP.out, by rw [HDEC.out]; exact hown', hbw'⟩
              case measure => simp [intOf]; omega
          · have hu : ¬ 0 < u := fun h => hz (.inl h)
            have hpl := hlz0 hu
            have hd0 : d = 0 := by omega
            have hu0 : u = 0 := by omega
            subst hd0
            subst hu0
            clear hlz hlz0 hz hu
            go_wp2
            go_roundw
            case rel => exact ⟨k / 10, 0 * 10 + 0, by go_num, HSTEP.out, by show Own _ _ _ _ _ (asN (decs 0)); rw [HL.out]; exact hown2, hbw⟩
            case measure => simp [intOf]; omega
end Go.Proofs.YtgfojfiopcooeaaDoor
