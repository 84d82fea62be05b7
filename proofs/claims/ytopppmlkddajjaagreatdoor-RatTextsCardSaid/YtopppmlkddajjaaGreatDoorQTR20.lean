/- isochroneref02.Parse, whole. -/
import Derived.Test.YtopppmlkddajjaaGreatDoorQTR19
namespace Go.Proofs.YtopppmlkddajjaaGreatDoor
open Go.RowKit V

set_option maxHeartbeats 800000 in
theorem rparse_empty (s : ByteArray) (w : World) (hs : s.size = 0) :
    Calls Tryz.prog 38 #[.string s] w (RefErr 90 w) := by
  have hbl : Below w.heap.size w (w.alloc (.cells #[.bool false, .slice none 0 0, .slice none 0 0] 30)) := (Below.refl _ _).alloc (Nat.le_refl _) _
  have kr := BlkT.new 30 w (.bool false) (.slice none 0 0) (.slice none 0 0)
  have hne := is_empty hs
  have hne2 : (!s.toList.isEmpty) = false := by rw [hne]; rfl
  have hsi : (s.size : Int) = 0 := by omega
  go_enter Tryz.func38, Tryz.ntmps38
  go_upto_region 5 with fail
  obtain ⟨w1, hwe⟩ : ∃ x, w.alloc (.cells #[.bool false, .slice none 0 0, .slice none 0 0] 30) = x := ⟨_, rfl⟩
  rw [hwe] at hbl kr ⊢
  clear hwe
  go_wp2
  go_loop [5, 6, 7, 23] (fun a m _ i => a = .int .i64 0 ∧ m = .int .u8 0 ∧ i = .int .i64 0) (fun _ _ _ i => 0)
  case atStart => exact ⟨rfl, rfl, rfl⟩
  case round =>
    obtain ⟨rfl, rfl, rfl⟩ := hrel
    go_wp2_with fail
    refine (decimal_empty ByteArray.empty _ rfl).mono ?_
    rintro e w' ⟨rfl, rfl⟩
    obtain ⟨a0, a1, a2, a3, a4, a5, a6⟩ := kr.facts
    go_wp2_with fail
    refine bodyPost_ret (v := .tuple #[.agg #[.bool false, .slice none 0 0, .slice none 0 0], .int .i64 90]) (by simp [results, Tryz.results38, go_sem, a0, a1, a2]) rfl ?_
    exact ⟨rfl, by first | exact hbl | exact below_put3 hbl (Nat.le_refl _) _ _ _⟩
theorem rparse_ok (s : ByteArray) (neg : Bool) (t : List UInt8) (n d : Nat) (w : World) (hs : Sgn s.data.toList neg t) (h : Txt t n d) (hd : 0 < d) (hl : s.size ≤ 200) :
    Calls Tryz.prog 38 #[.string s] w (RefOk (mkRat (sgn neg n) d) 30000 w) := by
  have no := fun (l : List UInt8) (h : Digs l) => And.intro (h.1.no (c := 47) (by decide)) (h.1.no (c := 46) (by decide))
  rcases hs with ⟨rfl, hs⟩ | ⟨rfl, hs, hns⟩
  · cases h with
    | int _ h1 => exact rparse_n_plain_ok s _ hs (no _ h1).1 (no _ h1).2 h1 w hl
    | frac p q h1 h2 => exact rparse_n_slash_ok s p q _ hs rfl (no _ h1).1 (no _ h1).2 h1 h2 hd w hl
    | dec p q h1 h2 => exact rparse_n_point_ok s p q _ hs rfl (no _ h1).1 (no _ h1).2 h1 h2 w hl
  · have hpos : 0 < s.size := by
      rw [Lib.size_eq, hs]
      cases h with
      | int _ h1 => exact h1.2
      | frac p q h1 h2 => simp; omega
      | dec p q h1 h2 => simp; omega
    cases h with
    | int _ h1 => exact rparse_p_plain_ok s _ hs hpos hns (no _ h1).1 (no _ h1).2 h1 w hl
    | frac p q h1 h2 => exact rparse_p_slash_ok s p q _ hs hpos hns rfl (no _ h1).1 (no _ h1).2 h1 h2 hd w hl
    | dec p q h1 h2 => exact rparse_p_point_ok s p q _ hs hpos hns rfl (no _ h1).1 (no _ h1).2 h1 h2 w hl
theorem rparse_zero (s : ByteArray) (neg : Bool) (t : List UInt8) (n : Nat) (w : World) (hs : Sgn s.data.toList neg t) (h : Txt t n 0) (hl : s.size ≤ 200) :
    Calls Tryz.prog 38 #[.string s] w (RefErr 20 w) := by
  have no := fun (l : List UInt8) (h : Digs l) => And.intro (h.1.no (c := 47) (by decide)) (h.1.no (c := 46) (by decide))
  generalize hd : (0 : Nat) = d at h
  rcases hs with ⟨rfl, hs⟩ | ⟨rfl, hs, hns⟩
  · cases h with
    | int _ h1 => omega
    | frac p q h1 h2 => exact rparse_n_slash_zero s p q _ hs rfl (no _ h1).1 (no _ h1).2 h1 h2 hd.symm w hl
    | dec p q h1 h2 => have : 0 < 10 ^ q.length := Nat.pow_pos (by omega); omega
  · cases h with
    | int _ h1 => omega
    | frac p q h1 h2 => exact rparse_p_slash_zero s p q _ hs (by rw [Lib.size_eq, hs]; simp; omega) hns rfl (no _ h1).1 (no _ h1).2 h1 h2 hd.symm w hl
    | dec p q h1 h2 => have : 0 < 10 ^ q.length := Nat.pow_pos (by omega); omega
theorem rparse_bad (s : ByteArray) (neg : Bool) (t : List UInt8) (w : World) (hs : Sgn s.data.toList neg t) (h : NoTxt t) (hl : s.size ≤ 200) :
    Calls Tryz.prog 38 #[.string s] w (RefErr 90 w) := by
  rcases hs with ⟨rfl, hs⟩ | ⟨rfl, hs, hns⟩
  · rcases mark_cases t with ⟨h1, h2⟩ | ⟨p, q, c, rfl, hc, h1, h2⟩
    · exact rparse_n_plain_bad1 s _ hs h1 h2 (noTxt_plain h) w hl
    · have h3 := noTxt_mark h hc
      rcases hc with rfl | rfl
      · rcases h3 with h3 | ⟨h3, h4⟩
        · exact rparse_n_slash_bad1 s p q _ hs rfl h1 h2 h3 w hl
        · exact rparse_n_slash_bad2 s p q _ hs rfl h1 h2 h3 h4 w hl
      · rcases h3 with h3 | ⟨h3, h4⟩
        · exact rparse_n_point_bad1 s p q _ hs rfl h1 h2 h3 w hl
        · exact rparse_n_point_bad2 s p q _ hs rfl h1 h2 h3 h4 w hl
  · rcases Nat.eq_zero_or_pos s.size with h0 | hpos
    · exact rparse_empty s w h0
    · rcases mark_cases t with ⟨h1, h2⟩ | ⟨p, q, c, rfl, hc, h1, h2⟩
      · exact rparse_p_plain_bad1 s _ hs hpos hns h1 h2 (noTxt_plain h) w hl
      · have h3 := noTxt_mark h hc
        rcases hc with rfl | rfl
        · rcases h3 with h3 | ⟨h3, h4⟩
          · exact rparse_p_slash_bad1 s p q _ hs hpos hns rfl h1 h2 h3 w hl
          · exact rparse_p_slash_bad2 s p q _ hs hpos hns rfl h1 h2 h3 h4 w hl
        · rcases h3 with h3 | ⟨h3, h4⟩
          · exact rparse_p_point_bad1 s p q _ hs hpos hns rfl h1 h2 h3 w hl
          · exact rparse_p_point_bad2 s p q _ hs hpos hns rfl h1 h2 h3 h4 w hl
end Go.Proofs.YtopppmlkddajjaaGreatDoor

