/- isochronelaw02.RatTexts answers true for all arguments: the walks. -/
import Derived.Test.YtopppmlkddajjaaGreatDoorQTR20
namespace Go.Proofs.YtopppmlkddajjaaGreatDoor
open Go.RowKit V
theorem hmx_keep {w w' : World} {g : Nat} {m : Int} (h : w.cell? ⟨g, 0, none⟩ = some (.int .i64 m)) (hb : Below w.heap.size w w') : w'.cell? ⟨g, 0, none⟩ = some (.int .i64 m) := by
  rw [hb.cell (cell_in h)]; exact h
/-- The text of a number, as a text without a sign and its sign. -/
theorem own_text (a : RL) (q : Rat) (w : World) (ha : a.Is w q) (l1 : a.ns.length ≤ 6) (l2 : a.ds.length ≤ 6) : ∃ t t1 : List UInt8, Hid (ratText a.s (V32 a.ns) (V32 a.ds) = t) ∧ Hid (Sgn (⟨t.toArray⟩ : ByteArray).data.toList a.s t1) ∧ Hid (Txt t1 (V32 a.ns) (V32 a.ds)) ∧ Hid (t.length ≤ 20000) ∧
    Hid (∀ (u : RL) (w' : World), u.Ref w' q → ratText u.s (VD u.ns) (VD u.ds) = t) := by
  have h1 := dec_short ha.mn l1 (by omega)
  have h2 := dec_short ha.md l2 (by omega)
  have d1 : Digs (Lib.decDigits (V32 a.ns)) := ⟨dec_all _, dec_pos _⟩
  have d2 : Digs (Lib.decDigits (V32 a.ds)) := ⟨dec_all _, dec_pos _⟩
  refine ⟨ratText a.s (V32 a.ns) (V32 a.ds), Lib.decDigits (V32 a.ns) ++ (if V32 a.ds = 1 then [] else 47 :: Lib.decDigits (V32 a.ds)), Lib.hid rfl, ?_, ?_, ?_, Lib.hid fun u w' hu => ?_⟩
  · show Sgn (ratText _ _ _) _ _
    cases hs : a.s with
    | true => exact Or.inl ⟨rfl, by simp [ratText]⟩
    | false =>
      refine Or.inr ⟨rfl, by simp [ratText], fun u h => ?_⟩
      cases hd : Lib.decDigits (V32 a.ns) with
      | nil => have := d1.2; rw [hd] at this; simp at this
      | cons b r =>
        rw [hd] at h
        have hb : isD b := d1.1 b (by rw [hd]; simp)
        simp at h
        rw [h.1] at hb
        exact absurd hb.1 (by decide)
  · show Txt _ _ _
    by_cases h : V32 a.ds = 1
    · rw [if_pos h, List.append_nil, h]
      have := Txt.int _ d1
      rwa [dnum_dec] at this
    · rw [if_neg h]
      have := Txt.frac _ _ d1 d2
      rwa [dnum_dec, dnum_dec] at this
  · show _ ≤ _
    unfold ratText
    simp only [List.length_append]
    split <;> split <;> simp <;> omega
  · obtain ⟨e1, e2, e3⟩ := ha.q.inj hu.q
    rw [e1, e2, e3]
theorem same_is (a b : RL) (q : Rat) (w : World) (ha : a.Is w q) (hb_ : b.Is w q) (l1 : b.ns.length ≤ 100000) (l2 : b.ds.length ≤ 100000) :
    Calls Tryz.prog 37 #[.agg #[.bool a.s, .slice a.N a.ns.length a.nc, .slice a.D a.ds.length a.dc], .agg #[.bool b.s, .slice b.N b.ns.length b.nc, .slice b.D b.ds.length b.dc]] w (Yes w) := by
  obtain ⟨s, N, nc, ns, D, dc, ds⟩ := a
  obtain ⟨s2, N2, nc2, ns2, D2, dc2, ds2⟩ := b
  obtain ⟨e1, e2, e3⟩ := ha.q.inj hb_.q
  have f2 : ns = ns2 := ha.mn.eq hb_.mn e2
  have f3 : ds = ds2 := ha.md.eq hb_.md e3
  dsimp only at e1
  subst e1 f2 f3
  exact qsame_yes s N N2 D D2 nc nc2 dc dc2 ns ds w ha.rn hb_.rn ha.rd hb_.rd (by dsimp only at l1; omega) (by dsimp only at l2; omega)
/-- What comes back of a text of middle length: some number or none, and some error. -/
theorem ratparse_some (s : ByteArray) (mx : Int) (w : World) (hl : s.size ≤ 20000) (hm : w.cell? ⟨1, 0, none⟩ = some (.int .i64 mx)) :
    Calls Tryz.prog 35 #[.string s] w (fun e w' => ∃ (c : RL) (en : Int), e = .returned (.tuple #[.agg #[.bool c.s, .slice c.N c.ns.length c.nc, .slice c.D c.ds.length c.dc], .int .i64 en]) ∧ Below w.heap.size w w') := by
  obtain ⟨neg, t, hs⟩ := sgn_of s.data.toList
  rcases txt_or t with ⟨n, d, h⟩ | h
  · rcases Nat.eq_zero_or_pos d with rfl | hd
    · exact (ratparse_zero s neg t n mx w hs h hl hm).mono fun e w' h2 => ⟨⟨false, none, 0, [], none, 0, []⟩, _, h2.1, h2.2⟩
    · refine (ratparse_ok s neg t n d mx w hs h hd hl hm).mono fun e w' h2 => ?_
      obtain ⟨c, h3, _, _, _, h4⟩ := h2
      exact ⟨c, _, h3, h4⟩
  · exact (ratparse_bad s neg t mx w hs h hl hm).mono fun e w' h2 => ⟨⟨false, none, 0, [], none, 0, []⟩, _, h2.1, h2.2⟩
set_option maxRecDepth 100000 in
set_option maxHeartbeats 6400000 in
theorem qtexts_no (a : RL) (s : ByteArray) (w : World) (hraw : a.Raw w) (ha : a.Raw w) (hno : ¬ (a.Sm 6 ∧ a.Sm 6 ∧ a.Val ∧ a.Val)) (htab : Lib.TabBelow Tryz.prog w.heap.size w "internal/strconv.uint64pow10" .u64 Lib.pow10Tab) :
    Calls Tryz.prog 5 #[.agg #[.bool a.s, .slice a.N a.ns.length a.nc, .slice a.D a.ds.length a.dc], .string s] w (Yes w) := by
  have HT := Lib.hid htab
  have HNO := Lib.hid hno
  clear htab hno
  go_enter Tryz.func5, Tryz.ntmps5
  go_wp2_with fail
  have hbox := (⟨Blk3.new w (.bool a.s) (.slice a.N a.ns.length a.nc) (.slice a.D a.ds.length a.dc), (Below.refl _ _).alloc (Nat.le_refl _) _⟩ : _ ∧ Below w.heap.size w (w.alloc (.cells #[.bool a.s, .slice a.N a.ns.length a.nc, .slice a.D a.ds.length a.dc] 24)))
  obtain ⟨w1, hwe⟩ : ∃ x, w.alloc (.cells #[.bool a.s, .slice a.N a.ns.length a.nc, .slice a.D a.ds.length a.dc] 24) = x := ⟨_, rfl⟩
  rw [hwe] at hbox ⊢
  obtain ⟨ka1, hb1⟩ := hbox
  have HWE := Lib.hid hwe
  clear hwe HWE
  have hraw1 := hraw.below hb1
  have ha1 := ha.below hb1
  have hw1 := hb1
  clear hraw ha hb1
  refine (qawake_yes _ (fun w' h => HT.out w' (hw1.trans (h.mono hw1.size)))).mono ?_
  rintro e w2 ⟨rfl, hb2⟩
  have hraw2 := hraw1.below hb2
  have ha2 := ha1.below hb2
  have ka2 := ka1.below hb2
  have hw2 := hw1.trans (hb2.mono hw1.size)
  clear hraw1 ha1 ka1 hw1 hb2
  obtain ⟨a0, a1, a2, a3, a4, a5, a6⟩ := ka2.facts
  go_wp2_with fail
  refine (qsm_no a a 6 _ hraw2 hraw2 HNO.out).mono ?_
  rintro e w3 ⟨rfl, hb3⟩
  have hraw3 := hraw2.below hb3
  have ha3 := ha2.below hb3
  have ka3 := ka2.below hb3
  have hw3 := hw2.trans (hb3.mono hw2.size)
  clear hraw2 ha2 ka2 hw2 hb3
  clear a0 a1 a2 a3 a4 a5 a6
  go_wp2_with fail
  go_ret
  exact ⟨rfl, hw3⟩
set_option maxRecDepth 100000 in
set_option maxHeartbeats 6400000 in
theorem qtexts_long (a : RL) (q : Rat) (s : ByteArray) (n : Int) (hn : (s.size : Int) = n) (hsz : 20000 < n) (w : World) (hraw : a.Raw w) (ha : a.Is w q) (l1 : a.ns.length ≤ 6) (l2 : a.ds.length ≤ 6) (hva : Hid a.Val) (htab : Lib.TabBelow Tryz.prog w.heap.size w "internal/strconv.uint64pow10" .u64 Lib.pow10Tab) (mx : Int) (hmx : w.cell? ⟨1, 0, none⟩ = some (.int .i64 mx)) :
    Calls Tryz.prog 5 #[.agg #[.bool a.s, .slice a.N a.ns.length a.nc, .slice a.D a.ds.length a.dc], .string s] w (Yes w) := by
  have HT := Lib.hid htab
  have HM := Lib.hid hmx
  have HVA := hva
  obtain ⟨t, t1, HTX, HSG, HT1, HTL, HTU⟩ := own_text a q w ha l1 l2
  have HDP := Lib.hid ha.q.pos
  have HQ := Lib.hid ha.q.eq
  clear htab hva hmx
  go_enter Tryz.func5, Tryz.ntmps5
  go_wp2_with fail
  have hbox := (⟨Blk3.new w (.bool a.s) (.slice a.N a.ns.length a.nc) (.slice a.D a.ds.length a.dc), (Below.refl _ _).alloc (Nat.le_refl _) _⟩ : _ ∧ Below w.heap.size w (w.alloc (.cells #[.bool a.s, .slice a.N a.ns.length a.nc, .slice a.D a.ds.length a.dc] 24)))
  obtain ⟨w1, hwe⟩ : ∃ x, w.alloc (.cells #[.bool a.s, .slice a.N a.ns.length a.nc, .slice a.D a.ds.length a.dc] 24) = x := ⟨_, rfl⟩
  rw [hwe] at hbox ⊢
  obtain ⟨ka1, hb1⟩ := hbox
  have HWE := Lib.hid hwe
  clear hwe HWE
  have hraw1 := hraw.below hb1
  have ha1 := ha.below hb1
  have hw1 := hb1
  clear hraw ha hb1
  refine (qawake_yes _ (fun w' h => HT.out w' (hw1.trans (h.mono hw1.size)))).mono ?_
  rintro e w2 ⟨rfl, hb2⟩
  have hraw2 := hraw1.below hb2
  have ha2 := ha1.below hb2
  have ka2 := ka1.below hb2
  have hw2 := hw1.trans (hb2.mono hw1.size)
  clear hraw1 ha1 ka1 hw1 hb2
  obtain ⟨a0, a1, a2, a3, a4, a5, a6⟩ := ka2.facts
  go_wp2_with fail
  refine (qsm_yes a a 6 _ hraw2 hraw2 ⟨l1, l2⟩ ⟨l1, l2⟩ HVA HVA).mono ?_
  rintro e w3 ⟨rfl, hb3⟩
  have hraw3 := hraw2.below hb3
  have ha3 := ha2.below hb3
  have ka3 := ka2.below hb3
  have hw3 := hw2.trans (hb3.mono hw2.size)
  clear hraw2 ha2 ka2 hw2 hb3
  clear a0 a1 a2 a3 a4 a5 a6
  obtain ⟨a0, a1, a2, a3, a4, a5, a6⟩ := ka3.facts
  go_wp2_with fail
  refine (qtext a q _ ha3 (by omega) (by omega) (fun w' h => HT.out w' (hw3.trans (h.mono hw3.size)))).mono ?_
  rintro e w4 ⟨he, hb4⟩
  rw [HTX.out] at he
  subst he
  have hraw4 := hraw3.below hb4
  have ha4 := ha3.below hb4
  have ka4 := ka3.below hb4
  have hw4 := hw3.trans (hb4.mono hw3.size)
  clear hraw3 ha3 ka3 hw3 hb4
  clear a0 a1 a2 a3 a4 a5 a6
  have hmk := hmx_keep HM.out hw4
  go_wp2_with fail
  refine (ratparse_ok ⟨t.toArray⟩ a.s t1 (V32 a.ns) (V32 a.ds) mx _ HSG.out HT1.out HDP.out (by rw [str_size]; exact HTL.out) hmk).mono ?_
  rintro e w5 ⟨b, rfl, hbk5, hba, hbb, hb5⟩
  have hraw5 := hraw4.below hb5
  have ha5 := ha4.below hb5
  have ka5 := ka4.below hb5
  have hw5 := hw4.trans (hb5.mono hw4.size)
  clear hraw4 ha4 ka4 hw4 hb5
  clear hmk
  rw [← HQ.out] at hbk5
  go_upto_region 7 with fail
  have kb6 := Blk3.new w5 (.bool b.s) (.slice b.N b.ns.length b.nc) (.slice b.D b.ds.length b.dc)
  have hb6 : Below w5.heap.size w5 (w5.alloc (.cells #[.bool b.s, .slice b.N b.ns.length b.nc, .slice b.D b.ds.length b.dc] 24)) := (Below.refl _ _).alloc (Nat.le_refl _) _
  obtain ⟨w6, hwe⟩ : ∃ x, w5.alloc (.cells #[.bool b.s, .slice b.N b.ns.length b.nc, .slice b.D b.ds.length b.dc] 24) = x := ⟨_, rfl⟩
  rw [hwe] at kb6 hb6 ⊢
  clear hwe
  have hraw6 := hraw5.below hb6
  have ha6 := ha5.below hb6
  have ka6 := ka5.below hb6
  have hbk6 := hbk5.below hb6
  have hw6 := hw5.trans (hb6.mono hw5.size)
  clear hraw5 ha5 ka5 hbk5 hw5 hb6
  obtain ⟨a0, a1, a2, a3, a4, a5, a6⟩ := ka6.facts
  obtain ⟨b0, b1, b2, b3, b4, b5, b6⟩ := kb6.facts
  go_wp2_with fail
  refine (qof a q _ ha6 (by omega) (by omega)).mono ?_
  rintro e w7 ⟨u, rfl, hx7, hxa, hxb, hb7⟩
  have hraw7 := hraw6.below hb7
  have ha7 := ha6.below hb7
  have ka7 := ka6.below hb7
  have hbk7 := hbk6.below hb7
  have kb7 := kb6.below hb7
  have hw7 := hw6.trans (hb7.mono hw6.size)
  clear hraw6 ha6 ka6 hbk6 kb6 hw6 hb7
  clear a0 a1 a2 a3 a4 a5 a6
  clear b0 b1 b2 b3 b4 b5 b6
  obtain ⟨a0, a1, a2, a3, a4, a5, a6⟩ := ka7.facts
  obtain ⟨b0, b1, b2, b3, b4, b5, b6⟩ := kb7.facts
  go_wp2_with fail
  refine (rtextq u q _ hx7 (by omega) (by omega)).mono ?_
  rintro e w8 ⟨he, hb8⟩
  rw [(HTU.out u _ hx7)] at he
  subst he
  have hraw8 := hraw7.below hb8
  have ha8 := ha7.below hb8
  have ka8 := ka7.below hb8
  have hbk8 := hbk7.below hb8
  have kb8 := kb7.below hb8
  have hx8 := hx7.below hb8
  have hw8 := hw7.trans (hb8.mono hw7.size)
  clear hraw7 ha7 ka7 hbk7 kb7 hx7 hw7 hb8
  clear a0 a1 a2 a3 a4 a5 a6
  clear b0 b1 b2 b3 b4 b5 b6
  obtain ⟨a0, a1, a2, a3, a4, a5, a6⟩ := ka8.facts
  obtain ⟨b0, b1, b2, b3, b4, b5, b6⟩ := kb8.facts
  go_wp2_with fail
  refine (same_is b a q _ hbk8 ha8 (by omega) (by omega)).mono ?_
  rintro e w9 ⟨rfl, hb9⟩
  have hraw9 := hraw8.below hb9
  have ha9 := ha8.below hb9
  have ka9 := ka8.below hb9
  have hbk9 := hbk8.below hb9
  have kb9 := kb8.below hb9
  have hx9 := hx8.below hb9
  have hw9 := hw8.trans (hb9.mono hw8.size)
  clear hraw8 ha8 ka8 hbk8 kb8 hx8 hw8 hb9
  clear a0 a1 a2 a3 a4 a5 a6
  clear b0 b1 b2 b3 b4 b5 b6
  have hmk := hmx_keep HM.out hw9
  go_wp2_with fail
  refine (ratparse_long s n _ hn hsz).mono ?_
  rintro e w10 ⟨rfl, hb10⟩
  have hraw10 := hraw9.below hb10
  have ha10 := ha9.below hb10
  have ka10 := ka9.below hb10
  have hbk10 := hbk9.below hb10
  have kb10 := kb9.below hb10
  have hx10 := hx9.below hb10
  have hw10 := hw9.trans (hb10.mono hw9.size)
  clear hraw9 ha9 ka9 hbk9 kb9 hx9 hw9 hb10
  clear hmk
  go_upto_region 10 with fail
  have kc11 := Blk3.new w10 (.bool false) (.slice none 0 0) (.slice none 0 0)
  have hb11 : Below w10.heap.size w10 (w10.alloc (.cells #[.bool false, .slice none 0 0, .slice none 0 0] 24)) := (Below.refl _ _).alloc (Nat.le_refl _) _
  obtain ⟨w11, hwe⟩ : ∃ x, w10.alloc (.cells #[.bool false, .slice none 0 0, .slice none 0 0] 24) = x := ⟨_, rfl⟩
  rw [hwe] at kc11 hb11 ⊢
  clear hwe
  have hraw11 := hraw10.below hb11
  have ha11 := ha10.below hb11
  have ka11 := ka10.below hb11
  have hbk11 := hbk10.below hb11
  have kb11 := kb10.below hb11
  have hx11 := hx10.below hb11
  have hw11 := hw10.trans (hb11.mono hw10.size)
  clear hraw10 ha10 ka10 hbk10 kb10 hx10 hw10 hb11
  obtain ⟨c0, c1, c2, c3, c4, c5, c6⟩ := kc11.facts
  go_wp2_with fail
  refine (qnone_yes _).mono ?_
  rintro e w12 ⟨rfl, hb12⟩
  have hraw12 := hraw11.below hb12
  have ha12 := ha11.below hb12
  have ka12 := ka11.below hb12
  have hbk12 := hbk11.below hb12
  have kb12 := kb11.below hb12
  have hx12 := hx11.below hb12
  have kc12 := kc11.below hb12
  have hw12 := hw11.trans (hb12.mono hw11.size)
  clear hraw11 ha11 ka11 hbk11 kb11 hx11 kc11 hw11 hb12
  clear c0 c1 c2 c3 c4 c5 c6
  go_wp2_with fail
  go_ret
  exact ⟨rfl, hw12⟩
set_option maxRecDepth 100000 in
set_option maxHeartbeats 6400000 in
theorem qtexts_mid (a : RL) (q : Rat) (s : ByteArray) (hsz1 : 200 < s.size) (hsz2 : s.size ≤ 20000) (w : World) (hraw : a.Raw w) (ha : a.Is w q) (l1 : a.ns.length ≤ 6) (l2 : a.ds.length ≤ 6) (hva : Hid a.Val) (htab : Lib.TabBelow Tryz.prog w.heap.size w "internal/strconv.uint64pow10" .u64 Lib.pow10Tab) (mx : Int) (hmx : w.cell? ⟨1, 0, none⟩ = some (.int .i64 mx)) :
    Calls Tryz.prog 5 #[.agg #[.bool a.s, .slice a.N a.ns.length a.nc, .slice a.D a.ds.length a.dc], .string s] w (Yes w) := by
  have HT := Lib.hid htab
  have HM := Lib.hid hmx
  have HVA := hva
  obtain ⟨t, t1, HTX, HSG, HT1, HTL, HTU⟩ := own_text a q w ha l1 l2
  have HDP := Lib.hid ha.q.pos
  have HQ := Lib.hid ha.q.eq
  clear htab hva hmx
  go_enter Tryz.func5, Tryz.ntmps5
  go_wp2_with fail
  have hbox := (⟨Blk3.new w (.bool a.s) (.slice a.N a.ns.length a.nc) (.slice a.D a.ds.length a.dc), (Below.refl _ _).alloc (Nat.le_refl _) _⟩ : _ ∧ Below w.heap.size w (w.alloc (.cells #[.bool a.s, .slice a.N a.ns.length a.nc, .slice a.D a.ds.length a.dc] 24)))
  obtain ⟨w1, hwe⟩ : ∃ x, w.alloc (.cells #[.bool a.s, .slice a.N a.ns.length a.nc, .slice a.D a.ds.length a.dc] 24) = x := ⟨_, rfl⟩
  rw [hwe] at hbox ⊢
  obtain ⟨ka1, hb1⟩ := hbox
  have HWE := Lib.hid hwe
  clear hwe HWE
  have hraw1 := hraw.below hb1
  have ha1 := ha.below hb1
  have hw1 := hb1
  clear hraw ha hb1
  refine (qawake_yes _ (fun w' h => HT.out w' (hw1.trans (h.mono hw1.size)))).mono ?_
  rintro e w2 ⟨rfl, hb2⟩
  have hraw2 := hraw1.below hb2
  have ha2 := ha1.below hb2
  have ka2 := ka1.below hb2
  have hw2 := hw1.trans (hb2.mono hw1.size)
  clear hraw1 ha1 ka1 hw1 hb2
  obtain ⟨a0, a1, a2, a3, a4, a5, a6⟩ := ka2.facts
  go_wp2_with fail
  refine (qsm_yes a a 6 _ hraw2 hraw2 ⟨l1, l2⟩ ⟨l1, l2⟩ HVA HVA).mono ?_
  rintro e w3 ⟨rfl, hb3⟩
  have hraw3 := hraw2.below hb3
  have ha3 := ha2.below hb3
  have ka3 := ka2.below hb3
  have hw3 := hw2.trans (hb3.mono hw2.size)
  clear hraw2 ha2 ka2 hw2 hb3
  clear a0 a1 a2 a3 a4 a5 a6
  obtain ⟨a0, a1, a2, a3, a4, a5, a6⟩ := ka3.facts
  go_wp2_with fail
  refine (qtext a q _ ha3 (by omega) (by omega) (fun w' h => HT.out w' (hw3.trans (h.mono hw3.size)))).mono ?_
  rintro e w4 ⟨he, hb4⟩
  rw [HTX.out] at he
  subst he
  have hraw4 := hraw3.below hb4
  have ha4 := ha3.below hb4
  have ka4 := ka3.below hb4
  have hw4 := hw3.trans (hb4.mono hw3.size)
  clear hraw3 ha3 ka3 hw3 hb4
  clear a0 a1 a2 a3 a4 a5 a6
  have hmk := hmx_keep HM.out hw4
  go_wp2_with fail
  refine (ratparse_ok ⟨t.toArray⟩ a.s t1 (V32 a.ns) (V32 a.ds) mx _ HSG.out HT1.out HDP.out (by rw [str_size]; exact HTL.out) hmk).mono ?_
  rintro e w5 ⟨b, rfl, hbk5, hba, hbb, hb5⟩
  have hraw5 := hraw4.below hb5
  have ha5 := ha4.below hb5
  have ka5 := ka4.below hb5
  have hw5 := hw4.trans (hb5.mono hw4.size)
  clear hraw4 ha4 ka4 hw4 hb5
  clear hmk
  rw [← HQ.out] at hbk5
  go_upto_region 7 with fail
  have kb6 := Blk3.new w5 (.bool b.s) (.slice b.N b.ns.length b.nc) (.slice b.D b.ds.length b.dc)
  have hb6 : Below w5.heap.size w5 (w5.alloc (.cells #[.bool b.s, .slice b.N b.ns.length b.nc, .slice b.D b.ds.length b.dc] 24)) := (Below.refl _ _).alloc (Nat.le_refl _) _
  obtain ⟨w6, hwe⟩ : ∃ x, w5.alloc (.cells #[.bool b.s, .slice b.N b.ns.length b.nc, .slice b.D b.ds.length b.dc] 24) = x := ⟨_, rfl⟩
  rw [hwe] at kb6 hb6 ⊢
  clear hwe
  have hraw6 := hraw5.below hb6
  have ha6 := ha5.below hb6
  have ka6 := ka5.below hb6
  have hbk6 := hbk5.below hb6
  have hw6 := hw5.trans (hb6.mono hw5.size)
  clear hraw5 ha5 ka5 hbk5 hw5 hb6
  obtain ⟨a0, a1, a2, a3, a4, a5, a6⟩ := ka6.facts
  obtain ⟨b0, b1, b2, b3, b4, b5, b6⟩ := kb6.facts
  go_wp2_with fail
  refine (qof a q _ ha6 (by omega) (by omega)).mono ?_
  rintro e w7 ⟨u, rfl, hx7, hxa, hxb, hb7⟩
  have hraw7 := hraw6.below hb7
  have ha7 := ha6.below hb7
  have ka7 := ka6.below hb7
  have hbk7 := hbk6.below hb7
  have kb7 := kb6.below hb7
  have hw7 := hw6.trans (hb7.mono hw6.size)
  clear hraw6 ha6 ka6 hbk6 kb6 hw6 hb7
  clear a0 a1 a2 a3 a4 a5 a6
  clear b0 b1 b2 b3 b4 b5 b6
  obtain ⟨a0, a1, a2, a3, a4, a5, a6⟩ := ka7.facts
  obtain ⟨b0, b1, b2, b3, b4, b5, b6⟩ := kb7.facts
  go_wp2_with fail
  refine (rtextq u q _ hx7 (by omega) (by omega)).mono ?_
  rintro e w8 ⟨he, hb8⟩
  rw [(HTU.out u _ hx7)] at he
  subst he
  have hraw8 := hraw7.below hb8
  have ha8 := ha7.below hb8
  have ka8 := ka7.below hb8
  have hbk8 := hbk7.below hb8
  have kb8 := kb7.below hb8
  have hx8 := hx7.below hb8
  have hw8 := hw7.trans (hb8.mono hw7.size)
  clear hraw7 ha7 ka7 hbk7 kb7 hx7 hw7 hb8
  clear a0 a1 a2 a3 a4 a5 a6
  clear b0 b1 b2 b3 b4 b5 b6
  obtain ⟨a0, a1, a2, a3, a4, a5, a6⟩ := ka8.facts
  obtain ⟨b0, b1, b2, b3, b4, b5, b6⟩ := kb8.facts
  go_wp2_with fail
  refine (same_is b a q _ hbk8 ha8 (by omega) (by omega)).mono ?_
  rintro e w9 ⟨rfl, hb9⟩
  have hraw9 := hraw8.below hb9
  have ha9 := ha8.below hb9
  have ka9 := ka8.below hb9
  have hbk9 := hbk8.below hb9
  have kb9 := kb8.below hb9
  have hx9 := hx8.below hb9
  have hw9 := hw8.trans (hb9.mono hw8.size)
  clear hraw8 ha8 ka8 hbk8 kb8 hx8 hw8 hb9
  clear a0 a1 a2 a3 a4 a5 a6
  clear b0 b1 b2 b3 b4 b5 b6
  have hmk := hmx_keep HM.out hw9
  go_wp2_with fail
  refine (ratparse_some s mx _ (by omega) hmk).mono ?_
  rintro e w10 ⟨c, en, rfl, hb10⟩
  have hraw10 := hraw9.below hb10
  have ha10 := ha9.below hb10
  have ka10 := ka9.below hb10
  have hbk10 := hbk9.below hb10
  have kb10 := kb9.below hb10
  have hx10 := hx9.below hb10
  have hw10 := hw9.trans (hb10.mono hw9.size)
  clear hraw9 ha9 ka9 hbk9 kb9 hx9 hw9 hb10
  clear hmk
  go_upto_region 10 with fail
  have kc11 := Blk3.new w10 (.bool c.s) (.slice c.N c.ns.length c.nc) (.slice c.D c.ds.length c.dc)
  have hb11 : Below w10.heap.size w10 (w10.alloc (.cells #[.bool c.s, .slice c.N c.ns.length c.nc, .slice c.D c.ds.length c.dc] 24)) := (Below.refl _ _).alloc (Nat.le_refl _) _
  obtain ⟨w11, hwe⟩ : ∃ x, w10.alloc (.cells #[.bool c.s, .slice c.N c.ns.length c.nc, .slice c.D c.ds.length c.dc] 24) = x := ⟨_, rfl⟩
  rw [hwe] at kc11 hb11 ⊢
  clear hwe
  have hraw11 := hraw10.below hb11
  have ha11 := ha10.below hb11
  have ka11 := ka10.below hb11
  have hbk11 := hbk10.below hb11
  have kb11 := kb10.below hb11
  have hx11 := hx10.below hb11
  have hw11 := hw10.trans (hb11.mono hw10.size)
  clear hraw10 ha10 ka10 hbk10 kb10 hx10 hw10 hb11
  go_wp2_with fail
  go_ret
  exact ⟨rfl, hw11⟩
set_option maxRecDepth 100000 in
set_option maxHeartbeats 6400000 in
theorem qtexts_bad (a : RL) (q : Rat) (s : ByteArray) (hsz : s.size ≤ 200) (neg : Bool) (t2 : List UInt8) (HSS : Hid (Sgn s.data.toList neg t2)) (HN : Hid (NoTxt t2)) (w : World) (hraw : a.Raw w) (ha : a.Is w q) (l1 : a.ns.length ≤ 6) (l2 : a.ds.length ≤ 6) (hva : Hid a.Val) (htab : Lib.TabBelow Tryz.prog w.heap.size w "internal/strconv.uint64pow10" .u64 Lib.pow10Tab) (mx : Int) (hmx : w.cell? ⟨1, 0, none⟩ = some (.int .i64 mx)) :
    Calls Tryz.prog 5 #[.agg #[.bool a.s, .slice a.N a.ns.length a.nc, .slice a.D a.ds.length a.dc], .string s] w (Yes w) := by
  have HT := Lib.hid htab
  have HM := Lib.hid hmx
  have HVA := hva
  obtain ⟨t, t1, HTX, HSG, HT1, HTL, HTU⟩ := own_text a q w ha l1 l2
  have HDP := Lib.hid ha.q.pos
  have HQ := Lib.hid ha.q.eq
  clear htab hva hmx
  go_enter Tryz.func5, Tryz.ntmps5
  go_wp2_with fail
  have hbox := (⟨Blk3.new w (.bool a.s) (.slice a.N a.ns.length a.nc) (.slice a.D a.ds.length a.dc), (Below.refl _ _).alloc (Nat.le_refl _) _⟩ : _ ∧ Below w.heap.size w (w.alloc (.cells #[.bool a.s, .slice a.N a.ns.length a.nc, .slice a.D a.ds.length a.dc] 24)))
  obtain ⟨w1, hwe⟩ : ∃ x, w.alloc (.cells #[.bool a.s, .slice a.N a.ns.length a.nc, .slice a.D a.ds.length a.dc] 24) = x := ⟨_, rfl⟩
  rw [hwe] at hbox ⊢
  obtain ⟨ka1, hb1⟩ := hbox
  have HWE := Lib.hid hwe
  clear hwe HWE
  have hraw1 := hraw.below hb1
  have ha1 := ha.below hb1
  have hw1 := hb1
  clear hraw ha hb1
  refine (qawake_yes _ (fun w' h => HT.out w' (hw1.trans (h.mono hw1.size)))).mono ?_
  rintro e w2 ⟨rfl, hb2⟩
  have hraw2 := hraw1.below hb2
  have ha2 := ha1.below hb2
  have ka2 := ka1.below hb2
  have hw2 := hw1.trans (hb2.mono hw1.size)
  clear hraw1 ha1 ka1 hw1 hb2
  obtain ⟨a0, a1, a2, a3, a4, a5, a6⟩ := ka2.facts
  go_wp2_with fail
  refine (qsm_yes a a 6 _ hraw2 hraw2 ⟨l1, l2⟩ ⟨l1, l2⟩ HVA HVA).mono ?_
  rintro e w3 ⟨rfl, hb3⟩
  have hraw3 := hraw2.below hb3
  have ha3 := ha2.below hb3
  have ka3 := ka2.below hb3
  have hw3 := hw2.trans (hb3.mono hw2.size)
  clear hraw2 ha2 ka2 hw2 hb3
  clear a0 a1 a2 a3 a4 a5 a6
  obtain ⟨a0, a1, a2, a3, a4, a5, a6⟩ := ka3.facts
  go_wp2_with fail
  refine (qtext a q _ ha3 (by omega) (by omega) (fun w' h => HT.out w' (hw3.trans (h.mono hw3.size)))).mono ?_
  rintro e w4 ⟨he, hb4⟩
  rw [HTX.out] at he
  subst he
  have hraw4 := hraw3.below hb4
  have ha4 := ha3.below hb4
  have ka4 := ka3.below hb4
  have hw4 := hw3.trans (hb4.mono hw3.size)
  clear hraw3 ha3 ka3 hw3 hb4
  clear a0 a1 a2 a3 a4 a5 a6
  have hmk := hmx_keep HM.out hw4
  go_wp2_with fail
  refine (ratparse_ok ⟨t.toArray⟩ a.s t1 (V32 a.ns) (V32 a.ds) mx _ HSG.out HT1.out HDP.out (by rw [str_size]; exact HTL.out) hmk).mono ?_
  rintro e w5 ⟨b, rfl, hbk5, hba, hbb, hb5⟩
  have hraw5 := hraw4.below hb5
  have ha5 := ha4.below hb5
  have ka5 := ka4.below hb5
  have hw5 := hw4.trans (hb5.mono hw4.size)
  clear hraw4 ha4 ka4 hw4 hb5
  clear hmk
  rw [← HQ.out] at hbk5
  go_upto_region 7 with fail
  have kb6 := Blk3.new w5 (.bool b.s) (.slice b.N b.ns.length b.nc) (.slice b.D b.ds.length b.dc)
  have hb6 : Below w5.heap.size w5 (w5.alloc (.cells #[.bool b.s, .slice b.N b.ns.length b.nc, .slice b.D b.ds.length b.dc] 24)) := (Below.refl _ _).alloc (Nat.le_refl _) _
  obtain ⟨w6, hwe⟩ : ∃ x, w5.alloc (.cells #[.bool b.s, .slice b.N b.ns.length b.nc, .slice b.D b.ds.length b.dc] 24) = x := ⟨_, rfl⟩
  rw [hwe] at kb6 hb6 ⊢
  clear hwe
  have hraw6 := hraw5.below hb6
  have ha6 := ha5.below hb6
  have ka6 := ka5.below hb6
  have hbk6 := hbk5.below hb6
  have hw6 := hw5.trans (hb6.mono hw5.size)
  clear hraw5 ha5 ka5 hbk5 hw5 hb6
  obtain ⟨a0, a1, a2, a3, a4, a5, a6⟩ := ka6.facts
  obtain ⟨b0, b1, b2, b3, b4, b5, b6⟩ := kb6.facts
  go_wp2_with fail
  refine (qof a q _ ha6 (by omega) (by omega)).mono ?_
  rintro e w7 ⟨u, rfl, hx7, hxa, hxb, hb7⟩
  have hraw7 := hraw6.below hb7
  have ha7 := ha6.below hb7
  have ka7 := ka6.below hb7
  have hbk7 := hbk6.below hb7
  have kb7 := kb6.below hb7
  have hw7 := hw6.trans (hb7.mono hw6.size)
  clear hraw6 ha6 ka6 hbk6 kb6 hw6 hb7
  clear a0 a1 a2 a3 a4 a5 a6
  clear b0 b1 b2 b3 b4 b5 b6
  obtain ⟨a0, a1, a2, a3, a4, a5, a6⟩ := ka7.facts
  obtain ⟨b0, b1, b2, b3, b4, b5, b6⟩ := kb7.facts
  go_wp2_with fail
  refine (rtextq u q _ hx7 (by omega) (by omega)).mono ?_
  rintro e w8 ⟨he, hb8⟩
  rw [(HTU.out u _ hx7)] at he
  subst he
  have hraw8 := hraw7.below hb8
  have ha8 := ha7.below hb8
  have ka8 := ka7.below hb8
  have hbk8 := hbk7.below hb8
  have kb8 := kb7.below hb8
  have hx8 := hx7.below hb8
  have hw8 := hw7.trans (hb8.mono hw7.size)
  clear hraw7 ha7 ka7 hbk7 kb7 hx7 hw7 hb8
  clear a0 a1 a2 a3 a4 a5 a6
  clear b0 b1 b2 b3 b4 b5 b6
  obtain ⟨a0, a1, a2, a3, a4, a5, a6⟩ := ka8.facts
  obtain ⟨b0, b1, b2, b3, b4, b5, b6⟩ := kb8.facts
  go_wp2_with fail
  refine (same_is b a q _ hbk8 ha8 (by omega) (by omega)).mono ?_
  rintro e w9 ⟨rfl, hb9⟩
  have hraw9 := hraw8.below hb9
  have ha9 := ha8.below hb9
  have ka9 := ka8.below hb9
  have hbk9 := hbk8.below hb9
  have kb9 := kb8.below hb9
  have hx9 := hx8.below hb9
  have hw9 := hw8.trans (hb9.mono hw8.size)
  clear hraw8 ha8 ka8 hbk8 kb8 hx8 hw8 hb9
  clear a0 a1 a2 a3 a4 a5 a6
  clear b0 b1 b2 b3 b4 b5 b6
  have hmk := hmx_keep HM.out hw9
  go_wp2_with fail
  refine (ratparse_bad s neg t2 mx _ HSS.out HN.out (by omega) hmk).mono ?_
  rintro e w10 ⟨rfl, hb10⟩
  have hraw10 := hraw9.below hb10
  have ha10 := ha9.below hb10
  have ka10 := ka9.below hb10
  have hbk10 := hbk9.below hb10
  have kb10 := kb9.below hb10
  have hx10 := hx9.below hb10
  have hw10 := hw9.trans (hb10.mono hw9.size)
  clear hraw9 ha9 ka9 hbk9 kb9 hx9 hw9 hb10
  clear hmk
  go_upto_region 10 with fail
  have kc11 := Blk3.new w10 (.bool false) (.slice none 0 0) (.slice none 0 0)
  have hb11 : Below w10.heap.size w10 (w10.alloc (.cells #[.bool false, .slice none 0 0, .slice none 0 0] 24)) := (Below.refl _ _).alloc (Nat.le_refl _) _
  obtain ⟨w11, hwe⟩ : ∃ x, w10.alloc (.cells #[.bool false, .slice none 0 0, .slice none 0 0] 24) = x := ⟨_, rfl⟩
  rw [hwe] at kc11 hb11 ⊢
  clear hwe
  have hraw11 := hraw10.below hb11
  have ha11 := ha10.below hb11
  have ka11 := ka10.below hb11
  have hbk11 := hbk10.below hb11
  have kb11 := kb10.below hb11
  have hx11 := hx10.below hb11
  have hw11 := hw10.trans (hb11.mono hw10.size)
  clear hraw10 ha10 ka10 hbk10 kb10 hx10 hw10 hb11
  go_wp2_with fail
  refine (rparse_bad s neg t2 _ HSS.out HN.out (by omega)).mono ?_
  rintro e w12 ⟨rfl, hb12⟩
  have hraw12 := hraw11.below hb12
  have ha12 := ha11.below hb12
  have ka12 := ka11.below hb12
  have hbk12 := hbk11.below hb12
  have kb12 := kb11.below hb12
  have hx12 := hx11.below hb12
  have kc12 := kc11.below hb12
  have hw12 := hw11.trans (hb12.mono hw11.size)
  clear hraw11 ha11 ka11 hbk11 kb11 hx11 kc11 hw11 hb12
  go_upto_region 15 with fail
  have kd13 := BlkT.new 30 w12 (.bool false) (.slice none 0 0) (.slice none 0 0)
  have hb13 : Below w12.heap.size w12 (w12.alloc (.cells #[.bool false, .slice none 0 0, .slice none 0 0] 30)) := (Below.refl _ _).alloc (Nat.le_refl _) _
  obtain ⟨w13, hwe⟩ : ∃ x, w12.alloc (.cells #[.bool false, .slice none 0 0, .slice none 0 0] 30) = x := ⟨_, rfl⟩
  rw [hwe] at kd13 hb13 ⊢
  clear hwe
  have hraw13 := hraw12.below hb13
  have ha13 := ha12.below hb13
  have ka13 := ka12.below hb13
  have hbk13 := hbk12.below hb13
  have kb13 := kb12.below hb13
  have hx13 := hx12.below hb13
  have kc13 := kc12.below hb13
  have hw13 := hw12.trans (hb13.mono hw12.size)
  clear hraw12 ha12 ka12 hbk12 kb12 hx12 kc12 hw12 hb13
  obtain ⟨c0, c1, c2, c3, c4, c5, c6⟩ := kc13.facts
  go_wp2_with fail
  refine (qnone_yes _).mono ?_
  rintro e w14 ⟨rfl, hb14⟩
  have hraw14 := hraw13.below hb14
  have ha14 := ha13.below hb14
  have ka14 := ka13.below hb14
  have hbk14 := hbk13.below hb14
  have kb14 := kb13.below hb14
  have hx14 := hx13.below hb14
  have kc14 := kc13.below hb14
  have kd14 := kd13.below hb14
  have hw14 := hw13.trans (hb14.mono hw13.size)
  clear hraw13 ha13 ka13 hbk13 kb13 hx13 kc13 kd13 hw13 hb14
  clear c0 c1 c2 c3 c4 c5 c6
  go_wp2_with fail
  go_ret
  exact ⟨rfl, hw14⟩
set_option maxRecDepth 100000 in
set_option maxHeartbeats 6400000 in
theorem qtexts_zero (a : RL) (q : Rat) (s : ByteArray) (hsz : s.size ≤ 200) (neg : Bool) (t2 : List UInt8) (N : Nat) (HSS : Hid (Sgn s.data.toList neg t2)) (HN : Hid (Txt t2 N 0)) (w : World) (hraw : a.Raw w) (ha : a.Is w q) (l1 : a.ns.length ≤ 6) (l2 : a.ds.length ≤ 6) (hva : Hid a.Val) (htab : Lib.TabBelow Tryz.prog w.heap.size w "internal/strconv.uint64pow10" .u64 Lib.pow10Tab) (mx : Int) (hmx : w.cell? ⟨1, 0, none⟩ = some (.int .i64 mx)) :
    Calls Tryz.prog 5 #[.agg #[.bool a.s, .slice a.N a.ns.length a.nc, .slice a.D a.ds.length a.dc], .string s] w (Yes w) := by
  have HT := Lib.hid htab
  have HM := Lib.hid hmx
  have HVA := hva
  obtain ⟨t, t1, HTX, HSG, HT1, HTL, HTU⟩ := own_text a q w ha l1 l2
  have HDP := Lib.hid ha.q.pos
  have HQ := Lib.hid ha.q.eq
  clear htab hva hmx
  go_enter Tryz.func5, Tryz.ntmps5
  go_wp2_with fail
  have hbox := (⟨Blk3.new w (.bool a.s) (.slice a.N a.ns.length a.nc) (.slice a.D a.ds.length a.dc), (Below.refl _ _).alloc (Nat.le_refl _) _⟩ : _ ∧ Below w.heap.size w (w.alloc (.cells #[.bool a.s, .slice a.N a.ns.length a.nc, .slice a.D a.ds.length a.dc] 24)))
  obtain ⟨w1, hwe⟩ : ∃ x, w.alloc (.cells #[.bool a.s, .slice a.N a.ns.length a.nc, .slice a.D a.ds.length a.dc] 24) = x := ⟨_, rfl⟩
  rw [hwe] at hbox ⊢
  obtain ⟨ka1, hb1⟩ := hbox
  have HWE := Lib.hid hwe
  clear hwe HWE
  have hraw1 := hraw.below hb1
  have ha1 := ha.below hb1
  have hw1 := hb1
  clear hraw ha hb1
  refine (qawake_yes _ (fun w' h => HT.out w' (hw1.trans (h.mono hw1.size)))).mono ?_
  rintro e w2 ⟨rfl, hb2⟩
  have hraw2 := hraw1.below hb2
  have ha2 := ha1.below hb2
  have ka2 := ka1.below hb2
  have hw2 := hw1.trans (hb2.mono hw1.size)
  clear hraw1 ha1 ka1 hw1 hb2
  obtain ⟨a0, a1, a2, a3, a4, a5, a6⟩ := ka2.facts
  go_wp2_with fail
  refine (qsm_yes a a 6 _ hraw2 hraw2 ⟨l1, l2⟩ ⟨l1, l2⟩ HVA HVA).mono ?_
  rintro e w3 ⟨rfl, hb3⟩
  have hraw3 := hraw2.below hb3
  have ha3 := ha2.below hb3
  have ka3 := ka2.below hb3
  have hw3 := hw2.trans (hb3.mono hw2.size)
  clear hraw2 ha2 ka2 hw2 hb3
  clear a0 a1 a2 a3 a4 a5 a6
  obtain ⟨a0, a1, a2, a3, a4, a5, a6⟩ := ka3.facts
  go_wp2_with fail
  refine (qtext a q _ ha3 (by omega) (by omega) (fun w' h => HT.out w' (hw3.trans (h.mono hw3.size)))).mono ?_
  rintro e w4 ⟨he, hb4⟩
  rw [HTX.out] at he
  subst he
  have hraw4 := hraw3.below hb4
  have ha4 := ha3.below hb4
  have ka4 := ka3.below hb4
  have hw4 := hw3.trans (hb4.mono hw3.size)
  clear hraw3 ha3 ka3 hw3 hb4
  clear a0 a1 a2 a3 a4 a5 a6
  have hmk := hmx_keep HM.out hw4
  go_wp2_with fail
  refine (ratparse_ok ⟨t.toArray⟩ a.s t1 (V32 a.ns) (V32 a.ds) mx _ HSG.out HT1.out HDP.out (by rw [str_size]; exact HTL.out) hmk).mono ?_
  rintro e w5 ⟨b, rfl, hbk5, hba, hbb, hb5⟩
  have hraw5 := hraw4.below hb5
  have ha5 := ha4.below hb5
  have ka5 := ka4.below hb5
  have hw5 := hw4.trans (hb5.mono hw4.size)
  clear hraw4 ha4 ka4 hw4 hb5
  clear hmk
  rw [← HQ.out] at hbk5
  go_upto_region 7 with fail
  have kb6 := Blk3.new w5 (.bool b.s) (.slice b.N b.ns.length b.nc) (.slice b.D b.ds.length b.dc)
  have hb6 : Below w5.heap.size w5 (w5.alloc (.cells #[.bool b.s, .slice b.N b.ns.length b.nc, .slice b.D b.ds.length b.dc] 24)) := (Below.refl _ _).alloc (Nat.le_refl _) _
  obtain ⟨w6, hwe⟩ : ∃ x, w5.alloc (.cells #[.bool b.s, .slice b.N b.ns.length b.nc, .slice b.D b.ds.length b.dc] 24) = x := ⟨_, rfl⟩
  rw [hwe] at kb6 hb6 ⊢
  clear hwe
  have hraw6 := hraw5.below hb6
  have ha6 := ha5.below hb6
  have ka6 := ka5.below hb6
  have hbk6 := hbk5.below hb6
  have hw6 := hw5.trans (hb6.mono hw5.size)
  clear hraw5 ha5 ka5 hbk5 hw5 hb6
  obtain ⟨a0, a1, a2, a3, a4, a5, a6⟩ := ka6.facts
  obtain ⟨b0, b1, b2, b3, b4, b5, b6⟩ := kb6.facts
  go_wp2_with fail
  refine (qof a q _ ha6 (by omega) (by omega)).mono ?_
  rintro e w7 ⟨u, rfl, hx7, hxa, hxb, hb7⟩
  have hraw7 := hraw6.below hb7
  have ha7 := ha6.below hb7
  have ka7 := ka6.below hb7
  have hbk7 := hbk6.below hb7
  have kb7 := kb6.below hb7
  have hw7 := hw6.trans (hb7.mono hw6.size)
  clear hraw6 ha6 ka6 hbk6 kb6 hw6 hb7
  clear a0 a1 a2 a3 a4 a5 a6
  clear b0 b1 b2 b3 b4 b5 b6
  obtain ⟨a0, a1, a2, a3, a4, a5, a6⟩ := ka7.facts
  obtain ⟨b0, b1, b2, b3, b4, b5, b6⟩ := kb7.facts
  go_wp2_with fail
  refine (rtextq u q _ hx7 (by omega) (by omega)).mono ?_
  rintro e w8 ⟨he, hb8⟩
  rw [(HTU.out u _ hx7)] at he
  subst he
  have hraw8 := hraw7.below hb8
  have ha8 := ha7.below hb8
  have ka8 := ka7.below hb8
  have hbk8 := hbk7.below hb8
  have kb8 := kb7.below hb8
  have hx8 := hx7.below hb8
  have hw8 := hw7.trans (hb8.mono hw7.size)
  clear hraw7 ha7 ka7 hbk7 kb7 hx7 hw7 hb8
  clear a0 a1 a2 a3 a4 a5 a6
  clear b0 b1 b2 b3 b4 b5 b6
  obtain ⟨a0, a1, a2, a3, a4, a5, a6⟩ := ka8.facts
  obtain ⟨b0, b1, b2, b3, b4, b5, b6⟩ := kb8.facts
  go_wp2_with fail
  refine (same_is b a q _ hbk8 ha8 (by omega) (by omega)).mono ?_
  rintro e w9 ⟨rfl, hb9⟩
  have hraw9 := hraw8.below hb9
  have ha9 := ha8.below hb9
  have ka9 := ka8.below hb9
  have hbk9 := hbk8.below hb9
  have kb9 := kb8.below hb9
  have hx9 := hx8.below hb9
  have hw9 := hw8.trans (hb9.mono hw8.size)
  clear hraw8 ha8 ka8 hbk8 kb8 hx8 hw8 hb9
  clear a0 a1 a2 a3 a4 a5 a6
  clear b0 b1 b2 b3 b4 b5 b6
  have hmk := hmx_keep HM.out hw9
  go_wp2_with fail
  refine (ratparse_zero s neg t2 N mx _ HSS.out HN.out (by omega) hmk).mono ?_
  rintro e w10 ⟨rfl, hb10⟩
  have hraw10 := hraw9.below hb10
  have ha10 := ha9.below hb10
  have ka10 := ka9.below hb10
  have hbk10 := hbk9.below hb10
  have kb10 := kb9.below hb10
  have hx10 := hx9.below hb10
  have hw10 := hw9.trans (hb10.mono hw9.size)
  clear hraw9 ha9 ka9 hbk9 kb9 hx9 hw9 hb10
  clear hmk
  go_upto_region 10 with fail
  have kc11 := Blk3.new w10 (.bool false) (.slice none 0 0) (.slice none 0 0)
  have hb11 : Below w10.heap.size w10 (w10.alloc (.cells #[.bool false, .slice none 0 0, .slice none 0 0] 24)) := (Below.refl _ _).alloc (Nat.le_refl _) _
  obtain ⟨w11, hwe⟩ : ∃ x, w10.alloc (.cells #[.bool false, .slice none 0 0, .slice none 0 0] 24) = x := ⟨_, rfl⟩
  rw [hwe] at kc11 hb11 ⊢
  clear hwe
  have hraw11 := hraw10.below hb11
  have ha11 := ha10.below hb11
  have ka11 := ka10.below hb11
  have hbk11 := hbk10.below hb11
  have kb11 := kb10.below hb11
  have hx11 := hx10.below hb11
  have hw11 := hw10.trans (hb11.mono hw10.size)
  clear hraw10 ha10 ka10 hbk10 kb10 hx10 hw10 hb11
  go_wp2_with fail
  refine (rparse_zero s neg t2 N _ HSS.out HN.out (by omega)).mono ?_
  rintro e w12 ⟨rfl, hb12⟩
  have hraw12 := hraw11.below hb12
  have ha12 := ha11.below hb12
  have ka12 := ka11.below hb12
  have hbk12 := hbk11.below hb12
  have kb12 := kb11.below hb12
  have hx12 := hx11.below hb12
  have kc12 := kc11.below hb12
  have hw12 := hw11.trans (hb12.mono hw11.size)
  clear hraw11 ha11 ka11 hbk11 kb11 hx11 kc11 hw11 hb12
  go_upto_region 15 with fail
  have kd13 := BlkT.new 30 w12 (.bool false) (.slice none 0 0) (.slice none 0 0)
  have hb13 : Below w12.heap.size w12 (w12.alloc (.cells #[.bool false, .slice none 0 0, .slice none 0 0] 30)) := (Below.refl _ _).alloc (Nat.le_refl _) _
  obtain ⟨w13, hwe⟩ : ∃ x, w12.alloc (.cells #[.bool false, .slice none 0 0, .slice none 0 0] 30) = x := ⟨_, rfl⟩
  rw [hwe] at kd13 hb13 ⊢
  clear hwe
  have hraw13 := hraw12.below hb13
  have ha13 := ha12.below hb13
  have ka13 := ka12.below hb13
  have hbk13 := hbk12.below hb13
  have kb13 := kb12.below hb13
  have hx13 := hx12.below hb13
  have kc13 := kc12.below hb13
  have hw13 := hw12.trans (hb13.mono hw12.size)
  clear hraw12 ha12 ka12 hbk12 kb12 hx12 kc12 hw12 hb13
  obtain ⟨c0, c1, c2, c3, c4, c5, c6⟩ := kc13.facts
  go_wp2_with fail
  refine (qnone_yes _).mono ?_
  rintro e w14 ⟨rfl, hb14⟩
  have hraw14 := hraw13.below hb14
  have ha14 := ha13.below hb14
  have ka14 := ka13.below hb14
  have hbk14 := hbk13.below hb14
  have kb14 := kb13.below hb14
  have hx14 := hx13.below hb14
  have kc14 := kc13.below hb14
  have kd14 := kd13.below hb14
  have hw14 := hw13.trans (hb14.mono hw13.size)
  clear hraw13 ha13 ka13 hbk13 kb13 hx13 kc13 kd13 hw13 hb14
  clear c0 c1 c2 c3 c4 c5 c6
  go_wp2_with fail
  go_ret
  exact ⟨rfl, hw14⟩
set_option maxRecDepth 100000 in
set_option maxHeartbeats 6400000 in
theorem qtexts_ok (a : RL) (q : Rat) (s : ByteArray) (hsz : s.size ≤ 200) (neg : Bool) (t2 : List UInt8) (N D : Nat) (HSS : Hid (Sgn s.data.toList neg t2)) (HN : Hid (Txt t2 N D)) (HDD : Hid (0 < D)) (w : World) (hraw : a.Raw w) (ha : a.Is w q) (l1 : a.ns.length ≤ 6) (l2 : a.ds.length ≤ 6) (hva : Hid a.Val) (htab : Lib.TabBelow Tryz.prog w.heap.size w "internal/strconv.uint64pow10" .u64 Lib.pow10Tab) (mx : Int) (hmx : w.cell? ⟨1, 0, none⟩ = some (.int .i64 mx)) :
    Calls Tryz.prog 5 #[.agg #[.bool a.s, .slice a.N a.ns.length a.nc, .slice a.D a.ds.length a.dc], .string s] w (Yes w) := by
  have HT := Lib.hid htab
  have HM := Lib.hid hmx
  have HVA := hva
  obtain ⟨t, t1, HTX, HSG, HT1, HTL, HTU⟩ := own_text a q w ha l1 l2
  have HDP := Lib.hid ha.q.pos
  have HQ := Lib.hid ha.q.eq
  clear htab hva hmx
  go_enter Tryz.func5, Tryz.ntmps5
  go_wp2_with fail
  have hbox := (⟨Blk3.new w (.bool a.s) (.slice a.N a.ns.length a.nc) (.slice a.D a.ds.length a.dc), (Below.refl _ _).alloc (Nat.le_refl _) _⟩ : _ ∧ Below w.heap.size w (w.alloc (.cells #[.bool a.s, .slice a.N a.ns.length a.nc, .slice a.D a.ds.length a.dc] 24)))
  obtain ⟨w1, hwe⟩ : ∃ x, w.alloc (.cells #[.bool a.s, .slice a.N a.ns.length a.nc, .slice a.D a.ds.length a.dc] 24) = x := ⟨_, rfl⟩
  rw [hwe] at hbox ⊢
  obtain ⟨ka1, hb1⟩ := hbox
  have HWE := Lib.hid hwe
  clear hwe HWE
  have hraw1 := hraw.below hb1
  have ha1 := ha.below hb1
  have hw1 := hb1
  clear hraw ha hb1
  refine (qawake_yes _ (fun w' h => HT.out w' (hw1.trans (h.mono hw1.size)))).mono ?_
  rintro e w2 ⟨rfl, hb2⟩
  have hraw2 := hraw1.below hb2
  have ha2 := ha1.below hb2
  have ka2 := ka1.below hb2
  have hw2 := hw1.trans (hb2.mono hw1.size)
  clear hraw1 ha1 ka1 hw1 hb2
  obtain ⟨a0, a1, a2, a3, a4, a5, a6⟩ := ka2.facts
  go_wp2_with fail
  refine (qsm_yes a a 6 _ hraw2 hraw2 ⟨l1, l2⟩ ⟨l1, l2⟩ HVA HVA).mono ?_
  rintro e w3 ⟨rfl, hb3⟩
  have hraw3 := hraw2.below hb3
  have ha3 := ha2.below hb3
  have ka3 := ka2.below hb3
  have hw3 := hw2.trans (hb3.mono hw2.size)
  clear hraw2 ha2 ka2 hw2 hb3
  clear a0 a1 a2 a3 a4 a5 a6
  obtain ⟨a0, a1, a2, a3, a4, a5, a6⟩ := ka3.facts
  go_wp2_with fail
  refine (qtext a q _ ha3 (by omega) (by omega) (fun w' h => HT.out w' (hw3.trans (h.mono hw3.size)))).mono ?_
  rintro e w4 ⟨he, hb4⟩
  rw [HTX.out] at he
  subst he
  have hraw4 := hraw3.below hb4
  have ha4 := ha3.below hb4
  have ka4 := ka3.below hb4
  have hw4 := hw3.trans (hb4.mono hw3.size)
  clear hraw3 ha3 ka3 hw3 hb4
  clear a0 a1 a2 a3 a4 a5 a6
  have hmk := hmx_keep HM.out hw4
  go_wp2_with fail
  refine (ratparse_ok ⟨t.toArray⟩ a.s t1 (V32 a.ns) (V32 a.ds) mx _ HSG.out HT1.out HDP.out (by rw [str_size]; exact HTL.out) hmk).mono ?_
  rintro e w5 ⟨b, rfl, hbk5, hba, hbb, hb5⟩
  have hraw5 := hraw4.below hb5
  have ha5 := ha4.below hb5
  have ka5 := ka4.below hb5
  have hw5 := hw4.trans (hb5.mono hw4.size)
  clear hraw4 ha4 ka4 hw4 hb5
  clear hmk
  rw [← HQ.out] at hbk5
  go_upto_region 7 with fail
  have kb6 := Blk3.new w5 (.bool b.s) (.slice b.N b.ns.length b.nc) (.slice b.D b.ds.length b.dc)
  have hb6 : Below w5.heap.size w5 (w5.alloc (.cells #[.bool b.s, .slice b.N b.ns.length b.nc, .slice b.D b.ds.length b.dc] 24)) := (Below.refl _ _).alloc (Nat.le_refl _) _
  obtain ⟨w6, hwe⟩ : ∃ x, w5.alloc (.cells #[.bool b.s, .slice b.N b.ns.length b.nc, .slice b.D b.ds.length b.dc] 24) = x := ⟨_, rfl⟩
  rw [hwe] at kb6 hb6 ⊢
  clear hwe
  have hraw6 := hraw5.below hb6
  have ha6 := ha5.below hb6
  have ka6 := ka5.below hb6
  have hbk6 := hbk5.below hb6
  have hw6 := hw5.trans (hb6.mono hw5.size)
  clear hraw5 ha5 ka5 hbk5 hw5 hb6
  obtain ⟨a0, a1, a2, a3, a4, a5, a6⟩ := ka6.facts
  obtain ⟨b0, b1, b2, b3, b4, b5, b6⟩ := kb6.facts
  go_wp2_with fail
  refine (qof a q _ ha6 (by omega) (by omega)).mono ?_
  rintro e w7 ⟨u, rfl, hx7, hxa, hxb, hb7⟩
  have hraw7 := hraw6.below hb7
  have ha7 := ha6.below hb7
  have ka7 := ka6.below hb7
  have hbk7 := hbk6.below hb7
  have kb7 := kb6.below hb7
  have hw7 := hw6.trans (hb7.mono hw6.size)
  clear hraw6 ha6 ka6 hbk6 kb6 hw6 hb7
  clear a0 a1 a2 a3 a4 a5 a6
  clear b0 b1 b2 b3 b4 b5 b6
  obtain ⟨a0, a1, a2, a3, a4, a5, a6⟩ := ka7.facts
  obtain ⟨b0, b1, b2, b3, b4, b5, b6⟩ := kb7.facts
  go_wp2_with fail
  refine (rtextq u q _ hx7 (by omega) (by omega)).mono ?_
  rintro e w8 ⟨he, hb8⟩
  rw [(HTU.out u _ hx7)] at he
  subst he
  have hraw8 := hraw7.below hb8
  have ha8 := ha7.below hb8
  have ka8 := ka7.below hb8
  have hbk8 := hbk7.below hb8
  have kb8 := kb7.below hb8
  have hx8 := hx7.below hb8
  have hw8 := hw7.trans (hb8.mono hw7.size)
  clear hraw7 ha7 ka7 hbk7 kb7 hx7 hw7 hb8
  clear a0 a1 a2 a3 a4 a5 a6
  clear b0 b1 b2 b3 b4 b5 b6
  obtain ⟨a0, a1, a2, a3, a4, a5, a6⟩ := ka8.facts
  obtain ⟨b0, b1, b2, b3, b4, b5, b6⟩ := kb8.facts
  go_wp2_with fail
  refine (same_is b a q _ hbk8 ha8 (by omega) (by omega)).mono ?_
  rintro e w9 ⟨rfl, hb9⟩
  have hraw9 := hraw8.below hb9
  have ha9 := ha8.below hb9
  have ka9 := ka8.below hb9
  have hbk9 := hbk8.below hb9
  have kb9 := kb8.below hb9
  have hx9 := hx8.below hb9
  have hw9 := hw8.trans (hb9.mono hw8.size)
  clear hraw8 ha8 ka8 hbk8 kb8 hx8 hw8 hb9
  clear a0 a1 a2 a3 a4 a5 a6
  clear b0 b1 b2 b3 b4 b5 b6
  have hmk := hmx_keep HM.out hw9
  go_wp2_with fail
  refine (ratparse_ok s neg t2 N D mx _ HSS.out HN.out HDD.out (by omega) hmk).mono ?_
  rintro e w10 ⟨c, rfl, hc10, hca, hcb, hb10⟩
  have hraw10 := hraw9.below hb10
  have ha10 := ha9.below hb10
  have ka10 := ka9.below hb10
  have hbk10 := hbk9.below hb10
  have kb10 := kb9.below hb10
  have hx10 := hx9.below hb10
  have hw10 := hw9.trans (hb10.mono hw9.size)
  clear hraw9 ha9 ka9 hbk9 kb9 hx9 hw9 hb10
  clear hmk
  go_upto_region 10 with fail
  have kc11 := Blk3.new w10 (.bool c.s) (.slice c.N c.ns.length c.nc) (.slice c.D c.ds.length c.dc)
  have hb11 : Below w10.heap.size w10 (w10.alloc (.cells #[.bool c.s, .slice c.N c.ns.length c.nc, .slice c.D c.ds.length c.dc] 24)) := (Below.refl _ _).alloc (Nat.le_refl _) _
  obtain ⟨w11, hwe⟩ : ∃ x, w10.alloc (.cells #[.bool c.s, .slice c.N c.ns.length c.nc, .slice c.D c.ds.length c.dc] 24) = x := ⟨_, rfl⟩
  rw [hwe] at kc11 hb11 ⊢
  clear hwe
  have hraw11 := hraw10.below hb11
  have ha11 := ha10.below hb11
  have ka11 := ka10.below hb11
  have hbk11 := hbk10.below hb11
  have kb11 := kb10.below hb11
  have hx11 := hx10.below hb11
  have hc11 := hc10.below hb11
  have hw11 := hw10.trans (hb11.mono hw10.size)
  clear hraw10 ha10 ka10 hbk10 kb10 hx10 hc10 hw10 hb11
  go_wp2_with fail
  refine (rparse_ok s neg t2 N D _ HSS.out HN.out HDD.out (by omega)).mono ?_
  rintro e w12 ⟨d, rfl, hd12, hda, hdb, hb12⟩
  have hraw12 := hraw11.below hb12
  have ha12 := ha11.below hb12
  have ka12 := ka11.below hb12
  have hbk12 := hbk11.below hb12
  have kb12 := kb11.below hb12
  have hx12 := hx11.below hb12
  have hc12 := hc11.below hb12
  have kc12 := kc11.below hb12
  have hw12 := hw11.trans (hb12.mono hw11.size)
  clear hraw11 ha11 ka11 hbk11 kb11 hx11 hc11 kc11 hw11 hb12
  go_upto_region 15 with fail
  have kd13 := BlkT.new 30 w12 (.bool d.s) (.slice d.N d.ns.length d.nc) (.slice d.D d.ds.length d.dc)
  have hb13 : Below w12.heap.size w12 (w12.alloc (.cells #[.bool d.s, .slice d.N d.ns.length d.nc, .slice d.D d.ds.length d.dc] 30)) := (Below.refl _ _).alloc (Nat.le_refl _) _
  obtain ⟨w13, hwe⟩ : ∃ x, w12.alloc (.cells #[.bool d.s, .slice d.N d.ns.length d.nc, .slice d.D d.ds.length d.dc] 30) = x := ⟨_, rfl⟩
  rw [hwe] at kd13 hb13 ⊢
  clear hwe
  have hraw13 := hraw12.below hb13
  have ha13 := ha12.below hb13
  have ka13 := ka12.below hb13
  have hbk13 := hbk12.below hb13
  have kb13 := kb12.below hb13
  have hx13 := hx12.below hb13
  have hc13 := hc12.below hb13
  have kc13 := kc12.below hb13
  have hd13 := hd12.below hb13
  have hw13 := hw12.trans (hb13.mono hw12.size)
  clear hraw12 ha12 ka12 hbk12 kb12 hx12 hc12 kc12 hd12 hw12 hb13
  go_upto_region 17 with fail
  obtain ⟨c0, c1, c2, c3, c4, c5, c6⟩ := kc13.facts
  obtain ⟨d0, d1, d2, d3, d4, d5, d6⟩ := kd13.facts
  go_wp2_with fail
  refine (qis_yes c d _ _ hc13 hd13 (by omega) (by omega)).mono ?_
  rintro e w14 ⟨rfl, hb14⟩
  have hraw14 := hraw13.below hb14
  have ha14 := ha13.below hb14
  have ka14 := ka13.below hb14
  have hbk14 := hbk13.below hb14
  have kb14 := kb13.below hb14
  have hx14 := hx13.below hb14
  have hc14 := hc13.below hb14
  have kc14 := kc13.below hb14
  have hd14 := hd13.below hb14
  have kd14 := kd13.below hb14
  have hw14 := hw13.trans (hb14.mono hw13.size)
  clear hraw13 ha13 ka13 hbk13 kb13 hx13 hc13 kc13 hd13 kd13 hw13 hb14
  clear c0 c1 c2 c3 c4 c5 c6
  clear d0 d1 d2 d3 d4 d5 d6
  go_wp2_with fail
  go_ret
  exact ⟨rfl, hw14⟩
theorem qtexts_row (a : RL) (s : ByteArray) (_ : s.size ≤ maxLen) (w : World) (ha : a.Raw w) (htab : Lib.TabBelow Tryz.prog w.heap.size w "internal/strconv.uint64pow10" .u64 Lib.pow10Tab) (mx : Int) (hmx : w.cell? ⟨1, 0, none⟩ = some (.int .i64 mx)) :
    Calls Tryz.prog 5 #[.agg #[.bool a.s, .slice a.N a.ns.length a.nc, .slice a.D a.ds.length a.dc], .string s] w (Yes w) := by
  by_cases h : a.Sm 6 ∧ a.Val
  · obtain ⟨⟨l1, l2⟩, hv⟩ := h
    have hi := ha.is hv
    rcases Nat.lt_or_ge 20000 s.size with h1 | h1
    · exact qtexts_long a _ s _ rfl (by omega) w ha hi l1 l2 hv htab mx hmx
    · rcases Nat.lt_or_ge 200 s.size with h2 | h2
      · exact qtexts_mid a _ s h2 h1 w ha hi l1 l2 hv htab mx hmx
      · obtain ⟨neg, t, hs⟩ := sgn_of s.data.toList
        rcases txt_or t with ⟨n, d, h3⟩ | h3
        · rcases Nat.eq_zero_or_pos d with rfl | hd
          · exact qtexts_zero a _ s h2 neg t n (Lib.hid hs) (Lib.hid h3) w ha hi l1 l2 hv htab mx hmx
          · exact qtexts_ok a _ s h2 neg t n d (Lib.hid hs) (Lib.hid h3) (Lib.hid hd) w ha hi l1 l2 hv htab mx hmx
        · exact qtexts_bad a _ s h2 neg t (Lib.hid hs) (Lib.hid h3) w ha hi l1 l2 hv htab mx hmx
  · exact qtexts_no a s w ha ha (fun h2 => h ⟨h2.1, h2.2.2.1⟩) htab
end Go.Proofs.YtopppmlkddajjaaGreatDoor

