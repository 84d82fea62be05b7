/- isochronelaw03.PolyForms answers true for all arguments: the walk. -/
import Derived.Test.YtgemlnnpnlpbeaaGreatDoorPFR35
namespace Go.Proofs.YtgemlnnpnlpbeaaGreatDoor
open Go.RowKit V

theorem pboxes2 (w : World) (a b x y : Value) : Blk2c 24 ((w.alloc (.cells #[a, b] 24)).alloc (.cells #[x, y] 24)) w.heap.size a b ∧ Blk2c 24 ((w.alloc (.cells #[a, b] 24)).alloc (.cells #[x, y] 24)) (w.heap.size + 1) x y ∧
    Below w.heap.size w ((w.alloc (.cells #[a, b] 24)).alloc (.cells #[x, y] 24)) := by
  refine ⟨(Blk2c.new 24 w a b).alloc _, ?_, ((Below.refl _ _).alloc (Nat.le_refl _) _).alloc (by simp) _⟩
  have := Blk2c.new 24 (w.alloc (.cells #[a, b] 24)) x y
  simpa using this
theorem pvalid_yes (n : Int) (A : Option Addr) (c : Nat) (ms : List MM) (es : List (List Int)) (w : World) (h : PRaw w A ms es) (hv : PVal n ms es) :
    Calls Tryz.prog 40 #[.agg #[.int .i64 n, .slice A ms.length c]] w (Gives (.bool true) w) := pvalid n A c ms es w h true ⟨fun _ => hv, fun _ => rfl⟩
theorem pvalid_no (n : Int) (A : Option Addr) (c : Nat) (ms : List MM) (es : List (List Int)) (w : World) (h : PRaw w A ms es) (hv : ¬ PVal n ms es) :
    Calls Tryz.prog 40 #[.agg #[.int .i64 n, .slice A ms.length c]] w (Gives (.bool false) w) := pvalid n A c ms es w h false ⟨fun hh => (by cases hh), fun hh => absurd hh hv⟩
theorem prvalid_yes (n : Int) (A : Option Addr) (c : Nat) (ms : List MM) (es : List (List Int)) (w : World) (h : PRaw w A ms es) (hv : PVal n ms es) :
    Calls Tryz.prog 41 #[.agg #[.int .i64 n, .slice A ms.length c]] w (Gives (.bool true) w) := prvalid n A c ms es w h true ⟨fun _ => hv, fun _ => rfl⟩
theorem prvalid_no (n : Int) (A : Option Addr) (c : Nat) (ms : List MM) (es : List (List Int)) (w : World) (h : PRaw w A ms es) (hv : ¬ PVal n ms es) :
    Calls Tryz.prog 41 #[.agg #[.int .i64 n, .slice A ms.length c]] w (Gives (.bool false) w) := prvalid n A c ms es w h false ⟨fun hh => (by cases hh), fun hh => absurd hh hv⟩
theorem mulOk_13 : MulOk 1 3 := mulOk_int 1 3 (by decide) (by decide) (by decide)
theorem rint3 (w : World) : Calls Tryz.prog 43 #[.int .i64 3] w (RefP 3 5 1 w) := rint_p 3 (by omega) w
set_option maxRecDepth 100000 in
set_option maxHeartbeats 6400000 in
theorem pforms_row (n : Int) (A : Option Addr) (c : Nat) (ms : List MM) (es : List (List Int)) (n2 : Int) (B : Option Addr) (d : Nat) (ms2 : List MM) (es2 : List (List Int)) (k : Int) (w : World) (ha : PRaw w A ms es) (hb_ : PRaw w B ms2 es2) (htab : Lib.TabBelow Tryz.prog w.heap.size w "internal/strconv.uint64pow10" .u64 Lib.pow10Tab) :
    Calls Tryz.prog 6 #[.agg #[.int .i64 n, .slice A ms.length c], .agg #[.int .i64 n2, .slice B ms2.length d], .int .i64 k] w (Yes w) := by
  have HT := Lib.hid htab
  clear htab
  go_enter Tryz.func6, Tryz.ntmps6
  go_wp2_with fail
  have hbox := pboxes2 w (.int .i64 n) (.slice A ms.length c) (.int .i64 n2) (.slice B ms2.length d)
  obtain ⟨w1, hwe⟩ : ∃ x, (w.alloc (.cells #[.int .i64 n, .slice A ms.length c] 24)).alloc (.cells #[.int .i64 n2, .slice B ms2.length d] 24) = x := ⟨_, rfl⟩
  rw [hwe] at hbox ⊢
  obtain ⟨ka1, kb1, hb1⟩ := hbox
  have HWE := Lib.hid hwe
  clear hwe HWE
  have ha1 := ha.below hb1
  have hb_1 := hb_.below hb1
  have hw1 := hb1
  clear ha hb_ hb1
  refine (pawake _ (fun w' h => HT.out w' (hw1.trans (h.mono hw1.size)))).mono ?_
  rintro e w2 ⟨rfl, hb2⟩
  have ha2 := ha1.below hb2
  have hb_2 := hb_1.below hb2
  have ka2 := ka1.below hb2
  have kb2 := kb1.below hb2
  have hw2 := hw1.trans (hb2.mono hw1.size)
  clear ha1 hb_1 ka1 kb1 hw1 hb2
  obtain ⟨a0, a1, a2, a3, a4⟩ := ka2.facts
  obtain ⟨b0, b1, b2, b3, b4⟩ := kb2.facts
  by_cases hl1 : (30 : Int) < (ms.length : Int)
  · go_wp2_with fail
    go_ret
    exact ⟨rfl, hw2⟩
  by_cases hl2 : (30 : Int) < (ms2.length : Int)
  · go_wp2_with fail
    go_ret
    exact ⟨rfl, hw2⟩
  go_wp2_with fail
  refine (plong n A c ms es _ ha2 (by omega)).mono ?_
  rintro e w3 ⟨q3, rfl, hb3⟩
  have ha3 := ha2.below hb3
  have hb_3 := hb_2.below hb3
  have ka3 := ka2.below hb3
  have kb3 := kb2.below hb3
  have hw3 := hw2.trans (hb3.mono hw2.size)
  clear ha2 hb_2 ka2 kb2 hw2 hb3
  clear a0 a1 a2 a3 a4
  clear b0 b1 b2 b3 b4
  obtain ⟨a0, a1, a2, a3, a4⟩ := ka3.facts
  obtain ⟨b0, b1, b2, b3, b4⟩ := kb3.facts
  rcases q3 with _ | _
  rotate_left
  · go_wp2_with fail
    go_ret
    exact ⟨rfl, hw3⟩
  go_wp2_with fail
  refine (plong n2 B d ms2 es2 _ hb_3 (by omega)).mono ?_
  rintro e w4 ⟨q4, rfl, hb4⟩
  have ha4 := ha3.below hb4
  have hb_4 := hb_3.below hb4
  have ka4 := ka3.below hb4
  have kb4 := kb3.below hb4
  have hw4 := hw3.trans (hb4.mono hw3.size)
  clear ha3 hb_3 ka3 kb3 hw3 hb4
  clear a0 a1 a2 a3 a4
  clear b0 b1 b2 b3 b4
  obtain ⟨a0, a1, a2, a3, a4⟩ := ka4.facts
  obtain ⟨b0, b1, b2, b3, b4⟩ := kb4.facts
  rcases q4 with _ | _
  rotate_left
  · go_wp2_with fail
    go_ret
    exact ⟨rfl, hw4⟩
  go_upto_region 5 with fail
  go_cut [55] (fun s55 wx => s55 = .bool false ∧ Below w4.heap.size w4 wx)
  case first =>
    by_cases ia : PVal n ms es
    · have IA := Lib.hid ia
      clear ia
      by_cases ib : PVal n2 ms2 es2
      · have IB := Lib.hid ib
        clear ib
        go_region_held3 (fun w' => w'.cell? ⟨w.heap.size, 0, none⟩ = some (.int .i64 n) ∧ w'.cell? ⟨w.heap.size, 1, none⟩ = some (.slice A ms.length c) ∧ w'.cell? ⟨w.heap.size + 1, 0, none⟩ = some (.int .i64 n2) ∧ w'.cell? ⟨w.heap.size + 1, 1, none⟩ = some (.slice B ms2.length d)) (first | (with_reducible exact ⟨‹_›, ‹_›, ‹_›, ‹_›⟩) | go_keep)
          (first
          | (go_at_call_of 40 (Value.agg #[.int .i64 n, .slice A ms.length c])
             refine (pvalid_yes n A c ms es _ (by first | exact ha4 | exact ha4.drew | exact ha4.alloc _ | exact (ha4.alloc _).drew | exact ha4.drew.alloc _) IA.out).mono ?_
             rintro e wx_ ⟨rfl, hbx⟩
             have hbp0 : Below w4.heap.size w4 wx_ := by first | exact hbx | exact below_of_drew hbx (Nat.le_refl _) | exact ((Below.refl _ _).alloc (Nat.le_refl _) _).trans (hbx.mono (by simp)) | exact ((Below.refl _ _).alloc (Nat.le_refl _) _).trans ((below_of_drew hbx (Nat.le_refl _)).mono (by simp)) | exact below_of_drew (((Below.refl _ _).alloc (Nat.le_refl _) _).trans (hbx.mono (by simp))) (Nat.le_refl _)
             have ha_0 := ha4.below hbp0
             have hb__0 := hb_4.below hbp0
             have ka_0 := ka4.below hbp0
             obtain ⟨ka0wx_, ka1wx_, ka2wx_, ka3wx_, ka4wx_⟩ := ka_0.facts
             have kb_0 := kb4.below hbp0
             obtain ⟨kb0wx_, kb1wx_, kb2wx_, kb3wx_, kb4wx_⟩ := kb_0.facts
             have hwq0 := hw4.trans (hbp0.mono hw4.size))
          | (go_at_call_of 41 (Value.agg #[.int .i64 n, .slice A ms.length c])
             refine (prvalid_yes n A c ms es _ (by first | exact ha_0 | exact ha_0.drew | exact ha_0.alloc _ | exact (ha_0.alloc _).drew | exact ha_0.drew.alloc _) IA.out).mono ?_
             rintro e wy_ ⟨rfl, hby⟩
             have hbp1 : Below wx_.heap.size wx_ wy_ := by first | exact hby | exact below_of_drew hby (Nat.le_refl _) | exact ((Below.refl _ _).alloc (Nat.le_refl _) _).trans (hby.mono (by simp)) | exact ((Below.refl _ _).alloc (Nat.le_refl _) _).trans ((below_of_drew hby (Nat.le_refl _)).mono (by simp)) | exact below_of_drew (((Below.refl _ _).alloc (Nat.le_refl _) _).trans (hby.mono (by simp))) (Nat.le_refl _)
             have ha_1 := ha_0.below hbp1
             have hb__1 := hb__0.below hbp1
             have ka_1 := ka_0.below hbp1
             obtain ⟨ka0wy_, ka1wy_, ka2wy_, ka3wy_, ka4wy_⟩ := ka_1.facts
             have kb_1 := kb_0.below hbp1
             obtain ⟨kb0wy_, kb1wy_, kb2wy_, kb3wy_, kb4wy_⟩ := kb_1.facts
             have hwq1 := hwq0.trans (hbp1.mono hwq0.size))
          | (go_at_call_of 40 (Value.agg #[.int .i64 n2, .slice B ms2.length d])
             refine (pvalid_yes n2 B d ms2 es2 _ (by first | exact hb__1 | exact hb__1.drew | exact hb__1.alloc _ | exact (hb__1.alloc _).drew | exact hb__1.drew.alloc _) IB.out).mono ?_
             rintro e wz_ ⟨rfl, hbz⟩
             have hbp2 : Below wy_.heap.size wy_ wz_ := by first | exact hbz | exact below_of_drew hbz (Nat.le_refl _) | exact ((Below.refl _ _).alloc (Nat.le_refl _) _).trans (hbz.mono (by simp)) | exact ((Below.refl _ _).alloc (Nat.le_refl _) _).trans ((below_of_drew hbz (Nat.le_refl _)).mono (by simp)) | exact below_of_drew (((Below.refl _ _).alloc (Nat.le_refl _) _).trans (hbz.mono (by simp))) (Nat.le_refl _)
             have ha_2 := ha_1.below hbp2
             have hb__2 := hb__1.below hbp2
             have ka_2 := ka_1.below hbp2
             obtain ⟨ka0wz_, ka1wz_, ka2wz_, ka3wz_, ka4wz_⟩ := ka_2.facts
             have kb_2 := kb_1.below hbp2
             obtain ⟨kb0wz_, kb1wz_, kb2wz_, kb3wz_, kb4wz_⟩ := kb_2.facts
             have hwq2 := hwq1.trans (hbp2.mono hwq1.size))
          | (go_at_call_of 41 (Value.agg #[.int .i64 n2, .slice B ms2.length d])
             refine (prvalid_yes n2 B d ms2 es2 _ (by first | exact hb__2 | exact hb__2.drew | exact hb__2.alloc _ | exact (hb__2.alloc _).drew | exact hb__2.drew.alloc _) IB.out).mono ?_
             rintro e wv_ ⟨rfl, hbv⟩
             have hbp3 : Below wz_.heap.size wz_ wv_ := by first | exact hbv | exact below_of_drew hbv (Nat.le_refl _) | exact ((Below.refl _ _).alloc (Nat.le_refl _) _).trans (hbv.mono (by simp)) | exact ((Below.refl _ _).alloc (Nat.le_refl _) _).trans ((below_of_drew hbv (Nat.le_refl _)).mono (by simp)) | exact below_of_drew (((Below.refl _ _).alloc (Nat.le_refl _) _).trans (hbv.mono (by simp))) (Nat.le_refl _)
             have ha_3 := ha_2.below hbp3
             have hb__3 := hb__2.below hbp3
             have ka_3 := ka_2.below hbp3
             obtain ⟨ka0wv_, ka1wv_, ka2wv_, ka3wv_, ka4wv_⟩ := ka_3.facts
             have kb_3 := kb_2.below hbp3
             obtain ⟨kb0wv_, kb1wv_, kb2wv_, kb3wv_, kb4wv_⟩ := kb_3.facts
             have hwq3 := hwq2.trans (hbp3.mono hwq2.size)))
        all_goals
          go_wp2_with fail
          go_meet
          refine ⟨rfl, ?_⟩
          exact ((hbp0.trans (hbp1.mono hbp0.size)).trans (hbp2.mono (hbp0.trans (hbp1.mono hbp0.size)).size)).trans (hbp3.mono ((hbp0.trans (hbp1.mono hbp0.size)).trans (hbp2.mono (hbp0.trans (hbp1.mono hbp0.size)).size)).size)
      · have IB := Lib.hid ib
        clear ib
        go_region_held3 (fun w' => w'.cell? ⟨w.heap.size, 0, none⟩ = some (.int .i64 n) ∧ w'.cell? ⟨w.heap.size, 1, none⟩ = some (.slice A ms.length c) ∧ w'.cell? ⟨w.heap.size + 1, 0, none⟩ = some (.int .i64 n2) ∧ w'.cell? ⟨w.heap.size + 1, 1, none⟩ = some (.slice B ms2.length d)) (first | (with_reducible exact ⟨‹_›, ‹_›, ‹_›, ‹_›⟩) | go_keep)
          (first
          | (go_at_call_of 40 (Value.agg #[.int .i64 n, .slice A ms.length c])
             refine (pvalid_yes n A c ms es _ (by first | exact ha4 | exact ha4.drew | exact ha4.alloc _ | exact (ha4.alloc _).drew | exact ha4.drew.alloc _) IA.out).mono ?_
             rintro e wx_ ⟨rfl, hbx⟩
             have hbp0 : Below w4.heap.size w4 wx_ := by first | exact hbx | exact below_of_drew hbx (Nat.le_refl _) | exact ((Below.refl _ _).alloc (Nat.le_refl _) _).trans (hbx.mono (by simp)) | exact ((Below.refl _ _).alloc (Nat.le_refl _) _).trans ((below_of_drew hbx (Nat.le_refl _)).mono (by simp)) | exact below_of_drew (((Below.refl _ _).alloc (Nat.le_refl _) _).trans (hbx.mono (by simp))) (Nat.le_refl _)
             have ha_0 := ha4.below hbp0
             have hb__0 := hb_4.below hbp0
             have ka_0 := ka4.below hbp0
             obtain ⟨ka0wx_, ka1wx_, ka2wx_, ka3wx_, ka4wx_⟩ := ka_0.facts
             have kb_0 := kb4.below hbp0
             obtain ⟨kb0wx_, kb1wx_, kb2wx_, kb3wx_, kb4wx_⟩ := kb_0.facts
             have hwq0 := hw4.trans (hbp0.mono hw4.size))
          | (go_at_call_of 41 (Value.agg #[.int .i64 n, .slice A ms.length c])
             refine (prvalid_yes n A c ms es _ (by first | exact ha_0 | exact ha_0.drew | exact ha_0.alloc _ | exact (ha_0.alloc _).drew | exact ha_0.drew.alloc _) IA.out).mono ?_
             rintro e wy_ ⟨rfl, hby⟩
             have hbp1 : Below wx_.heap.size wx_ wy_ := by first | exact hby | exact below_of_drew hby (Nat.le_refl _) | exact ((Below.refl _ _).alloc (Nat.le_refl _) _).trans (hby.mono (by simp)) | exact ((Below.refl _ _).alloc (Nat.le_refl _) _).trans ((below_of_drew hby (Nat.le_refl _)).mono (by simp)) | exact below_of_drew (((Below.refl _ _).alloc (Nat.le_refl _) _).trans (hby.mono (by simp))) (Nat.le_refl _)
             have ha_1 := ha_0.below hbp1
             have hb__1 := hb__0.below hbp1
             have ka_1 := ka_0.below hbp1
             obtain ⟨ka0wy_, ka1wy_, ka2wy_, ka3wy_, ka4wy_⟩ := ka_1.facts
             have kb_1 := kb_0.below hbp1
             obtain ⟨kb0wy_, kb1wy_, kb2wy_, kb3wy_, kb4wy_⟩ := kb_1.facts
             have hwq1 := hwq0.trans (hbp1.mono hwq0.size))
          | (go_at_call_of 40 (Value.agg #[.int .i64 n2, .slice B ms2.length d])
             refine (pvalid_no n2 B d ms2 es2 _ (by first | exact hb__1 | exact hb__1.drew | exact hb__1.alloc _ | exact (hb__1.alloc _).drew | exact hb__1.drew.alloc _) IB.out).mono ?_
             rintro e wz_ ⟨rfl, hbz⟩
             have hbp2 : Below wy_.heap.size wy_ wz_ := by first | exact hbz | exact below_of_drew hbz (Nat.le_refl _) | exact ((Below.refl _ _).alloc (Nat.le_refl _) _).trans (hbz.mono (by simp)) | exact ((Below.refl _ _).alloc (Nat.le_refl _) _).trans ((below_of_drew hbz (Nat.le_refl _)).mono (by simp)) | exact below_of_drew (((Below.refl _ _).alloc (Nat.le_refl _) _).trans (hbz.mono (by simp))) (Nat.le_refl _)
             have ha_2 := ha_1.below hbp2
             have hb__2 := hb__1.below hbp2
             have ka_2 := ka_1.below hbp2
             obtain ⟨ka0wz_, ka1wz_, ka2wz_, ka3wz_, ka4wz_⟩ := ka_2.facts
             have kb_2 := kb_1.below hbp2
             obtain ⟨kb0wz_, kb1wz_, kb2wz_, kb3wz_, kb4wz_⟩ := kb_2.facts
             have hwq2 := hwq1.trans (hbp2.mono hwq1.size))
          | (go_at_call_of 41 (Value.agg #[.int .i64 n2, .slice B ms2.length d])
             refine (prvalid_no n2 B d ms2 es2 _ (by first | exact hb__2 | exact hb__2.drew | exact hb__2.alloc _ | exact (hb__2.alloc _).drew | exact hb__2.drew.alloc _) IB.out).mono ?_
             rintro e wv_ ⟨rfl, hbv⟩
             have hbp3 : Below wz_.heap.size wz_ wv_ := by first | exact hbv | exact below_of_drew hbv (Nat.le_refl _) | exact ((Below.refl _ _).alloc (Nat.le_refl _) _).trans (hbv.mono (by simp)) | exact ((Below.refl _ _).alloc (Nat.le_refl _) _).trans ((below_of_drew hbv (Nat.le_refl _)).mono (by simp)) | exact below_of_drew (((Below.refl _ _).alloc (Nat.le_refl _) _).trans (hbv.mono (by simp))) (Nat.le_refl _)
             have ha_3 := ha_2.below hbp3
             have hb__3 := hb__2.below hbp3
             have ka_3 := ka_2.below hbp3
             obtain ⟨ka0wv_, ka1wv_, ka2wv_, ka3wv_, ka4wv_⟩ := ka_3.facts
             have kb_3 := kb_2.below hbp3
             obtain ⟨kb0wv_, kb1wv_, kb2wv_, kb3wv_, kb4wv_⟩ := kb_3.facts
             have hwq3 := hwq2.trans (hbp3.mono hwq2.size)))
        all_goals
          go_wp2_with fail
          go_meet
          refine ⟨rfl, ?_⟩
          exact ((hbp0.trans (hbp1.mono hbp0.size)).trans (hbp2.mono (hbp0.trans (hbp1.mono hbp0.size)).size)).trans (hbp3.mono ((hbp0.trans (hbp1.mono hbp0.size)).trans (hbp2.mono (hbp0.trans (hbp1.mono hbp0.size)).size)).size)
    · have IA := Lib.hid ia
      clear ia
      by_cases ib : PVal n2 ms2 es2
      · have IB := Lib.hid ib
        clear ib
        go_region_held3 (fun w' => w'.cell? ⟨w.heap.size, 0, none⟩ = some (.int .i64 n) ∧ w'.cell? ⟨w.heap.size, 1, none⟩ = some (.slice A ms.length c) ∧ w'.cell? ⟨w.heap.size + 1, 0, none⟩ = some (.int .i64 n2) ∧ w'.cell? ⟨w.heap.size + 1, 1, none⟩ = some (.slice B ms2.length d)) (first | (with_reducible exact ⟨‹_›, ‹_›, ‹_›, ‹_›⟩) | go_keep)
          (first
          | (go_at_call_of 40 (Value.agg #[.int .i64 n, .slice A ms.length c])
             refine (pvalid_no n A c ms es _ (by first | exact ha4 | exact ha4.drew | exact ha4.alloc _ | exact (ha4.alloc _).drew | exact ha4.drew.alloc _) IA.out).mono ?_
             rintro e wx_ ⟨rfl, hbx⟩
             have hbp0 : Below w4.heap.size w4 wx_ := by first | exact hbx | exact below_of_drew hbx (Nat.le_refl _) | exact ((Below.refl _ _).alloc (Nat.le_refl _) _).trans (hbx.mono (by simp)) | exact ((Below.refl _ _).alloc (Nat.le_refl _) _).trans ((below_of_drew hbx (Nat.le_refl _)).mono (by simp)) | exact below_of_drew (((Below.refl _ _).alloc (Nat.le_refl _) _).trans (hbx.mono (by simp))) (Nat.le_refl _)
             have ha_0 := ha4.below hbp0
             have hb__0 := hb_4.below hbp0
             have ka_0 := ka4.below hbp0
             obtain ⟨ka0wx_, ka1wx_, ka2wx_, ka3wx_, ka4wx_⟩ := ka_0.facts
             have kb_0 := kb4.below hbp0
             obtain ⟨kb0wx_, kb1wx_, kb2wx_, kb3wx_, kb4wx_⟩ := kb_0.facts
             have hwq0 := hw4.trans (hbp0.mono hw4.size))
          | (go_at_call_of 41 (Value.agg #[.int .i64 n, .slice A ms.length c])
             refine (prvalid_no n A c ms es _ (by first | exact ha_0 | exact ha_0.drew | exact ha_0.alloc _ | exact (ha_0.alloc _).drew | exact ha_0.drew.alloc _) IA.out).mono ?_
             rintro e wy_ ⟨rfl, hby⟩
             have hbp1 : Below wx_.heap.size wx_ wy_ := by first | exact hby | exact below_of_drew hby (Nat.le_refl _) | exact ((Below.refl _ _).alloc (Nat.le_refl _) _).trans (hby.mono (by simp)) | exact ((Below.refl _ _).alloc (Nat.le_refl _) _).trans ((below_of_drew hby (Nat.le_refl _)).mono (by simp)) | exact below_of_drew (((Below.refl _ _).alloc (Nat.le_refl _) _).trans (hby.mono (by simp))) (Nat.le_refl _)
             have ha_1 := ha_0.below hbp1
             have hb__1 := hb__0.below hbp1
             have ka_1 := ka_0.below hbp1
             obtain ⟨ka0wy_, ka1wy_, ka2wy_, ka3wy_, ka4wy_⟩ := ka_1.facts
             have kb_1 := kb_0.below hbp1
             obtain ⟨kb0wy_, kb1wy_, kb2wy_, kb3wy_, kb4wy_⟩ := kb_1.facts
             have hwq1 := hwq0.trans (hbp1.mono hwq0.size))
          | (go_at_call_of 40 (Value.agg #[.int .i64 n2, .slice B ms2.length d])
             refine (pvalid_yes n2 B d ms2 es2 _ (by first | exact hb__1 | exact hb__1.drew | exact hb__1.alloc _ | exact (hb__1.alloc _).drew | exact hb__1.drew.alloc _) IB.out).mono ?_
             rintro e wz_ ⟨rfl, hbz⟩
             have hbp2 : Below wy_.heap.size wy_ wz_ := by first | exact hbz | exact below_of_drew hbz (Nat.le_refl _) | exact ((Below.refl _ _).alloc (Nat.le_refl _) _).trans (hbz.mono (by simp)) | exact ((Below.refl _ _).alloc (Nat.le_refl _) _).trans ((below_of_drew hbz (Nat.le_refl _)).mono (by simp)) | exact below_of_drew (((Below.refl _ _).alloc (Nat.le_refl _) _).trans (hbz.mono (by simp))) (Nat.le_refl _)
             have ha_2 := ha_1.below hbp2
             have hb__2 := hb__1.below hbp2
             have ka_2 := ka_1.below hbp2
             obtain ⟨ka0wz_, ka1wz_, ka2wz_, ka3wz_, ka4wz_⟩ := ka_2.facts
             have kb_2 := kb_1.below hbp2
             obtain ⟨kb0wz_, kb1wz_, kb2wz_, kb3wz_, kb4wz_⟩ := kb_2.facts
             have hwq2 := hwq1.trans (hbp2.mono hwq1.size))
          | (go_at_call_of 41 (Value.agg #[.int .i64 n2, .slice B ms2.length d])
             refine (prvalid_yes n2 B d ms2 es2 _ (by first | exact hb__2 | exact hb__2.drew | exact hb__2.alloc _ | exact (hb__2.alloc _).drew | exact hb__2.drew.alloc _) IB.out).mono ?_
             rintro e wv_ ⟨rfl, hbv⟩
             have hbp3 : Below wz_.heap.size wz_ wv_ := by first | exact hbv | exact below_of_drew hbv (Nat.le_refl _) | exact ((Below.refl _ _).alloc (Nat.le_refl _) _).trans (hbv.mono (by simp)) | exact ((Below.refl _ _).alloc (Nat.le_refl _) _).trans ((below_of_drew hbv (Nat.le_refl _)).mono (by simp)) | exact below_of_drew (((Below.refl _ _).alloc (Nat.le_refl _) _).trans (hbv.mono (by simp))) (Nat.le_refl _)
             have ha_3 := ha_2.below hbp3
             have hb__3 := hb__2.below hbp3
             have ka_3 := ka_2.below hbp3
             obtain ⟨ka0wv_, ka1wv_, ka2wv_, ka3wv_, ka4wv_⟩ := ka_3.facts
             have kb_3 := kb_2.below hbp3
             obtain ⟨kb0wv_, kb1wv_, kb2wv_, kb3wv_, kb4wv_⟩ := kb_3.facts
             have hwq3 := hwq2.trans (hbp3.mono hwq2.size)))
        all_goals
          go_wp2_with fail
          go_meet
          refine ⟨rfl, ?_⟩
          exact ((hbp0.trans (hbp1.mono hbp0.size)).trans (hbp2.mono (hbp0.trans (hbp1.mono hbp0.size)).size)).trans (hbp3.mono ((hbp0.trans (hbp1.mono hbp0.size)).trans (hbp2.mono (hbp0.trans (hbp1.mono hbp0.size)).size)).size)
      · have IB := Lib.hid ib
        clear ib
        go_region_held3 (fun w' => w'.cell? ⟨w.heap.size, 0, none⟩ = some (.int .i64 n) ∧ w'.cell? ⟨w.heap.size, 1, none⟩ = some (.slice A ms.length c) ∧ w'.cell? ⟨w.heap.size + 1, 0, none⟩ = some (.int .i64 n2) ∧ w'.cell? ⟨w.heap.size + 1, 1, none⟩ = some (.slice B ms2.length d)) (first | (with_reducible exact ⟨‹_›, ‹_›, ‹_›, ‹_›⟩) | go_keep)
          (first
          | (go_at_call_of 40 (Value.agg #[.int .i64 n, .slice A ms.length c])
             refine (pvalid_no n A c ms es _ (by first | exact ha4 | exact ha4.drew | exact ha4.alloc _ | exact (ha4.alloc _).drew | exact ha4.drew.alloc _) IA.out).mono ?_
             rintro e wx_ ⟨rfl, hbx⟩
             have hbp0 : Below w4.heap.size w4 wx_ := by first | exact hbx | exact below_of_drew hbx (Nat.le_refl _) | exact ((Below.refl _ _).alloc (Nat.le_refl _) _).trans (hbx.mono (by simp)) | exact ((Below.refl _ _).alloc (Nat.le_refl _) _).trans ((below_of_drew hbx (Nat.le_refl _)).mono (by simp)) | exact below_of_drew (((Below.refl _ _).alloc (Nat.le_refl _) _).trans (hbx.mono (by simp))) (Nat.le_refl _)
             have ha_0 := ha4.below hbp0
             have hb__0 := hb_4.below hbp0
             have ka_0 := ka4.below hbp0
             obtain ⟨ka0wx_, ka1wx_, ka2wx_, ka3wx_, ka4wx_⟩ := ka_0.facts
             have kb_0 := kb4.below hbp0
             obtain ⟨kb0wx_, kb1wx_, kb2wx_, kb3wx_, kb4wx_⟩ := kb_0.facts
             have hwq0 := hw4.trans (hbp0.mono hw4.size))
          | (go_at_call_of 41 (Value.agg #[.int .i64 n, .slice A ms.length c])
             refine (prvalid_no n A c ms es _ (by first | exact ha_0 | exact ha_0.drew | exact ha_0.alloc _ | exact (ha_0.alloc _).drew | exact ha_0.drew.alloc _) IA.out).mono ?_
             rintro e wy_ ⟨rfl, hby⟩
             have hbp1 : Below wx_.heap.size wx_ wy_ := by first | exact hby | exact below_of_drew hby (Nat.le_refl _) | exact ((Below.refl _ _).alloc (Nat.le_refl _) _).trans (hby.mono (by simp)) | exact ((Below.refl _ _).alloc (Nat.le_refl _) _).trans ((below_of_drew hby (Nat.le_refl _)).mono (by simp)) | exact below_of_drew (((Below.refl _ _).alloc (Nat.le_refl _) _).trans (hby.mono (by simp))) (Nat.le_refl _)
             have ha_1 := ha_0.below hbp1
             have hb__1 := hb__0.below hbp1
             have ka_1 := ka_0.below hbp1
             obtain ⟨ka0wy_, ka1wy_, ka2wy_, ka3wy_, ka4wy_⟩ := ka_1.facts
             have kb_1 := kb_0.below hbp1
             obtain ⟨kb0wy_, kb1wy_, kb2wy_, kb3wy_, kb4wy_⟩ := kb_1.facts
             have hwq1 := hwq0.trans (hbp1.mono hwq0.size))
          | (go_at_call_of 40 (Value.agg #[.int .i64 n2, .slice B ms2.length d])
             refine (pvalid_no n2 B d ms2 es2 _ (by first | exact hb__1 | exact hb__1.drew | exact hb__1.alloc _ | exact (hb__1.alloc _).drew | exact hb__1.drew.alloc _) IB.out).mono ?_
             rintro e wz_ ⟨rfl, hbz⟩
             have hbp2 : Below wy_.heap.size wy_ wz_ := by first | exact hbz | exact below_of_drew hbz (Nat.le_refl _) | exact ((Below.refl _ _).alloc (Nat.le_refl _) _).trans (hbz.mono (by simp)) | exact ((Below.refl _ _).alloc (Nat.le_refl _) _).trans ((below_of_drew hbz (Nat.le_refl _)).mono (by simp)) | exact below_of_drew (((Below.refl _ _).alloc (Nat.le_refl _) _).trans (hbz.mono (by simp))) (Nat.le_refl _)
             have ha_2 := ha_1.below hbp2
             have hb__2 := hb__1.below hbp2
             have ka_2 := ka_1.below hbp2
             obtain ⟨ka0wz_, ka1wz_, ka2wz_, ka3wz_, ka4wz_⟩ := ka_2.facts
             have kb_2 := kb_1.below hbp2
             obtain ⟨kb0wz_, kb1wz_, kb2wz_, kb3wz_, kb4wz_⟩ := kb_2.facts
             have hwq2 := hwq1.trans (hbp2.mono hwq1.size))
          | (go_at_call_of 41 (Value.agg #[.int .i64 n2, .slice B ms2.length d])
             refine (prvalid_no n2 B d ms2 es2 _ (by first | exact hb__2 | exact hb__2.drew | exact hb__2.alloc _ | exact (hb__2.alloc _).drew | exact hb__2.drew.alloc _) IB.out).mono ?_
             rintro e wv_ ⟨rfl, hbv⟩
             have hbp3 : Below wz_.heap.size wz_ wv_ := by first | exact hbv | exact below_of_drew hbv (Nat.le_refl _) | exact ((Below.refl _ _).alloc (Nat.le_refl _) _).trans (hbv.mono (by simp)) | exact ((Below.refl _ _).alloc (Nat.le_refl _) _).trans ((below_of_drew hbv (Nat.le_refl _)).mono (by simp)) | exact below_of_drew (((Below.refl _ _).alloc (Nat.le_refl _) _).trans (hbv.mono (by simp))) (Nat.le_refl _)
             have ha_3 := ha_2.below hbp3
             have hb__3 := hb__2.below hbp3
             have ka_3 := ka_2.below hbp3
             obtain ⟨ka0wv_, ka1wv_, ka2wv_, ka3wv_, ka4wv_⟩ := ka_3.facts
             have kb_3 := kb_2.below hbp3
             obtain ⟨kb0wv_, kb1wv_, kb2wv_, kb3wv_, kb4wv_⟩ := kb_3.facts
             have hwq3 := hwq2.trans (hbp3.mono hwq2.size)))
        all_goals
          go_wp2_with fail
          go_meet
          refine ⟨rfl, ?_⟩
          exact ((hbp0.trans (hbp1.mono hbp0.size)).trans (hbp2.mono (hbp0.trans (hbp1.mono hbp0.size)).size)).trans (hbp3.mono ((hbp0.trans (hbp1.mono hbp0.size)).trans (hbp2.mono (hbp0.trans (hbp1.mono hbp0.size)).size)).size)
  clear a0 a1 a2 a3 a4
  clear b0 b1 b2 b3 b4
  obtain ⟨w5, rfl⟩ : ∃ x, x = wc := ⟨_, rfl⟩
  obtain ⟨rfl, hb5⟩ := hcut
  have ha5 := ha4.below hb5
  have hb_5 := hb_4.below hb5
  have ka5 := ka4.below hb5
  have kb5 := kb4.below hb5
  have hw5 := hw4.trans (hb5.mono hw4.size)
  clear ha4 hb_4 ka4 kb4 hw4 hb5
  go_upto_region 7 with fail
  go_cut [7, 8] (fun s7 s8 wx => ∃ (g : Nat) (x y : Value) (r : Int), s7 = .pointer (some ⟨g, 0, none⟩) ∧ s8 = .int .i64 r ∧ Blk2c 24 wx g x y ∧ Hid (((0 ≤ k ∧ k ≤ 8) ∧ r = 0) ∨ (¬ ((0 ≤ k ∧ k ≤ 8)) ∧ r = 1 ∧ x = .int .i64 0 ∧ y = .slice none 0 0)) ∧ Below w5.heap.size w5 wx)
  case first =>
    go_wp2_with fail
    refine (rint3 _).mono ?_
    rintro e v1 ⟨o, rfl, ho, ol1, ol2, hv1⟩
    have HQ := Lib.hid (qto o 3 v1 ho (by omega) (by omega))
    have HV1 := Lib.hid hv1
    clear ho ol1 ol2 hv1
    go_wp2_with fail
    refine HQ.out.mono ?_
    rintro e v2 ⟨q, rfl, hq, ql1, ql2, hv2⟩
    obtain ⟨l1, l2⟩ := fits_len hq (wfits_small (by decide) (by decide))
    have HV2 := Lib.hid (HV1.out.trans (hv2.mono HV1.out.size))
    by_cases hk : 0 ≤ k ∧ k ≤ 8
    · obtain ⟨m, rfl⟩ := Int.eq_ofNat_of_zero_le hk.1
      have HC := Lib.hid (pconst m q 3 v2 hq l1 l2 (by omega) mulOk_13 ⟨by decide, wfits_small (by decide) (by decide)⟩)
      clear hq ql1 ql2 hv2 l1 l2 HQ
      go_wp2_with fail
      refine HC.out.mono ?_
      rintro e v3 ⟨A1, c1, m1, rfl, hc1, hat1, hv3⟩
      have HB := Lib.hid (Blk2c.new 24 v3 (.int .i64 m) (.slice A1 m1.length c1))
      have HV4 : Hid (Below w5.heap.size w5 (v3.alloc (.cells #[.int .i64 m, .slice A1 m1.length c1] 24))) := (HV2.out.trans (hv3.mono HV2.out.size)).alloc (HV2.out.trans (hv3.mono HV2.out.size)).size _
      clear hc1 hat1 hv3
      go_wp2_with fail
      go_meet
      exact ⟨v3.heap.size, _, _, 0, rfl, rfl, HB.out, .inl ⟨by omega, rfl⟩, HV4.out⟩
    · have HC := Lib.hid (pconst_range k q 3 v2 hq (by omega) (by omega) hk)
      clear hq ql1 ql2 hv2 l1 l2 HQ
      go_wp2_with fail
      refine HC.out.mono ?_
      rintro e v3 ⟨rfl, hv3⟩
      have HB := Lib.hid (Blk2c.new 24 v3 (.int .i64 0) (.slice none 0 0))
      have HV4 : Hid (Below w5.heap.size w5 (v3.alloc (.cells #[.int .i64 0, .slice none 0 0] 24))) := (HV2.out.trans (hv3.mono HV2.out.size)).alloc (HV2.out.trans (hv3.mono HV2.out.size)).size _
      clear hv3
      go_wp2_with fail
      go_meet
      exact ⟨v3.heap.size, _, _, 1, rfl, rfl, HB.out, .inr ⟨by omega, rfl, rfl, rfl⟩, HV4.out⟩
  obtain ⟨w6, rfl⟩ : ∃ x, x = wc := ⟨_, rfl⟩
  obtain ⟨gkc, xkc, ykc, rkc, rfl, rfl, kc6, Hkc, hb6⟩ := hcut
  have ha6 := ha5.below hb6
  have hb_6 := hb_5.below hb6
  have ka6 := ka5.below hb6
  have kb6 := kb5.below hb6
  have hw6 := hw5.trans (hb6.mono hw5.size)
  clear ha5 hb_5 ka5 kb5 hw5 hb6
  go_upto_region 8 with fail
  go_cut [9, 10] (fun s9 s10 wx => ∃ (g : Nat) (x y : Value) (r : Int), s9 = .pointer (some ⟨g, 0, none⟩) ∧ s10 = .int .i64 r ∧ Blk2c 24 wx g x y ∧ Hid (((1 ≤ k ∧ k ≤ 8) ∧ r = 0) ∨ (¬ ((1 ≤ k ∧ k ≤ 8)) ∧ r = 1 ∧ x = .int .i64 0 ∧ y = .slice none 0 0)) ∧ Below w6.heap.size w6 wx)
  case first =>
    by_cases hk : 1 ≤ k ∧ k ≤ 8
    · obtain ⟨m, rfl⟩ := Int.eq_ofNat_of_zero_le (a := k) (by omega)
      have HC := Lib.hid (pvar m 0 w6 (by omega) (by omega))
      go_wp2_with fail
      refine HC.out.mono ?_
      rintro e v3 ⟨A1, c1, m1, rfl, hc1, hat1, hv3⟩
      have HB := Lib.hid (Blk2c.new 24 v3 (.int .i64 m) (.slice A1 m1.length c1))
      have HV4 : Hid (Below w6.heap.size w6 (v3.alloc (.cells #[.int .i64 m, .slice A1 m1.length c1] 24))) := (hv3).alloc (hv3).size _
      clear hc1 hat1 hv3
      go_wp2_with fail
      go_meet
      exact ⟨v3.heap.size, _, _, 0, rfl, rfl, HB.out, .inl ⟨by omega, rfl⟩, HV4.out⟩
    · have HC := Lib.hid (pvar_range k 0 w6 (by omega))
      go_wp2_with fail
      refine HC.out.mono ?_
      rintro e v3 ⟨rfl, hv3⟩
      have HB := Lib.hid (Blk2c.new 24 v3 (.int .i64 0) (.slice none 0 0))
      have HV4 : Hid (Below w6.heap.size w6 (v3.alloc (.cells #[.int .i64 0, .slice none 0 0] 24))) := (hv3).alloc (hv3).size _
      clear hv3
      go_wp2_with fail
      go_meet
      exact ⟨v3.heap.size, _, _, 1, rfl, rfl, HB.out, .inr ⟨by omega, rfl, rfl, rfl⟩, HV4.out⟩
  obtain ⟨w7, rfl⟩ : ∃ x, x = wc := ⟨_, rfl⟩
  obtain ⟨gkd, xkd, ykd, rkd, rfl, rfl, kd7, Hkd, hb7⟩ := hcut
  have ha7 := ha6.below hb7
  have hb_7 := hb_6.below hb7
  have ka7 := ka6.below hb7
  have kb7 := kb6.below hb7
  have kc7 := kc6.below hb7
  have hw7 := hw6.trans (hb7.mono hw6.size)
  clear ha6 hb_6 ka6 kb6 kc6 hw6 hb7
  go_upto_region 9 with fail
  go_cut [99] (fun s99 wx => s99 = .bool false ∧ Below w7.heap.size w7 wx)
  case first =>
    by_cases h1 : k < 0
    · obtain ⟨rfl, rfl, rfl⟩ : rkc = 1 ∧ xkc = .int .i64 0 ∧ ykc = .slice none 0 0 := by
        rcases Hkc.out with h | h
        · exact absurd h.1 (by omega)
        · exact h.2
      obtain ⟨rfl, rfl, rfl⟩ : rkd = 1 ∧ xkd = .int .i64 0 ∧ ykd = .slice none 0 0 := by
        rcases Hkd.out with h | h
        · exact absurd h.1 (by omega)
        · exact h.2
      obtain ⟨p0, p1, p2, p3, p4⟩ := kc7.facts
      go_wp2_with fail
      refine (pnone0 _).mono ?_
      rintro e v1 ⟨rfl, hv1⟩
      obtain ⟨s0, s1, s2, s3, s4⟩ := (kd7.below hv1).facts
      go_wp2_with fail
      refine (pnone0 _).mono ?_
      rintro e v2 ⟨rfl, hv2⟩
      go_wp2_with fail
      go_meet
      exact ⟨rfl, hv1.trans (hv2.mono hv1.size)⟩
    by_cases h2 : 8 < k
    · have h3 : ¬ k < 1 := by omega
      obtain ⟨rfl, rfl, rfl⟩ : rkc = 1 ∧ xkc = .int .i64 0 ∧ ykc = .slice none 0 0 := by
        rcases Hkc.out with h | h
        · exact absurd h.1 (by omega)
        · exact h.2
      obtain ⟨rfl, rfl, rfl⟩ : rkd = 1 ∧ xkd = .int .i64 0 ∧ ykd = .slice none 0 0 := by
        rcases Hkd.out with h | h
        · exact absurd h.1 (by omega)
        · exact h.2
      obtain ⟨p0, p1, p2, p3, p4⟩ := kc7.facts
      go_wp2_with fail
      refine (pnone0 _).mono ?_
      rintro e v1 ⟨rfl, hv1⟩
      obtain ⟨s0, s1, s2, s3, s4⟩ := (kd7.below hv1).facts
      go_wp2_with fail
      refine (pnone0 _).mono ?_
      rintro e v2 ⟨rfl, hv2⟩
      go_wp2_with fail
      go_meet
      exact ⟨rfl, hv1.trans (hv2.mono hv1.size)⟩
    by_cases h3 : k < 1
    · obtain ⟨rfl, rfl, rfl⟩ : rkd = 1 ∧ xkd = .int .i64 0 ∧ ykd = .slice none 0 0 := by
        rcases Hkd.out with h | h
        · exact absurd h.1 (by omega)
        · exact h.2
      obtain ⟨s0, s1, s2, s3, s4⟩ := kd7.facts
      go_wp2_with fail
      refine (pnone0 _).mono ?_
      rintro e v2 ⟨rfl, hv2⟩
      go_wp2_with fail
      go_meet
      exact ⟨rfl, hv2⟩
    go_wp2_with fail
    go_meet
    exact ⟨rfl, Below.refl _ _⟩
  obtain ⟨w8, rfl⟩ : ∃ x, x = wc := ⟨_, rfl⟩
  obtain ⟨rfl, hb8⟩ := hcut
  have ha8 := ha7.below hb8
  have hb_8 := hb_7.below hb8
  have ka8 := ka7.below hb8
  have kb8 := kb7.below hb8
  have kc8 := kc7.below hb8
  have kd8 := kd7.below hb8
  have hw8 := hw7.trans (hb8.mono hw7.size)
  clear ha7 hb_7 ka7 kb7 kc7 kd7 hw7 hb8
  clear kc8 kd8 Hkc Hkd
  by_cases h1 : PVal n ms es
  · have HYA := Lib.hid h1
    clear h1
    by_cases h2 : PVal n2 ms2 es2
    · have HYB := Lib.hid h2
      clear h2
      by_cases h3 : n = n2
      · have HEQ := Lib.hid h3
        clear h3
        obtain ⟨a0, a1, a2, a3, a4⟩ := ka8.facts
        go_wp2_with fail
        refine (prvalid_yes n A c ms es _ ha8 HYA.out).mono ?_
        rintro e w9 ⟨rfl, hb9⟩
        have ha9 := ha8.below hb9
        have hb_9 := hb_8.below hb9
        have ka9 := ka8.below hb9
        have kb9 := kb8.below hb9
        have hw9 := hw8.trans (hb9.mono hw8.size)
        clear ha8 hb_8 ka8 kb8 hw8 hb9
        clear a0 a1 a2 a3 a4
        obtain ⟨b0, b1, b2, b3, b4⟩ := kb9.facts
        go_wp2_with fail
        refine (prvalid_yes n2 B d ms2 es2 _ hb_9 HYB.out).mono ?_
        rintro e w10 ⟨rfl, hb10⟩
        have ha10 := ha9.below hb10
        have hb_10 := hb_9.below hb10
        have ka10 := ka9.below hb10
        have kb10 := kb9.below hb10
        have hw10 := hw9.trans (hb10.mono hw9.size)
        clear ha9 hb_9 ka9 kb9 hw9 hb10
        clear b0 b1 b2 b3 b4
        obtain ⟨a0, a1, a2, a3, a4⟩ := ka10.facts
        obtain ⟨b0, b1, b2, b3, b4⟩ := kb10.facts
        have hne : (n != n2) = false := by rw [HEQ.out]; exact bne_self_eq_false _
        go_wp2_with fail
        go_ret
        exact ⟨rfl, hw10⟩
      · have HNE := Lib.hid h3
        clear h3
        obtain ⟨a0, a1, a2, a3, a4⟩ := ka8.facts
        go_wp2_with fail
        refine (prvalid_yes n A c ms es _ ha8 HYA.out).mono ?_
        rintro e w9 ⟨rfl, hb9⟩
        have ha9 := ha8.below hb9
        have hb_9 := hb_8.below hb9
        have ka9 := ka8.below hb9
        have kb9 := kb8.below hb9
        have hw9 := hw8.trans (hb9.mono hw8.size)
        clear ha8 hb_8 ka8 kb8 hw8 hb9
        clear a0 a1 a2 a3 a4
        obtain ⟨b0, b1, b2, b3, b4⟩ := kb9.facts
        go_wp2_with fail
        refine (prvalid_yes n2 B d ms2 es2 _ hb_9 HYB.out).mono ?_
        rintro e w10 ⟨rfl, hb10⟩
        have ha10 := ha9.below hb10
        have hb_10 := hb_9.below hb10
        have ka10 := ka9.below hb10
        have kb10 := kb9.below hb10
        have hw10 := hw9.trans (hb10.mono hw9.size)
        clear ha9 hb_9 ka9 kb9 hw9 hb10
        clear b0 b1 b2 b3 b4
        obtain ⟨a0, a1, a2, a3, a4⟩ := ka10.facts
        obtain ⟨b0, b1, b2, b3, b4⟩ := kb10.facts
        have hne : (n != n2) = true := by rw [bne_iff_ne]; exact HNE.out
        go_upto_region 17 with fail
        clear hne
        clear a0 a1 a2 a3 a4
        clear b0 b1 b2 b3 b4
        obtain ⟨a0, a1, a2, a3, a4⟩ := ka10.facts
        obtain ⟨b0, b1, b2, b3, b4⟩ := kb10.facts
        go_wp2_with fail
        refine (padd_bad n n2 A B ms.length ms2.length c d 1 _ (by omega) (fun W hW => ppair_range n n2 A B c d ms ms2 es es2 W (ha10.below hW) (hb_10.below hW) HYA.out HYB.out HNE.out)).mono ?_
        rintro e w11 ⟨rfl, hb11⟩
        have ha11 := ha10.below hb11
        have hb_11 := hb_10.below hb11
        have ka11 := ka10.below hb11
        have kb11 := kb10.below hb11
        have hw11 := hw10.trans (hb11.mono hw10.size)
        clear ha10 hb_10 ka10 kb10 hw10 hb11
        clear a0 a1 a2 a3 a4
        clear b0 b1 b2 b3 b4
        go_upto_region 18 with fail
        have kx112 := Blk2c.new 24 w11 (.int .i64 0) (.slice none 0 0)
        have hb12 : Below w11.heap.size w11 (w11.alloc (.cells #[.int .i64 0, .slice none 0 0] 24)) := (Below.refl _ _).alloc (Nat.le_refl _) _
        obtain ⟨w12, hwe⟩ : ∃ x, w11.alloc (.cells #[.int .i64 0, .slice none 0 0] 24) = x := ⟨_, rfl⟩
        rw [hwe] at kx112 hb12 ⊢
        clear hwe
        have ha12 := ha11.below hb12
        have hb_12 := hb_11.below hb12
        have ka12 := ka11.below hb12
        have kb12 := kb11.below hb12
        have hw12 := hw11.trans (hb12.mono hw11.size)
        clear ha11 hb_11 ka11 kb11 hw11 hb12
        obtain ⟨a0, a1, a2, a3, a4⟩ := ka12.facts
        obtain ⟨b0, b1, b2, b3, b4⟩ := kb12.facts
        go_wp2_with fail
        refine (psub_bad n n2 A B ms.length ms2.length c d 1 _ (by omega) (fun W hW => ppair_range n n2 A B c d ms ms2 es es2 W (ha12.below hW) (hb_12.below hW) HYA.out HYB.out HNE.out)).mono ?_
        rintro e w13 ⟨rfl, hb13⟩
        have ha13 := ha12.below hb13
        have hb_13 := hb_12.below hb13
        have ka13 := ka12.below hb13
        have kb13 := kb12.below hb13
        have kx113 := kx112.below hb13
        have hw13 := hw12.trans (hb13.mono hw12.size)
        clear ha12 hb_12 ka12 kb12 kx112 hw12 hb13
        clear a0 a1 a2 a3 a4
        clear b0 b1 b2 b3 b4
        go_upto_region 19 with fail
        have kx214 := Blk2c.new 24 w13 (.int .i64 0) (.slice none 0 0)
        have hb14 : Below w13.heap.size w13 (w13.alloc (.cells #[.int .i64 0, .slice none 0 0] 24)) := (Below.refl _ _).alloc (Nat.le_refl _) _
        obtain ⟨w14, hwe⟩ : ∃ x, w13.alloc (.cells #[.int .i64 0, .slice none 0 0] 24) = x := ⟨_, rfl⟩
        rw [hwe] at kx214 hb14 ⊢
        clear hwe
        have ha14 := ha13.below hb14
        have hb_14 := hb_13.below hb14
        have ka14 := ka13.below hb14
        have kb14 := kb13.below hb14
        have kx114 := kx113.below hb14
        have hw14 := hw13.trans (hb14.mono hw13.size)
        clear ha13 hb_13 ka13 kb13 kx113 hw13 hb14
        obtain ⟨a0, a1, a2, a3, a4⟩ := ka14.facts
        obtain ⟨b0, b1, b2, b3, b4⟩ := kb14.facts
        go_wp2_with fail
        refine (pmul_bad n n2 A B ms.length ms2.length c d 1 _ (by omega) (fun W hW => ppair_range n n2 A B c d ms ms2 es es2 W (ha14.below hW) (hb_14.below hW) HYA.out HYB.out HNE.out)).mono ?_
        rintro e w15 ⟨rfl, hb15⟩
        have ha15 := ha14.below hb15
        have hb_15 := hb_14.below hb15
        have ka15 := ka14.below hb15
        have kb15 := kb14.below hb15
        have kx115 := kx114.below hb15
        have kx215 := kx214.below hb15
        have hw15 := hw14.trans (hb15.mono hw14.size)
        clear ha14 hb_14 ka14 kb14 kx114 kx214 hw14 hb15
        clear a0 a1 a2 a3 a4
        clear b0 b1 b2 b3 b4
        go_upto_region 20 with fail
        have kx316 := Blk2c.new 24 w15 (.int .i64 0) (.slice none 0 0)
        have hb16 : Below w15.heap.size w15 (w15.alloc (.cells #[.int .i64 0, .slice none 0 0] 24)) := (Below.refl _ _).alloc (Nat.le_refl _) _
        obtain ⟨w16, hwe⟩ : ∃ x, w15.alloc (.cells #[.int .i64 0, .slice none 0 0] 24) = x := ⟨_, rfl⟩
        rw [hwe] at kx316 hb16 ⊢
        clear hwe
        have ha16 := ha15.below hb16
        have hb_16 := hb_15.below hb16
        have ka16 := ka15.below hb16
        have kb16 := kb15.below hb16
        have kx116 := kx115.below hb16
        have kx216 := kx215.below hb16
        have hw16 := hw15.trans (hb16.mono hw15.size)
        clear ha15 hb_15 ka15 kb15 kx115 kx215 hw15 hb16
        obtain ⟨a0, a1, a2, a3, a4⟩ := ka16.facts
        obtain ⟨b0, b1, b2, b3, b4⟩ := kb16.facts
        go_wp2_with fail
        refine (pdivide_bad n n2 A B ms.length ms2.length c d 1 _ (by omega) (fun W hW => ppair_range n n2 A B c d ms ms2 es es2 W (ha16.below hW) (hb_16.below hW) HYA.out HYB.out HNE.out)).mono ?_
        rintro e w17 ⟨rfl, hb17⟩
        have ha17 := ha16.below hb17
        have hb_17 := hb_16.below hb17
        have ka17 := ka16.below hb17
        have kb17 := kb16.below hb17
        have kx117 := kx116.below hb17
        have kx217 := kx216.below hb17
        have kx317 := kx316.below hb17
        have hw17 := hw16.trans (hb17.mono hw16.size)
        clear ha16 hb_16 ka16 kb16 kx116 kx216 kx316 hw16 hb17
        clear a0 a1 a2 a3 a4
        clear b0 b1 b2 b3 b4
        go_upto_region 21 with fail
        have kx418 := Blk2c.new 24 w17 (.int .i64 0) (.slice none 0 0)
        have hb18 : Below w17.heap.size w17 (w17.alloc (.cells #[.int .i64 0, .slice none 0 0] 24)) := (Below.refl _ _).alloc (Nat.le_refl _) _
        obtain ⟨w18, hwe⟩ : ∃ x, w17.alloc (.cells #[.int .i64 0, .slice none 0 0] 24) = x := ⟨_, rfl⟩
        rw [hwe] at kx418 hb18 ⊢
        clear hwe
        have ha18 := ha17.below hb18
        have hb_18 := hb_17.below hb18
        have ka18 := ka17.below hb18
        have kb18 := kb17.below hb18
        have kx118 := kx117.below hb18
        have kx218 := kx217.below hb18
        have kx318 := kx317.below hb18
        have hw18 := hw17.trans (hb18.mono hw17.size)
        clear ha17 hb_17 ka17 kb17 kx117 kx217 kx317 hw17 hb18
        obtain ⟨a0, a1, a2, a3, a4⟩ := ka18.facts
        obtain ⟨b0, b1, b2, b3, b4⟩ := kb18.facts
        go_wp2_with fail
        refine (psubst_bad n n2 A B ms.length ms2.length c d 1 99 _ (by omega) (fun W hW => ppair_range n n2 A B c d ms ms2 es es2 W (ha18.below hW) (hb_18.below hW) HYA.out HYB.out HNE.out)).mono ?_
        rintro e w19 ⟨rfl, hb19⟩
        have ha19 := ha18.below hb19
        have hb_19 := hb_18.below hb19
        have ka19 := ka18.below hb19
        have kb19 := kb18.below hb19
        have kx119 := kx118.below hb19
        have kx219 := kx218.below hb19
        have kx319 := kx318.below hb19
        have kx419 := kx418.below hb19
        have hw19 := hw18.trans (hb19.mono hw18.size)
        clear ha18 hb_18 ka18 kb18 kx118 kx218 kx318 kx418 hw18 hb19
        clear a0 a1 a2 a3 a4
        clear b0 b1 b2 b3 b4
        go_upto_region 22 with fail
        have kx520 := Blk2c.new 24 w19 (.int .i64 0) (.slice none 0 0)
        have hb20 : Below w19.heap.size w19 (w19.alloc (.cells #[.int .i64 0, .slice none 0 0] 24)) := (Below.refl _ _).alloc (Nat.le_refl _) _
        obtain ⟨w20, hwe⟩ : ∃ x, w19.alloc (.cells #[.int .i64 0, .slice none 0 0] 24) = x := ⟨_, rfl⟩
        rw [hwe] at kx520 hb20 ⊢
        clear hwe
        have ha20 := ha19.below hb20
        have hb_20 := hb_19.below hb20
        have ka20 := ka19.below hb20
        have kb20 := kb19.below hb20
        have kx120 := kx119.below hb20
        have kx220 := kx219.below hb20
        have kx320 := kx319.below hb20
        have kx420 := kx419.below hb20
        have hw20 := hw19.trans (hb20.mono hw19.size)
        clear ha19 hb_19 ka19 kb19 kx119 kx219 kx319 kx419 hw19 hb20
        obtain ⟨a0, a1, a2, a3, a4⟩ := ka20.facts
        obtain ⟨b0, b1, b2, b3, b4⟩ := kb20.facts
        go_wp2_with fail
        refine (pequal_bad n n2 A B ms.length ms2.length c d 1 _ (by omega) (fun W hW => ppair_range n n2 A B c d ms ms2 es es2 W (ha20.below hW) (hb_20.below hW) HYA.out HYB.out HNE.out)).mono ?_
        rintro e w21 ⟨rfl, hb21⟩
        have ha21 := ha20.below hb21
        have hb_21 := hb_20.below hb21
        have ka21 := ka20.below hb21
        have kb21 := kb20.below hb21
        have kx121 := kx120.below hb21
        have kx221 := kx220.below hb21
        have kx321 := kx320.below hb21
        have kx421 := kx420.below hb21
        have kx521 := kx520.below hb21
        have hw21 := hw20.trans (hb21.mono hw20.size)
        clear ha20 hb_20 ka20 kb20 kx120 kx220 kx320 kx420 kx520 hw20 hb21
        clear a0 a1 a2 a3 a4
        clear b0 b1 b2 b3 b4
        obtain ⟨c0, c1, c2, c3, c4⟩ := kx121.facts
        go_wp2_with fail
        refine (pnone0 _).mono ?_
        rintro e w22 ⟨rfl, hb22⟩
        have ha22 := ha21.below hb22
        have hb_22 := hb_21.below hb22
        have ka22 := ka21.below hb22
        have kb22 := kb21.below hb22
        have kx122 := kx121.below hb22
        have kx222 := kx221.below hb22
        have kx322 := kx321.below hb22
        have kx422 := kx421.below hb22
        have kx522 := kx521.below hb22
        have hw22 := hw21.trans (hb22.mono hw21.size)
        clear ha21 hb_21 ka21 kb21 kx121 kx221 kx321 kx421 kx521 hw21 hb22
        clear c0 c1 c2 c3 c4
        obtain ⟨c0, c1, c2, c3, c4⟩ := kx222.facts
        go_wp2_with fail
        refine (pnone0 _).mono ?_
        rintro e w23 ⟨rfl, hb23⟩
        have ha23 := ha22.below hb23
        have hb_23 := hb_22.below hb23
        have ka23 := ka22.below hb23
        have kb23 := kb22.below hb23
        have kx123 := kx122.below hb23
        have kx223 := kx222.below hb23
        have kx323 := kx322.below hb23
        have kx423 := kx422.below hb23
        have kx523 := kx522.below hb23
        have hw23 := hw22.trans (hb23.mono hw22.size)
        clear ha22 hb_22 ka22 kb22 kx122 kx222 kx322 kx422 kx522 hw22 hb23
        clear c0 c1 c2 c3 c4
        obtain ⟨c0, c1, c2, c3, c4⟩ := kx323.facts
        go_wp2_with fail
        refine (pnone0 _).mono ?_
        rintro e w24 ⟨rfl, hb24⟩
        have ha24 := ha23.below hb24
        have hb_24 := hb_23.below hb24
        have ka24 := ka23.below hb24
        have kb24 := kb23.below hb24
        have kx124 := kx123.below hb24
        have kx224 := kx223.below hb24
        have kx324 := kx323.below hb24
        have kx424 := kx423.below hb24
        have kx524 := kx523.below hb24
        have hw24 := hw23.trans (hb24.mono hw23.size)
        clear ha23 hb_23 ka23 kb23 kx123 kx223 kx323 kx423 kx523 hw23 hb24
        clear c0 c1 c2 c3 c4
        obtain ⟨c0, c1, c2, c3, c4⟩ := kx424.facts
        go_wp2_with fail
        refine (pnone0 _).mono ?_
        rintro e w25 ⟨rfl, hb25⟩
        have ha25 := ha24.below hb25
        have hb_25 := hb_24.below hb25
        have ka25 := ka24.below hb25
        have kb25 := kb24.below hb25
        have kx125 := kx124.below hb25
        have kx225 := kx224.below hb25
        have kx325 := kx324.below hb25
        have kx425 := kx424.below hb25
        have kx525 := kx524.below hb25
        have hw25 := hw24.trans (hb25.mono hw24.size)
        clear ha24 hb_24 ka24 kb24 kx124 kx224 kx324 kx424 kx524 hw24 hb25
        clear c0 c1 c2 c3 c4
        obtain ⟨c0, c1, c2, c3, c4⟩ := kx525.facts
        go_wp2_with fail
        refine (pnone0 _).mono ?_
        rintro e w26 ⟨rfl, hb26⟩
        have ha26 := ha25.below hb26
        have hb_26 := hb_25.below hb26
        have ka26 := ka25.below hb26
        have kb26 := kb25.below hb26
        have kx126 := kx125.below hb26
        have kx226 := kx225.below hb26
        have kx326 := kx325.below hb26
        have kx426 := kx425.below hb26
        have kx526 := kx525.below hb26
        have hw26 := hw25.trans (hb26.mono hw25.size)
        clear ha25 hb_25 ka25 kb25 kx125 kx225 kx325 kx425 kx525 hw25 hb26
        clear c0 c1 c2 c3 c4
        go_wp2_with fail
        go_ret
        exact ⟨rfl, hw26⟩
    · have HNB := Lib.hid h2
      clear h2
      obtain ⟨a0, a1, a2, a3, a4⟩ := ka8.facts
      go_wp2_with fail
      refine (prvalid_yes n A c ms es _ ha8 HYA.out).mono ?_
      rintro e w9 ⟨rfl, hb9⟩
      have ha9 := ha8.below hb9
      have hb_9 := hb_8.below hb9
      have ka9 := ka8.below hb9
      have kb9 := kb8.below hb9
      have hw9 := hw8.trans (hb9.mono hw8.size)
      clear ha8 hb_8 ka8 kb8 hw8 hb9
      clear a0 a1 a2 a3 a4
      obtain ⟨b0, b1, b2, b3, b4⟩ := kb9.facts
      go_wp2_with fail
      refine (prvalid_no n2 B d ms2 es2 _ hb_9 HNB.out).mono ?_
      rintro e w10 ⟨rfl, hb10⟩
      have ha10 := ha9.below hb10
      have hb_10 := hb_9.below hb10
      have ka10 := ka9.below hb10
      have kb10 := kb9.below hb10
      have hw10 := hw9.trans (hb10.mono hw9.size)
      clear ha9 hb_9 ka9 kb9 hw9 hb10
      clear b0 b1 b2 b3 b4
      obtain ⟨a0, a1, a2, a3, a4⟩ := ka10.facts
      obtain ⟨b0, b1, b2, b3, b4⟩ := kb10.facts
      go_wp2_with fail
      refine (padd_bad n n2 A B ms.length ms2.length c d 3 _ (by omega) (fun W hW => ppair_form2 n n2 A B c d ms ms2 es es2 W (ha10.below hW) (hb_10.below hW) HYA.out HNB.out)).mono ?_
      rintro e w11 ⟨rfl, hb11⟩
      have ha11 := ha10.below hb11
      have hb_11 := hb_10.below hb11
      have ka11 := ka10.below hb11
      have kb11 := kb10.below hb11
      have hw11 := hw10.trans (hb11.mono hw10.size)
      clear ha10 hb_10 ka10 kb10 hw10 hb11
      clear a0 a1 a2 a3 a4
      clear b0 b1 b2 b3 b4
      go_upto_region 18 with fail
      have kx112 := Blk2c.new 24 w11 (.int .i64 0) (.slice none 0 0)
      have hb12 : Below w11.heap.size w11 (w11.alloc (.cells #[.int .i64 0, .slice none 0 0] 24)) := (Below.refl _ _).alloc (Nat.le_refl _) _
      obtain ⟨w12, hwe⟩ : ∃ x, w11.alloc (.cells #[.int .i64 0, .slice none 0 0] 24) = x := ⟨_, rfl⟩
      rw [hwe] at kx112 hb12 ⊢
      clear hwe
      have ha12 := ha11.below hb12
      have hb_12 := hb_11.below hb12
      have ka12 := ka11.below hb12
      have kb12 := kb11.below hb12
      have hw12 := hw11.trans (hb12.mono hw11.size)
      clear ha11 hb_11 ka11 kb11 hw11 hb12
      obtain ⟨a0, a1, a2, a3, a4⟩ := ka12.facts
      obtain ⟨b0, b1, b2, b3, b4⟩ := kb12.facts
      go_wp2_with fail
      refine (psub_bad n n2 A B ms.length ms2.length c d 3 _ (by omega) (fun W hW => ppair_form2 n n2 A B c d ms ms2 es es2 W (ha12.below hW) (hb_12.below hW) HYA.out HNB.out)).mono ?_
      rintro e w13 ⟨rfl, hb13⟩
      have ha13 := ha12.below hb13
      have hb_13 := hb_12.below hb13
      have ka13 := ka12.below hb13
      have kb13 := kb12.below hb13
      have kx113 := kx112.below hb13
      have hw13 := hw12.trans (hb13.mono hw12.size)
      clear ha12 hb_12 ka12 kb12 kx112 hw12 hb13
      clear a0 a1 a2 a3 a4
      clear b0 b1 b2 b3 b4
      go_upto_region 19 with fail
      have kx214 := Blk2c.new 24 w13 (.int .i64 0) (.slice none 0 0)
      have hb14 : Below w13.heap.size w13 (w13.alloc (.cells #[.int .i64 0, .slice none 0 0] 24)) := (Below.refl _ _).alloc (Nat.le_refl _) _
      obtain ⟨w14, hwe⟩ : ∃ x, w13.alloc (.cells #[.int .i64 0, .slice none 0 0] 24) = x := ⟨_, rfl⟩
      rw [hwe] at kx214 hb14 ⊢
      clear hwe
      have ha14 := ha13.below hb14
      have hb_14 := hb_13.below hb14
      have ka14 := ka13.below hb14
      have kb14 := kb13.below hb14
      have kx114 := kx113.below hb14
      have hw14 := hw13.trans (hb14.mono hw13.size)
      clear ha13 hb_13 ka13 kb13 kx113 hw13 hb14
      obtain ⟨a0, a1, a2, a3, a4⟩ := ka14.facts
      obtain ⟨b0, b1, b2, b3, b4⟩ := kb14.facts
      go_wp2_with fail
      refine (pmul_bad n n2 A B ms.length ms2.length c d 3 _ (by omega) (fun W hW => ppair_form2 n n2 A B c d ms ms2 es es2 W (ha14.below hW) (hb_14.below hW) HYA.out HNB.out)).mono ?_
      rintro e w15 ⟨rfl, hb15⟩
      have ha15 := ha14.below hb15
      have hb_15 := hb_14.below hb15
      have ka15 := ka14.below hb15
      have kb15 := kb14.below hb15
      have kx115 := kx114.below hb15
      have kx215 := kx214.below hb15
      have hw15 := hw14.trans (hb15.mono hw14.size)
      clear ha14 hb_14 ka14 kb14 kx114 kx214 hw14 hb15
      clear a0 a1 a2 a3 a4
      clear b0 b1 b2 b3 b4
      go_upto_region 20 with fail
      have kx316 := Blk2c.new 24 w15 (.int .i64 0) (.slice none 0 0)
      have hb16 : Below w15.heap.size w15 (w15.alloc (.cells #[.int .i64 0, .slice none 0 0] 24)) := (Below.refl _ _).alloc (Nat.le_refl _) _
      obtain ⟨w16, hwe⟩ : ∃ x, w15.alloc (.cells #[.int .i64 0, .slice none 0 0] 24) = x := ⟨_, rfl⟩
      rw [hwe] at kx316 hb16 ⊢
      clear hwe
      have ha16 := ha15.below hb16
      have hb_16 := hb_15.below hb16
      have ka16 := ka15.below hb16
      have kb16 := kb15.below hb16
      have kx116 := kx115.below hb16
      have kx216 := kx215.below hb16
      have hw16 := hw15.trans (hb16.mono hw15.size)
      clear ha15 hb_15 ka15 kb15 kx115 kx215 hw15 hb16
      obtain ⟨a0, a1, a2, a3, a4⟩ := ka16.facts
      obtain ⟨b0, b1, b2, b3, b4⟩ := kb16.facts
      go_wp2_with fail
      refine (pdivide_bad n n2 A B ms.length ms2.length c d 3 _ (by omega) (fun W hW => ppair_form2 n n2 A B c d ms ms2 es es2 W (ha16.below hW) (hb_16.below hW) HYA.out HNB.out)).mono ?_
      rintro e w17 ⟨rfl, hb17⟩
      have ha17 := ha16.below hb17
      have hb_17 := hb_16.below hb17
      have ka17 := ka16.below hb17
      have kb17 := kb16.below hb17
      have kx117 := kx116.below hb17
      have kx217 := kx216.below hb17
      have kx317 := kx316.below hb17
      have hw17 := hw16.trans (hb17.mono hw16.size)
      clear ha16 hb_16 ka16 kb16 kx116 kx216 kx316 hw16 hb17
      clear a0 a1 a2 a3 a4
      clear b0 b1 b2 b3 b4
      go_upto_region 21 with fail
      have kx418 := Blk2c.new 24 w17 (.int .i64 0) (.slice none 0 0)
      have hb18 : Below w17.heap.size w17 (w17.alloc (.cells #[.int .i64 0, .slice none 0 0] 24)) := (Below.refl _ _).alloc (Nat.le_refl _) _
      obtain ⟨w18, hwe⟩ : ∃ x, w17.alloc (.cells #[.int .i64 0, .slice none 0 0] 24) = x := ⟨_, rfl⟩
      rw [hwe] at kx418 hb18 ⊢
      clear hwe
      have ha18 := ha17.below hb18
      have hb_18 := hb_17.below hb18
      have ka18 := ka17.below hb18
      have kb18 := kb17.below hb18
      have kx118 := kx117.below hb18
      have kx218 := kx217.below hb18
      have kx318 := kx317.below hb18
      have hw18 := hw17.trans (hb18.mono hw17.size)
      clear ha17 hb_17 ka17 kb17 kx117 kx217 kx317 hw17 hb18
      obtain ⟨a0, a1, a2, a3, a4⟩ := ka18.facts
      obtain ⟨b0, b1, b2, b3, b4⟩ := kb18.facts
      go_wp2_with fail
      refine (psubst_bad n n2 A B ms.length ms2.length c d 3 99 _ (by omega) (fun W hW => ppair_form2 n n2 A B c d ms ms2 es es2 W (ha18.below hW) (hb_18.below hW) HYA.out HNB.out)).mono ?_
      rintro e w19 ⟨rfl, hb19⟩
      have ha19 := ha18.below hb19
      have hb_19 := hb_18.below hb19
      have ka19 := ka18.below hb19
      have kb19 := kb18.below hb19
      have kx119 := kx118.below hb19
      have kx219 := kx218.below hb19
      have kx319 := kx318.below hb19
      have kx419 := kx418.below hb19
      have hw19 := hw18.trans (hb19.mono hw18.size)
      clear ha18 hb_18 ka18 kb18 kx118 kx218 kx318 kx418 hw18 hb19
      clear a0 a1 a2 a3 a4
      clear b0 b1 b2 b3 b4
      go_upto_region 22 with fail
      have kx520 := Blk2c.new 24 w19 (.int .i64 0) (.slice none 0 0)
      have hb20 : Below w19.heap.size w19 (w19.alloc (.cells #[.int .i64 0, .slice none 0 0] 24)) := (Below.refl _ _).alloc (Nat.le_refl _) _
      obtain ⟨w20, hwe⟩ : ∃ x, w19.alloc (.cells #[.int .i64 0, .slice none 0 0] 24) = x := ⟨_, rfl⟩
      rw [hwe] at kx520 hb20 ⊢
      clear hwe
      have ha20 := ha19.below hb20
      have hb_20 := hb_19.below hb20
      have ka20 := ka19.below hb20
      have kb20 := kb19.below hb20
      have kx120 := kx119.below hb20
      have kx220 := kx219.below hb20
      have kx320 := kx319.below hb20
      have kx420 := kx419.below hb20
      have hw20 := hw19.trans (hb20.mono hw19.size)
      clear ha19 hb_19 ka19 kb19 kx119 kx219 kx319 kx419 hw19 hb20
      obtain ⟨a0, a1, a2, a3, a4⟩ := ka20.facts
      obtain ⟨b0, b1, b2, b3, b4⟩ := kb20.facts
      go_wp2_with fail
      refine (pequal_bad n n2 A B ms.length ms2.length c d 3 _ (by omega) (fun W hW => ppair_form2 n n2 A B c d ms ms2 es es2 W (ha20.below hW) (hb_20.below hW) HYA.out HNB.out)).mono ?_
      rintro e w21 ⟨rfl, hb21⟩
      have ha21 := ha20.below hb21
      have hb_21 := hb_20.below hb21
      have ka21 := ka20.below hb21
      have kb21 := kb20.below hb21
      have kx121 := kx120.below hb21
      have kx221 := kx220.below hb21
      have kx321 := kx320.below hb21
      have kx421 := kx420.below hb21
      have kx521 := kx520.below hb21
      have hw21 := hw20.trans (hb21.mono hw20.size)
      clear ha20 hb_20 ka20 kb20 kx120 kx220 kx320 kx420 kx520 hw20 hb21
      clear a0 a1 a2 a3 a4
      clear b0 b1 b2 b3 b4
      obtain ⟨c0, c1, c2, c3, c4⟩ := kx121.facts
      go_wp2_with fail
      refine (pnone0 _).mono ?_
      rintro e w22 ⟨rfl, hb22⟩
      have ha22 := ha21.below hb22
      have hb_22 := hb_21.below hb22
      have ka22 := ka21.below hb22
      have kb22 := kb21.below hb22
      have kx122 := kx121.below hb22
      have kx222 := kx221.below hb22
      have kx322 := kx321.below hb22
      have kx422 := kx421.below hb22
      have kx522 := kx521.below hb22
      have hw22 := hw21.trans (hb22.mono hw21.size)
      clear ha21 hb_21 ka21 kb21 kx121 kx221 kx321 kx421 kx521 hw21 hb22
      clear c0 c1 c2 c3 c4
      obtain ⟨c0, c1, c2, c3, c4⟩ := kx222.facts
      go_wp2_with fail
      refine (pnone0 _).mono ?_
      rintro e w23 ⟨rfl, hb23⟩
      have ha23 := ha22.below hb23
      have hb_23 := hb_22.below hb23
      have ka23 := ka22.below hb23
      have kb23 := kb22.below hb23
      have kx123 := kx122.below hb23
      have kx223 := kx222.below hb23
      have kx323 := kx322.below hb23
      have kx423 := kx422.below hb23
      have kx523 := kx522.below hb23
      have hw23 := hw22.trans (hb23.mono hw22.size)
      clear ha22 hb_22 ka22 kb22 kx122 kx222 kx322 kx422 kx522 hw22 hb23
      clear c0 c1 c2 c3 c4
      obtain ⟨c0, c1, c2, c3, c4⟩ := kx323.facts
      go_wp2_with fail
      refine (pnone0 _).mono ?_
      rintro e w24 ⟨rfl, hb24⟩
      have ha24 := ha23.below hb24
      have hb_24 := hb_23.below hb24
      have ka24 := ka23.below hb24
      have kb24 := kb23.below hb24
      have kx124 := kx123.below hb24
      have kx224 := kx223.below hb24
      have kx324 := kx323.below hb24
      have kx424 := kx423.below hb24
      have kx524 := kx523.below hb24
      have hw24 := hw23.trans (hb24.mono hw23.size)
      clear ha23 hb_23 ka23 kb23 kx123 kx223 kx323 kx423 kx523 hw23 hb24
      clear c0 c1 c2 c3 c4
      obtain ⟨c0, c1, c2, c3, c4⟩ := kx424.facts
      go_wp2_with fail
      refine (pnone0 _).mono ?_
      rintro e w25 ⟨rfl, hb25⟩
      have ha25 := ha24.below hb25
      have hb_25 := hb_24.below hb25
      have ka25 := ka24.below hb25
      have kb25 := kb24.below hb25
      have kx125 := kx124.below hb25
      have kx225 := kx224.below hb25
      have kx325 := kx324.below hb25
      have kx425 := kx424.below hb25
      have kx525 := kx524.below hb25
      have hw25 := hw24.trans (hb25.mono hw24.size)
      clear ha24 hb_24 ka24 kb24 kx124 kx224 kx324 kx424 kx524 hw24 hb25
      clear c0 c1 c2 c3 c4
      obtain ⟨c0, c1, c2, c3, c4⟩ := kx525.facts
      go_wp2_with fail
      refine (pnone0 _).mono ?_
      rintro e w26 ⟨rfl, hb26⟩
      have ha26 := ha25.below hb26
      have hb_26 := hb_25.below hb26
      have ka26 := ka25.below hb26
      have kb26 := kb25.below hb26
      have kx126 := kx125.below hb26
      have kx226 := kx225.below hb26
      have kx326 := kx325.below hb26
      have kx426 := kx425.below hb26
      have kx526 := kx525.below hb26
      have hw26 := hw25.trans (hb26.mono hw25.size)
      clear ha25 hb_25 ka25 kb25 kx125 kx225 kx325 kx425 kx525 hw25 hb26
      clear c0 c1 c2 c3 c4
      go_wp2_with fail
      go_ret
      exact ⟨rfl, hw26⟩
  · have HNA := Lib.hid h1
    clear h1
    obtain ⟨a0, a1, a2, a3, a4⟩ := ka8.facts
    go_wp2_with fail
    refine (prvalid_no n A c ms es _ ha8 HNA.out).mono ?_
    rintro e w9 ⟨rfl, hb9⟩
    have ha9 := ha8.below hb9
    have hb_9 := hb_8.below hb9
    have ka9 := ka8.below hb9
    have kb9 := kb8.below hb9
    have hw9 := hw8.trans (hb9.mono hw8.size)
    clear ha8 hb_8 ka8 kb8 hw8 hb9
    clear a0 a1 a2 a3 a4
    obtain ⟨a0, a1, a2, a3, a4⟩ := ka9.facts
    obtain ⟨b0, b1, b2, b3, b4⟩ := kb9.facts
    go_wp2_with fail
    refine (padd_bad n n2 A B ms.length ms2.length c d 3 _ (by omega) (fun W hW => ppair_form1 n n2 A B c d ms ms2 es es2 W (ha9.below hW) (hb_9.below hW) HNA.out)).mono ?_
    rintro e w10 ⟨rfl, hb10⟩
    have ha10 := ha9.below hb10
    have hb_10 := hb_9.below hb10
    have ka10 := ka9.below hb10
    have kb10 := kb9.below hb10
    have hw10 := hw9.trans (hb10.mono hw9.size)
    clear ha9 hb_9 ka9 kb9 hw9 hb10
    clear a0 a1 a2 a3 a4
    clear b0 b1 b2 b3 b4
    go_upto_region 18 with fail
    have kx111 := Blk2c.new 24 w10 (.int .i64 0) (.slice none 0 0)
    have hb11 : Below w10.heap.size w10 (w10.alloc (.cells #[.int .i64 0, .slice none 0 0] 24)) := (Below.refl _ _).alloc (Nat.le_refl _) _
    obtain ⟨w11, hwe⟩ : ∃ x, w10.alloc (.cells #[.int .i64 0, .slice none 0 0] 24) = x := ⟨_, rfl⟩
    rw [hwe] at kx111 hb11 ⊢
    clear hwe
    have ha11 := ha10.below hb11
    have hb_11 := hb_10.below hb11
    have ka11 := ka10.below hb11
    have kb11 := kb10.below hb11
    have hw11 := hw10.trans (hb11.mono hw10.size)
    clear ha10 hb_10 ka10 kb10 hw10 hb11
    obtain ⟨a0, a1, a2, a3, a4⟩ := ka11.facts
    obtain ⟨b0, b1, b2, b3, b4⟩ := kb11.facts
    go_wp2_with fail
    refine (psub_bad n n2 A B ms.length ms2.length c d 3 _ (by omega) (fun W hW => ppair_form1 n n2 A B c d ms ms2 es es2 W (ha11.below hW) (hb_11.below hW) HNA.out)).mono ?_
    rintro e w12 ⟨rfl, hb12⟩
    have ha12 := ha11.below hb12
    have hb_12 := hb_11.below hb12
    have ka12 := ka11.below hb12
    have kb12 := kb11.below hb12
    have kx112 := kx111.below hb12
    have hw12 := hw11.trans (hb12.mono hw11.size)
    clear ha11 hb_11 ka11 kb11 kx111 hw11 hb12
    clear a0 a1 a2 a3 a4
    clear b0 b1 b2 b3 b4
    go_upto_region 19 with fail
    have kx213 := Blk2c.new 24 w12 (.int .i64 0) (.slice none 0 0)
    have hb13 : Below w12.heap.size w12 (w12.alloc (.cells #[.int .i64 0, .slice none 0 0] 24)) := (Below.refl _ _).alloc (Nat.le_refl _) _
    obtain ⟨w13, hwe⟩ : ∃ x, w12.alloc (.cells #[.int .i64 0, .slice none 0 0] 24) = x := ⟨_, rfl⟩
    rw [hwe] at kx213 hb13 ⊢
    clear hwe
    have ha13 := ha12.below hb13
    have hb_13 := hb_12.below hb13
    have ka13 := ka12.below hb13
    have kb13 := kb12.below hb13
    have kx113 := kx112.below hb13
    have hw13 := hw12.trans (hb13.mono hw12.size)
    clear ha12 hb_12 ka12 kb12 kx112 hw12 hb13
    obtain ⟨a0, a1, a2, a3, a4⟩ := ka13.facts
    obtain ⟨b0, b1, b2, b3, b4⟩ := kb13.facts
    go_wp2_with fail
    refine (pmul_bad n n2 A B ms.length ms2.length c d 3 _ (by omega) (fun W hW => ppair_form1 n n2 A B c d ms ms2 es es2 W (ha13.below hW) (hb_13.below hW) HNA.out)).mono ?_
    rintro e w14 ⟨rfl, hb14⟩
    have ha14 := ha13.below hb14
    have hb_14 := hb_13.below hb14
    have ka14 := ka13.below hb14
    have kb14 := kb13.below hb14
    have kx114 := kx113.below hb14
    have kx214 := kx213.below hb14
    have hw14 := hw13.trans (hb14.mono hw13.size)
    clear ha13 hb_13 ka13 kb13 kx113 kx213 hw13 hb14
    clear a0 a1 a2 a3 a4
    clear b0 b1 b2 b3 b4
    go_upto_region 20 with fail
    have kx315 := Blk2c.new 24 w14 (.int .i64 0) (.slice none 0 0)
    have hb15 : Below w14.heap.size w14 (w14.alloc (.cells #[.int .i64 0, .slice none 0 0] 24)) := (Below.refl _ _).alloc (Nat.le_refl _) _
    obtain ⟨w15, hwe⟩ : ∃ x, w14.alloc (.cells #[.int .i64 0, .slice none 0 0] 24) = x := ⟨_, rfl⟩
    rw [hwe] at kx315 hb15 ⊢
    clear hwe
    have ha15 := ha14.below hb15
    have hb_15 := hb_14.below hb15
    have ka15 := ka14.below hb15
    have kb15 := kb14.below hb15
    have kx115 := kx114.below hb15
    have kx215 := kx214.below hb15
    have hw15 := hw14.trans (hb15.mono hw14.size)
    clear ha14 hb_14 ka14 kb14 kx114 kx214 hw14 hb15
    obtain ⟨a0, a1, a2, a3, a4⟩ := ka15.facts
    obtain ⟨b0, b1, b2, b3, b4⟩ := kb15.facts
    go_wp2_with fail
    refine (pdivide_bad n n2 A B ms.length ms2.length c d 3 _ (by omega) (fun W hW => ppair_form1 n n2 A B c d ms ms2 es es2 W (ha15.below hW) (hb_15.below hW) HNA.out)).mono ?_
    rintro e w16 ⟨rfl, hb16⟩
    have ha16 := ha15.below hb16
    have hb_16 := hb_15.below hb16
    have ka16 := ka15.below hb16
    have kb16 := kb15.below hb16
    have kx116 := kx115.below hb16
    have kx216 := kx215.below hb16
    have kx316 := kx315.below hb16
    have hw16 := hw15.trans (hb16.mono hw15.size)
    clear ha15 hb_15 ka15 kb15 kx115 kx215 kx315 hw15 hb16
    clear a0 a1 a2 a3 a4
    clear b0 b1 b2 b3 b4
    go_upto_region 21 with fail
    have kx417 := Blk2c.new 24 w16 (.int .i64 0) (.slice none 0 0)
    have hb17 : Below w16.heap.size w16 (w16.alloc (.cells #[.int .i64 0, .slice none 0 0] 24)) := (Below.refl _ _).alloc (Nat.le_refl _) _
    obtain ⟨w17, hwe⟩ : ∃ x, w16.alloc (.cells #[.int .i64 0, .slice none 0 0] 24) = x := ⟨_, rfl⟩
    rw [hwe] at kx417 hb17 ⊢
    clear hwe
    have ha17 := ha16.below hb17
    have hb_17 := hb_16.below hb17
    have ka17 := ka16.below hb17
    have kb17 := kb16.below hb17
    have kx117 := kx116.below hb17
    have kx217 := kx216.below hb17
    have kx317 := kx316.below hb17
    have hw17 := hw16.trans (hb17.mono hw16.size)
    clear ha16 hb_16 ka16 kb16 kx116 kx216 kx316 hw16 hb17
    obtain ⟨a0, a1, a2, a3, a4⟩ := ka17.facts
    obtain ⟨b0, b1, b2, b3, b4⟩ := kb17.facts
    go_wp2_with fail
    refine (psubst_bad n n2 A B ms.length ms2.length c d 3 99 _ (by omega) (fun W hW => ppair_form1 n n2 A B c d ms ms2 es es2 W (ha17.below hW) (hb_17.below hW) HNA.out)).mono ?_
    rintro e w18 ⟨rfl, hb18⟩
    have ha18 := ha17.below hb18
    have hb_18 := hb_17.below hb18
    have ka18 := ka17.below hb18
    have kb18 := kb17.below hb18
    have kx118 := kx117.below hb18
    have kx218 := kx217.below hb18
    have kx318 := kx317.below hb18
    have kx418 := kx417.below hb18
    have hw18 := hw17.trans (hb18.mono hw17.size)
    clear ha17 hb_17 ka17 kb17 kx117 kx217 kx317 kx417 hw17 hb18
    clear a0 a1 a2 a3 a4
    clear b0 b1 b2 b3 b4
    go_upto_region 22 with fail
    have kx519 := Blk2c.new 24 w18 (.int .i64 0) (.slice none 0 0)
    have hb19 : Below w18.heap.size w18 (w18.alloc (.cells #[.int .i64 0, .slice none 0 0] 24)) := (Below.refl _ _).alloc (Nat.le_refl _) _
    obtain ⟨w19, hwe⟩ : ∃ x, w18.alloc (.cells #[.int .i64 0, .slice none 0 0] 24) = x := ⟨_, rfl⟩
    rw [hwe] at kx519 hb19 ⊢
    clear hwe
    have ha19 := ha18.below hb19
    have hb_19 := hb_18.below hb19
    have ka19 := ka18.below hb19
    have kb19 := kb18.below hb19
    have kx119 := kx118.below hb19
    have kx219 := kx218.below hb19
    have kx319 := kx318.below hb19
    have kx419 := kx418.below hb19
    have hw19 := hw18.trans (hb19.mono hw18.size)
    clear ha18 hb_18 ka18 kb18 kx118 kx218 kx318 kx418 hw18 hb19
    obtain ⟨a0, a1, a2, a3, a4⟩ := ka19.facts
    obtain ⟨b0, b1, b2, b3, b4⟩ := kb19.facts
    go_wp2_with fail
    refine (pequal_bad n n2 A B ms.length ms2.length c d 3 _ (by omega) (fun W hW => ppair_form1 n n2 A B c d ms ms2 es es2 W (ha19.below hW) (hb_19.below hW) HNA.out)).mono ?_
    rintro e w20 ⟨rfl, hb20⟩
    have ha20 := ha19.below hb20
    have hb_20 := hb_19.below hb20
    have ka20 := ka19.below hb20
    have kb20 := kb19.below hb20
    have kx120 := kx119.below hb20
    have kx220 := kx219.below hb20
    have kx320 := kx319.below hb20
    have kx420 := kx419.below hb20
    have kx520 := kx519.below hb20
    have hw20 := hw19.trans (hb20.mono hw19.size)
    clear ha19 hb_19 ka19 kb19 kx119 kx219 kx319 kx419 kx519 hw19 hb20
    clear a0 a1 a2 a3 a4
    clear b0 b1 b2 b3 b4
    obtain ⟨c0, c1, c2, c3, c4⟩ := kx120.facts
    go_wp2_with fail
    refine (pnone0 _).mono ?_
    rintro e w21 ⟨rfl, hb21⟩
    have ha21 := ha20.below hb21
    have hb_21 := hb_20.below hb21
    have ka21 := ka20.below hb21
    have kb21 := kb20.below hb21
    have kx121 := kx120.below hb21
    have kx221 := kx220.below hb21
    have kx321 := kx320.below hb21
    have kx421 := kx420.below hb21
    have kx521 := kx520.below hb21
    have hw21 := hw20.trans (hb21.mono hw20.size)
    clear ha20 hb_20 ka20 kb20 kx120 kx220 kx320 kx420 kx520 hw20 hb21
    clear c0 c1 c2 c3 c4
    obtain ⟨c0, c1, c2, c3, c4⟩ := kx221.facts
    go_wp2_with fail
    refine (pnone0 _).mono ?_
    rintro e w22 ⟨rfl, hb22⟩
    have ha22 := ha21.below hb22
    have hb_22 := hb_21.below hb22
    have ka22 := ka21.below hb22
    have kb22 := kb21.below hb22
    have kx122 := kx121.below hb22
    have kx222 := kx221.below hb22
    have kx322 := kx321.below hb22
    have kx422 := kx421.below hb22
    have kx522 := kx521.below hb22
    have hw22 := hw21.trans (hb22.mono hw21.size)
    clear ha21 hb_21 ka21 kb21 kx121 kx221 kx321 kx421 kx521 hw21 hb22
    clear c0 c1 c2 c3 c4
    obtain ⟨c0, c1, c2, c3, c4⟩ := kx322.facts
    go_wp2_with fail
    refine (pnone0 _).mono ?_
    rintro e w23 ⟨rfl, hb23⟩
    have ha23 := ha22.below hb23
    have hb_23 := hb_22.below hb23
    have ka23 := ka22.below hb23
    have kb23 := kb22.below hb23
    have kx123 := kx122.below hb23
    have kx223 := kx222.below hb23
    have kx323 := kx322.below hb23
    have kx423 := kx422.below hb23
    have kx523 := kx522.below hb23
    have hw23 := hw22.trans (hb23.mono hw22.size)
    clear ha22 hb_22 ka22 kb22 kx122 kx222 kx322 kx422 kx522 hw22 hb23
    clear c0 c1 c2 c3 c4
    obtain ⟨c0, c1, c2, c3, c4⟩ := kx423.facts
    go_wp2_with fail
    refine (pnone0 _).mono ?_
    rintro e w24 ⟨rfl, hb24⟩
    have ha24 := ha23.below hb24
    have hb_24 := hb_23.below hb24
    have ka24 := ka23.below hb24
    have kb24 := kb23.below hb24
    have kx124 := kx123.below hb24
    have kx224 := kx223.below hb24
    have kx324 := kx323.below hb24
    have kx424 := kx423.below hb24
    have kx524 := kx523.below hb24
    have hw24 := hw23.trans (hb24.mono hw23.size)
    clear ha23 hb_23 ka23 kb23 kx123 kx223 kx323 kx423 kx523 hw23 hb24
    clear c0 c1 c2 c3 c4
    obtain ⟨c0, c1, c2, c3, c4⟩ := kx524.facts
    go_wp2_with fail
    refine (pnone0 _).mono ?_
    rintro e w25 ⟨rfl, hb25⟩
    have ha25 := ha24.below hb25
    have hb_25 := hb_24.below hb25
    have ka25 := ka24.below hb25
    have kb25 := kb24.below hb25
    have kx125 := kx124.below hb25
    have kx225 := kx224.below hb25
    have kx325 := kx324.below hb25
    have kx425 := kx424.below hb25
    have kx525 := kx524.below hb25
    have hw25 := hw24.trans (hb25.mono hw24.size)
    clear ha24 hb_24 ka24 kb24 kx124 kx224 kx324 kx424 kx524 hw24 hb25
    clear c0 c1 c2 c3 c4
    go_wp2_with fail
    go_ret
    exact ⟨rfl, hw25⟩
end Go.Proofs.YtgemlnnpnlpbeaaGreatDoor

