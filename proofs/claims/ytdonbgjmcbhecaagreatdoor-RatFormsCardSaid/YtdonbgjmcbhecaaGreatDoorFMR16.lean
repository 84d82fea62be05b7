/- isochroneref02.Valid. -/
import Derived.Test.YtdonbgjmcbhecaaGreatDoorFMR15
namespace Go.Proofs.YtdonbgjmcbhecaaGreatDoor
open Go.RowKit V

set_option maxHeartbeats 400000 in
theorem rqvalid_no1 (s : Bool) (N D : Option Addr) (nc dc : Nat) (ns ds : List Nat) (w : World) (rn : Rd .u32 w N ns) (h : ¬ Ok ns) :
    Calls Tryz.prog 49 #[.agg #[.bool s, .slice N ns.length nc, .slice D ds.length dc]] w (Gives (.bool false) w) := by
  have hb : Below w.heap.size w (w.alloc (.cells #[.bool s, .slice N ns.length nc, .slice D ds.length dc] 24)) := (Below.refl _ _).alloc (Nat.le_refl _) _
  go_enter Tryz.func49, Tryz.ntmps49
  go_wp2_with fail
  refine (rvalid_no N nc ns _ (rn.below hb) h).mono ?_
  rintro e w1 ⟨rfl, rfl⟩
  go_wp2
  go_ret
  exact ⟨rfl, hb⟩
set_option maxHeartbeats 400000 in
theorem rqvalid_no2 (s : Bool) (N D : Option Addr) (nc dc : Nat) (ns ds : List Nat) (w : World) (rn : Rd .u32 w N ns) (rd : Rd .u32 w D ds) (h1 : Ok ns) (h : ¬ Ok ds) :
    Calls Tryz.prog 49 #[.agg #[.bool s, .slice N ns.length nc, .slice D ds.length dc]] w (Gives (.bool false) w) := by
  have hb : Below w.heap.size w (w.alloc (.cells #[.bool s, .slice N ns.length nc, .slice D ds.length dc] 24)) := (Below.refl _ _).alloc (Nat.le_refl _) _
  go_enter Tryz.func49, Tryz.ntmps49
  go_wp2_with fail
  refine (rvalid_yes N nc ns _ (rn.below hb) h1).mono ?_
  rintro e w1 ⟨rfl, rfl⟩
  go_wp2_with fail
  refine (rvalid_no D dc ds _ (rd.below hb) h).mono ?_
  rintro e w1 ⟨rfl, rfl⟩
  go_wp2
  go_ret
  exact ⟨rfl, hb⟩
set_option maxHeartbeats 400000 in
theorem rqvalid_no3 (s : Bool) (N D : Option Addr) (nc dc : Nat) (ns : List Nat) (w : World) (rn : Rd .u32 w N ns) (rd : Rd .u32 w D []) (h1 : Ok ns) :
    Calls Tryz.prog 49 #[.agg #[.bool s, .slice N ns.length nc, .slice D ([] : List Nat).length dc]] w (Gives (.bool false) w) := by
  have h2 : Ok ([] : List Nat) := ⟨by simp, nrm_nil⟩
  have hb : Below w.heap.size w (w.alloc (.cells #[.bool s, .slice N ns.length nc, .slice D ([] : List Nat).length dc] 24)) := (Below.refl _ _).alloc (Nat.le_refl _) _
  go_enter Tryz.func49, Tryz.ntmps49
  go_wp2_with fail
  refine (rvalid_yes N nc ns _ (rn.below hb) h1).mono ?_
  rintro e w1 ⟨rfl, rfl⟩
  go_wp2_with fail
  refine (rvalid_yes D dc [] _ (rd.below hb) h2).mono ?_
  rintro e w1 ⟨rfl, rfl⟩
  go_wp2
  go_ret
  exact ⟨rfl, hb⟩
set_option maxHeartbeats 1600000 in
theorem rqvalid_zero (s : Bool) (N D : Option Addr) (nc dc : Nat) (ds : List Nat) (w : World) (rn : Rd .u32 w N []) (rd : Rd .u32 w D ds) (h2 : Ok ds) (dd : Dig 4294967296 ds) (hpos : 0 < ds.length) (v : Bool) (hv : v = true ↔ (s = false ∧ V32 ds = 1)) :
    Calls Tryz.prog 49 #[.agg #[.bool s, .slice N ([] : List Nat).length nc, .slice D ds.length dc]] w (Gives (.bool v) w) := by
  have h1 : Ok ([] : List Nat) := ⟨by simp, nrm_nil⟩
  have hb : Below w.heap.size w (w.alloc (.cells #[.bool s, .slice N ([] : List Nat).length nc, .slice D ds.length dc] 24)) := (Below.refl _ _).alloc (Nat.le_refl _) _
  have md : Mag ds := ⟨dd, h2.2⟩
  have hne : ((ds.length : Int) == 0) = false := beq_eq_false_iff_ne.2 (by omega)
  have V1 := Lib.hid (rvalid_yes N nc [] _ (rn.below hb) h1)
  have V2 := Lib.hid (rvalid_yes D dc ds _ (rd.below hb) h2)
  cases s
  · by_cases hl : ds.length = 1
    · obtain ⟨ad, x, rfl, hbl, ex, hc⟩ := (rd.below hb).ask (i := 0) (by omega)
      rw [add_zero_] at hc
      simp only [List.length_nil] at hc
      have hvx : V32 ds = x := by rw [one_of_len hl, ex.out]; unfold V32; simp [val]
      have hq : Hid (((x : Int) == 1) = v) := by
        show _ = _
        rw [Bool.eq_iff_iff, hv, hvx, beq_iff_eq]
        constructor
        · intro h; exact ⟨rfl, by omega⟩
        · intro h; omega
      have hl1 : ((ds.length : Int) == 1) = true := by simp [hl]
      have HL := Lib.hid hl
      clear hl hv hvx
      obtain ⟨p, hp⟩ : ∃ p, ((x : Int) == 1) = p := ⟨_, rfl⟩
      rw [hp] at hq
      cases p
      all_goals
        go_enter Tryz.func49, Tryz.ntmps49
        go_wp2_with fail
        refine V1.out.mono ?_
        rintro e w1 ⟨rfl, rfl⟩
        go_wp2_with fail
        refine V2.out.mono ?_
        rintro e w1 ⟨rfl, rfl⟩
        go_wp2_with (go_quiet (fail))
        go_ret
        first
          | exact ⟨ret_bool hq.out, hb⟩
          | exact ⟨ret_bool hq.out, below_drew_ hb _⟩
          | exact ⟨ret_bool hq.out, hb.drew⟩
    · have hvf : Hid (false = v) := by
        show _ = _
        cases v with
        | false => rfl
        | true =>
          exfalso
          have h3 := (hv.1 rfl).2
          have h4 := val_ge (B := 4294967296) md.2 (by omega)
          have h5 : 4294967296 ^ 1 ≤ 4294967296 ^ (ds.length - 1) := Nat.pow_le_pow_right (by omega) (by omega)
          unfold V32 at h3; omega
      have hl1 : ((ds.length : Int) == 1) = false := beq_eq_false_iff_ne.2 (by omega)
      clear hv
      go_enter Tryz.func49, Tryz.ntmps49
      go_wp2_with fail
      refine V1.out.mono ?_
      rintro e w1 ⟨rfl, rfl⟩
      go_wp2_with fail
      refine V2.out.mono ?_
      rintro e w1 ⟨rfl, rfl⟩
      go_wp2_with (go_quiet (fail))
      go_ret
      exact ⟨ret_bool hvf.out, hb⟩
  · have hvf : Hid (false = v) := by
      show _ = _
      cases v with
      | false => rfl
      | true => have := (hv.1 rfl).1; cases this
    clear hv
    go_enter Tryz.func49, Tryz.ntmps49
    go_wp2_with fail
    refine V1.out.mono ?_
    rintro e w1 ⟨rfl, rfl⟩
    go_wp2_with fail
    refine V2.out.mono ?_
    rintro e w1 ⟨rfl, rfl⟩
    go_wp2_with (go_quiet (fail))
    go_ret
    exact ⟨ret_bool hvf.out, hb⟩

theorem below_of_says {w w' : World} {n : Nat} (h : w' = w.drewN n) : Below w.heap.size w w' := by rw [h]; exact below_drew_ (Below.refl _ _) n
theorem cmp_one {g : Nat} : ((cmpOf (g : Int) ((VD [1] : Nat) : Int) == 0) = true) ↔ g = 1 := by
  have e : ((VD [1] : Nat) : Int) = 1 := by simp [VD, val]
  rw [e, beq_iff_eq]
  unfold cmpOf
  split
  · constructor <;> intro h <;> omega
  · split
    · constructor <;> intro h <;> omega
    · constructor <;> intro h <;> omega

set_option maxRecDepth 100000 in
set_option maxHeartbeats 1600000 in
theorem rqvalid_gcd (s : Bool) (N D : Option Addr) (nc dc : Nat) (ns ds : List Nat) (w : World) (rn : Rd .u32 w N ns) (rd : Rd .u32 w D ds) (h1 : Ok ns) (h2 : Ok ds) (dn : Dig 4294967296 ns) (dd : Dig 4294967296 ds) (hpos : 0 < ds.length) (hn : 0 < ns.length) (v : Bool) (hv : v = true ↔ Nat.gcd (V32 ns) (V32 ds) = 1) :
    Calls Tryz.prog 49 #[.agg #[.bool s, .slice N ns.length nc, .slice D ds.length dc]] w (Gives (.bool v) w) := by
  have hb : Below w.heap.size w (w.alloc (.cells #[.bool s, .slice N ns.length nc, .slice D ds.length dc] 24)) := (Below.refl _ _).alloc (Nat.le_refl _) _
  have hk := Blk3.new w (.bool s) (.slice N ns.length nc) (.slice D ds.length dc)
  have HV := Lib.hid hv
  have hne : ((ds.length : Int) == 0) = false := beq_eq_false_iff_ne.2 (by omega)
  have hne2 : ((ns.length : Int) == 0) = false := beq_eq_false_iff_ne.2 (by omega)
  have l1 := h1.1
  have l2 := h2.1
  clear hv
  go_enter Tryz.func49, Tryz.ntmps49
  go_wp2_with fail
  obtain ⟨w1, hwe⟩ : ∃ x, w.alloc (.cells #[.bool s, .slice N ns.length nc, .slice D ds.length dc] 24) = x := ⟨_, rfl⟩
  rw [hwe] at hb hk ⊢
  have ka1 := hk
  have hb1 := hb
  clear hwe hk hb
  have rn1 := rn.below hb1
  have rd1 := rd.below hb1
  have hw1 := hb1
  clear rn rd hb1
  refine (rvalid_yes N nc ns _ rn1 h1).mono ?_
  rintro e w' ⟨rfl, rfl⟩
  obtain ⟨a0, a1, a2, a3, a4, a5, a6⟩ := ka1.facts
  go_wp2_with fail
  refine (rvalid_yes D dc ds _ rd1 h2).mono ?_
  rintro e w' ⟨rfl, rfl⟩
  go_upto_region 5 with fail
  go_region_held3 (fun w' => w'.cell? ⟨w.heap.size, 1, none⟩ = some (.slice N ns.length nc) ∧ w'.cell? ⟨w.heap.size, 2, none⟩ = some (.slice D ds.length dc)) (first | exact ⟨‹_›, ‹_›⟩ | go_keep)
    (first
    | (go_at_call_of 95 (Value.slice N ns.length nc)
       refine (of_any N nc ns _ (by first | exact rn1 | exact rn1.drew | exact rn1.alloc _ | exact (rn1.alloc _).drew | exact rn1.drew.alloc _) (by omega) dn).mono ?_
       rintro e wx_ ⟨X, xc, xs, rfl, hxc, hX, hbx, hvx, mx_, hxl⟩
       have HVX := Lib.hid hvx
       clear hvx
       have hbp0 : Below w1.heap.size w1 wx_ := by first | exact hbx | exact below_of_drew hbx (Nat.le_refl _) | exact ((Below.refl _ _).alloc (Nat.le_refl _) _).trans (hbx.mono (by simp)) | exact ((Below.refl _ _).alloc (Nat.le_refl _) _).trans ((below_of_drew hbx (Nat.le_refl _)).mono (by simp)) | exact below_of_drew (((Below.refl _ _).alloc (Nat.le_refl _) _).trans (hbx.mono (by simp))) (Nat.le_refl _)
       first | (have hL := hL.below hbp0) | (have hL := (rd_nat1 w1 1).below hbx) | (have hL := (rd_nat1 w1 1).drew.below hbx) | (have hL := (rd_nat1 w1.drew 1).below hbx) | skip
       have rn_0 := rn1.below hbp0
       have rd_0 := rd1.below hbp0
       have ka_0 := ka1.below hbp0
       obtain ⟨ka0wx_, ka1wx_, ka2wx_, ka3wx_, ka4wx_, ka5wx_, ka6wx_⟩ := ka_0.facts
       have hwq0 := hw1.trans (hbp0.mono hw1.size))
    | (go_at_call_of 95 (Value.slice D ds.length dc)
       refine (of_any D dc ds _ (by first | exact rd_0 | exact rd_0.drew | exact rd_0.alloc _ | exact (rd_0.alloc _).drew | exact rd_0.drew.alloc _) (by omega) dd).mono ?_
       rintro e wy_ ⟨Y, yc, ys, rfl, hyc, hY, hby, hvy, my_, hyl⟩
       have HVY := Lib.hid hvy
       clear hvy
       have hbp1 : Below wx_.heap.size wx_ wy_ := by first | exact hby | exact below_of_drew hby (Nat.le_refl _) | exact ((Below.refl _ _).alloc (Nat.le_refl _) _).trans (hby.mono (by simp)) | exact ((Below.refl _ _).alloc (Nat.le_refl _) _).trans ((below_of_drew hby (Nat.le_refl _)).mono (by simp)) | exact below_of_drew (((Below.refl _ _).alloc (Nat.le_refl _) _).trans (hby.mono (by simp))) (Nat.le_refl _)
       first | (have hL := hL.below hbp1) | (have hL := (rd_nat1 wx_ 1).below hby) | (have hL := (rd_nat1 wx_ 1).drew.below hby) | (have hL := (rd_nat1 wx_.drew 1).below hby) | skip
       have rn_1 := rn_0.below hbp1
       have rd_1 := rd_0.below hbp1
       have hX_1 := hX.below hbp1
       have ka_1 := ka_0.below hbp1
       obtain ⟨ka0wy_, ka1wy_, ka2wy_, ka3wy_, ka4wy_, ka5wy_, ka6wy_⟩ := ka_1.facts
       have hwq1 := hwq0.trans (hbp1.mono hwq0.size))
    | (go_at_call 114
       refine (rgcd_any X Y xc yc xs ys _ (by first | exact hX_1 | exact hX_1.drew | exact hX_1.alloc _ | exact (hX_1.alloc _).drew | exact hX_1.drew.alloc _) (by first | exact hY | exact hY.drew | exact hY.alloc _ | exact (hY.alloc _).drew | exact hY.drew.alloc _) (by omega) (by omega) mx_ my_).mono ?_
       rintro e wg_ ⟨G, gc, gl, rfl, hG, hng, hlg, hvg, hbg⟩
       obtain ⟨c, hcc, hcv⟩ : ∃ c : Int, Hid (cmpOf (VD gl) (VD [1]) = c) ∧ Hid ((c == 0) = v) := ⟨_, Lib.hid rfl, by show _ = _; rw [Bool.eq_iff_iff, HV.out, cmp_one, hvg.out, HVX.out, HVY.out]⟩
       have hbp2 : Below wy_.heap.size wy_ wg_ := by first | exact hbg | exact below_of_drew hbg (Nat.le_refl _) | exact ((Below.refl _ _).alloc (Nat.le_refl _) _).trans (hbg.mono (by simp)) | exact ((Below.refl _ _).alloc (Nat.le_refl _) _).trans ((below_of_drew hbg (Nat.le_refl _)).mono (by simp)) | exact below_of_drew (((Below.refl _ _).alloc (Nat.le_refl _) _).trans (hbg.mono (by simp))) (Nat.le_refl _)
       first | (have hL := hL.below hbp2) | (have hL := (rd_nat1 wy_ 1).below hbg) | (have hL := (rd_nat1 wy_ 1).drew.below hbg) | (have hL := (rd_nat1 wy_.drew 1).below hbg) | skip
       have rn_2 := rn_1.below hbp2
       have rd_2 := rd_1.below hbp2
       have hX_2 := hX_1.below hbp2
       have hY_2 := hY.below hbp2
       have ka_2 := ka_1.below hbp2
       obtain ⟨ka0wg_, ka1wg_, ka2wg_, ka3wg_, ka4wg_, ka5wg_, ka6wg_⟩ := ka_2.facts
       have hwq2 := hwq1.trans (hbp2.mono hwq1.size))
    | (go_at_call 107
       refine (rcmp_any G (some ⟨_, 0, none⟩) gc 1 gl [1] _ (by first | exact hG | exact hG.drew | exact hG.alloc _ | exact (hG.alloc _).drew | exact hG.drew.alloc _) (by first | exact hL | exact hL.drew | exact (rd_nat1 _ 1) | exact (rd_nat1 _ 1).drew | exact hL.alloc _ | exact (rd_nat1 _ 1).alloc _) (by omega) hng nm_one).mono ?_
       rintro e wc_ ⟨he, n4, hwe⟩
       rw [hcc.out] at he
       subst he
       have hbc := below_of_says hwe
       clear hwe
       have hbp3 : Below wg_.heap.size wg_ wc_ := by first | exact hbc | exact below_of_drew hbc (Nat.le_refl _) | exact ((Below.refl _ _).alloc (Nat.le_refl _) _).trans (hbc.mono (by simp)) | exact ((Below.refl _ _).alloc (Nat.le_refl _) _).trans ((below_of_drew hbc (Nat.le_refl _)).mono (by simp)) | exact below_of_drew (((Below.refl _ _).alloc (Nat.le_refl _) _).trans (hbc.mono (by simp))) (Nat.le_refl _)
       first | (have hL := hL.below hbp3) | (have hL := (rd_nat1 wg_ 1).below hbc) | (have hL := (rd_nat1 wg_ 1).drew.below hbc) | (have hL := (rd_nat1 wg_.drew 1).below hbc) | skip
       have rn_3 := rn_2.below hbp3
       have rd_3 := rd_2.below hbp3
       have hX_3 := hX_2.below hbp3
       have hY_3 := hY_2.below hbp3
       have hG_3 := hG.below hbp3
       have ka_3 := ka_2.below hbp3
       obtain ⟨ka0wc_, ka1wc_, ka2wc_, ka3wc_, ka4wc_, ka5wc_, ka6wc_⟩ := ka_3.facts
       have hwq3 := hwq2.trans (hbp3.mono hwq2.size)))
  all_goals
    go_wp2_with fail
    go_ret
    exact ⟨ret_bool (by first | exact hcv.out | exact hpv.out | (rw [hp]; exact hpv.out)), hwq3⟩

theorem rqvalid (s : Bool) (N D : Option Addr) (nc dc : Nat) (ns ds : List Nat) (w : World) (rn : Rd .u32 w N ns) (rd : Rd .u32 w D ds) (dn : Dig 4294967296 ns) (dd : Dig 4294967296 ds) (v : Bool) (hv : v = true ↔ RVal s ns ds) :
    Calls Tryz.prog 49 #[.agg #[.bool s, .slice N ns.length nc, .slice D ds.length dc]] w (Gives (.bool v) w) := by
  have hf : ¬ RVal s ns ds → v = false := fun h => by cases v with
    | false => rfl
    | true => exact absurd (hv.1 rfl) h
  by_cases h1 : Ok ns
  · by_cases h2 : Ok ds
    · rcases Nat.eq_zero_or_pos ds.length with h0 | hpos
      · rw [hf fun h => by have := h.2.2.1; omega]
        obtain rfl : ds = [] := List.eq_nil_of_length_eq_zero h0
        exact rqvalid_no3 s N D nc dc ns w rn rd h1
      · rcases Nat.eq_zero_or_pos ns.length with h3 | h3
        · obtain rfl : ns = [] := List.eq_nil_of_length_eq_zero h3
          refine rqvalid_zero s N D nc dc ds w rn rd h2 dd hpos v (hv.trans ⟨fun h => ⟨?_, ?_⟩, fun h => ⟨h1, h2, hpos, ?_, ?_⟩⟩)
          · cases s with
            | false => rfl
            | true => have := h.2.2.2.1 rfl; simp at this
          · have := h.2.2.2.2; simpa [V32, val] using this
          · intro hs; rw [h.1] at hs; cases hs
          · have := h.2; simpa [V32, val] using this
        · exact rqvalid_gcd s N D nc dc ns ds w rn rd h1 h2 dn dd hpos h3 v (hv.trans ⟨fun h => h.2.2.2.2, fun h => ⟨h1, h2, hpos, fun _ => h3, h⟩⟩)
    · rw [hf fun h => h2 h.2.1]; exact rqvalid_no2 s N D nc dc ns ds w rn rd h1 h2
  · rw [hf fun h => h1 h.1]; exact rqvalid_no1 s N D nc dc ns ds w rn h1
end Go.Proofs.YtdonbgjmcbhecaaGreatDoor


/- rat.Text: sign, numerator, denominator in decimal digits. -/
namespace Go.Proofs.YtdonbgjmcbhecaaGreatDoor
open Go.RowKit V

/-- The text of a number. -/
def ratText (s : Bool) (n d : Nat) : List UInt8 := (if s then [45] else []) ++ Lib.decDigits n ++ (if d = 1 then [] else 47 :: Lib.decDigits d)

set_option maxHeartbeats 1600000 in
theorem qtext (a : RL) (q : Rat) (w : World) (ha : a.Is w q) (l1 : a.ns.length ≤ 4096) (l2 : a.ds.length ≤ 4096)
    (htab : Lib.TabBelow Tryz.prog w.heap.size w "internal/strconv.uint64pow10" .u64 Lib.pow10Tab) :
    Calls Tryz.prog 51 #[.agg #[.bool a.s, .slice a.N a.ns.length a.nc, .slice a.D a.ds.length a.dc]] w
      (Gives (.tuple #[.string ⟨(ratText a.s (V32 a.ns) (V32 a.ds)).toArray⟩, .int .i64 0]) w) := by
  obtain ⟨s, N, nc, ns, D, dc, ds⟩ := a
  dsimp only at l1 l2 ⊢
  obtain ⟨o, ho⟩ : ∃ o, Hid (decide (V32 ds = 1) = o) := ⟨_, Lib.hid rfl⟩
  have HT := Lib.hid htab
  clear htab
  have mn : Mag ns := ha.mn
  have md : Mag ds := ha.md
  have hk := Blk3.new w (.bool s) (.slice N ns.length nc) (.slice D ds.length dc)
  have HV := Lib.hid (qvalid_yes ⟨s, N, nc, ns, D, dc, ds⟩ q _ (ha.below ((Below.refl _ _).alloc (Nat.le_refl w.heap.size) (.cells #[.bool s, .slice N ns.length nc, .slice D ds.length dc] 24))) l1 l2)
  have hX := dec_short mn l1 (by omega)
  have hY := dec_short md l2 (by omega)
  obtain ⟨X, hXe⟩ : ∃ X, Hid (Lib.decDigits (V32 ns) = X) := ⟨_, Lib.hid rfl⟩
  obtain ⟨Y, hYe⟩ : ∃ Y, Hid (Lib.decDigits (V32 ds) = Y) := ⟨_, Lib.hid rfl⟩
  rw [hXe.out] at hX
  rw [hYe.out] at hY
  have f1 := fun W => run_string_add_lists (P := Tryz.prog) W [45] X (by simp) (by omega)
  have f2 := fun W => run_string_add_lists (P := Tryz.prog) W [47] Y (by simp) (by omega)
  have f3 := fun W => run_string_add_lists (P := Tryz.prog) W X ([47] ++ Y) (by omega) (by simp; omega)
  have f4 := fun W => run_string_add_lists (P := Tryz.prog) W ([45] ++ X) ([47] ++ Y) (by simp; omega) (by simp; omega)
  simp only [List.cons_append, List.nil_append] at f1 f2 f3 f4
  cases s <;> cases o
  all_goals
    go_enter Tryz.func51, Tryz.ntmps51
    go_wp2_with fail
    refine HV.out.mono ?_
    rintro e w1 ⟨rfl, hb1⟩
    have hk1 := hk.below hb1
    have hw1 : Below w.heap.size w w1 := ((Below.refl _ _).alloc (Nat.le_refl _) _).trans (hb1.mono (by simp))
    have rn1 : Rd .u32 w1 N ns := ha.rn.below hw1
    have rd1 : Rd .u32 w1 D ds := ha.rd.below hw1
    have HT1 : Hid (Lib.TabBelow Tryz.prog w1.heap.size w1 "internal/strconv.uint64pow10" .u64 Lib.pow10Tab) := fun w' h => HT.out w' (hw1.trans (h.mono hw1.size))
    obtain ⟨a0, a1, a2, a3, a4, a5, a6⟩ := hk1.facts
    clear hb1
    go_wp2_with fail
    refine (text_any N nc ns _ rn1 mn l1 HT1.out).mono ?_
    rintro e w2 ⟨he, hb2⟩
    rw [hXe.out] at he
    subst he
    have hk2 := hk1.below hb2
    have hw2 := hw1.trans (hb2.mono hw1.size)
    have rd2 := rd1.below hb2
    have HT2 : Hid (Lib.TabBelow Tryz.prog w2.heap.size w2 "internal/strconv.uint64pow10" .u64 Lib.pow10Tab) := fun w' h => HT.out w' (hw2.trans (h.mono hw2.size))
    clear a0 a1 a2 a3 a4 a5 a6 hb2 hk1 rn1 rd1
    obtain ⟨a0, a1, a2, a3, a4, a5, a6⟩ := hk2.facts
    go_wp2_with fail
    refine (isone_any D dc ds _ rd2 (by omega) md).mono ?_
    rintro e w3 ⟨he, n3, hwe⟩
    rw [ho.out] at he
    subst he
    have hb3 : Below w2.heap.size w2 w3 := by rw [hwe]; exact below_drew_ (Below.refl _ _) n3
    have hk3 := hk2.below hb3
    have hw3 := hw2.trans (hb3.mono hw2.size)
    have rd3 := rd2.below hb3
    have HT3 : Hid (Lib.TabBelow Tryz.prog w3.heap.size w3 "internal/strconv.uint64pow10" .u64 Lib.pow10Tab) := fun w' h => HT.out w' (hw3.trans (h.mono hw3.size))
    clear a0 a1 a2 a3 a4 a5 a6 hb3 hk2 hwe rd2
    obtain ⟨a0, a1, a2, a3, a4, a5, a6⟩ := hk3.facts
    go_wp2_with fail
    first
      | (go_ret2
         exact ⟨by unfold ratText; rw [hXe.out, of_decide_eq_true ho.out]; simp, hw3⟩)
      | (refine (text_any D dc ds _ rd3 md l2 HT3.out).mono ?_
         rintro e w4 ⟨he, hb4⟩
         rw [hYe.out] at he
         subst he
         go_wp2_with fail
         go_ret2
         exact ⟨by unfold ratText; rw [hXe.out, hYe.out, if_neg (of_decide_eq_false ho.out)]; simp, hw3.trans (hb4.mono hw3.size)⟩)
end Go.Proofs.YtdonbgjmcbhecaaGreatDoor


/- isochronelaw02.awake answers true. -/
namespace Go.Proofs.YtdonbgjmcbhecaaGreatDoor
open Go.RowKit V

theorem half_third : mkRat 1 2 + mkRat 1 3 = mkRat 5 6 := by
  rw [mkRat_add _ _ _ _ (by omega) (by omega)]; rfl
theorem text_56 : ratText false 5 6 = [53, 47, 54] := by
  unfold ratText
  simp [Lib.decDigits]
theorem q56 {s : Bool} {n d : Nat} (h : QOf s n d (mkRat 1 2 + mkRat 1 3)) : s = false ∧ n = 5 ∧ d = 6 := by
  rw [half_third] at h
  exact h.inj (QOf.mk_ (neg := false) (n := 5) (d := 6) (by omega) (by decide) (by simp))

theorem lit_at (W : World) (k : Nat) (xs : List Nat) (h : W.heap.size = k) : Rd .u32 (lit W xs) (some ⟨k, 0, none⟩) xs := h ▸ lit_rd W xs
/-- Two numbers as the check lays them. -/
theorem lits_is (W : World) (k n d : Nat) (o : Obj) (h : W.heap.size = k) (hn : 0 < n) (hn2 : n < 4294967296) (hd : 0 < d) (hd2 : d < 4294967296) (hc : Nat.Coprime n d) :
    RL.Is ((lit (lit W [n]) [d]).alloc o) ⟨false, some ⟨k, 0, none⟩, 1, [n], some ⟨k + 1, 0, none⟩, 1, [d]⟩ (mkRat n d) := by
  refine ⟨((lit_at W k [n] h).alloc _).alloc _, (lit_at (lit W [n]) (k + 1) [d] (by rw [lit_size, h])).alloc _, mag_one n hn2 (by omega), mag_one d hd2 (by omega), Nat.le_refl _, Nat.le_refl _, ?_⟩
  show QOf false (V32 [n]) (V32 [d]) _
  rw [V32_one, V32_one]
  exact QOf.mk_ (neg := false) hd hc (fun _ => rfl)

set_option maxRecDepth 100000 in
set_option maxHeartbeats 800000 in
theorem qawake_yes (w : World) (htab : Lib.TabBelow Tryz.prog w.heap.size w "internal/strconv.uint64pow10" .u64 Lib.pow10Tab) :
    Calls Tryz.prog 15 #[] w (Yes w) := by
  have HT := Lib.hid htab
  clear htab
  have h1 := fun o => lits_is w w.heap.size 1 2 o rfl (by omega) (by omega) (by omega) (by omega) (by decide)
  have hb1 : ∀ o, Below w.heap.size w ((lit (lit w [1]) [2]).alloc o) := fun o => (((Below.refl _ _).alloc (Nat.le_refl _) _).alloc (by simp) _).alloc (by simp; omega) _
  have hs1 : ∀ o, ((lit (lit w [1]) [2]).alloc o).heap.size = w.heap.size + 1 + 1 + 1 := fun o => by simp
  have HH := Lib.hid h1
  have HB := Lib.hid hb1
  have HS := Lib.hid hs1
  clear h1 hb1 hs1
  go_enter Tryz.func15, Tryz.ntmps15
  go_wp2_with fail
  obtain ⟨W, hW, hWB, hWS⟩ : ∃ W, W = (lit (lit w [1]) [2]).alloc (.cells #[.bool false, .slice (some ⟨w.heap.size, 0, none⟩) 1 1, .slice (some ⟨w.heap.size + 1, 0, none⟩) 1 1] 24) ∧ Below w.heap.size w W ∧ W.heap.size = w.heap.size + 1 + 1 + 1 := ⟨_, rfl, HB.out _, HS.out _⟩
  have ha : RL.Is W ⟨false, some ⟨w.heap.size, 0, none⟩, 1, [1], some ⟨w.heap.size + 1, 0, none⟩, 1, [2]⟩ (mkRat 1 2) := by rw [hW]; exact HH.out _
  have hcb := fun o => lits_is W (w.heap.size + 1 + 1 + 1) 1 3 o hWS (by omega) (by omega) (by omega) (by omega) (by decide)
  have hbb : ∀ o, Below W.heap.size W ((lit (lit W [1]) [3]).alloc o) := fun o => (((Below.refl _ _).alloc (Nat.le_refl _) _).alloc (by simp) _).alloc (by simp; omega) _
  refine (Add_same ⟨false, some ⟨w.heap.size, 0, none⟩, 1, [1], some ⟨w.heap.size + 1, 0, none⟩, 1, [2]⟩ ⟨false, some ⟨w.heap.size + 1 + 1 + 1, 0, none⟩, 1, [1], some ⟨w.heap.size + 1 + 1 + 1 + 1, 0, none⟩, 1, [3]⟩ (mkRat 1 2) (mkRat 1 3) _ (by rw [hW] at ha hbb; exact ha.below (hbb _)) (by rw [hW] at hcb; exact hcb _) (by simp) rfl).mono ?_
  rintro e w1 ⟨r, rfl, hr, hl1, hl2, hb⟩
  have hw1 : Below w.heap.size w w1 := by
    refine Below.trans ?_ (hb.mono ?_)
    · exact hWB.trans (by rw [hW] at hbb ⊢; exact (hbb _).mono (by simp; omega))
    · simp; omega
  clear hb hbb hcb ha hW hWB hWS HH HB HS
  go_wp2_with fail
  have hbx : Below w1.heap.size w1 (w1.alloc (.cells #[.bool r.s, .slice r.N r.ns.length r.nc, .slice r.D r.ds.length r.dc] 24)) := (Below.refl _ _).alloc (Nat.le_refl _) _
  refine (qtext r _ _ (hr.below hbx) (by simp at hl1; omega) (by simp at hl2; omega) (fun w' h => HT.out w' ((hw1.trans (hbx.mono hw1.size)).trans (h.mono (by have := hw1.size; simp; omega))))).mono ?_
  rintro e w2 ⟨he, hb2⟩
  obtain ⟨e1, e2, e3⟩ := q56 hr.q
  rw [e1, e2, e3, text_56] at he
  subst he
  have hw2 := (hw1.trans (hbx.mono hw1.size)).trans (hb2.mono (by have := hw1.size; simp; omega))
  clear e1 e2 e3 hb2 hbx
  go_wp2_with fail
  go_ret
  exact ⟨rfl, hw2⟩
end Go.Proofs.YtdonbgjmcbhecaaGreatDoor

