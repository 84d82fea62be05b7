/- isochroneref02's Same, Is, None, Short. -/
import Derived.Test.YtopppmlkddajjaaGreatDoorQFR15
namespace Go.Proofs.YtopppmlkddajjaaGreatDoor
open Go.RowKit V

theorem boxes2p (t1 t2 : TypeId) (w : World) (a b c r s t : Value) : Below w.heap.size w ((w.alloc (.cells #[a, b, c] t1)).alloc (.cells #[r, s, t] t2)) := (boxes2 t1 t2 w a b c r s t).2.2
set_option maxHeartbeats 800000 in
theorem qsame_yes (s : Bool) (N M D E : Option Addr) (nc mc dc ec : Nat) (ns ds : List Nat) (w : World) (h1 : Rd .u32 w N ns) (h2 : Rd .u32 w M ns) (h3 : Rd .u32 w D ds) (h4 : Rd .u32 w E ds) (l1 : ns.length ≤ 200000) (l2 : ds.length ≤ 200000) :
    Calls Tryz.prog 37 #[.agg #[.bool s, .slice N ns.length nc, .slice D ds.length dc], .agg #[.bool s, .slice M ns.length mc, .slice E ds.length ec]] w (Yes w) := by
  have hb := boxes2p 24 24 w (.bool s) (.slice N ns.length nc) (.slice D ds.length dc) (.bool s) (.slice M ns.length mc) (.slice E ds.length ec)
  obtain ⟨ka, kb, _⟩ := boxes2 24 24 w (.bool s) (.slice N ns.length nc) (.slice D ds.length dc) (.bool s) (.slice M ns.length mc) (.slice E ds.length ec)
  cases s
  all_goals
    go_enter Tryz.func37, Tryz.ntmps37
    go_wp2_with fail
    refine (equal_yes N M nc mc ns.length ns _ rfl (h1.below hb) (h2.below hb) l1).mono ?_
    rintro e w1 ⟨rfl, n1, hwe⟩
    have hb1 : Below w.heap.size w w1 := by rw [hwe]; exact below_drew_ hb n1
    have ka1 := ka.below (w' := w1) (by rw [hwe]; exact below_drew_ (Below.refl _ _) n1)
    have kb1 := kb.below (w' := w1) (by rw [hwe]; exact below_drew_ (Below.refl _ _) n1)
    obtain ⟨a0, a1, a2, a3, a4, a5, a6⟩ := ka1.facts
    obtain ⟨b0, b1, b2, b3, b4, b5, b6⟩ := kb1.facts
    clear hwe
    go_wp2_with fail
    refine (equal_yes D E dc ec ds.length ds _ rfl (h3.below hb1) (h4.below hb1) l2).mono ?_
    rintro e w2 ⟨rfl, n2, hwe⟩
    have hb2 : Below w.heap.size w w2 := by rw [hwe]; exact below_drew_ hb1 n2
    clear hwe
    go_wp2_with fail
    go_ret
    exact ⟨rfl, hb2⟩

theorem qnone_yes (w : World) : Calls Tryz.prog 25 #[.agg #[.bool false, .slice none 0 0, .slice none 0 0]] w (Yes w) := by
  go_enter Tryz.func25, Tryz.ntmps25
  go_wp2
  go_ret
  exact ⟨rfl, (Below.refl _ _).alloc (Nat.le_refl _) _⟩

theorem qshort_yes (s : Bool) (N D : Option Addr) (n nc d dc k : Nat) (w : World) (h1 : n ≤ k) (h2 : d ≤ k) :
    Calls Tryz.prog 30 #[.agg #[.bool s, .slice N n nc, .slice D d dc], .int .i64 k] w (Yes w) := by
  have h2' : decide ((d : Int) ≤ k) = true := decide_eq_true (by omega)
  go_enter Tryz.func30, Tryz.ntmps30
  go_wp2
  go_ret
  exact ⟨rfl, (Below.refl _ _).alloc (Nat.le_refl _) _⟩
theorem qshort_no (s : Bool) (N D : Option Addr) (n nc d dc k : Nat) (w : World) (h : ¬ (n ≤ k ∧ d ≤ k)) :
    Calls Tryz.prog 30 #[.agg #[.bool s, .slice N n nc, .slice D d dc], .int .i64 k] w (Gives (.bool false) w) := by
  by_cases h1 : n ≤ k
  · have h2 : ¬ d ≤ k := fun h2 => h ⟨h1, h2⟩
    have h2' : decide ((d : Int) ≤ k) = false := decide_eq_false (by omega)
    go_enter Tryz.func30, Tryz.ntmps30
    go_wp2
    go_ret
    exact ⟨rfl, (Below.refl _ _).alloc (Nat.le_refl _) _⟩
  · have h1' : decide ((n : Int) ≤ k) = false := decide_eq_false (by omega)
    go_enter Tryz.func30, Tryz.ntmps30
    go_wp2
    go_ret
    exact ⟨rfl, (Below.refl _ _).alloc (Nat.le_refl _) _⟩

theorem RL.Ref.drew_ {w : World} {a : RL} {q : Rat} (h : a.Ref w q) : a.Ref w.drew q := ⟨h.rn, h.rd, h.mn, h.md, h.q⟩
set_option maxRecDepth 100000 in
set_option maxHeartbeats 1600000 in
theorem qis_yes (a b : RL) (q : Rat) (w : World) (ha : a.Is w q) (hb_ : b.Ref w q) (l1 : b.ns.length ≤ 100000) (l2 : b.ds.length ≤ 100000) :
    Calls Tryz.prog 17 #[.agg #[.bool a.s, .slice a.N a.ns.length a.nc, .slice a.D a.ds.length a.dc], .agg #[.bool b.s, .slice b.N b.ns.length b.nc, .slice b.D b.ds.length b.dc]] w (Yes w) := by
  go_enter Tryz.func17, Tryz.ntmps17
  go_wp2_with fail
  have hbox := boxes2 24 30 w (.bool a.s) (.slice a.N a.ns.length a.nc) (.slice a.D a.ds.length a.dc) (.bool b.s) (.slice b.N b.ns.length b.nc) (.slice b.D b.ds.length b.dc)
  obtain ⟨w1, hwe⟩ : ∃ x, (w.alloc (.cells #[.bool a.s, .slice a.N a.ns.length a.nc, .slice a.D a.ds.length a.dc] 24)).alloc (.cells #[.bool b.s, .slice b.N b.ns.length b.nc, .slice b.D b.ds.length b.dc] 30) = x := ⟨_, rfl⟩
  rw [hwe] at hbox ⊢
  obtain ⟨ka1, kb1, hb1⟩ := hbox
  have HWE := Lib.hid hwe
  clear hwe HWE
  have ha1 := ha.below hb1
  have hb_1 := hb_.below hb1
  have hw1 := hb1
  clear ha hb_ hb1
  obtain ⟨a0, a1, a2, a3, a4, a5, a6⟩ := ka1.facts
  obtain ⟨b0, b1, b2, b3, b4, b5, b6⟩ := kb1.facts
  go_upto_region 1 with fail
  go_region_held3 (fun w' => w'.cell? ⟨w.heap.size, 0, none⟩ = some (.bool a.s) ∧ w'.cell? ⟨w.heap.size, 1, none⟩ = some (.slice a.N a.ns.length a.nc) ∧ w'.cell? ⟨w.heap.size, 2, none⟩ = some (.slice a.D a.ds.length a.dc) ∧ w'.cell? ⟨w.heap.size + 1, 0, none⟩ = some (.bool b.s) ∧ w'.cell? ⟨w.heap.size + 1, 1, none⟩ = some (.slice b.N b.ns.length b.nc) ∧ w'.cell? ⟨w.heap.size + 1, 2, none⟩ = some (.slice b.D b.ds.length b.dc)) (first | exact ⟨‹_›, ‹_›, ‹_›, ‹_›, ‹_›, ‹_›⟩ | go_keep)
    (first
    | (go_at_call 29
       refine (qto b q _ (by first | exact hb_1 | exact hb_1.drew_) l1 l2).mono ?_
       rintro e wx_ ⟨r, rfl, hr, hl1, hl2, hbx⟩
       have hrq := hr.q.inj ha1.q
       obtain ⟨e1, e2, e3⟩ := hrq
       have e4 := hr.mn.eq ha1.mn e2
       have e5 := hr.md.eq ha1.md e3
       obtain ⟨rs, rN, rnc, rns, rD, rdc, rds⟩ := r
       dsimp only at e1 e4 e5
       subst e1 e4 e5
       have hbxq : Below w1.heap.size w1 wx_ := by first | exact below_of_drew hbx (Nat.le_refl _) | exact hbx
       obtain ⟨c0wx_, c1wx_, c2wx_, c3wx_, c4wx_, c5wx_, c6wx_⟩ := (ka1.below hbxq).facts
       obtain ⟨d0wx_, d1wx_, d2wx_, d3wx_, d4wx_, d5wx_, d6wx_⟩ := (kb1.below hbxq).facts)
    | (go_at_call 37
       refine (qsame_yes a.s a.N rN a.D rD a.nc rnc a.dc rdc a.ns a.ds _ (ha1.rn.below hbxq) hr.rn (ha1.rd.below hbxq) hr.rd (by omega) (by omega)).mono ?_
       rintro e wy_ ⟨rfl, hby⟩
       skip
       have hbyq : Below w1.heap.size w1 wy_ := by first | exact below_of_drew hby (Nat.le_refl _) | exact hby | exact hbxq.trans (hby.mono hbxq.size) | exact hbxq.trans (below_of_drew hby hbxq.size)
       obtain ⟨c0wy_, c1wy_, c2wy_, c3wy_, c4wy_, c5wy_, c6wy_⟩ := (ka1.below hbyq).facts
       obtain ⟨d0wy_, d1wy_, d2wy_, d3wy_, d4wy_, d5wy_, d6wy_⟩ := (kb1.below hbyq).facts))
  all_goals
    go_wp2_with fail
    go_ret
    exact ⟨rfl, hw1.trans (hbyq.mono hw1.size)⟩
end Go.Proofs.YtopppmlkddajjaaGreatDoor


/- rat: numbers that may not be valid, and ErrForm of every function. -/
namespace Go.Proofs.YtopppmlkddajjaaGreatDoor
open Go.RowKit V

/-- A number as a caller may hand it in. -/
structure RL.Raw (w : World) (a : RL) : Prop where
  rn : Rd .u32 w a.N a.ns
  rd : Rd .u32 w a.D a.ds
  cn : a.ns.length ≤ a.nc
  cd : a.ds.length ≤ a.dc
  dn : Dig 4294967296 a.ns
  dd : Dig 4294967296 a.ds
theorem RL.Raw.below {w w' : World} {a : RL} (h : a.Raw w) (hb : Below w.heap.size w w') : a.Raw w' :=
  ⟨h.rn.below hb, h.rd.below hb, h.cn, h.cd, h.dn, h.dd⟩
theorem RL.Raw.drew {w : World} {a : RL} (h : a.Raw w) : a.Raw w.drew := ⟨h.rn.drew, h.rd.drew, h.cn, h.cd, h.dn, h.dd⟩
theorem RL.Raw.alloc {w : World} {a : RL} (h : a.Raw w) (o : Obj) : a.Raw (w.alloc o) := ⟨h.rn.alloc _, h.rd.alloc _, h.cn, h.cd, h.dn, h.dd⟩
theorem RL.Is.drew {w : World} {a : RL} {q : Rat} (h : a.Is w q) : a.Is w.drew q := ⟨h.rn.drew, h.rd.drew, h.mn, h.md, h.cn, h.cd, h.q⟩
theorem RL.Is.alloc {w : World} {a : RL} {q : Rat} (h : a.Is w q) (o : Obj) : a.Is (w.alloc o) q := ⟨h.rn.alloc _, h.rd.alloc _, h.mn, h.md, h.cn, h.cd, h.q⟩
/-- It is valid. -/
def RL.Val (a : RL) : Prop := RVal a.s a.ns a.ds
theorem RL.Raw.is {w : World} {a : RL} (h : a.Raw w) (v : a.Val) : a.Is w (mkRat (sgn a.s (V32 a.ns)) (V32 a.ds)) := RVal.is v h.rn h.rd h.cn h.cd h.dn h.dd
end Go.Proofs.YtopppmlkddajjaaGreatDoor


/- isochroneref02.Valid. -/
namespace Go.Proofs.YtopppmlkddajjaaGreatDoor
open Go.RowKit V

set_option maxHeartbeats 400000 in
theorem rqvalid_no1 (s : Bool) (N D : Option Addr) (nc dc : Nat) (ns ds : List Nat) (w : World) (rn : Rd .u32 w N ns) (h : ¬ Ok ns) :
    Calls Tryz.prog 31 #[.agg #[.bool s, .slice N ns.length nc, .slice D ds.length dc]] w (Gives (.bool false) w) := by
  have hb : Below w.heap.size w (w.alloc (.cells #[.bool s, .slice N ns.length nc, .slice D ds.length dc] 24)) := (Below.refl _ _).alloc (Nat.le_refl _) _
  go_enter Tryz.func31, Tryz.ntmps31
  go_wp2_with fail
  refine (rvalid_no N nc ns _ (rn.below hb) h).mono ?_
  rintro e w1 ⟨rfl, rfl⟩
  go_wp2
  go_ret
  exact ⟨rfl, hb⟩
set_option maxHeartbeats 400000 in
theorem rqvalid_no2 (s : Bool) (N D : Option Addr) (nc dc : Nat) (ns ds : List Nat) (w : World) (rn : Rd .u32 w N ns) (rd : Rd .u32 w D ds) (h1 : Ok ns) (h : ¬ Ok ds) :
    Calls Tryz.prog 31 #[.agg #[.bool s, .slice N ns.length nc, .slice D ds.length dc]] w (Gives (.bool false) w) := by
  have hb : Below w.heap.size w (w.alloc (.cells #[.bool s, .slice N ns.length nc, .slice D ds.length dc] 24)) := (Below.refl _ _).alloc (Nat.le_refl _) _
  go_enter Tryz.func31, Tryz.ntmps31
  go_wp2_with fail
  refine (rvalid_yes N nc ns _ (rn.below hb) h1).mono ?_
  rintro e w1 ⟨rfl, rfl⟩
  go_wp2_with fail
  refine (rvalid_no D dc ds _ (rd.below hb) h).mono ?_
  rintro e w1 ⟨rfl, rfl⟩
  go_wp2
  go_ret
  exact ⟨rfl, hb⟩
set_option maxHeartbeats 400000 in
theorem rqvalid_no3 (s : Bool) (N D : Option Addr) (nc dc : Nat) (ns : List Nat) (w : World) (rn : Rd .u32 w N ns) (rd : Rd .u32 w D []) (h1 : Ok ns) :
    Calls Tryz.prog 31 #[.agg #[.bool s, .slice N ns.length nc, .slice D ([] : List Nat).length dc]] w (Gives (.bool false) w) := by
  have h2 : Ok ([] : List Nat) := ⟨by simp, nrm_nil⟩
  have hb : Below w.heap.size w (w.alloc (.cells #[.bool s, .slice N ns.length nc, .slice D ([] : List Nat).length dc] 24)) := (Below.refl _ _).alloc (Nat.le_refl _) _
  go_enter Tryz.func31, Tryz.ntmps31
  go_wp2_with fail
  refine (rvalid_yes N nc ns _ (rn.below hb) h1).mono ?_
  rintro e w1 ⟨rfl, rfl⟩
  go_wp2_with fail
  refine (rvalid_yes D dc [] _ (rd.below hb) h2).mono ?_
  rintro e w1 ⟨rfl, rfl⟩
  go_wp2
  go_ret
  exact ⟨rfl, hb⟩
set_option maxHeartbeats 1600000 in
theorem rqvalid_zero (s : Bool) (N D : Option Addr) (nc dc : Nat) (ds : List Nat) (w : World) (rn : Rd .u32 w N []) (rd : Rd .u32 w D ds) (h2 : Ok ds) (dd : Dig 4294967296 ds) (hpos : 0 < ds.length) (v : Bool) (hv : v = true ↔ (s = false ∧ V32 ds = 1)) :
    Calls Tryz.prog 31 #[.agg #[.bool s, .slice N ([] : List Nat).length nc, .slice D ds.length dc]] w (Gives (.bool v) w) := by
  have h1 : Ok ([] : List Nat) := ⟨by simp, nrm_nil⟩
  have hb : Below w.heap.size w (w.alloc (.cells #[.bool s, .slice N ([] : List Nat).length nc, .slice D ds.length dc] 24)) := (Below.refl _ _).alloc (Nat.le_refl _) _
  have md : Mag ds := ⟨dd, h2.2⟩
  have hne : ((ds.length : Int) == 0) = false := beq_eq_false_iff_ne.2 (by omega)
  have V1 := Lib.hid (rvalid_yes N nc [] _ (rn.below hb) h1)
  have V2 := Lib.hid (rvalid_yes D dc ds _ (rd.below hb) h2)
  cases s
  · by_cases hl : ds.length = 1
    · obtain ⟨ad, x, rfl, hbl, ex, hc⟩ := (rd.below hb).ask (i := 0) (by omega)
      rw [add_zero_] at hc
      simp only [List.length_nil] at hc
      have hvx : V32 ds = x := by rw [one_of_len hl, ex.out]; unfold V32; simp [val]
      have hq : Hid (((x : Int) == 1) = v) := by
        show _ = _
        rw [Bool.eq_iff_iff, hv, hvx, beq_iff_eq]
        constructor
        · intro h; exact ⟨rfl, by omega⟩
        · intro h; omega
      have hl1 : ((ds.length : Int) == 1) = true := by simp [hl]
      have HL := Lib.hid hl
      clear hl hv hvx
      obtain ⟨p, hp⟩ : ∃ p, ((x : Int) == 1) = p := ⟨_, rfl⟩
      rw [hp] at hq
      cases p
      all_goals
        go_enter Tryz.func31, Tryz.ntmps31
        go_wp2_with fail
        refine V1.out.mono ?_
        rintro e w1 ⟨rfl, rfl⟩
        go_wp2_with fail
        refine V2.out.mono ?_
        rintro e w1 ⟨rfl, rfl⟩
        go_wp2_with (go_quiet (fail))
        go_ret
        first
          | exact ⟨ret_bool hq.out, hb⟩
          | exact ⟨ret_bool hq.out, below_drew_ hb _⟩
          | exact ⟨ret_bool hq.out, hb.drew⟩
    · have hvf : Hid (false = v) := by
        show _ = _
        cases v with
        | false => rfl
        | true =>
          exfalso
          have h3 := (hv.1 rfl).2
          have h4 := val_ge (B := 4294967296) md.2 (by omega)
          have h5 : 4294967296 ^ 1 ≤ 4294967296 ^ (ds.length - 1) := Nat.pow_le_pow_right (by omega) (by omega)
          unfold V32 at h3; omega
      have hl1 : ((ds.length : Int) == 1) = false := beq_eq_false_iff_ne.2 (by omega)
      clear hv
      go_enter Tryz.func31, Tryz.ntmps31
      go_wp2_with fail
      refine V1.out.mono ?_
      rintro e w1 ⟨rfl, rfl⟩
      go_wp2_with fail
      refine V2.out.mono ?_
      rintro e w1 ⟨rfl, rfl⟩
      go_wp2_with (go_quiet (fail))
      go_ret
      exact ⟨ret_bool hvf.out, hb⟩
  · have hvf : Hid (false = v) := by
      show _ = _
      cases v with
      | false => rfl
      | true => have := (hv.1 rfl).1; cases this
    clear hv
    go_enter Tryz.func31, Tryz.ntmps31
    go_wp2_with fail
    refine V1.out.mono ?_
    rintro e w1 ⟨rfl, rfl⟩
    go_wp2_with fail
    refine V2.out.mono ?_
    rintro e w1 ⟨rfl, rfl⟩
    go_wp2_with (go_quiet (fail))
    go_ret
    exact ⟨ret_bool hvf.out, hb⟩

theorem below_of_says {w w' : World} {n : Nat} (h : w' = w.drewN n) : Below w.heap.size w w' := by rw [h]; exact below_drew_ (Below.refl _ _) n
theorem cmp_one {g : Nat} : ((cmpOf (g : Int) ((VD [1] : Nat) : Int) == 0) = true) ↔ g = 1 := by
  have e : ((VD [1] : Nat) : Int) = 1 := by simp [VD, val]
  rw [e, beq_iff_eq]
  unfold cmpOf
  split
  · constructor <;> intro h <;> omega
  · split
    · constructor <;> intro h <;> omega
    · constructor <;> intro h <;> omega

set_option maxRecDepth 100000 in
set_option maxHeartbeats 1600000 in
theorem rqvalid_gcd (s : Bool) (N D : Option Addr) (nc dc : Nat) (ns ds : List Nat) (w : World) (rn : Rd .u32 w N ns) (rd : Rd .u32 w D ds) (h1 : Ok ns) (h2 : Ok ds) (dn : Dig 4294967296 ns) (dd : Dig 4294967296 ds) (hpos : 0 < ds.length) (hn : 0 < ns.length) (v : Bool) (hv : v = true ↔ Nat.gcd (V32 ns) (V32 ds) = 1) :
    Calls Tryz.prog 31 #[.agg #[.bool s, .slice N ns.length nc, .slice D ds.length dc]] w (Gives (.bool v) w) := by
  have hb : Below w.heap.size w (w.alloc (.cells #[.bool s, .slice N ns.length nc, .slice D ds.length dc] 24)) := (Below.refl _ _).alloc (Nat.le_refl _) _
  have hk := Blk3.new w (.bool s) (.slice N ns.length nc) (.slice D ds.length dc)
  have HV := Lib.hid hv
  have hne : ((ds.length : Int) == 0) = false := beq_eq_false_iff_ne.2 (by omega)
  have hne2 : ((ns.length : Int) == 0) = false := beq_eq_false_iff_ne.2 (by omega)
  have l1 := h1.1
  have l2 := h2.1
  clear hv
  go_enter Tryz.func31, Tryz.ntmps31
  go_wp2_with fail
  obtain ⟨w1, hwe⟩ : ∃ x, w.alloc (.cells #[.bool s, .slice N ns.length nc, .slice D ds.length dc] 24) = x := ⟨_, rfl⟩
  rw [hwe] at hb hk ⊢
  have ka1 := hk
  have hb1 := hb
  clear hwe hk hb
  have rn1 := rn.below hb1
  have rd1 := rd.below hb1
  have hw1 := hb1
  clear rn rd hb1
  refine (rvalid_yes N nc ns _ rn1 h1).mono ?_
  rintro e w' ⟨rfl, rfl⟩
  obtain ⟨a0, a1, a2, a3, a4, a5, a6⟩ := ka1.facts
  go_wp2_with fail
  refine (rvalid_yes D dc ds _ rd1 h2).mono ?_
  rintro e w' ⟨rfl, rfl⟩
  go_upto_region 5 with fail
  go_region_held3 (fun w' => w'.cell? ⟨w.heap.size, 1, none⟩ = some (.slice N ns.length nc) ∧ w'.cell? ⟨w.heap.size, 2, none⟩ = some (.slice D ds.length dc)) (first | exact ⟨‹_›, ‹_›⟩ | go_keep)
    (first
    | (go_at_call_of 39 (Value.slice N ns.length nc)
       refine (of_any N nc ns _ (by first | exact rn1 | exact rn1.drew | exact rn1.alloc _ | exact (rn1.alloc _).drew | exact rn1.drew.alloc _) (by omega) dn).mono ?_
       rintro e wx_ ⟨X, xc, xs, rfl, hxc, hX, hbx, hvx, mx_, hxl⟩
       have HVX := Lib.hid hvx
       clear hvx
       have hbp0 : Below w1.heap.size w1 wx_ := by first | exact hbx | exact below_of_drew hbx (Nat.le_refl _) | exact ((Below.refl _ _).alloc (Nat.le_refl _) _).trans (hbx.mono (by simp)) | exact ((Below.refl _ _).alloc (Nat.le_refl _) _).trans ((below_of_drew hbx (Nat.le_refl _)).mono (by simp)) | exact below_of_drew (((Below.refl _ _).alloc (Nat.le_refl _) _).trans (hbx.mono (by simp))) (Nat.le_refl _)
       first | (have hL := hL.below hbp0) | (have hL := (rd_nat1 w1 1).below hbx) | (have hL := (rd_nat1 w1 1).drew.below hbx) | (have hL := (rd_nat1 w1.drew 1).below hbx) | skip
       have rn_0 := rn1.below hbp0
       have rd_0 := rd1.below hbp0
       have ka_0 := ka1.below hbp0
       obtain ⟨ka0wx_, ka1wx_, ka2wx_, ka3wx_, ka4wx_, ka5wx_, ka6wx_⟩ := ka_0.facts
       have hwq0 := hw1.trans (hbp0.mono hw1.size))
    | (go_at_call_of 39 (Value.slice D ds.length dc)
       refine (of_any D dc ds _ (by first | exact rd_0 | exact rd_0.drew | exact rd_0.alloc _ | exact (rd_0.alloc _).drew | exact rd_0.drew.alloc _) (by omega) dd).mono ?_
       rintro e wy_ ⟨Y, yc, ys, rfl, hyc, hY, hby, hvy, my_, hyl⟩
       have HVY := Lib.hid hvy
       clear hvy
       have hbp1 : Below wx_.heap.size wx_ wy_ := by first | exact hby | exact below_of_drew hby (Nat.le_refl _) | exact ((Below.refl _ _).alloc (Nat.le_refl _) _).trans (hby.mono (by simp)) | exact ((Below.refl _ _).alloc (Nat.le_refl _) _).trans ((below_of_drew hby (Nat.le_refl _)).mono (by simp)) | exact below_of_drew (((Below.refl _ _).alloc (Nat.le_refl _) _).trans (hby.mono (by simp))) (Nat.le_refl _)
       first | (have hL := hL.below hbp1) | (have hL := (rd_nat1 wx_ 1).below hby) | (have hL := (rd_nat1 wx_ 1).drew.below hby) | (have hL := (rd_nat1 wx_.drew 1).below hby) | skip
       have rn_1 := rn_0.below hbp1
       have rd_1 := rd_0.below hbp1
       have hX_1 := hX.below hbp1
       have ka_1 := ka_0.below hbp1
       obtain ⟨ka0wy_, ka1wy_, ka2wy_, ka3wy_, ka4wy_, ka5wy_, ka6wy_⟩ := ka_1.facts
       have hwq1 := hwq0.trans (hbp1.mono hwq0.size))
    | (go_at_call 60
       refine (rgcd_any X Y xc yc xs ys _ (by first | exact hX_1 | exact hX_1.drew | exact hX_1.alloc _ | exact (hX_1.alloc _).drew | exact hX_1.drew.alloc _) (by first | exact hY | exact hY.drew | exact hY.alloc _ | exact (hY.alloc _).drew | exact hY.drew.alloc _) (by omega) (by omega) mx_ my_).mono ?_
       rintro e wg_ ⟨G, gc, gl, rfl, hG, hng, hlg, hvg, hbg⟩
       obtain ⟨c, hcc, hcv⟩ : ∃ c : Int, Hid (cmpOf (VD gl) (VD [1]) = c) ∧ Hid ((c == 0) = v) := ⟨_, Lib.hid rfl, by show _ = _; rw [Bool.eq_iff_iff, HV.out, cmp_one, hvg.out, HVX.out, HVY.out]⟩
       have hbp2 : Below wy_.heap.size wy_ wg_ := by first | exact hbg | exact below_of_drew hbg (Nat.le_refl _) | exact ((Below.refl _ _).alloc (Nat.le_refl _) _).trans (hbg.mono (by simp)) | exact ((Below.refl _ _).alloc (Nat.le_refl _) _).trans ((below_of_drew hbg (Nat.le_refl _)).mono (by simp)) | exact below_of_drew (((Below.refl _ _).alloc (Nat.le_refl _) _).trans (hbg.mono (by simp))) (Nat.le_refl _)
       first | (have hL := hL.below hbp2) | (have hL := (rd_nat1 wy_ 1).below hbg) | (have hL := (rd_nat1 wy_ 1).drew.below hbg) | (have hL := (rd_nat1 wy_.drew 1).below hbg) | skip
       have rn_2 := rn_1.below hbp2
       have rd_2 := rd_1.below hbp2
       have hX_2 := hX_1.below hbp2
       have hY_2 := hY.below hbp2
       have ka_2 := ka_1.below hbp2
       obtain ⟨ka0wg_, ka1wg_, ka2wg_, ka3wg_, ka4wg_, ka5wg_, ka6wg_⟩ := ka_2.facts
       have hwq2 := hwq1.trans (hbp2.mono hwq1.size))
    | (go_at_call 53
       refine (rcmp_any G (some ⟨_, 0, none⟩) gc 1 gl [1] _ (by first | exact hG | exact hG.drew | exact hG.alloc _ | exact (hG.alloc _).drew | exact hG.drew.alloc _) (by first | exact hL | exact hL.drew | exact (rd_nat1 _ 1) | exact (rd_nat1 _ 1).drew | exact hL.alloc _ | exact (rd_nat1 _ 1).alloc _) (by omega) hng nm_one).mono ?_
       rintro e wc_ ⟨he, n4, hwe⟩
       rw [hcc.out] at he
       subst he
       have hbc := below_of_says hwe
       clear hwe
       have hbp3 : Below wg_.heap.size wg_ wc_ := by first | exact hbc | exact below_of_drew hbc (Nat.le_refl _) | exact ((Below.refl _ _).alloc (Nat.le_refl _) _).trans (hbc.mono (by simp)) | exact ((Below.refl _ _).alloc (Nat.le_refl _) _).trans ((below_of_drew hbc (Nat.le_refl _)).mono (by simp)) | exact below_of_drew (((Below.refl _ _).alloc (Nat.le_refl _) _).trans (hbc.mono (by simp))) (Nat.le_refl _)
       first | (have hL := hL.below hbp3) | (have hL := (rd_nat1 wg_ 1).below hbc) | (have hL := (rd_nat1 wg_ 1).drew.below hbc) | (have hL := (rd_nat1 wg_.drew 1).below hbc) | skip
       have rn_3 := rn_2.below hbp3
       have rd_3 := rd_2.below hbp3
       have hX_3 := hX_2.below hbp3
       have hY_3 := hY_2.below hbp3
       have hG_3 := hG.below hbp3
       have ka_3 := ka_2.below hbp3
       obtain ⟨ka0wc_, ka1wc_, ka2wc_, ka3wc_, ka4wc_, ka5wc_, ka6wc_⟩ := ka_3.facts
       have hwq3 := hwq2.trans (hbp3.mono hwq2.size)))
  all_goals
    go_wp2_with fail
    go_ret
    exact ⟨ret_bool (by first | exact hcv.out | exact hpv.out | (rw [hp]; exact hpv.out)), hwq3⟩

theorem rqvalid (s : Bool) (N D : Option Addr) (nc dc : Nat) (ns ds : List Nat) (w : World) (rn : Rd .u32 w N ns) (rd : Rd .u32 w D ds) (dn : Dig 4294967296 ns) (dd : Dig 4294967296 ds) (v : Bool) (hv : v = true ↔ RVal s ns ds) :
    Calls Tryz.prog 31 #[.agg #[.bool s, .slice N ns.length nc, .slice D ds.length dc]] w (Gives (.bool v) w) := by
  have hf : ¬ RVal s ns ds → v = false := fun h => by cases v with
    | false => rfl
    | true => exact absurd (hv.1 rfl) h
  by_cases h1 : Ok ns
  · by_cases h2 : Ok ds
    · rcases Nat.eq_zero_or_pos ds.length with h0 | hpos
      · rw [hf fun h => by have := h.2.2.1; omega]
        obtain rfl : ds = [] := List.eq_nil_of_length_eq_zero h0
        exact rqvalid_no3 s N D nc dc ns w rn rd h1
      · rcases Nat.eq_zero_or_pos ns.length with h3 | h3
        · obtain rfl : ns = [] := List.eq_nil_of_length_eq_zero h3
          refine rqvalid_zero s N D nc dc ds w rn rd h2 dd hpos v (hv.trans ⟨fun h => ⟨?_, ?_⟩, fun h => ⟨h1, h2, hpos, ?_, ?_⟩⟩)
          · cases s with
            | false => rfl
            | true => have := h.2.2.2.1 rfl; simp at this
          · have := h.2.2.2.2; simpa [V32, val] using this
          · intro hs; rw [h.1] at hs; cases hs
          · have := h.2; simpa [V32, val] using this
        · exact rqvalid_gcd s N D nc dc ns ds w rn rd h1 h2 dn dd hpos h3 v (hv.trans ⟨fun h => h.2.2.2.2, fun h => ⟨h1, h2, hpos, fun _ => h3, h⟩⟩)
    · rw [hf fun h => h2 h.2.1]; exact rqvalid_no2 s N D nc dc ns ds w rn rd h1 h2
  · rw [hf fun h => h1 h.1]; exact rqvalid_no1 s N D nc dc ns ds w rn h1
end Go.Proofs.YtopppmlkddajjaaGreatDoor


/- rat.sign, inverse, opposite. -/
namespace Go.Proofs.YtopppmlkddajjaaGreatDoor
open Go.RowKit V

theorem BlkT.put3_ {t : TypeId} {w : World} {g : Nat} {a b c : Value} (h : BlkT t w g a b c) (x y z : Value) : BlkT t (put3 w g x y z) g x y z := ((h.set0 x).set1 y).set2 z
def sgnI (s : Bool) (n : Nat) : Int := if n = 0 then 0 else if s then -1 else 1

set_option maxHeartbeats 400000 in
theorem qsign (s : Bool) (N D : Option Addr) (n nc d dc : Nat) (w : World) : Calls Tryz.prog 45 #[.agg #[.bool s, .slice N n nc, .slice D d dc]] w (Gives (.int .i64 (sgnI s n)) w) := by
  have hb : Below w.heap.size w (w.alloc (.cells #[.bool s, .slice N n nc, .slice D d dc] 24)) := (Below.refl _ _).alloc (Nat.le_refl _) _
  by_cases h0 : n = 0
  · subst h0
    go_enter Tryz.func45, Tryz.ntmps45
    go_wp2
    go_ret
    exact ⟨rfl, hb⟩
  · have hne : ((n : Int) == 0) = false := beq_eq_false_iff_ne.2 (by omega)
    have h1 : sgnI true n = -1 := by simp [sgnI, h0]
    have h2 : sgnI false n = 1 := by simp [sgnI, h0]
    cases s
    · rw [h2]
      go_enter Tryz.func45, Tryz.ntmps45
      go_wp2
      go_ret
      exact ⟨rfl, hb⟩
    · rw [h1]
      go_enter Tryz.func45, Tryz.ntmps45
      go_wp2
      go_ret
      exact ⟨rfl, hb⟩
set_option maxHeartbeats 400000 in
theorem qinverse (s : Bool) (N D : Option Addr) (n nc d dc : Nat) (w : World) : Calls Tryz.prog 46 #[.agg #[.bool s, .slice N n nc, .slice D d dc]] w (Gives (.agg #[.bool (s && decide (0 < d)), .slice D d dc, .slice N n nc]) w) := by
  go_enter Tryz.func46, Tryz.ntmps46
  go_wp2_with fail
  have hbox := box1r w (.bool s) (.slice N n nc) (.slice D d dc) (.bool false) (.slice none 0 0) (.slice none 0 0)
  obtain ⟨w1, hwe⟩ : ∃ x, (w.alloc (.cells #[.bool s, .slice N n nc, .slice D d dc] 24)).alloc (.cells #[.bool false, .slice none 0 0, .slice none 0 0] 24) = x := ⟨_, rfl⟩
  rw [hwe] at hbox ⊢
  obtain ⟨ka1, kr1, hb1⟩ := hbox
  have HWE := Lib.hid hwe
  clear hwe HWE
  have hw1 := hb1
  clear hb1
  obtain ⟨a0, a1, a2, a3, a4, a5, a6⟩ := ka1.facts
  go_wp2_with fail
  refine (signed_any s D N d dc n nc _).mono ?_
  rintro e w2 ⟨rfl, hb2⟩
  have ka2 := ka1.below hb2
  have kr2 := kr1.below hb2
  have hw2 := hw1.trans (hb2.mono hw1.size)
  clear ka1 kr1 hw1 hb2
  clear a0 a1 a2 a3 a4 a5 a6
  obtain ⟨c0, c1, c2, c3, c4, c5, c6⟩ := kr2.facts
  go_wp2_with fail
  exact bodyPost_ret (v := .agg #[.bool (s && decide (0 < d)), .slice D d dc, .slice N n nc]) (by simp [results, Tryz.results46, go_sem, c0, c1, c2]) rfl ⟨rfl, below_put3 hw2 (by omega) _ _ _⟩
set_option maxHeartbeats 400000 in
theorem qopposite (s : Bool) (N D : Option Addr) (n nc d dc : Nat) (w : World) : Calls Tryz.prog 43 #[.agg #[.bool s, .slice N n nc, .slice D d dc]] w (Gives (.agg #[.bool (!s && decide (0 < n)), .slice N n nc, .slice D d dc]) w) := by
  go_enter Tryz.func43, Tryz.ntmps43
  go_wp2_with fail
  have hbox := box1r w (.bool s) (.slice N n nc) (.slice D d dc) (.bool false) (.slice none 0 0) (.slice none 0 0)
  obtain ⟨w1, hwe⟩ : ∃ x, (w.alloc (.cells #[.bool s, .slice N n nc, .slice D d dc] 24)).alloc (.cells #[.bool false, .slice none 0 0, .slice none 0 0] 24) = x := ⟨_, rfl⟩
  rw [hwe] at hbox ⊢
  obtain ⟨ka1, kr1, hb1⟩ := hbox
  have HWE := Lib.hid hwe
  clear hwe HWE
  have hw1 := hb1
  clear hb1
  obtain ⟨a0, a1, a2, a3, a4, a5, a6⟩ := ka1.facts
  go_wp2_with fail
  refine (signed_any (!s) N D n nc d dc _).mono ?_
  rintro e w2 ⟨rfl, hb2⟩
  have ka2 := ka1.below hb2
  have kr2 := kr1.below hb2
  have hw2 := hw1.trans (hb2.mono hw1.size)
  clear ka1 kr1 hw1 hb2
  clear a0 a1 a2 a3 a4 a5 a6
  obtain ⟨c0, c1, c2, c3, c4, c5, c6⟩ := kr2.facts
  go_wp2_with fail
  exact bodyPost_ret (v := .agg #[.bool (!s && decide (0 < n)), .slice N n nc, .slice D d dc]) (by simp [results, Tryz.results43, go_sem, c0, c1, c2]) rfl ⟨rfl, below_put3 hw2 (by omega) _ _ _⟩
end Go.Proofs.YtopppmlkddajjaaGreatDoor


/- The document's Valid of numbers as they come in; isochronelaw02.small. -/
namespace Go.Proofs.YtopppmlkddajjaaGreatDoor
open Go.RowKit V

theorem rqvalid_raw (a : RL) (w : World) (h : a.Raw w) (v : Bool) (hv : v = true ↔ a.Val) :
    Calls Tryz.prog 31 #[.agg #[.bool a.s, .slice a.N a.ns.length a.nc, .slice a.D a.ds.length a.dc]] w (Gives (.bool v) w) := rqvalid a.s a.N a.D a.nc a.dc a.ns a.ds w h.rn h.rd h.dn h.dd v hv
theorem rqvalid_rawno (a : RL) (w : World) (h : a.Raw w) (hv : ¬ a.Val) :
    Calls Tryz.prog 31 #[.agg #[.bool a.s, .slice a.N a.ns.length a.nc, .slice a.D a.ds.length a.dc]] w (Gives (.bool false) w) := rqvalid_raw a w h false ⟨fun h => (by cases h), fun h => absurd h hv⟩
theorem rqvalid_rawyes (a : RL) (w : World) (h : a.Raw w) (hv : a.Val) :
    Calls Tryz.prog 31 #[.agg #[.bool a.s, .slice a.N a.ns.length a.nc, .slice a.D a.ds.length a.dc]] w (Gives (.bool true) w) := rqvalid_raw a w h true ⟨fun _ => hv, fun _ => rfl⟩
theorem RL.Ref.drew {w : World} {a : RL} {q : Rat} (h : a.Ref w q) : a.Ref w.drew q := ⟨h.rn.drew, h.rd.drew, h.mn, h.md, h.q⟩
theorem RL.Ref.alloc {w : World} {a : RL} {q : Rat} (h : a.Ref w q) (o : Obj) : a.Ref (w.alloc o) q := ⟨h.rn.alloc _, h.rd.alloc _, h.mn, h.md, h.q⟩
/-- At most k words. -/
def RL.Sm (a : RL) (k : Nat) : Prop := a.ns.length ≤ k ∧ a.ds.length ≤ k
set_option maxHeartbeats 800000 in
theorem qsm_no1 (a b : RL) (k : Nat) (w : World) (ha : a.Raw w) (hb_ : b.Raw w) (hsa : ¬ (a.ns.length ≤ k ∧ a.ds.length ≤ k)) :
    Calls Tryz.prog 7 #[.agg #[.bool a.s, .slice a.N a.ns.length a.nc, .slice a.D a.ds.length a.dc], .agg #[.bool b.s, .slice b.N b.ns.length b.nc, .slice b.D b.ds.length b.dc], .int .i64 k] w (Gives (.bool false) w) := by
  go_enter Tryz.func7, Tryz.ntmps7
  go_wp2_with fail
  have hbox := box1r w (.bool a.s) (.slice a.N a.ns.length a.nc) (.slice a.D a.ds.length a.dc) (.bool b.s) (.slice b.N b.ns.length b.nc) (.slice b.D b.ds.length b.dc)
  obtain ⟨w1, hwe⟩ : ∃ x, (w.alloc (.cells #[.bool a.s, .slice a.N a.ns.length a.nc, .slice a.D a.ds.length a.dc] 24)).alloc (.cells #[.bool b.s, .slice b.N b.ns.length b.nc, .slice b.D b.ds.length b.dc] 24) = x := ⟨_, rfl⟩
  rw [hwe] at hbox ⊢
  obtain ⟨ka1, kb1, hb1⟩ := hbox
  have HWE := Lib.hid hwe
  clear hwe HWE
  have ha1 := ha.below hb1
  have hb_1 := hb_.below hb1
  have hw1 := hb1
  clear ha hb_ hb1
  obtain ⟨a0, a1, a2, a3, a4, a5, a6⟩ := ka1.facts
  go_wp2_with fail
  refine (qshort_no a.s a.N a.D a.ns.length a.nc a.ds.length a.dc k _ hsa).mono ?_
  rintro e w2 ⟨rfl, hb2⟩
  have ha2 := ha1.below hb2
  have hb_2 := hb_1.below hb2
  have ka2 := ka1.below hb2
  have kb2 := kb1.below hb2
  have hw2 := hw1.trans (hb2.mono hw1.size)
  clear ha1 hb_1 ka1 kb1 hw1 hb2
  clear a0 a1 a2 a3 a4 a5 a6
  go_wp2_with fail
  go_ret
  exact ⟨rfl, hw2⟩
set_option maxHeartbeats 800000 in
theorem qsm_no2 (a b : RL) (k : Nat) (w : World) (ha : a.Raw w) (hb_ : b.Raw w) (hsa : a.ns.length ≤ k ∧ a.ds.length ≤ k) (hsb : ¬ (b.ns.length ≤ k ∧ b.ds.length ≤ k)) :
    Calls Tryz.prog 7 #[.agg #[.bool a.s, .slice a.N a.ns.length a.nc, .slice a.D a.ds.length a.dc], .agg #[.bool b.s, .slice b.N b.ns.length b.nc, .slice b.D b.ds.length b.dc], .int .i64 k] w (Gives (.bool false) w) := by
  go_enter Tryz.func7, Tryz.ntmps7
  go_wp2_with fail
  have hbox := box1r w (.bool a.s) (.slice a.N a.ns.length a.nc) (.slice a.D a.ds.length a.dc) (.bool b.s) (.slice b.N b.ns.length b.nc) (.slice b.D b.ds.length b.dc)
  obtain ⟨w1, hwe⟩ : ∃ x, (w.alloc (.cells #[.bool a.s, .slice a.N a.ns.length a.nc, .slice a.D a.ds.length a.dc] 24)).alloc (.cells #[.bool b.s, .slice b.N b.ns.length b.nc, .slice b.D b.ds.length b.dc] 24) = x := ⟨_, rfl⟩
  rw [hwe] at hbox ⊢
  obtain ⟨ka1, kb1, hb1⟩ := hbox
  have HWE := Lib.hid hwe
  clear hwe HWE
  have ha1 := ha.below hb1
  have hb_1 := hb_.below hb1
  have hw1 := hb1
  clear ha hb_ hb1
  obtain ⟨a0, a1, a2, a3, a4, a5, a6⟩ := ka1.facts
  go_wp2_with fail
  refine (qshort_yes a.s a.N a.D a.ns.length a.nc a.ds.length a.dc k _ hsa.1 hsa.2).mono ?_
  rintro e w2 ⟨rfl, hb2⟩
  have ha2 := ha1.below hb2
  have hb_2 := hb_1.below hb2
  have ka2 := ka1.below hb2
  have kb2 := kb1.below hb2
  have hw2 := hw1.trans (hb2.mono hw1.size)
  clear ha1 hb_1 ka1 kb1 hw1 hb2
  clear a0 a1 a2 a3 a4 a5 a6
  obtain ⟨b0, b1, b2, b3, b4, b5, b6⟩ := kb2.facts
  go_wp2_with fail
  refine (qshort_no b.s b.N b.D b.ns.length b.nc b.ds.length b.dc k _ hsb).mono ?_
  rintro e w3 ⟨rfl, hb3⟩
  have ha3 := ha2.below hb3
  have hb_3 := hb_2.below hb3
  have ka3 := ka2.below hb3
  have kb3 := kb2.below hb3
  have hw3 := hw2.trans (hb3.mono hw2.size)
  clear ha2 hb_2 ka2 kb2 hw2 hb3
  clear b0 b1 b2 b3 b4 b5 b6
  go_wp2_with fail
  go_ret
  exact ⟨rfl, hw3⟩
set_option maxHeartbeats 800000 in
theorem qsm_no3 (a b : RL) (k : Nat) (w : World) (ha : a.Raw w) (hb_ : b.Raw w) (hsa : a.ns.length ≤ k ∧ a.ds.length ≤ k) (hsb : b.ns.length ≤ k ∧ b.ds.length ≤ k) (hva : Hid (¬ a.Val)) :
    Calls Tryz.prog 7 #[.agg #[.bool a.s, .slice a.N a.ns.length a.nc, .slice a.D a.ds.length a.dc], .agg #[.bool b.s, .slice b.N b.ns.length b.nc, .slice b.D b.ds.length b.dc], .int .i64 k] w (Gives (.bool false) w) := by
  go_enter Tryz.func7, Tryz.ntmps7
  go_wp2_with fail
  have hbox := box1r w (.bool a.s) (.slice a.N a.ns.length a.nc) (.slice a.D a.ds.length a.dc) (.bool b.s) (.slice b.N b.ns.length b.nc) (.slice b.D b.ds.length b.dc)
  obtain ⟨w1, hwe⟩ : ∃ x, (w.alloc (.cells #[.bool a.s, .slice a.N a.ns.length a.nc, .slice a.D a.ds.length a.dc] 24)).alloc (.cells #[.bool b.s, .slice b.N b.ns.length b.nc, .slice b.D b.ds.length b.dc] 24) = x := ⟨_, rfl⟩
  rw [hwe] at hbox ⊢
  obtain ⟨ka1, kb1, hb1⟩ := hbox
  have HWE := Lib.hid hwe
  clear hwe HWE
  have ha1 := ha.below hb1
  have hb_1 := hb_.below hb1
  have hw1 := hb1
  clear ha hb_ hb1
  obtain ⟨a0, a1, a2, a3, a4, a5, a6⟩ := ka1.facts
  go_wp2_with fail
  refine (qshort_yes a.s a.N a.D a.ns.length a.nc a.ds.length a.dc k _ hsa.1 hsa.2).mono ?_
  rintro e w2 ⟨rfl, hb2⟩
  have ha2 := ha1.below hb2
  have hb_2 := hb_1.below hb2
  have ka2 := ka1.below hb2
  have kb2 := kb1.below hb2
  have hw2 := hw1.trans (hb2.mono hw1.size)
  clear ha1 hb_1 ka1 kb1 hw1 hb2
  clear a0 a1 a2 a3 a4 a5 a6
  obtain ⟨b0, b1, b2, b3, b4, b5, b6⟩ := kb2.facts
  go_wp2_with fail
  refine (qshort_yes b.s b.N b.D b.ns.length b.nc b.ds.length b.dc k _ hsb.1 hsb.2).mono ?_
  rintro e w3 ⟨rfl, hb3⟩
  have ha3 := ha2.below hb3
  have hb_3 := hb_2.below hb3
  have ka3 := ka2.below hb3
  have kb3 := kb2.below hb3
  have hw3 := hw2.trans (hb3.mono hw2.size)
  clear ha2 hb_2 ka2 kb2 hw2 hb3
  clear b0 b1 b2 b3 b4 b5 b6
  obtain ⟨a0, a1, a2, a3, a4, a5, a6⟩ := ka3.facts
  go_wp2_with fail
  refine (rqvalid_rawno a _ ha3 hva.out).mono ?_
  rintro e w4 ⟨rfl, hb4⟩
  have ha4 := ha3.below hb4
  have hb_4 := hb_3.below hb4
  have ka4 := ka3.below hb4
  have kb4 := kb3.below hb4
  have hw4 := hw3.trans (hb4.mono hw3.size)
  clear ha3 hb_3 ka3 kb3 hw3 hb4
  clear a0 a1 a2 a3 a4 a5 a6
  go_wp2_with fail
  go_ret
  exact ⟨rfl, hw4⟩
set_option maxHeartbeats 800000 in
theorem qsm_no4 (a b : RL) (k : Nat) (w : World) (ha : a.Raw w) (hb_ : b.Raw w) (hsa : a.ns.length ≤ k ∧ a.ds.length ≤ k) (hsb : b.ns.length ≤ k ∧ b.ds.length ≤ k) (hva : Hid a.Val) (hvb : Hid (¬ b.Val)) :
    Calls Tryz.prog 7 #[.agg #[.bool a.s, .slice a.N a.ns.length a.nc, .slice a.D a.ds.length a.dc], .agg #[.bool b.s, .slice b.N b.ns.length b.nc, .slice b.D b.ds.length b.dc], .int .i64 k] w (Gives (.bool false) w) := by
  go_enter Tryz.func7, Tryz.ntmps7
  go_wp2_with fail
  have hbox := box1r w (.bool a.s) (.slice a.N a.ns.length a.nc) (.slice a.D a.ds.length a.dc) (.bool b.s) (.slice b.N b.ns.length b.nc) (.slice b.D b.ds.length b.dc)
  obtain ⟨w1, hwe⟩ : ∃ x, (w.alloc (.cells #[.bool a.s, .slice a.N a.ns.length a.nc, .slice a.D a.ds.length a.dc] 24)).alloc (.cells #[.bool b.s, .slice b.N b.ns.length b.nc, .slice b.D b.ds.length b.dc] 24) = x := ⟨_, rfl⟩
  rw [hwe] at hbox ⊢
  obtain ⟨ka1, kb1, hb1⟩ := hbox
  have HWE := Lib.hid hwe
  clear hwe HWE
  have ha1 := ha.below hb1
  have hb_1 := hb_.below hb1
  have hw1 := hb1
  clear ha hb_ hb1
  obtain ⟨a0, a1, a2, a3, a4, a5, a6⟩ := ka1.facts
  go_wp2_with fail
  refine (qshort_yes a.s a.N a.D a.ns.length a.nc a.ds.length a.dc k _ hsa.1 hsa.2).mono ?_
  rintro e w2 ⟨rfl, hb2⟩
  have ha2 := ha1.below hb2
  have hb_2 := hb_1.below hb2
  have ka2 := ka1.below hb2
  have kb2 := kb1.below hb2
  have hw2 := hw1.trans (hb2.mono hw1.size)
  clear ha1 hb_1 ka1 kb1 hw1 hb2
  clear a0 a1 a2 a3 a4 a5 a6
  obtain ⟨b0, b1, b2, b3, b4, b5, b6⟩ := kb2.facts
  go_wp2_with fail
  refine (qshort_yes b.s b.N b.D b.ns.length b.nc b.ds.length b.dc k _ hsb.1 hsb.2).mono ?_
  rintro e w3 ⟨rfl, hb3⟩
  have ha3 := ha2.below hb3
  have hb_3 := hb_2.below hb3
  have ka3 := ka2.below hb3
  have kb3 := kb2.below hb3
  have hw3 := hw2.trans (hb3.mono hw2.size)
  clear ha2 hb_2 ka2 kb2 hw2 hb3
  clear b0 b1 b2 b3 b4 b5 b6
  obtain ⟨a0, a1, a2, a3, a4, a5, a6⟩ := ka3.facts
  go_wp2_with fail
  refine (rqvalid_rawyes a _ ha3 hva.out).mono ?_
  rintro e w4 ⟨rfl, hb4⟩
  have ha4 := ha3.below hb4
  have hb_4 := hb_3.below hb4
  have ka4 := ka3.below hb4
  have kb4 := kb3.below hb4
  have hw4 := hw3.trans (hb4.mono hw3.size)
  clear ha3 hb_3 ka3 kb3 hw3 hb4
  clear a0 a1 a2 a3 a4 a5 a6
  obtain ⟨b0, b1, b2, b3, b4, b5, b6⟩ := kb4.facts
  go_wp2_with fail
  refine (rqvalid_rawno b _ hb_4 hvb.out).mono ?_
  rintro e w5 ⟨rfl, hb5⟩
  have ha5 := ha4.below hb5
  have hb_5 := hb_4.below hb5
  have ka5 := ka4.below hb5
  have kb5 := kb4.below hb5
  have hw5 := hw4.trans (hb5.mono hw4.size)
  clear ha4 hb_4 ka4 kb4 hw4 hb5
  clear b0 b1 b2 b3 b4 b5 b6
  go_wp2_with fail
  go_ret
  exact ⟨rfl, hw5⟩
set_option maxHeartbeats 800000 in
theorem qsm_yes (a b : RL) (k : Nat) (w : World) (ha : a.Raw w) (hb_ : b.Raw w) (hsa : a.ns.length ≤ k ∧ a.ds.length ≤ k) (hsb : b.ns.length ≤ k ∧ b.ds.length ≤ k) (hva : Hid a.Val) (hvb : Hid b.Val) :
    Calls Tryz.prog 7 #[.agg #[.bool a.s, .slice a.N a.ns.length a.nc, .slice a.D a.ds.length a.dc], .agg #[.bool b.s, .slice b.N b.ns.length b.nc, .slice b.D b.ds.length b.dc], .int .i64 k] w (Gives (.bool true) w) := by
  go_enter Tryz.func7, Tryz.ntmps7
  go_wp2_with fail
  have hbox := box1r w (.bool a.s) (.slice a.N a.ns.length a.nc) (.slice a.D a.ds.length a.dc) (.bool b.s) (.slice b.N b.ns.length b.nc) (.slice b.D b.ds.length b.dc)
  obtain ⟨w1, hwe⟩ : ∃ x, (w.alloc (.cells #[.bool a.s, .slice a.N a.ns.length a.nc, .slice a.D a.ds.length a.dc] 24)).alloc (.cells #[.bool b.s, .slice b.N b.ns.length b.nc, .slice b.D b.ds.length b.dc] 24) = x := ⟨_, rfl⟩
  rw [hwe] at hbox ⊢
  obtain ⟨ka1, kb1, hb1⟩ := hbox
  have HWE := Lib.hid hwe
  clear hwe HWE
  have ha1 := ha.below hb1
  have hb_1 := hb_.below hb1
  have hw1 := hb1
  clear ha hb_ hb1
  obtain ⟨a0, a1, a2, a3, a4, a5, a6⟩ := ka1.facts
  go_wp2_with fail
  refine (qshort_yes a.s a.N a.D a.ns.length a.nc a.ds.length a.dc k _ hsa.1 hsa.2).mono ?_
  rintro e w2 ⟨rfl, hb2⟩
  have ha2 := ha1.below hb2
  have hb_2 := hb_1.below hb2
  have ka2 := ka1.below hb2
  have kb2 := kb1.below hb2
  have hw2 := hw1.trans (hb2.mono hw1.size)
  clear ha1 hb_1 ka1 kb1 hw1 hb2
  clear a0 a1 a2 a3 a4 a5 a6
  obtain ⟨b0, b1, b2, b3, b4, b5, b6⟩ := kb2.facts
  go_wp2_with fail
  refine (qshort_yes b.s b.N b.D b.ns.length b.nc b.ds.length b.dc k _ hsb.1 hsb.2).mono ?_
  rintro e w3 ⟨rfl, hb3⟩
  have ha3 := ha2.below hb3
  have hb_3 := hb_2.below hb3
  have ka3 := ka2.below hb3
  have kb3 := kb2.below hb3
  have hw3 := hw2.trans (hb3.mono hw2.size)
  clear ha2 hb_2 ka2 kb2 hw2 hb3
  clear b0 b1 b2 b3 b4 b5 b6
  obtain ⟨a0, a1, a2, a3, a4, a5, a6⟩ := ka3.facts
  go_wp2_with fail
  refine (rqvalid_rawyes a _ ha3 hva.out).mono ?_
  rintro e w4 ⟨rfl, hb4⟩
  have ha4 := ha3.below hb4
  have hb_4 := hb_3.below hb4
  have ka4 := ka3.below hb4
  have kb4 := kb3.below hb4
  have hw4 := hw3.trans (hb4.mono hw3.size)
  clear ha3 hb_3 ka3 kb3 hw3 hb4
  clear a0 a1 a2 a3 a4 a5 a6
  obtain ⟨b0, b1, b2, b3, b4, b5, b6⟩ := kb4.facts
  go_wp2_with fail
  refine (rqvalid_rawyes b _ hb_4 hvb.out).mono ?_
  rintro e w5 ⟨rfl, hb5⟩
  have ha5 := ha4.below hb5
  have hb_5 := hb_4.below hb5
  have ka5 := ka4.below hb5
  have kb5 := kb4.below hb5
  have hw5 := hw4.trans (hb5.mono hw4.size)
  clear ha4 hb_4 ka4 kb4 hw4 hb5
  clear b0 b1 b2 b3 b4 b5 b6
  go_wp2_with fail
  go_ret
  exact ⟨rfl, hw5⟩
theorem qsm_no (a b : RL) (k : Nat) (w : World) (ha : a.Raw w) (hb_ : b.Raw w) (h : ¬ (a.Sm k ∧ b.Sm k ∧ a.Val ∧ b.Val)) :
    Calls Tryz.prog 7 #[.agg #[.bool a.s, .slice a.N a.ns.length a.nc, .slice a.D a.ds.length a.dc], .agg #[.bool b.s, .slice b.N b.ns.length b.nc, .slice b.D b.ds.length b.dc], .int .i64 k] w (Gives (.bool false) w) := by
  by_cases h1 : a.ns.length ≤ k ∧ a.ds.length ≤ k
  · by_cases h2 : b.ns.length ≤ k ∧ b.ds.length ≤ k
    · by_cases h3 : a.Val
      · exact qsm_no4 a b k w ha hb_ h1 h2 h3 fun h4 => h ⟨h1, h2, h3, h4⟩
      · exact qsm_no3 a b k w ha hb_ h1 h2 h3
    · exact qsm_no2 a b k w ha hb_ h1 h2
  · exact qsm_no1 a b k w ha hb_ h1
end Go.Proofs.YtopppmlkddajjaaGreatDoor

