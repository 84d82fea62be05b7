/- rat.Make, rat.From and isochroneref02.Make. -/
import Derived.Test.YtopppmlkddajjaaGreatDoorQSR16
namespace Go.Proofs.YtopppmlkddajjaaGreatDoor
open Go.RowKit V

theorem qof_int (N : Int) {m : Nat} (h : m = N.natAbs) : QOf (decide (N < 0)) m 1 (mkRat N 1) := by
  have e : N = sgn (decide (N < 0)) m := by
    unfold sgn
    by_cases h0 : N < 0
    · simp [h0]; omega
    · simp [h0]; omega
  have h2 := QOf.mk_ (neg := decide (N < 0)) (n := m) (d := 1) (by omega) (Nat.gcd_one_right _) (fun h0 => by simp; omega)
  rwa [← e] at h2
theorem u64_wrap (n : Int) (h : -9223372036854775808 ≤ n ∧ n ≤ 9223372036854775807) : ∃ u m : Nat, Hid (IntKind.u64.wrap n = u) ∧ Hid (n < 0 → IntKind.u64.wrap (-(u : Int)) = m) ∧ Hid (m = n.natAbs) ∧ Hid (0 ≤ n → u = m) ∧ Hid (m < 18446744073709551616) ∧ Hid (u < 18446744073709551616) := by
  have e : ∀ x : Int, IntKind.u64.wrap x = x % 18446744073709551616 := fun x => by simp [IntKind.wrap, IntKind.signed, IntKind.bits]
  refine ⟨(n % 18446744073709551616).toNat, n.natAbs, ?_, ?_, Lib.hid rfl, ?_, ?_, ?_⟩
  · show _ = _; rw [e]; omega
  · show _ → _ = _; rw [e]; omega
  · show _ → _ = _; omega
  · show _ < _; omega
  · show _ < _; omega
set_option maxRecDepth 100000 in
set_option maxHeartbeats 800000 in
theorem qfrom (n : Int) (w : World) (hn : -9223372036854775808 ≤ n ∧ n ≤ 9223372036854775807) :
    Calls Tryz.prog 57 #[.int .i64 n] w (RatP (mkRat n 1) 2 w) := by
  obtain ⟨u, m, hu, hm, hmn, hum, hml, hul⟩ := u64_wrap n hn
  have HN := Lib.hid hn
  clear hn
  have hq := Lib.hid (qof_int n hmn.out)
  have e1 := hu.out
  by_cases h0 : n < 0
  · have e2 := hm.out h0
    have hd : decide (n < 0) = true := decide_eq_true h0
    have HD := Lib.hid hd
    go_enter Tryz.func57, Tryz.ntmps57
    go_wp2_with fail
    refine (from_any m _ (hml.out)).mono ?_
    rintro e w1 ⟨X, xc, xs, rfl, hxc, hX, hb1, hvx, mx, hxl⟩
    have HVX := Lib.hid hvx
    have kr1 := (Blk3.new w (.bool false) (.slice none 0 0) (.slice none 0 0)).below hb1
    have hw1 : Below w.heap.size w w1 := ((Below.refl _ _).alloc (Nat.le_refl _) _).trans (hb1.mono (by simp))
    clear hvx hb1
    go_wp2_with fail
    refine (from_any 1 _ (by omega)).mono ?_
    rintro e w2 ⟨Y, yc, ys, rfl, hyc, hY, hb2, hvy, my, hyl⟩
    have HVY := Lib.hid hvy
    have kr2 := kr1.below hb2
    have hX2 := hX.below hb2
    have hw2 := hw1.trans (hb2.mono hw1.size)
    obtain ⟨c0, c1, c2, c3, c4, c5, c6⟩ := kr2.facts
    clear hvy hb2 hX kr1 hw1
    go_wp2_with fail
    refine bodyPost_ret (v := .agg #[.bool true, .slice X xs.length xc, .slice Y ys.length yc]) (by simp [results, Tryz.results57, go_sem, c0, c1, c2]) rfl ?_
    refine RatP.put ⟨true, X, xc, xs, Y, yc, ys⟩ ⟨hX2, hY, mx, my, hxc, hyc, ?_⟩ kr2 (Nat.le_refl _) hw2 hxl hyl
    have hqq := hq.out
    rw [HD.out] at hqq
    show QOf _ (V32 xs) (V32 ys) _
    rw [HVX.out, HVY.out]
    exact hqq
  · have hd : decide (n < 0) = false := decide_eq_false (by omega)
    have HD := Lib.hid hd
    obtain rfl := hum.out (by omega)
    go_enter Tryz.func57, Tryz.ntmps57
    go_wp2_with fail
    refine (from_any u _ (hml.out)).mono ?_
    rintro e w1 ⟨X, xc, xs, rfl, hxc, hX, hb1, hvx, mx, hxl⟩
    have HVX := Lib.hid hvx
    have kr1 := (Blk3.new w (.bool false) (.slice none 0 0) (.slice none 0 0)).below hb1
    have hw1 : Below w.heap.size w w1 := ((Below.refl _ _).alloc (Nat.le_refl _) _).trans (hb1.mono (by simp))
    clear hvx hb1
    go_wp2_with fail
    refine (from_any 1 _ (by omega)).mono ?_
    rintro e w2 ⟨Y, yc, ys, rfl, hyc, hY, hb2, hvy, my, hyl⟩
    have HVY := Lib.hid hvy
    have kr2 := kr1.below hb2
    have hX2 := hX.below hb2
    have hw2 := hw1.trans (hb2.mono hw1.size)
    obtain ⟨c0, c1, c2, c3, c4, c5, c6⟩ := kr2.facts
    clear hvy hb2 hX kr1 hw1
    go_wp2_with fail
    refine bodyPost_ret (v := .agg #[.bool false, .slice X xs.length xc, .slice Y ys.length yc]) (by simp [results, Tryz.results57, go_sem, c0, c1, c2]) rfl ?_
    refine RatP.put ⟨false, X, xc, xs, Y, yc, ys⟩ ⟨hX2, hY, mx, my, hxc, hyc, ?_⟩ kr2 (Nat.le_refl _) hw2 hxl hyl
    have hqq := hq.out
    rw [HD.out] at hqq
    show QOf _ (V32 xs) (V32 ys) _
    rw [HVX.out, HVY.out]
    exact hqq
end Go.Proofs.YtopppmlkddajjaaGreatDoor


/- rat: numbers that may not be valid, and ErrForm of every function. -/
namespace Go.Proofs.YtopppmlkddajjaaGreatDoor
open Go.RowKit V

/-- A number as a caller may hand it in. -/
structure RL.Raw (w : World) (a : RL) : Prop where
  rn : Rd .u32 w a.N a.ns
  rd : Rd .u32 w a.D a.ds
  cn : a.ns.length ≤ a.nc
  cd : a.ds.length ≤ a.dc
  dn : Dig 4294967296 a.ns
  dd : Dig 4294967296 a.ds
theorem RL.Raw.below {w w' : World} {a : RL} (h : a.Raw w) (hb : Below w.heap.size w w') : a.Raw w' :=
  ⟨h.rn.below hb, h.rd.below hb, h.cn, h.cd, h.dn, h.dd⟩
theorem RL.Raw.drew {w : World} {a : RL} (h : a.Raw w) : a.Raw w.drew := ⟨h.rn.drew, h.rd.drew, h.cn, h.cd, h.dn, h.dd⟩
theorem RL.Raw.alloc {w : World} {a : RL} (h : a.Raw w) (o : Obj) : a.Raw (w.alloc o) := ⟨h.rn.alloc _, h.rd.alloc _, h.cn, h.cd, h.dn, h.dd⟩
theorem RL.Is.drew {w : World} {a : RL} {q : Rat} (h : a.Is w q) : a.Is w.drew q := ⟨h.rn.drew, h.rd.drew, h.mn, h.md, h.cn, h.cd, h.q⟩
theorem RL.Is.alloc {w : World} {a : RL} {q : Rat} (h : a.Is w q) (o : Obj) : a.Is (w.alloc o) q := ⟨h.rn.alloc _, h.rd.alloc _, h.mn, h.md, h.cn, h.cd, h.q⟩
/-- It is valid. -/
def RL.Val (a : RL) : Prop := RVal a.s a.ns a.ds
theorem RL.Raw.is {w : World} {a : RL} (h : a.Raw w) (v : a.Val) : a.Is w (mkRat (sgn a.s (V32 a.ns)) (V32 a.ds)) := RVal.is v h.rn h.rd h.cn h.cd h.dn h.dd
end Go.Proofs.YtopppmlkddajjaaGreatDoor


/- rat.sign, inverse, opposite. -/
namespace Go.Proofs.YtopppmlkddajjaaGreatDoor
open Go.RowKit V

theorem BlkT.put3_ {t : TypeId} {w : World} {g : Nat} {a b c : Value} (h : BlkT t w g a b c) (x y z : Value) : BlkT t (put3 w g x y z) g x y z := ((h.set0 x).set1 y).set2 z
def sgnI (s : Bool) (n : Nat) : Int := if n = 0 then 0 else if s then -1 else 1

set_option maxHeartbeats 400000 in
theorem qsign (s : Bool) (N D : Option Addr) (n nc d dc : Nat) (w : World) : Calls Tryz.prog 45 #[.agg #[.bool s, .slice N n nc, .slice D d dc]] w (Gives (.int .i64 (sgnI s n)) w) := by
  have hb : Below w.heap.size w (w.alloc (.cells #[.bool s, .slice N n nc, .slice D d dc] 24)) := (Below.refl _ _).alloc (Nat.le_refl _) _
  by_cases h0 : n = 0
  · subst h0
    go_enter Tryz.func45, Tryz.ntmps45
    go_wp2
    go_ret
    exact ⟨rfl, hb⟩
  · have hne : ((n : Int) == 0) = false := beq_eq_false_iff_ne.2 (by omega)
    have h1 : sgnI true n = -1 := by simp [sgnI, h0]
    have h2 : sgnI false n = 1 := by simp [sgnI, h0]
    cases s
    · rw [h2]
      go_enter Tryz.func45, Tryz.ntmps45
      go_wp2
      go_ret
      exact ⟨rfl, hb⟩
    · rw [h1]
      go_enter Tryz.func45, Tryz.ntmps45
      go_wp2
      go_ret
      exact ⟨rfl, hb⟩
set_option maxHeartbeats 400000 in
theorem qopposite (s : Bool) (N D : Option Addr) (n nc d dc : Nat) (w : World) : Calls Tryz.prog 43 #[.agg #[.bool s, .slice N n nc, .slice D d dc]] w (Gives (.agg #[.bool (!s && decide (0 < n)), .slice N n nc, .slice D d dc]) w) := by
  go_enter Tryz.func43, Tryz.ntmps43
  go_wp2_with fail
  have hbox := box1r w (.bool s) (.slice N n nc) (.slice D d dc) (.bool false) (.slice none 0 0) (.slice none 0 0)
  obtain ⟨w1, hwe⟩ : ∃ x, (w.alloc (.cells #[.bool s, .slice N n nc, .slice D d dc] 24)).alloc (.cells #[.bool false, .slice none 0 0, .slice none 0 0] 24) = x := ⟨_, rfl⟩
  rw [hwe] at hbox ⊢
  obtain ⟨ka1, kr1, hb1⟩ := hbox
  have HWE := Lib.hid hwe
  clear hwe HWE
  have hw1 := hb1
  clear hb1
  obtain ⟨a0, a1, a2, a3, a4, a5, a6⟩ := ka1.facts
  go_wp2_with fail
  refine (signed_any (!s) N D n nc d dc _).mono ?_
  rintro e w2 ⟨rfl, hb2⟩
  have ka2 := ka1.below hb2
  have kr2 := kr1.below hb2
  have hw2 := hw1.trans (hb2.mono hw1.size)
  clear ka1 kr1 hw1 hb2
  clear a0 a1 a2 a3 a4 a5 a6
  obtain ⟨c0, c1, c2, c3, c4, c5, c6⟩ := kr2.facts
  go_wp2_with fail
  exact bodyPost_ret (v := .agg #[.bool (!s && decide (0 < n)), .slice N n nc, .slice D d dc]) (by simp [results, Tryz.results43, go_sem, c0, c1, c2]) rfl ⟨rfl, below_put3 hw2 (by omega) _ _ _⟩
end Go.Proofs.YtopppmlkddajjaaGreatDoor


/- rat.half, copied. -/
namespace Go.Proofs.YtopppmlkddajjaaGreatDoor
open Go.RowKit V

set_option maxRecDepth 100000 in
set_option maxHeartbeats 3200000 in
theorem copied_of (a : RL) (p : Rat) (w : World) (ha : a.Is w p) (bl : a.ns.length + a.ds.length ≤ 4000) :
    Calls Tryz.prog 47 #[.agg #[.bool a.s, .slice a.N a.ns.length a.nc, .slice a.D a.ds.length a.dc]] w (RatP p (a.ns.length + a.ds.length) w) := by
  go_enter Tryz.func47, Tryz.ntmps47
  go_wp2_with fail
  have hbox := box1r w (.bool a.s) (.slice a.N a.ns.length a.nc) (.slice a.D a.ds.length a.dc) (.bool false) (.slice none 0 0) (.slice none 0 0)
  obtain ⟨w1, hwe⟩ : ∃ x, (w.alloc (.cells #[.bool a.s, .slice a.N a.ns.length a.nc, .slice a.D a.ds.length a.dc] 24)).alloc (.cells #[.bool false, .slice none 0 0, .slice none 0 0] 24) = x := ⟨_, rfl⟩
  rw [hwe] at hbox ⊢
  obtain ⟨ka1, kr1, hb1⟩ := hbox
  have HWE := Lib.hid hwe
  clear hwe HWE
  have ha1 := ha.below hb1
  have hw1 := hb1
  clear ha hb1
  have hna1 := ha1.rn
  have hda1 := ha1.rd
  have mna := ha1.mn
  have mda := ha1.md
  have HQ := Lib.hid ha1.q
  obtain ⟨a0, a1, a2, a3, a4, a5, a6⟩ := ka1.facts
  go_upto_region 1 with fail
  go_region_held3 (fun w' => w'.cell? ⟨w.heap.size, 0, none⟩ = some (.bool a.s) ∧ w'.cell? ⟨w.heap.size, 1, none⟩ = some (.slice a.N a.ns.length a.nc) ∧ w'.cell? ⟨w.heap.size, 2, none⟩ = some (.slice a.D a.ds.length a.dc)) (first | exact ⟨‹_›, ‹_›, ‹_›⟩ | go_keep)
    (first
    | (go_at_call_of 80 (Value.slice a.N a.ns.length a.nc)
       refine (clone_u32 a.N a.nc a.ns _ (by first | exact hna1 | exact hna1.drew | exact hna1.alloc _ | exact (hna1.alloc _).drew | exact hna1.drew.alloc _) (by omega)).mono ?_
       rintro e wx_ ⟨v, he, hown, hbx⟩
       obtain ⟨X, xc, rfl, hxc, hX⟩ := hown.form
       subst he
       have hbp0 : Below w1.heap.size w1 wx_ := by first | exact hbx | exact below_of_drew hbx (Nat.le_refl _) | exact ((Below.refl _ _).alloc (Nat.le_refl _) _).trans (hbx.mono (by simp)) | exact ((Below.refl _ _).alloc (Nat.le_refl _) _).trans ((below_of_drew hbx (Nat.le_refl _)).mono (by simp)) | exact below_of_drew (((Below.refl _ _).alloc (Nat.le_refl _) _).trans (hbx.mono (by simp))) (Nat.le_refl _)
       have hna_0 := hna1.below hbp0
       have hda_0 := hda1.below hbp0
       have ka_0 := ka1.below hbp0
       obtain ⟨ka0wx_, ka1wx_, ka2wx_, ka3wx_, ka4wx_, ka5wx_, ka6wx_⟩ := ka_0.facts
       have kr_0 := kr1.below hbp0
       obtain ⟨kr0wx_, kr1wx_, kr2wx_, kr3wx_, kr4wx_, kr5wx_, kr6wx_⟩ := kr_0.facts
       have hwq0 := hw1.trans (hbp0.mono hw1.size))
    | (go_at_call_of 80 (Value.slice a.D a.ds.length a.dc)
       refine (clone_u32 a.D a.dc a.ds _ (by first | exact hda_0 | exact hda_0.drew | exact hda_0.alloc _ | exact (hda_0.alloc _).drew | exact hda_0.drew.alloc _) (by omega)).mono ?_
       rintro e wy_ ⟨v, he, hown2, hby⟩
       obtain ⟨Y, yc, rfl, hyc, hY⟩ := hown2.form
       subst he
       have hbp1 : Below wx_.heap.size wx_ wy_ := by first | exact hby | exact below_of_drew hby (Nat.le_refl _) | exact ((Below.refl _ _).alloc (Nat.le_refl _) _).trans (hby.mono (by simp)) | exact ((Below.refl _ _).alloc (Nat.le_refl _) _).trans ((below_of_drew hby (Nat.le_refl _)).mono (by simp)) | exact below_of_drew (((Below.refl _ _).alloc (Nat.le_refl _) _).trans (hby.mono (by simp))) (Nat.le_refl _)
       have hna_1 := hna_0.below hbp1
       have hda_1 := hda_0.below hbp1
       have hX_1 := hX.below hbp1
       have ka_1 := ka_0.below hbp1
       obtain ⟨ka0wy_, ka1wy_, ka2wy_, ka3wy_, ka4wy_, ka5wy_, ka6wy_⟩ := ka_1.facts
       have kr_1 := kr_0.below hbp1
       obtain ⟨kr0wy_, kr1wy_, kr2wy_, kr3wy_, kr4wy_, kr5wy_, kr6wy_⟩ := kr_1.facts
       have hwq1 := hwq0.trans (hbp1.mono hwq0.size)))
  all_goals
    go_wp2_with fail
    refine bodyPost_ret (v := .agg #[.bool a.s, .slice X a.ns.length xc, .slice Y a.ds.length yc]) (by simp [results, Tryz.results47, go_sem, kr0wy_, kr1wy_, kr2wy_]) rfl ?_
    exact RatP.put ⟨a.s, X, xc, a.ns, Y, yc, a.ds⟩ ⟨hX_1, hY, mna, mda, hxc, hyc, HQ.out⟩ kr_1 (by omega) hwq1 (by dsimp only; omega) (by dsimp only; omega)
end Go.Proofs.YtopppmlkddajjaaGreatDoor


/- isochroneref02.Zero and Make. -/
namespace Go.Proofs.YtopppmlkddajjaaGreatDoor
open Go.RowKit V

theorem qof_zero (s : Bool) (d : Nat) : QOf false 0 1 (mkRat (sgn s 0) d) := by
  have e : mkRat (sgn s 0) d = mkRat (sgn false 0) 1 := by cases s <;> simp [sgn]
  rw [e]
  exact QOf.mk_ (by omega) (by decide) (fun _ => rfl)
theorem nat1_rd (w : World) (k : Nat) (h : w.heap.size = k) : Rd .i64 (w.alloc (.cells #[.int .i64 1] 3)) (some ⟨k, 0, none⟩) [1] := h ▸ rd_nat1 w 1

set_option maxHeartbeats 400000 in
theorem qzero (q : Rat) (hq : QOf false 0 1 q) (w : World) : Calls Tryz.prog 33 #[] w (RefP q 0 1 w) := by
  go_enter Tryz.func33, Tryz.ntmps33
  go_wp2
  exact bodyPost_ret (v := .agg #[.bool false, .slice (some ⟨w.heap.size + 1, 0, none⟩) 0 0, .slice (some ⟨w.heap.size + 1 + 1, 0, none⟩) 1 1]) (by simp [results, Tryz.results33, go_sem]) rfl
    ⟨⟨false, some ⟨w.heap.size + 1, 0, none⟩, 0, [], some ⟨w.heap.size + 1 + 1, 0, none⟩, 1, [1]⟩, rfl, ⟨Rd.nil_, nat1_rd _ _ (by simp), nm_nil, nm_one, by simpa [VD, val] using hq⟩, Nat.le_refl _, Nat.le_refl _, (((Below.refl _ _).alloc (Nat.le_refl _) _).alloc (by simp) _).alloc (by simp; omega) _⟩

theorem len1_val {xs : List Nat} (h : xs.length = 1) {x : Nat} (e : xs.getD 0 0 = x) : VD xs = x := by
  rw [one_of_len h, e]; unfold VD; simp [val]
/-- The test whether a number is 1, part by part. -/
def OneQ (xs : List Nat) (A : Option Addr) (w : World) (p : Bool) : Prop :=
  (p = false ∧ ((xs.length : Int) == 1) = false) ∨ (∃ ad x, A = some ad ∧ xs.length = 1 ∧ VD xs = x ∧ ((x : Int) == 1) = p ∧ w.cell? ad = some (.int .i64 (x : Nat)))
theorem oneQ {xs : List Nat} {A : Option Addr} {w : World} (h : Rd .i64 w A xs) : ∃ p, OneQ xs A w p ∧ (p = true → VD xs = 1) := by
  by_cases h1 : xs.length = 1
  · obtain ⟨ad, x, hA, _, ex, hc⟩ := h.ask (i := 0) (by omega)
    rw [add_zero_] at hc
    have hv := len1_val h1 ex.out
    refine ⟨_, .inr ⟨ad, x, hA, h1, hv, rfl, hc⟩, fun h => ?_⟩
    rw [hv]
    have := eq_of_beq h
    omega
  · exact ⟨false, .inl ⟨rfl, beq_eq_false_iff_ne.2 (by omega)⟩, fun h => by cases h⟩

set_option maxRecDepth 100000 in
set_option maxHeartbeats 3200000 in
theorem rmake (s : Bool) (N D : Option Addr) (nc dc : Nat) (ns ds : List Nat) (w : World) (hn : Rd .i64 w N ns) (hd : Rd .i64 w D ds) (mn : Nm ns) (md : Nm ds) (l1 : ns.length ≤ 10000) (l2 : ds.length ≤ 10000) (hpos : 0 < ds.length) :
    Calls Tryz.prog 51 #[.bool s, .slice N ns.length nc, .slice D ds.length dc] w (RefP (mkRat (sgn s (VD ns)) (VD ds)) ns.length (max 1 ds.length) w) := by
  have hdp := VD_pos md hpos
  by_cases h0 : ns.length = 0
  · obtain rfl : ns = [] := List.eq_nil_of_length_eq_zero h0
    have kr := BlkT.new 30 w (.bool false) (.slice none 0 0) (.slice none 0 0)
    have hq : QOf false 0 1 (mkRat (sgn s (VD [])) (VD ds)) := by have := qof_zero s (VD ds); simpa [VD, val] using this
    go_enter Tryz.func51, Tryz.ntmps51
    go_wp2_with fail
    refine (qzero _ hq _).mono ?_
    rintro e w1 ⟨r, rfl, hr, hl1, hl2, hb1⟩
    have kr1 := kr.below hb1
    have hw1 : Below w.heap.size w w1 := ((Below.refl _ _).alloc (Nat.le_refl _) _).trans (hb1.mono (by simp))
    obtain ⟨c0, c1, c2, c3, c4, c5, c6⟩ := kr1.facts
    go_wp2_with fail
    refine bodyPost_ret (v := .agg #[.bool r.s, .slice r.N r.ns.length r.nc, .slice r.D r.ds.length r.dc]) (by simp [results, Tryz.results51, go_sem, c0, c1, c2]) rfl ?_
    exact RefP.put r hr kr1 (Nat.le_refl _) hw1 (by simpa using hl1) (by omega)
  · have hne : ((ns.length : Int) == 0) = false := beq_eq_false_iff_ne.2 (by omega)
    have hnp := VD_pos mn (by omega)
    have hn1 : Rd .i64 (w.alloc (.cells #[.bool false, .slice none 0 0, .slice none 0 0] 30)) N ns := hn.alloc _
    have hd1 : Rd .i64 (w.alloc (.cells #[.bool false, .slice none 0 0, .slice none 0 0] 30)) D ds := hd.alloc _
    have hw1 : Below w.heap.size w (w.alloc (.cells #[.bool false, .slice none 0 0, .slice none 0 0] 30)) := (Below.refl _ _).alloc (Nat.le_refl _) _
    have kr1 := BlkT.new 30 w (.bool false) (.slice none 0 0) (.slice none 0 0)
    obtain ⟨p, hp, hp1⟩ := oneQ hd1
    have HP1 := Lib.hid hp1
    clear hp1
    have hsame : ∀ w', Below w.heap.size w w' → VD ds = 1 ∨ Nat.gcd (VD ns) (VD ds) = 1 → RL.Ref w' ⟨s, N, nc, ns, D, dc, ds⟩ (mkRat (sgn s (VD ns)) (VD ds)) := fun w' hb h => by
      refine ⟨hn.below hb, hd.below hb, mn, md, QOf.mk_ hdp ?_ (fun h => by dsimp only at h; omega)⟩
      rcases h with h | h
      · dsimp only; rw [h]; exact Nat.gcd_one_right _
      · exact h
    have HSAME := Lib.hid hsame
    clear hsame
    cases p
    · rcases hp with ⟨_, hp⟩ | ⟨ad, x, rfl, hp1, hp2, hp, hp3⟩
      all_goals
        first
          | have hpl : ((ds.length : Int) == 1) = true := by simp [hp1]
          | skip
        first
          | (have HPQ := Lib.hid hp1
             clear hp1 hp2)
          | skip
        go_enter Tryz.func51, Tryz.ntmps51
        go_wp2_with fail
        refine (rgcd_any N _ nc dc ns ds _ hn1 hd1 (by omega) (by omega) mn md).mono ?_
        rintro e w2 ⟨G, gc, gl, rfl, hG, hng, hlg, hvg, hb2⟩
        have kr2 := kr1.below hb2
        have hn2 := hn1.below hb2
        have hd2 := hd1.below hb2
        have hw2 := hw1.trans (hb2.mono hw1.size)
        have hgp : 0 < VD gl := by rw [hvg.out]; exact Nat.gcd_pos_of_pos_left _ hnp
        have hgl : 0 < gl.length := by
          rcases Nat.eq_zero_or_pos gl.length with h | h
          · rw [List.eq_nil_of_length_eq_zero h] at hgp; simp [VD, val] at hgp
          · exact h
        have HGP := Lib.hid hgp
        obtain ⟨p2, hq, hq1⟩ := oneQ hG
        have HQ1 := Lib.hid hq1
        clear hq1 hb2 kr1 hn1 hd1 hw1 hgp hnp hdp hp
        cases p2
        · rcases hq with ⟨_, hq⟩ | ⟨gd, y, rfl, hq1, hq2, hq, hq3⟩
          all_goals
            first
              | have hql : ((gl.length : Int) == 1) = true := by simp [hq1]
              | skip
            first
              | (have HQQ := Lib.hid hq1
                 clear hq1 hq2)
              | skip
            go_wp2_with (go_quiet (fail))
            refine (rdiv_any N _ nc gc ns gl _ hn2 hG (by omega) mn hng hgl).mono ?_
            rintro e w3 ⟨X, xc, xs, X2, xc2, xs2, rfl, hX, hX2, mx, mx2, hdm, hlt, hb3⟩
            have kr3 := kr2.below hb3
            have hd3 := hd2.below hb3
            have hG3 := hG.below hb3
            have hw3 := hw2.trans (hb3.mono hw2.size)
            have hxv : Hid (VD xs = VD ns / VD gl) := (div_uniq hdm.out hlt.out).1
            have hxl : xs.length ≤ ns.length := mn.len_le mx (by rw [hxv.out]; exact Nat.div_le_self _ _)
            clear hb3 hX2 mx2 hdm hlt kr2 hw2 hd2 hq
            go_wp2_with fail
            refine (rdiv_any _ _ dc gc ds gl _ hd3 hG3 (by omega) md hng hgl).mono ?_
            rintro e w4 ⟨Y, yc, ys, Y2, yc2, ys2, rfl, hY, hY2, my, my2, hdm, hlt, hb4⟩
            have kr4 := kr3.below hb4
            have hX4 := hX.below hb4
            have hw4 := hw3.trans (hb4.mono hw3.size)
            have hyv : Hid (VD ys = VD ds / VD gl) := (div_uniq hdm.out hlt.out).1
            have hyl : ys.length ≤ ds.length := md.len_le my (by rw [hyv.out]; exact Nat.div_le_self _ _)
            clear hb4 hY2 my2 hdm hlt kr3 hw3 hd3 hX hG3
            obtain ⟨c0, c1, c2, c3, c4, c5, c6⟩ := kr4.facts
            go_wp2_with fail
            refine bodyPost_ret (v := .agg #[.bool s, .slice X xs.length xc, .slice Y ys.length yc]) (by simp [results, Tryz.results51, go_sem, c0, c1, c2]) rfl ?_
            refine RefP.put ⟨s, X, xc, xs, Y, yc, ys⟩ ⟨hX4, hY, mx, my, ?_⟩ kr4 (Nat.le_refl _) hw4 hxl (Nat.le_trans hyl (Nat.le_max_right _ _))
            have hqr := QOf.red (neg := s) (n := VD ns) (d := VD ds) (VD_pos md hpos)
            have hqp : 0 < VD ns / Nat.gcd (VD ns) (VD ds) := Nat.div_pos (Nat.gcd_le_left _ (VD_pos mn (by omega))) (Nat.gcd_pos_of_pos_right _ (VD_pos md hpos))
            rw [decide_eq_true hqp, Bool.and_true, ← hvg.out, ← hxv.out, ← hyv.out] at hqr
            exact hqr
        · rcases hq with ⟨hqf, _⟩ | ⟨gd, y, rfl, hq1, hq2, hq, hq3⟩
          · cases hqf
          · have hql : ((gl.length : Int) == 1) = true := by simp [hq1]
            have HQQ := Lib.hid hq1
            clear hq1 hq2
            obtain ⟨c0, c1, c2, c3, c4, c5, c6⟩ := kr2.facts
            go_wp2_with (go_quiet (fail))
            have hres := RefP.put ⟨s, N, nc, ns, _, dc, ds⟩ (HSAME.out _ hw2 (.inr (by rw [← hvg.out]; exact HQ1.out trivial))) kr2 (Nat.le_refl _) hw2 (Nat.le_refl _) (Nat.le_max_right 1 _)
            first
              | exact bodyPost_ret (v := .agg #[.bool s, .slice N ns.length nc, .slice D ds.length dc]) (by simp [results, Tryz.results51, go_sem, c0, c1, c2]) rfl hres
              | exact bodyPost_ret (v := .agg #[.bool s, .slice N ns.length nc, .slice (some ad) ds.length dc]) (by simp [results, Tryz.results51, go_sem, c0, c1, c2]) rfl hres
    · rcases hp with ⟨hpf, _⟩ | ⟨ad, x, rfl, hp1, hp2, hp, hp3⟩
      · cases hpf
      · have hpl : ((ds.length : Int) == 1) = true := by simp [hp1]
        have HP := Lib.hid hp1
        clear hp1 hp2
        go_enter Tryz.func51, Tryz.ntmps51
        go_wp2_with (go_quiet (fail))
        refine bodyPost_ret (v := .agg #[.bool s, .slice N ns.length nc, .slice (some ad) ds.length dc]) (by simp [results, Tryz.results51, go_sem]) rfl ?_
        refine ⟨⟨s, N, nc, ns, some ad, dc, ds⟩, rfl, HSAME.out _ ((Below.refl _ _).alloc (Nat.le_refl _) _) (.inl (HP1.out trivial)), Nat.le_refl _, Nat.le_max_right _ _, (Below.refl _ _).alloc (Nat.le_refl _) _⟩
end Go.Proofs.YtopppmlkddajjaaGreatDoor


/- isochroneref02: Sign, One, Mul, Div, Pow. -/
namespace Go.Proofs.YtopppmlkddajjaaGreatDoor
open Go.RowKit V

theorem boxes3 (t : TypeId) (w : World) (a b c a2 b2 c2 r s u : Value) : BlkT t (((w.alloc (.cells #[a, b, c] t)).alloc (.cells #[a2, b2, c2] t)).alloc (.cells #[r, s, u] t)) w.heap.size a b c ∧
    BlkT t (((w.alloc (.cells #[a, b, c] t)).alloc (.cells #[a2, b2, c2] t)).alloc (.cells #[r, s, u] t)) (w.heap.size + 1) a2 b2 c2 ∧
    BlkT t (((w.alloc (.cells #[a, b, c] t)).alloc (.cells #[a2, b2, c2] t)).alloc (.cells #[r, s, u] t)) (w.heap.size + 1 + 1) r s u ∧
    Below w.heap.size w (((w.alloc (.cells #[a, b, c] t)).alloc (.cells #[a2, b2, c2] t)).alloc (.cells #[r, s, u] t)) := by
  obtain ⟨h1, h2, h3⟩ := boxes2 t t w a b c a2 b2 c2
  refine ⟨h1.alloc _, h2.alloc _, ?_, h3.alloc (by simp; omega) _⟩
  have := BlkT.new t ((w.alloc (.cells #[a, b, c] t)).alloc (.cells #[a2, b2, c2] t)) r s u
  rwa [show ((w.alloc (.cells #[a, b, c] t)).alloc (.cells #[a2, b2, c2] t)).heap.size = w.heap.size + 1 + 1 by simp] at this
theorem len_of_VD {xs : List Nat} (h : 0 < VD xs) : 0 < xs.length := by
  rcases Nat.eq_zero_or_pos xs.length with h0 | h0
  · rw [List.eq_nil_of_length_eq_zero h0] at h; simp [VD, val] at h
  · exact h0
theorem RL.Ref.inv {w : World} {b : RL} {q : Rat} (h : b.Ref w q) (hn : 0 < VD b.ns) : RL.Ref w ⟨b.s, b.D, b.dc, b.ds, b.N, b.nc, b.ns⟩ q⁻¹ := by
  have h1 := inv_q h.q hn
  have h2 : 0 < VD b.ds := h.q.pos
  rw [decide_eq_true h2, Bool.and_true] at h1
  exact ⟨h.rd, h.rn, h.md, h.mn, h1⟩
set_option maxHeartbeats 400000 in
theorem rsign (s : Bool) (N D : Option Addr) (n nc d dc : Nat) (w : World) : Calls Tryz.prog 24 #[.agg #[.bool s, .slice N n nc, .slice D d dc]] w (Gives (.int .i64 (sgnI s n)) w) := by
  have hb : Below w.heap.size w (w.alloc (.cells #[.bool s, .slice N n nc, .slice D d dc] 30)) := (Below.refl _ _).alloc (Nat.le_refl _) _
  by_cases h0 : n = 0
  · subst h0
    go_enter Tryz.func24, Tryz.ntmps24
    go_wp2
    go_ret
    exact ⟨rfl, hb⟩
  · have hne : ((n : Int) == 0) = false := beq_eq_false_iff_ne.2 (by omega)
    have h1 : sgnI true n = -1 := by simp [sgnI, h0]
    have h2 : sgnI false n = 1 := by simp [sgnI, h0]
    cases s
    · rw [h2]
      go_enter Tryz.func24, Tryz.ntmps24
      go_wp2
      go_ret
      exact ⟨rfl, hb⟩
    · rw [h1]
      go_enter Tryz.func24, Tryz.ntmps24
      go_wp2
      go_ret
      exact ⟨rfl, hb⟩
set_option maxRecDepth 100000 in
set_option maxHeartbeats 3200000 in
theorem rmulq (a b : RL) (p q : Rat) (w : World) (ha : a.Ref w p) (hb_ : b.Ref w q) (bl : a.ns.length + a.ds.length + b.ns.length + b.ds.length ≤ 9000) :
    Calls Tryz.prog 20 #[.agg #[.bool a.s, .slice a.N a.ns.length a.nc, .slice a.D a.ds.length a.dc], .agg #[.bool b.s, .slice b.N b.ns.length b.nc, .slice b.D b.ds.length b.dc]] w (RefP (p * q) (a.ns.length + b.ns.length + 1) (a.ds.length + b.ds.length + 1) w) := by
  go_enter Tryz.func20, Tryz.ntmps20
  go_wp2_with fail
  have hbox := boxes3 30 w (.bool a.s) (.slice a.N a.ns.length a.nc) (.slice a.D a.ds.length a.dc) (.bool b.s) (.slice b.N b.ns.length b.nc) (.slice b.D b.ds.length b.dc) (.bool false) (.slice none 0 0) (.slice none 0 0)
  obtain ⟨w1, hwe⟩ : ∃ x, ((w.alloc (.cells #[.bool a.s, .slice a.N a.ns.length a.nc, .slice a.D a.ds.length a.dc] 30)).alloc (.cells #[.bool b.s, .slice b.N b.ns.length b.nc, .slice b.D b.ds.length b.dc] 30)).alloc (.cells #[.bool false, .slice none 0 0, .slice none 0 0] 30) = x := ⟨_, rfl⟩
  rw [hwe] at hbox ⊢
  obtain ⟨ka1, kb1, kr1, hb1⟩ := hbox
  have HWE := Lib.hid hwe
  clear hwe HWE
  have ha1 := ha.below hb1
  have hb_1 := hb_.below hb1
  have hw1 := hb1
  clear ha hb_ hb1
  have hna1 := ha1.rn
  have hda1 := ha1.rd
  have hnb1 := hb_1.rn
  have hdb1 := hb_1.rd
  have mna := ha1.mn
  have mda := ha1.md
  have mnb := hb_1.mn
  have mdb := hb_1.md
  have HQ := Lib.hid (mul_q ha1.q hb_1.q)
  have HDP : Hid (0 < VD a.ds * VD b.ds) := Nat.mul_pos ha1.q.pos hb_1.q.pos
  have e1 : ¬ (w.heap.size = w.heap.size + 1 + 1) := by omega
  have e2 : ¬ (w.heap.size + 1 + 1 = w.heap.size) := by omega
  obtain ⟨a0, a1, a2, a3, a4, a5, a6⟩ := ka1.facts
  obtain ⟨b0, b1, b2, b3, b4, b5, b6⟩ := kb1.facts
  go_upto_region 1 with fail
  go_region_held3 (fun w' => w'.cell? ⟨w.heap.size, 0, none⟩ = some (.bool a.s) ∧ w'.cell? ⟨w.heap.size, 1, none⟩ = some (.slice a.N a.ns.length a.nc) ∧ w'.cell? ⟨w.heap.size, 2, none⟩ = some (.slice a.D a.ds.length a.dc) ∧ w'.cell? ⟨w.heap.size + 1, 0, none⟩ = some (.bool b.s) ∧ w'.cell? ⟨w.heap.size + 1, 1, none⟩ = some (.slice b.N b.ns.length b.nc) ∧ w'.cell? ⟨w.heap.size + 1, 2, none⟩ = some (.slice b.D b.ds.length b.dc)) (first | exact ⟨‹_›, ‹_›, ‹_›, ‹_›, ‹_›, ‹_›⟩ | go_keep)
    (first
    | (go_at_call_of 50 (Value.slice a.N a.ns.length a.nc)
       refine (rmul_any a.N b.N a.nc b.nc a.ns b.ns _ (by first | exact hna1 | exact hna1.drew | exact hna1.alloc _ | exact (hna1.alloc _).drew | exact hna1.drew.alloc _) (by first | exact hnb1 | exact hnb1.drew | exact hnb1.alloc _ | exact (hnb1.alloc _).drew | exact hnb1.drew.alloc _) (by omega) mna mnb).mono ?_
       rintro e wx_ ⟨X, xc, xs, rfl, hxc, hX, hbx, hvx, mx_, hxl⟩
       have HVX := Lib.hid hvx
       clear hvx
       have hbp0 : Below w1.heap.size w1 wx_ := by first | exact hbx | exact below_of_drew hbx (Nat.le_refl _) | exact ((Below.refl _ _).alloc (Nat.le_refl _) _).trans (hbx.mono (by simp)) | exact ((Below.refl _ _).alloc (Nat.le_refl _) _).trans ((below_of_drew hbx (Nat.le_refl _)).mono (by simp)) | exact below_of_drew (((Below.refl _ _).alloc (Nat.le_refl _) _).trans (hbx.mono (by simp))) (Nat.le_refl _)
       have hna_0 := hna1.below hbp0
       have hda_0 := hda1.below hbp0
       have hnb_0 := hnb1.below hbp0
       have hdb_0 := hdb1.below hbp0
       have ka_0 := ka1.below hbp0
       obtain ⟨ka0wx_, ka1wx_, ka2wx_, ka3wx_, ka4wx_, ka5wx_, ka6wx_⟩ := ka_0.facts
       have kb_0 := kb1.below hbp0
       obtain ⟨kb0wx_, kb1wx_, kb2wx_, kb3wx_, kb4wx_, kb5wx_, kb6wx_⟩ := kb_0.facts
       have kr_0 := kr1.below hbp0
       obtain ⟨kr0wx_, kr1wx_, kr2wx_, kr3wx_, kr4wx_, kr5wx_, kr6wx_⟩ := kr_0.facts
       have hwq0 := hw1.trans (hbp0.mono hw1.size))
    | (go_at_call_of 50 (Value.slice a.D a.ds.length a.dc)
       refine (rmul_any a.D b.D a.dc b.dc a.ds b.ds _ (by first | exact hda_0 | exact hda_0.drew | exact hda_0.alloc _ | exact (hda_0.alloc _).drew | exact hda_0.drew.alloc _) (by first | exact hdb_0 | exact hdb_0.drew | exact hdb_0.alloc _ | exact (hdb_0.alloc _).drew | exact hdb_0.drew.alloc _) (by omega) mda mdb).mono ?_
       rintro e wy_ ⟨Y, yc, ys, rfl, hyc, hY, hby, hvy, my_, hyl⟩
       have HVY := Lib.hid hvy
       clear hvy
       have hyp : 0 < ys.length := len_of_VD (by rw [HVY.out]; exact HDP.out)
       have hbp1 : Below wx_.heap.size wx_ wy_ := by first | exact hby | exact below_of_drew hby (Nat.le_refl _) | exact ((Below.refl _ _).alloc (Nat.le_refl _) _).trans (hby.mono (by simp)) | exact ((Below.refl _ _).alloc (Nat.le_refl _) _).trans ((below_of_drew hby (Nat.le_refl _)).mono (by simp)) | exact below_of_drew (((Below.refl _ _).alloc (Nat.le_refl _) _).trans (hby.mono (by simp))) (Nat.le_refl _)
       have hna_1 := hna_0.below hbp1
       have hda_1 := hda_0.below hbp1
       have hnb_1 := hnb_0.below hbp1
       have hdb_1 := hdb_0.below hbp1
       have hX_1 := hX.below hbp1
       have ka_1 := ka_0.below hbp1
       obtain ⟨ka0wy_, ka1wy_, ka2wy_, ka3wy_, ka4wy_, ka5wy_, ka6wy_⟩ := ka_1.facts
       have kb_1 := kb_0.below hbp1
       obtain ⟨kb0wy_, kb1wy_, kb2wy_, kb3wy_, kb4wy_, kb5wy_, kb6wy_⟩ := kb_1.facts
       have kr_1 := kr_0.below hbp1
       obtain ⟨kr0wy_, kr1wy_, kr2wy_, kr3wy_, kr4wy_, kr5wy_, kr6wy_⟩ := kr_1.facts
       have hwq1 := hwq0.trans (hbp1.mono hwq0.size))
    | (go_at_call 51
       refine (rmake (a.s != b.s) X Y xc yc xs ys _ (by first | exact hX_1 | exact hX_1.drew | exact hX_1.alloc _ | exact (hX_1.alloc _).drew | exact hX_1.drew.alloc _) (by first | exact hY | exact hY.drew | exact hY.alloc _ | exact (hY.alloc _).drew | exact hY.drew.alloc _) mx_ my_ (by omega) (by omega) hyp).mono ?_
       rintro e wm_ ⟨g, rfl, hg, hg1, hg2, hbm⟩
       rw [HVX.out, HVY.out, HQ.out] at hg
       have hbp2 : Below wy_.heap.size wy_ wm_ := by first | exact hbm | exact below_of_drew hbm (Nat.le_refl _) | exact ((Below.refl _ _).alloc (Nat.le_refl _) _).trans (hbm.mono (by simp)) | exact ((Below.refl _ _).alloc (Nat.le_refl _) _).trans ((below_of_drew hbm (Nat.le_refl _)).mono (by simp)) | exact below_of_drew (((Below.refl _ _).alloc (Nat.le_refl _) _).trans (hbm.mono (by simp))) (Nat.le_refl _)
       have hna_2 := hna_1.below hbp2
       have hda_2 := hda_1.below hbp2
       have hnb_2 := hnb_1.below hbp2
       have hdb_2 := hdb_1.below hbp2
       have hX_2 := hX_1.below hbp2
       have hY_2 := hY.below hbp2
       have ka_2 := ka_1.below hbp2
       obtain ⟨ka0wm_, ka1wm_, ka2wm_, ka3wm_, ka4wm_, ka5wm_, ka6wm_⟩ := ka_2.facts
       have kb_2 := kb_1.below hbp2
       obtain ⟨kb0wm_, kb1wm_, kb2wm_, kb3wm_, kb4wm_, kb5wm_, kb6wm_⟩ := kb_2.facts
       have kr_2 := kr_1.below hbp2
       obtain ⟨kr0wm_, kr1wm_, kr2wm_, kr3wm_, kr4wm_, kr5wm_, kr6wm_⟩ := kr_2.facts
       have hwq2 := hwq1.trans (hbp2.mono hwq1.size)))
  all_goals
    go_wp2_with fail
    refine bodyPost_ret (v := .agg #[.bool g.s, .slice g.N g.ns.length g.nc, .slice g.D g.ds.length g.dc]) (by simp [results, Tryz.results20, go_sem, kr0wm_, kr1wm_, kr2wm_]) rfl ?_
    exact RefP.put g hg kr_2 (by omega) hwq2 (by omega) (by omega)
set_option maxHeartbeats 1600000 in
theorem rdivq (a b : RL) (p q : Rat) (w : World) (ha : a.Ref w p) (hb_ : b.Ref w q) (bl : a.ns.length + a.ds.length + b.ns.length + b.ds.length ≤ 9000) (hn : 0 < VD b.ns) :
    Calls Tryz.prog 26 #[.agg #[.bool a.s, .slice a.N a.ns.length a.nc, .slice a.D a.ds.length a.dc], .agg #[.bool b.s, .slice b.N b.ns.length b.nc, .slice b.D b.ds.length b.dc]] w (RefP (p / q) (a.ns.length + b.ds.length + 1) (a.ds.length + b.ns.length + 1) w) := by
  go_enter Tryz.func26, Tryz.ntmps26
  go_wp2_with fail
  have hbox := boxes3 30 w (.bool a.s) (.slice a.N a.ns.length a.nc) (.slice a.D a.ds.length a.dc) (.bool b.s) (.slice b.N b.ns.length b.nc) (.slice b.D b.ds.length b.dc) (.bool false) (.slice none 0 0) (.slice none 0 0)
  obtain ⟨w1, hwe⟩ : ∃ x, ((w.alloc (.cells #[.bool a.s, .slice a.N a.ns.length a.nc, .slice a.D a.ds.length a.dc] 30)).alloc (.cells #[.bool b.s, .slice b.N b.ns.length b.nc, .slice b.D b.ds.length b.dc] 30)).alloc (.cells #[.bool false, .slice none 0 0, .slice none 0 0] 30) = x := ⟨_, rfl⟩
  rw [hwe] at hbox ⊢
  obtain ⟨ka1, kb1, kr1, hb1⟩ := hbox
  have HWE := Lib.hid hwe
  clear hwe HWE
  have ha1 := ha.below hb1
  have hb_1 := hb_.below hb1
  have hw1 := hb1
  clear ha hb_ hb1
  obtain ⟨a0, a1, a2, a3, a4, a5, a6⟩ := ka1.facts
  obtain ⟨b0, b1, b2, b3, b4, b5, b6⟩ := kb1.facts
  go_wp2_with fail
  refine (rmulq a ⟨b.s, b.D, b.dc, b.ds, b.N, b.nc, b.ns⟩ p q⁻¹ _ ha1 (hb_1.inv hn) (by dsimp only; omega)).mono ?_
  rintro e w2 ⟨g, rfl, hg2, hl1, hl2, hb2⟩
  have ha2 := ha1.below hb2
  have hb_2 := hb_1.below hb2
  have ka2 := ka1.below hb2
  have kb2 := kb1.below hb2
  have kr2 := kr1.below hb2
  have hw2 := hw1.trans (hb2.mono hw1.size)
  clear ha1 hb_1 ka1 kb1 kr1 hw1 hb2
  clear a0 a1 a2 a3 a4 a5 a6 b0 b1 b2 b3 b4 b5 b6
  obtain ⟨c0, c1, c2, c3, c4, c5, c6⟩ := kr2.facts
  go_wp2_with fail
  refine bodyPost_ret (v := .agg #[.bool g.s, .slice g.N g.ns.length g.nc, .slice g.D g.ds.length g.dc]) (by simp [results, Tryz.results26, go_sem, c0, c1, c2]) rfl ?_
  exact RefP.put g hg2 kr2 (by omega) hw2 hl1 hl2
end Go.Proofs.YtopppmlkddajjaaGreatDoor


/- rat.rounded, Floor, Down, Up. -/
namespace Go.Proofs.YtopppmlkddajjaaGreatDoor
open Go.RowKit V

/-- n/d to the whole number below, or above where a rest is left. -/
def rnd (n d : Nat) (away : Bool) : Nat := n / d + (if (away && decide (0 < n % d)) then 1 else 0)
end Go.Proofs.YtopppmlkddajjaaGreatDoor

