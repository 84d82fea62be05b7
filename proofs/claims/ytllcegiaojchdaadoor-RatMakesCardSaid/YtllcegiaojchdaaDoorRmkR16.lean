/- rat.Valid. -/
import Derived.Test.YtllcegiaojchdaaDoorRmkR15
namespace Go.Proofs.YtllcegiaojchdaaDoor
open Go.RowKit V

/-- Which numbers are valid. -/
def RVal (s : Bool) (ns ds : List Nat) : Prop := Ok ns ∧ Ok ds ∧ 0 < ds.length ∧ (s = true → 0 < ns.length) ∧ Nat.gcd (V32 ns) (V32 ds) = 1
theorem RL.Is.okv {w : World} {a : RL} {q : Rat} (h : a.Is w q) (l1 : a.ns.length ≤ 4096) (l2 : a.ds.length ≤ 4096) : RVal a.s a.ns a.ds := by
  refine ⟨⟨l1, h.mn.2⟩, ⟨l2, h.md.2⟩, h.dpos, fun hs => ?_, h.q.cop⟩
  rcases Nat.eq_zero_or_pos a.ns.length with h0 | h0
  · have := h.q.zero (by rw [List.eq_nil_of_length_eq_zero h0]; simp [V32, val])
    rw [hs] at this; cases this
  · exact h0
theorem RVal.is {w : World} {s : Bool} {N D : Option Addr} {nc dc : Nat} {ns ds : List Nat} (h : RVal s ns ds) (rn : Rd .u32 w N ns) (rd : Rd .u32 w D ds) (cn : ns.length ≤ nc) (cd : ds.length ≤ dc) (dn : Dig 4294967296 ns) (dd : Dig 4294967296 ds) :
    RL.Is w ⟨s, N, nc, ns, D, dc, ds⟩ (mkRat (sgn s (V32 ns)) (V32 ds)) := by
  obtain ⟨h1, h2, h3, h4, h5⟩ := h
  have mn : Mag ns := ⟨dn, h1.2⟩
  have md : Mag ds := ⟨dd, h2.2⟩
  refine ⟨rn, rd, mn, md, cn, cd, QOf.mk_ (V32_pos md h3) h5 fun h0 => ?_⟩
  cases s with
  | false => rfl
  | true => have := V32_pos mn (h4 rfl); dsimp only at h0; omega

set_option maxHeartbeats 400000 in
theorem qvalid_no1 (s : Bool) (N D : Option Addr) (nc dc : Nat) (ns ds : List Nat) (w : World) (rn : Rd .u32 w N ns) (h : ¬ Ok ns) :
    Calls Tryd.prog 67 #[.agg #[.bool s, .slice N ns.length nc, .slice D ds.length dc]] w (Gives (.bool false) w) := by
  have hb : Below w.heap.size w (w.alloc (.cells #[.bool s, .slice N ns.length nc, .slice D ds.length dc] 43)) := (Below.refl _ _).alloc (Nat.le_refl _) _
  go_enter Tryd.func67, Tryd.ntmps67
  go_wp2_with fail
  refine (valid_no N nc ns _ (rn.below hb) h).mono ?_
  rintro e w1 ⟨rfl, rfl⟩
  go_wp2
  go_ret
  exact ⟨rfl, hb⟩
set_option maxHeartbeats 400000 in
theorem qvalid_no2 (s : Bool) (N D : Option Addr) (nc dc : Nat) (ns ds : List Nat) (w : World) (rn : Rd .u32 w N ns) (rd : Rd .u32 w D ds) (h1 : Ok ns) (h : ¬ Ok ds) :
    Calls Tryd.prog 67 #[.agg #[.bool s, .slice N ns.length nc, .slice D ds.length dc]] w (Gives (.bool false) w) := by
  have hb : Below w.heap.size w (w.alloc (.cells #[.bool s, .slice N ns.length nc, .slice D ds.length dc] 43)) := (Below.refl _ _).alloc (Nat.le_refl _) _
  go_enter Tryd.func67, Tryd.ntmps67
  go_wp2_with fail
  refine (valid_yes N nc ns _ (rn.below hb) h1).mono ?_
  rintro e w1 ⟨rfl, rfl⟩
  go_wp2_with fail
  refine (valid_no D dc ds _ (rd.below hb) h).mono ?_
  rintro e w1 ⟨rfl, rfl⟩
  go_wp2
  go_ret
  exact ⟨rfl, hb⟩
set_option maxHeartbeats 800000 in
theorem qvalid_no3 (s : Bool) (N D : Option Addr) (nc dc : Nat) (ns ds : List Nat) (w : World) (rn : Rd .u32 w N ns) (rd : Rd .u32 w D ds) (h1 : Ok ns) (h2 : Ok ds) (h : ds.length = 0 ∨ (0 < ds.length ∧ s = true ∧ ns.length = 0)) :
    Calls Tryd.prog 67 #[.agg #[.bool s, .slice N ns.length nc, .slice D ds.length dc]] w (Gives (.bool false) w) := by
  have hb : Below w.heap.size w (w.alloc (.cells #[.bool s, .slice N ns.length nc, .slice D ds.length dc] 43)) := (Below.refl _ _).alloc (Nat.le_refl _) _
  have V1 := Lib.hid (valid_yes N nc ns _ (rn.below hb) h1)
  have V2 := Lib.hid (valid_yes D dc ds _ (rd.below hb) h2)
  rcases h with h | ⟨h, rfl, h3⟩
  · obtain rfl : ds = [] := List.eq_nil_of_length_eq_zero h
    go_enter Tryd.func67, Tryd.ntmps67
    go_wp2_with fail
    refine V1.out.mono ?_
    rintro e w1 ⟨rfl, rfl⟩
    go_wp2_with fail
    refine V2.out.mono ?_
    rintro e w1 ⟨rfl, rfl⟩
    go_wp2
    go_ret
    exact ⟨rfl, hb⟩
  · obtain rfl : ns = [] := List.eq_nil_of_length_eq_zero h3
    have hne : ((ds.length : Int) == 0) = false := beq_eq_false_iff_ne.2 (by omega)
    go_enter Tryd.func67, Tryd.ntmps67
    go_wp2_with fail
    refine V1.out.mono ?_
    rintro e w1 ⟨rfl, rfl⟩
    go_wp2_with fail
    refine V2.out.mono ?_
    rintro e w1 ⟨rfl, rfl⟩
    go_wp2
    go_ret
    exact ⟨rfl, hb⟩

set_option maxRecDepth 100000 in
set_option maxHeartbeats 1600000 in
theorem qvalid_gcd (s : Bool) (N D : Option Addr) (nc dc : Nat) (ns ds : List Nat) (w : World) (rn : Rd .u32 w N ns) (rd : Rd .u32 w D ds) (cn : ns.length ≤ nc) (cd : ds.length ≤ dc) (dn : Dig 4294967296 ns) (dd : Dig 4294967296 ds) (h1 : Ok ns) (h2 : Ok ds) (hpos : 0 < ds.length) (hs : s = true → 0 < ns.length) (r : Bool) (hv : r = true ↔ Nat.gcd (V32 ns) (V32 ds) = 1) :
    Calls Tryd.prog 67 #[.agg #[.bool s, .slice N ns.length nc, .slice D ds.length dc]] w (Gives (.bool r) w) := by
  have mn : Mag ns := ⟨dn, h1.2⟩
  have md : Mag ds := ⟨dd, h2.2⟩
  have l1 := h1.1
  have l2 := h2.1
  have HR := Lib.hid hv
  clear hv
  have hk := Blk3.new w (.bool s) (.slice N ns.length nc) (.slice D ds.length dc)
  have hb : Below w.heap.size w (w.alloc (.cells #[.bool s, .slice N ns.length nc, .slice D ds.length dc] 43)) := (Below.refl _ _).alloc (Nat.le_refl _) _
  have V1 := Lib.hid (valid_yes N nc ns _ (rn.below hb) h1)
  have V2 := Lib.hid (valid_yes D dc ds _ (rd.below hb) h2)
  have hne : ((ds.length : Int) == 0) = false := beq_eq_false_iff_ne.2 (by omega)
  have hsn : s = false ∨ (s = true ∧ ((ns.length : Int) == 0) = false) := by
    cases s with
    | false => exact .inl rfl
    | true => exact .inr ⟨rfl, beq_eq_false_iff_ne.2 (by have := hs rfl; omega)⟩
  have HS := Lib.hid hs
  clear hs
  rcases hsn with rfl | ⟨rfl, hsn⟩
  all_goals
    go_enter Tryd.func67, Tryd.ntmps67
    go_wp2_with fail
    refine V1.out.mono ?_
    rintro e w1 ⟨rfl, rfl⟩
    go_wp2_with fail
    refine V2.out.mono ?_
    rintro e w1 ⟨rfl, rfl⟩
    go_wp2_with fail
    refine (isone_any D dc ds _ (rd.below hb) (by omega) md).mono ?_
    rintro e w2 ⟨he, n2, hwe⟩
    obtain ⟨o, ho⟩ : ∃ o, Hid (decide (V32 ds = 1) = o) := ⟨_, Lib.hid rfl⟩
    rw [ho.out] at he
    subst he
    have hb2 : Below w.heap.size w w2 := by rw [hwe]; exact below_drew_ hb n2
    have hk2 := hk.below (w' := w2) (by rw [hwe]; exact below_drew_ (Below.refl _ _) n2)
    clear hwe
    obtain ⟨a0, a1, a2, a3, a4, a5, a6⟩ := hk2.facts
    cases o
    · go_wp2_with fail
      refine (qgcd N D nc dc ns ds _ (rn.below hb2) (rd.below hb2) cn cd l1 l2 mn md).mono ?_
      rintro e w3 ⟨G, gc, gs, rfl, hgc, hg, hb3, hvg, mg⟩
      have hgl : gs.length ≤ ds.length := md.len_le mg (by rw [hvg]; exact Nat.gcd_le_right _ (V32_pos md hpos))
      have hrg : Hid (decide (V32 gs = 1) = r) := by show _ = _; rw [Bool.eq_iff_iff, decide_eq_true_iff, hvg, HR.out]
      clear hvg
      go_wp2_with fail
      refine (isone_any G gc gs _ hg (by omega) mg).mono ?_
      rintro e w4 ⟨he, n4, hwe⟩
      rw [hrg.out] at he
      subst he
      have hb4 : Below w.heap.size w w4 := by rw [hwe]; exact below_drew_ (hb2.trans (hb3.mono hb2.size)) n4
      clear hwe
      go_wp2
      go_ret
      exact ⟨rfl, hb4⟩
    · have hrt : Hid (true = r) := by
        show _ = _
        exact (HR.out.2 (by rw [of_decide_eq_true ho.out, Nat.gcd_one_right])).symm
      go_wp2
      go_ret
      exact ⟨ret_bool hrt.out, hb2⟩

theorem qvalid (s : Bool) (N D : Option Addr) (nc dc : Nat) (ns ds : List Nat) (w : World) (rn : Rd .u32 w N ns) (rd : Rd .u32 w D ds) (cn : ns.length ≤ nc) (cd : ds.length ≤ dc) (dn : Dig 4294967296 ns) (dd : Dig 4294967296 ds) (v : Bool) (hv : v = true ↔ RVal s ns ds) :
    Calls Tryd.prog 67 #[.agg #[.bool s, .slice N ns.length nc, .slice D ds.length dc]] w (Gives (.bool v) w) := by
  have hf : ¬ RVal s ns ds → v = false := fun h => by cases v with
    | false => rfl
    | true => exact absurd (hv.1 rfl) h
  by_cases h1 : Ok ns
  · by_cases h2 : Ok ds
    · by_cases h3 : ds.length = 0 ∨ (0 < ds.length ∧ s = true ∧ ns.length = 0)
      · rw [hf fun h => by rcases h3 with h3 | ⟨_, h3, h4⟩
                           · have := h.2.2.1; omega
                           · have := h.2.2.2.1 h3; omega]
        exact qvalid_no3 s N D nc dc ns ds w rn rd h1 h2 h3
      · have hpos : 0 < ds.length := by omega
        have hs : s = true → 0 < ns.length := fun h => by
          rcases Nat.eq_zero_or_pos ns.length with h0 | h0
          · exact absurd (.inr ⟨hpos, h, h0⟩) h3
          · exact h0
        exact qvalid_gcd s N D nc dc ns ds w rn rd cn cd dn dd h1 h2 hpos hs v (hv.trans ⟨fun h => h.2.2.2.2, fun h => ⟨h1, h2, hpos, hs, h⟩⟩)
    · rw [hf fun h => h2 h.2.1]; exact qvalid_no2 s N D nc dc ns ds w rn rd h1 h2
  · rw [hf fun h => h1 h.1]; exact qvalid_no1 s N D nc dc ns ds w rn h1
theorem qvalid_yes (a : RL) (q : Rat) (w : World) (h : a.Is w q) (l1 : a.ns.length ≤ 4096) (l2 : a.ds.length ≤ 4096) :
    Calls Tryd.prog 67 #[.agg #[.bool a.s, .slice a.N a.ns.length a.nc, .slice a.D a.ds.length a.dc]] w (Gives (.bool true) w) :=
  qvalid a.s a.N a.D a.nc a.dc a.ns a.ds w h.rn h.rd h.cn h.cd h.mn.1 h.md.1 true ⟨fun _ => h.okv l1 l2, fun _ => rfl⟩
theorem Add_same (a b : RL) (p q : Rat) (w : World) (ha : a.Is w p) (hb_ : b.Is w q) (bl : a.ns.length + a.ds.length + b.ns.length + b.ds.length ≤ 2000) (hs : a.s = b.s) :
    Calls Tryd.prog 41 #[.agg #[.bool a.s, .slice a.N a.ns.length a.nc, .slice a.D a.ds.length a.dc], .agg #[.bool b.s, .slice b.N b.ns.length b.nc, .slice b.D b.ds.length b.dc]] w (RatOk (p + q) (a.ns.length + a.ds.length + b.ns.length + b.ds.length + 1) w) :=
  Add_of a b p q w ha hb_ bl (by rw [hs]; exact ssum_same _) (fun W h => qvalid_yes a p W h (by omega) (by omega)) (fun W h => qvalid_yes b q W h (by omega) (by omega))
end Go.Proofs.YtllcegiaojchdaaDoor


/- rat.Make, rat.From and isochroneref02.Make. -/
namespace Go.Proofs.YtllcegiaojchdaaDoor
open Go.RowKit V

set_option maxHeartbeats 400000 in
theorem make_form1 (s : Bool) (N D : Option Addr) (nc dc : Nat) (ns ds : List Nat) (w : World) (hn : Rd .u32 w N ns) (h : ¬ Ok ns) :
    Calls Tryd.prog 21 #[.bool s, .slice N ns.length nc, .slice D ds.length dc] w (RatErr 3 w) := by
  go_enter Tryd.func21, Tryd.ntmps21
  go_wp2_with fail
  refine (valid_no N nc ns _ (hn.alloc _) h).mono ?_
  rintro e w1 ⟨rfl, rfl⟩
  go_wp2_with fail
  exact bodyPost_ret (v := .tuple #[.agg #[.bool false, .slice none 0 0, .slice none 0 0], .int .i64 3]) (by simp [results, Tryd.results21, go_sem]) rfl ⟨rfl, (Below.refl _ _).alloc (Nat.le_refl _) _⟩
set_option maxHeartbeats 400000 in
theorem make_form2 (s : Bool) (N D : Option Addr) (nc dc : Nat) (ns ds : List Nat) (w : World) (hn : Rd .u32 w N ns) (hd : Rd .u32 w D ds) (h1 : Ok ns) (h : ¬ Ok ds) :
    Calls Tryd.prog 21 #[.bool s, .slice N ns.length nc, .slice D ds.length dc] w (RatErr 3 w) := by
  go_enter Tryd.func21, Tryd.ntmps21
  go_wp2_with fail
  refine (valid_yes N nc ns _ (hn.alloc _) h1).mono ?_
  rintro e w1 ⟨rfl, rfl⟩
  go_wp2_with fail
  refine (valid_no D dc ds _ (hd.alloc _) h).mono ?_
  rintro e w1 ⟨rfl, rfl⟩
  go_wp2_with fail
  exact bodyPost_ret (v := .tuple #[.agg #[.bool false, .slice none 0 0, .slice none 0 0], .int .i64 3]) (by simp [results, Tryd.results21, go_sem]) rfl ⟨rfl, (Below.refl _ _).alloc (Nat.le_refl _) _⟩
theorem make_form (s : Bool) (N D : Option Addr) (nc dc : Nat) (ns ds : List Nat) (w : World) (hn : Rd .u32 w N ns) (hd : Rd .u32 w D ds) (h : ¬ (Ok ns ∧ Ok ds)) : Calls Tryd.prog 21 #[.bool s, .slice N ns.length nc, .slice D ds.length dc] w (RatErr 3 w) := by
  by_cases h1 : Ok ns
  · exact make_form2 s N D nc dc ns ds w hn hd h1 (fun h2 => h ⟨h1, h2⟩)
  · exact make_form1 s N D nc dc ns ds w hn h1
set_option maxHeartbeats 400000 in
theorem make_zero (s : Bool) (N D : Option Addr) (nc dc : Nat) (ns : List Nat) (w : World) (hn : Rd .u32 w N ns) (h1 : Ok ns) :
    Calls Tryd.prog 21 #[.bool s, .slice N ns.length nc, .slice D 0 dc] w (RatErr 20 w) := by
  have h2 : Ok ([] : List Nat) := ⟨by simp, nrm_nil⟩
  go_enter Tryd.func21, Tryd.ntmps21
  go_wp2_with fail
  refine (valid_yes N nc ns _ (hn.alloc _) h1).mono ?_
  rintro e w1 ⟨rfl, rfl⟩
  go_wp2_with fail
  refine (valid_yes D dc [] _ Rd.nil_ h2).mono ?_
  rintro e w1 ⟨rfl, rfl⟩
  go_wp2_with fail
  exact bodyPost_ret (v := .tuple #[.agg #[.bool false, .slice none 0 0, .slice none 0 0], .int .i64 20]) (by simp [results, Tryd.results21, go_sem]) rfl ⟨rfl, (Below.refl _ _).alloc (Nat.le_refl _) _⟩
set_option maxHeartbeats 1600000 in
theorem make_ok (s : Bool) (N D : Option Addr) (nc dc : Nat) (ns ds : List Nat) (w : World) (hn : Rd .u32 w N ns) (hd : Rd .u32 w D ds) (cd : ds.length ≤ dc) (dn : Dig 4294967296 ns) (dd : Dig 4294967296 ds) (h1 : Ok ns) (h2 : Ok ds) (hpos : 0 < ds.length) :
    Calls Tryd.prog 21 #[.bool s, .slice N ns.length nc, .slice D ds.length dc] w (RatOk (mkRat (sgn s (V32 ns)) (V32 ds)) (max ns.length ds.length) w) := by
  have hne : ((ds.length : Int) == 0) = false := beq_eq_false_iff_ne.2 (by omega)
  go_enter Tryd.func21, Tryd.ntmps21
  go_wp2_with fail
  obtain ⟨w1, hwe⟩ : ∃ x, w.alloc (.cells #[.bool false, .slice none 0 0, .slice none 0 0] 43) = x := ⟨_, rfl⟩
  have kr1 := Blk3.new w (.bool false) (.slice none 0 0) (.slice none 0 0)
  have hb1 : Below w.heap.size w (w.alloc (.cells #[.bool false, .slice none 0 0, .slice none 0 0] 43)) := (Below.refl _ _).alloc (Nat.le_refl _) _
  rw [hwe] at kr1 hb1 ⊢
  clear hwe
  have hn1 := hn.below hb1
  have hd1 := hd.below hb1
  have hw1 := hb1
  clear hn hd hb1
  refine (valid_yes N nc ns _ hn1 h1).mono ?_
  rintro e w' ⟨rfl, rfl⟩
  go_wp2_with fail
  refine (valid_yes D dc ds _ hd1 h2).mono ?_
  rintro e w' ⟨rfl, rfl⟩
  go_wp2_with fail
  refine (reduced_any s N D nc dc ns ds _ hn1 hd1 cd h1.1 h2.1 ⟨dn, h1.2⟩ ⟨dd, h2.2⟩ hpos).mono ?_
  rintro e w2 ⟨r, rfl, hr2, hl1, hl2, hb2⟩
  have hn2 := hn1.below hb2
  have hd2 := hd1.below hb2
  have kr2 := kr1.below hb2
  have hw2 := hw1.trans (hb2.mono hw1.size)
  clear hn1 hd1 kr1 hw1 hb2
  go_wp2_with fail
  refine (qfit r _ (max ns.length ds.length) _ hr2 hl1 hl2 (by have := h1.1; have := h2.1; omega)).mono ?_
  rintro e w3 ⟨t, rfl, ht3, hm1, hm2, hb3⟩
  have hn3 := hn2.below hb3
  have hd3 := hd2.below hb3
  have kr3 := kr2.below hb3
  have hr3 := hr2.below hb3
  have hw3 := hw2.trans (hb3.mono hw2.size)
  clear hn2 hd2 kr2 hr2 hw2 hb3
  obtain ⟨c0, c1, c2, c3, c4, c5, c6⟩ := kr3.facts
  go_wp2_with fail
  refine bodyPost_ret (v := .tuple #[.agg #[.bool t.s, .slice t.N t.ns.length t.nc, .slice t.D t.ds.length t.dc], .int .i64 0]) (by simp [results, Tryd.results21, go_sem, c0, c1, c2]) rfl ?_
  exact RatOk.put t ht3 kr3 (by omega) hw3 hm1 hm2

theorem qof_int (N : Int) {m : Nat} (h : m = N.natAbs) : QOf (decide (N < 0)) m 1 (mkRat N 1) := by
  have e : N = sgn (decide (N < 0)) m := by
    unfold sgn
    by_cases h0 : N < 0
    · simp [h0]; omega
    · simp [h0]; omega
  have h2 := QOf.mk_ (neg := decide (N < 0)) (n := m) (d := 1) (by omega) (Nat.gcd_one_right _) (fun h0 => by simp; omega)
  rwa [← e] at h2
theorem u64_wrap (n : Int) (h : -9223372036854775808 ≤ n ∧ n ≤ 9223372036854775807) : ∃ u m : Nat, Hid (IntKind.u64.wrap n = u) ∧ Hid (n < 0 → IntKind.u64.wrap (-(u : Int)) = m) ∧ Hid (m = n.natAbs) ∧ Hid (0 ≤ n → u = m) ∧ Hid (m < 18446744073709551616) ∧ Hid (u < 18446744073709551616) := by
  have e : ∀ x : Int, IntKind.u64.wrap x = x % 18446744073709551616 := fun x => by simp [IntKind.wrap, IntKind.signed, IntKind.bits]
  refine ⟨(n % 18446744073709551616).toNat, n.natAbs, ?_, ?_, Lib.hid rfl, ?_, ?_, ?_⟩
  · show _ = _; rw [e]; omega
  · show _ → _ = _; rw [e]; omega
  · show _ → _ = _; omega
  · show _ < _; omega
  · show _ < _; omega
set_option maxRecDepth 100000 in
set_option maxHeartbeats 800000 in
theorem qfrom (n : Int) (w : World) (hn : -9223372036854775808 ≤ n ∧ n ≤ 9223372036854775807) :
    Calls Tryd.prog 22 #[.int .i64 n] w (RatP (mkRat n 1) 2 w) := by
  obtain ⟨u, m, hu, hm, hmn, hum, hml, hul⟩ := u64_wrap n hn
  have HN := Lib.hid hn
  clear hn
  have hq := Lib.hid (qof_int n hmn.out)
  have e1 := hu.out
  by_cases h0 : n < 0
  · have e2 := hm.out h0
    have hd : decide (n < 0) = true := decide_eq_true h0
    have HD := Lib.hid hd
    go_enter Tryd.func22, Tryd.ntmps22
    go_wp2_with fail
    refine (from_any m _ (hml.out)).mono ?_
    rintro e w1 ⟨X, xc, xs, rfl, hxc, hX, hb1, hvx, mx, hxl⟩
    have HVX := Lib.hid hvx
    have kr1 := (Blk3.new w (.bool false) (.slice none 0 0) (.slice none 0 0)).below hb1
    have hw1 : Below w.heap.size w w1 := ((Below.refl _ _).alloc (Nat.le_refl _) _).trans (hb1.mono (by simp))
    clear hvx hb1
    go_wp2_with fail
    refine (from_any 1 _ (by omega)).mono ?_
    rintro e w2 ⟨Y, yc, ys, rfl, hyc, hY, hb2, hvy, my, hyl⟩
    have HVY := Lib.hid hvy
    have kr2 := kr1.below hb2
    have hX2 := hX.below hb2
    have hw2 := hw1.trans (hb2.mono hw1.size)
    obtain ⟨c0, c1, c2, c3, c4, c5, c6⟩ := kr2.facts
    clear hvy hb2 hX kr1 hw1
    go_wp2_with fail
    refine bodyPost_ret (v := .agg #[.bool true, .slice X xs.length xc, .slice Y ys.length yc]) (by simp [results, Tryd.results22, go_sem, c0, c1, c2]) rfl ?_
    refine RatP.put ⟨true, X, xc, xs, Y, yc, ys⟩ ⟨hX2, hY, mx, my, hxc, hyc, ?_⟩ kr2 (Nat.le_refl _) hw2 hxl hyl
    have hqq := hq.out
    rw [HD.out] at hqq
    show QOf _ (V32 xs) (V32 ys) _
    rw [HVX.out, HVY.out]
    exact hqq
  · have hd : decide (n < 0) = false := decide_eq_false (by omega)
    have HD := Lib.hid hd
    obtain rfl := hum.out (by omega)
    go_enter Tryd.func22, Tryd.ntmps22
    go_wp2_with fail
    refine (from_any u _ (hml.out)).mono ?_
    rintro e w1 ⟨X, xc, xs, rfl, hxc, hX, hb1, hvx, mx, hxl⟩
    have HVX := Lib.hid hvx
    have kr1 := (Blk3.new w (.bool false) (.slice none 0 0) (.slice none 0 0)).below hb1
    have hw1 : Below w.heap.size w w1 := ((Below.refl _ _).alloc (Nat.le_refl _) _).trans (hb1.mono (by simp))
    clear hvx hb1
    go_wp2_with fail
    refine (from_any 1 _ (by omega)).mono ?_
    rintro e w2 ⟨Y, yc, ys, rfl, hyc, hY, hb2, hvy, my, hyl⟩
    have HVY := Lib.hid hvy
    have kr2 := kr1.below hb2
    have hX2 := hX.below hb2
    have hw2 := hw1.trans (hb2.mono hw1.size)
    obtain ⟨c0, c1, c2, c3, c4, c5, c6⟩ := kr2.facts
    clear hvy hb2 hX kr1 hw1
    go_wp2_with fail
    refine bodyPost_ret (v := .agg #[.bool false, .slice X xs.length xc, .slice Y ys.length yc]) (by simp [results, Tryd.results22, go_sem, c0, c1, c2]) rfl ?_
    refine RatP.put ⟨false, X, xc, xs, Y, yc, ys⟩ ⟨hX2, hY, mx, my, hxc, hyc, ?_⟩ kr2 (Nat.le_refl _) hw2 hxl hyl
    have hqq := hq.out
    rw [HD.out] at hqq
    show QOf _ (V32 xs) (V32 ys) _
    rw [HVX.out, HVY.out]
    exact hqq
end Go.Proofs.YtllcegiaojchdaaDoor


/- isochroneref02.Zero and Make. -/
namespace Go.Proofs.YtllcegiaojchdaaDoor
open Go.RowKit V

theorem qof_zero (s : Bool) (d : Nat) : QOf false 0 1 (mkRat (sgn s 0) d) := by
  have e : mkRat (sgn s 0) d = mkRat (sgn false 0) 1 := by cases s <;> simp [sgn]
  rw [e]
  exact QOf.mk_ (by omega) (by decide) (fun _ => rfl)
theorem nat1_rd (w : World) (k : Nat) (h : w.heap.size = k) : Rd .i64 (w.alloc (.cells #[.int .i64 1] 3)) (some ⟨k, 0, none⟩) [1] := h ▸ rd_nat1 w 1

set_option maxHeartbeats 400000 in
theorem qzero (q : Rat) (hq : QOf false 0 1 q) (w : World) : Calls Tryd.prog 49 #[] w (RefP q 0 1 w) := by
  go_enter Tryd.func49, Tryd.ntmps49
  go_wp2
  exact bodyPost_ret (v := .agg #[.bool false, .slice (some ⟨w.heap.size + 1, 0, none⟩) 0 0, .slice (some ⟨w.heap.size + 1 + 1, 0, none⟩) 1 1]) (by simp [results, Tryd.results49, go_sem]) rfl
    ⟨⟨false, some ⟨w.heap.size + 1, 0, none⟩, 0, [], some ⟨w.heap.size + 1 + 1, 0, none⟩, 1, [1]⟩, rfl, ⟨Rd.nil_, nat1_rd _ _ (by simp), nm_nil, nm_one, by simpa [VD, val] using hq⟩, Nat.le_refl _, Nat.le_refl _, (((Below.refl _ _).alloc (Nat.le_refl _) _).alloc (by simp) _).alloc (by simp; omega) _⟩

theorem len1_val {xs : List Nat} (h : xs.length = 1) {x : Nat} (e : xs.getD 0 0 = x) : VD xs = x := by
  rw [one_of_len h, e]; unfold VD; simp [val]
/-- The test whether a number is 1, part by part. -/
def OneQ (xs : List Nat) (A : Option Addr) (w : World) (p : Bool) : Prop :=
  (p = false ∧ ((xs.length : Int) == 1) = false) ∨ (∃ ad x, A = some ad ∧ xs.length = 1 ∧ VD xs = x ∧ ((x : Int) == 1) = p ∧ w.cell? ad = some (.int .i64 (x : Nat)))
theorem oneQ {xs : List Nat} {A : Option Addr} {w : World} (h : Rd .i64 w A xs) : ∃ p, OneQ xs A w p ∧ (p = true → VD xs = 1) := by
  by_cases h1 : xs.length = 1
  · obtain ⟨ad, x, hA, _, ex, hc⟩ := h.ask (i := 0) (by omega)
    rw [add_zero_] at hc
    have hv := len1_val h1 ex.out
    refine ⟨_, .inr ⟨ad, x, hA, h1, hv, rfl, hc⟩, fun h => ?_⟩
    rw [hv]
    have := eq_of_beq h
    omega
  · exact ⟨false, .inl ⟨rfl, beq_eq_false_iff_ne.2 (by omega)⟩, fun h => by cases h⟩

set_option maxRecDepth 100000 in
set_option maxHeartbeats 3200000 in
theorem rmake (s : Bool) (N D : Option Addr) (nc dc : Nat) (ns ds : List Nat) (w : World) (hn : Rd .i64 w N ns) (hd : Rd .i64 w D ds) (mn : Nm ns) (md : Nm ds) (l1 : ns.length ≤ 10000) (l2 : ds.length ≤ 10000) (hpos : 0 < ds.length) :
    Calls Tryd.prog 26 #[.bool s, .slice N ns.length nc, .slice D ds.length dc] w (RefP (mkRat (sgn s (VD ns)) (VD ds)) ns.length (max 1 ds.length) w) := by
  have hdp := VD_pos md hpos
  by_cases h0 : ns.length = 0
  · obtain rfl : ns = [] := List.eq_nil_of_length_eq_zero h0
    have kr := BlkT.new 51 w (.bool false) (.slice none 0 0) (.slice none 0 0)
    have hq : QOf false 0 1 (mkRat (sgn s (VD [])) (VD ds)) := by have := qof_zero s (VD ds); simpa [VD, val] using this
    go_enter Tryd.func26, Tryd.ntmps26
    go_wp2_with fail
    refine (qzero _ hq _).mono ?_
    rintro e w1 ⟨r, rfl, hr, hl1, hl2, hb1⟩
    have kr1 := kr.below hb1
    have hw1 : Below w.heap.size w w1 := ((Below.refl _ _).alloc (Nat.le_refl _) _).trans (hb1.mono (by simp))
    obtain ⟨c0, c1, c2, c3, c4, c5, c6⟩ := kr1.facts
    go_wp2_with fail
    refine bodyPost_ret (v := .agg #[.bool r.s, .slice r.N r.ns.length r.nc, .slice r.D r.ds.length r.dc]) (by simp [results, Tryd.results26, go_sem, c0, c1, c2]) rfl ?_
    exact RefP.put r hr kr1 (Nat.le_refl _) hw1 (by simpa using hl1) (by omega)
  · have hne : ((ns.length : Int) == 0) = false := beq_eq_false_iff_ne.2 (by omega)
    have hnp := VD_pos mn (by omega)
    have hn1 : Rd .i64 (w.alloc (.cells #[.bool false, .slice none 0 0, .slice none 0 0] 51)) N ns := hn.alloc _
    have hd1 : Rd .i64 (w.alloc (.cells #[.bool false, .slice none 0 0, .slice none 0 0] 51)) D ds := hd.alloc _
    have hw1 : Below w.heap.size w (w.alloc (.cells #[.bool false, .slice none 0 0, .slice none 0 0] 51)) := (Below.refl _ _).alloc (Nat.le_refl _) _
    have kr1 := BlkT.new 51 w (.bool false) (.slice none 0 0) (.slice none 0 0)
    obtain ⟨p, hp, hp1⟩ := oneQ hd1
    have HP1 := Lib.hid hp1
    clear hp1
    have hsame : ∀ w', Below w.heap.size w w' → VD ds = 1 ∨ Nat.gcd (VD ns) (VD ds) = 1 → RL.Ref w' ⟨s, N, nc, ns, D, dc, ds⟩ (mkRat (sgn s (VD ns)) (VD ds)) := fun w' hb h => by
      refine ⟨hn.below hb, hd.below hb, mn, md, QOf.mk_ hdp ?_ (fun h => by dsimp only at h; omega)⟩
      rcases h with h | h
      · dsimp only; rw [h]; exact Nat.gcd_one_right _
      · exact h
    have HSAME := Lib.hid hsame
    clear hsame
    cases p
    · rcases hp with ⟨_, hp⟩ | ⟨ad, x, rfl, hp1, hp2, hp, hp3⟩
      all_goals
        first
          | have hpl : ((ds.length : Int) == 1) = true := by simp [hp1]
          | skip
        first
          | (have HPQ := Lib.hid hp1
             clear hp1 hp2)
          | skip
        go_enter Tryd.func26, Tryd.ntmps26
        go_wp2_with fail
        refine (rgcd_any N _ nc dc ns ds _ hn1 hd1 (by omega) (by omega) mn md).mono ?_
        rintro e w2 ⟨G, gc, gl, rfl, hG, hng, hlg, hvg, hb2⟩
        have kr2 := kr1.below hb2
        have hn2 := hn1.below hb2
        have hd2 := hd1.below hb2
        have hw2 := hw1.trans (hb2.mono hw1.size)
        have hgp : 0 < VD gl := by rw [hvg.out]; exact Nat.gcd_pos_of_pos_left _ hnp
        have hgl : 0 < gl.length := by
          rcases Nat.eq_zero_or_pos gl.length with h | h
          · rw [List.eq_nil_of_length_eq_zero h] at hgp; simp [VD, val] at hgp
          · exact h
        have HGP := Lib.hid hgp
        obtain ⟨p2, hq, hq1⟩ := oneQ hG
        have HQ1 := Lib.hid hq1
        clear hq1 hb2 kr1 hn1 hd1 hw1 hgp hnp hdp hp
        cases p2
        · rcases hq with ⟨_, hq⟩ | ⟨gd, y, rfl, hq1, hq2, hq, hq3⟩
          all_goals
            first
              | have hql : ((gl.length : Int) == 1) = true := by simp [hq1]
              | skip
            first
              | (have HQQ := Lib.hid hq1
                 clear hq1 hq2)
              | skip
            go_wp2_with (go_quiet (fail))
            refine (rdiv_any N _ nc gc ns gl _ hn2 hG (by omega) mn hng hgl).mono ?_
            rintro e w3 ⟨X, xc, xs, X2, xc2, xs2, rfl, hX, hX2, mx, mx2, hdm, hlt, hb3⟩
            have kr3 := kr2.below hb3
            have hd3 := hd2.below hb3
            have hG3 := hG.below hb3
            have hw3 := hw2.trans (hb3.mono hw2.size)
            have hxv : Hid (VD xs = VD ns / VD gl) := (div_uniq hdm.out hlt.out).1
            have hxl : xs.length ≤ ns.length := mn.len_le mx (by rw [hxv.out]; exact Nat.div_le_self _ _)
            clear hb3 hX2 mx2 hdm hlt kr2 hw2 hd2 hq
            go_wp2_with fail
            refine (rdiv_any _ _ dc gc ds gl _ hd3 hG3 (by omega) md hng hgl).mono ?_
            rintro e w4 ⟨Y, yc, ys, Y2, yc2, ys2, rfl, hY, hY2, my, my2, hdm, hlt, hb4⟩
            have kr4 := kr3.below hb4
            have hX4 := hX.below hb4
            have hw4 := hw3.trans (hb4.mono hw3.size)
            have hyv : Hid (VD ys = VD ds / VD gl) := (div_uniq hdm.out hlt.out).1
            have hyl : ys.length ≤ ds.length := md.len_le my (by rw [hyv.out]; exact Nat.div_le_self _ _)
            clear hb4 hY2 my2 hdm hlt kr3 hw3 hd3 hX hG3
            obtain ⟨c0, c1, c2, c3, c4, c5, c6⟩ := kr4.facts
            go_wp2_with fail
            refine bodyPost_ret (v := .agg #[.bool s, .slice X xs.length xc, .slice Y ys.length yc]) (by simp [results, Tryd.results26, go_sem, c0, c1, c2]) rfl ?_
            refine RefP.put ⟨s, X, xc, xs, Y, yc, ys⟩ ⟨hX4, hY, mx, my, ?_⟩ kr4 (Nat.le_refl _) hw4 hxl (Nat.le_trans hyl (Nat.le_max_right _ _))
            have hqr := QOf.red (neg := s) (n := VD ns) (d := VD ds) (VD_pos md hpos)
            have hqp : 0 < VD ns / Nat.gcd (VD ns) (VD ds) := Nat.div_pos (Nat.gcd_le_left _ (VD_pos mn (by omega))) (Nat.gcd_pos_of_pos_right _ (VD_pos md hpos))
            rw [decide_eq_true hqp, Bool.and_true, ← hvg.out, ← hxv.out, ← hyv.out] at hqr
            exact hqr
        · rcases hq with ⟨hqf, _⟩ | ⟨gd, y, rfl, hq1, hq2, hq, hq3⟩
          · cases hqf
          · have hql : ((gl.length : Int) == 1) = true := by simp [hq1]
            have HQQ := Lib.hid hq1
            clear hq1 hq2
            obtain ⟨c0, c1, c2, c3, c4, c5, c6⟩ := kr2.facts
            go_wp2_with (go_quiet (fail))
            have hres := RefP.put ⟨s, N, nc, ns, _, dc, ds⟩ (HSAME.out _ hw2 (.inr (by rw [← hvg.out]; exact HQ1.out trivial))) kr2 (Nat.le_refl _) hw2 (Nat.le_refl _) (Nat.le_max_right 1 _)
            first
              | exact bodyPost_ret (v := .agg #[.bool s, .slice N ns.length nc, .slice D ds.length dc]) (by simp [results, Tryd.results26, go_sem, c0, c1, c2]) rfl hres
              | exact bodyPost_ret (v := .agg #[.bool s, .slice N ns.length nc, .slice (some ad) ds.length dc]) (by simp [results, Tryd.results26, go_sem, c0, c1, c2]) rfl hres
    · rcases hp with ⟨hpf, _⟩ | ⟨ad, x, rfl, hp1, hp2, hp, hp3⟩
      · cases hpf
      · have hpl : ((ds.length : Int) == 1) = true := by simp [hp1]
        have HP := Lib.hid hp1
        clear hp1 hp2
        go_enter Tryd.func26, Tryd.ntmps26
        go_wp2_with (go_quiet (fail))
        refine bodyPost_ret (v := .agg #[.bool s, .slice N ns.length nc, .slice (some ad) ds.length dc]) (by simp [results, Tryd.results26, go_sem]) rfl ?_
        refine ⟨⟨s, N, nc, ns, some ad, dc, ds⟩, rfl, HSAME.out _ ((Below.refl _ _).alloc (Nat.le_refl _) _) (.inl (HP1.out trivial)), Nat.le_refl _, Nat.le_max_right _ _, (Below.refl _ _).alloc (Nat.le_refl _) _⟩
end Go.Proofs.YtllcegiaojchdaaDoor


/- rat.Text: sign, numerator, denominator in decimal digits. -/
namespace Go.Proofs.YtllcegiaojchdaaDoor
open Go.RowKit V

/-- The text of a number. -/
def ratText (s : Bool) (n d : Nat) : List UInt8 := (if s then [45] else []) ++ Lib.decDigits n ++ (if d = 1 then [] else 47 :: Lib.decDigits d)

set_option maxHeartbeats 1600000 in
theorem qtext (a : RL) (q : Rat) (w : World) (ha : a.Is w q) (l1 : a.ns.length ≤ 4096) (l2 : a.ds.length ≤ 4096)
    (htab : Lib.TabBelow Tryd.prog w.heap.size w "internal/strconv.uint64pow10" .u64 Lib.pow10Tab) :
    Calls Tryd.prog 42 #[.agg #[.bool a.s, .slice a.N a.ns.length a.nc, .slice a.D a.ds.length a.dc]] w
      (Gives (.tuple #[.string ⟨(ratText a.s (V32 a.ns) (V32 a.ds)).toArray⟩, .int .i64 0]) w) := by
  obtain ⟨s, N, nc, ns, D, dc, ds⟩ := a
  dsimp only at l1 l2 ⊢
  obtain ⟨o, ho⟩ : ∃ o, Hid (decide (V32 ds = 1) = o) := ⟨_, Lib.hid rfl⟩
  have HT := Lib.hid htab
  clear htab
  have mn : Mag ns := ha.mn
  have md : Mag ds := ha.md
  have hk := Blk3.new w (.bool s) (.slice N ns.length nc) (.slice D ds.length dc)
  have HV := Lib.hid (qvalid_yes ⟨s, N, nc, ns, D, dc, ds⟩ q _ (ha.below ((Below.refl _ _).alloc (Nat.le_refl w.heap.size) (.cells #[.bool s, .slice N ns.length nc, .slice D ds.length dc] 43))) l1 l2)
  have hX := dec_short mn l1 (by omega)
  have hY := dec_short md l2 (by omega)
  obtain ⟨X, hXe⟩ : ∃ X, Hid (Lib.decDigits (V32 ns) = X) := ⟨_, Lib.hid rfl⟩
  obtain ⟨Y, hYe⟩ : ∃ Y, Hid (Lib.decDigits (V32 ds) = Y) := ⟨_, Lib.hid rfl⟩
  rw [hXe.out] at hX
  rw [hYe.out] at hY
  have f1 := fun W => run_string_add_lists (P := Tryd.prog) W [45] X (by simp) (by omega)
  have f2 := fun W => run_string_add_lists (P := Tryd.prog) W [47] Y (by simp) (by omega)
  have f3 := fun W => run_string_add_lists (P := Tryd.prog) W X ([47] ++ Y) (by omega) (by simp; omega)
  have f4 := fun W => run_string_add_lists (P := Tryd.prog) W ([45] ++ X) ([47] ++ Y) (by simp; omega) (by simp; omega)
  simp only [List.cons_append, List.nil_append] at f1 f2 f3 f4
  cases s <;> cases o
  all_goals
    go_enter Tryd.func42, Tryd.ntmps42
    go_wp2_with fail
    refine HV.out.mono ?_
    rintro e w1 ⟨rfl, hb1⟩
    have hk1 := hk.below hb1
    have hw1 : Below w.heap.size w w1 := ((Below.refl _ _).alloc (Nat.le_refl _) _).trans (hb1.mono (by simp))
    have rn1 : Rd .u32 w1 N ns := ha.rn.below hw1
    have rd1 : Rd .u32 w1 D ds := ha.rd.below hw1
    have HT1 : Hid (Lib.TabBelow Tryd.prog w1.heap.size w1 "internal/strconv.uint64pow10" .u64 Lib.pow10Tab) := fun w' h => HT.out w' (hw1.trans (h.mono hw1.size))
    obtain ⟨a0, a1, a2, a3, a4, a5, a6⟩ := hk1.facts
    clear hb1
    go_wp2_with fail
    refine (text_any N nc ns _ rn1 mn l1 HT1.out).mono ?_
    rintro e w2 ⟨he, hb2⟩
    rw [hXe.out] at he
    subst he
    have hk2 := hk1.below hb2
    have hw2 := hw1.trans (hb2.mono hw1.size)
    have rd2 := rd1.below hb2
    have HT2 : Hid (Lib.TabBelow Tryd.prog w2.heap.size w2 "internal/strconv.uint64pow10" .u64 Lib.pow10Tab) := fun w' h => HT.out w' (hw2.trans (h.mono hw2.size))
    clear a0 a1 a2 a3 a4 a5 a6 hb2 hk1 rn1 rd1
    obtain ⟨a0, a1, a2, a3, a4, a5, a6⟩ := hk2.facts
    go_wp2_with fail
    refine (isone_any D dc ds _ rd2 (by omega) md).mono ?_
    rintro e w3 ⟨he, n3, hwe⟩
    rw [ho.out] at he
    subst he
    have hb3 : Below w2.heap.size w2 w3 := by rw [hwe]; exact below_drew_ (Below.refl _ _) n3
    have hk3 := hk2.below hb3
    have hw3 := hw2.trans (hb3.mono hw2.size)
    have rd3 := rd2.below hb3
    have HT3 : Hid (Lib.TabBelow Tryd.prog w3.heap.size w3 "internal/strconv.uint64pow10" .u64 Lib.pow10Tab) := fun w' h => HT.out w' (hw3.trans (h.mono hw3.size))
    clear a0 a1 a2 a3 a4 a5 a6 hb3 hk2 hwe rd2
    obtain ⟨a0, a1, a2, a3, a4, a5, a6⟩ := hk3.facts
    go_wp2_with fail
    first
      | (go_ret2
         exact ⟨by unfold ratText; rw [hXe.out, of_decide_eq_true ho.out]; simp, hw3⟩)
      | (refine (text_any D dc ds _ rd3 md l2 HT3.out).mono ?_
         rintro e w4 ⟨he, hb4⟩
         rw [hYe.out] at he
         subst he
         go_wp2_with fail
         go_ret2
         exact ⟨by unfold ratText; rw [hXe.out, hYe.out, if_neg (of_decide_eq_false ho.out)]; simp, hw3.trans (hb4.mono hw3.size)⟩)
end Go.Proofs.YtllcegiaojchdaaDoor


/- isochronelaw02.awake answers true. -/
namespace Go.Proofs.YtllcegiaojchdaaDoor
open Go.RowKit V

theorem half_third : mkRat 1 2 + mkRat 1 3 = mkRat 5 6 := by
  rw [mkRat_add _ _ _ _ (by omega) (by omega)]; rfl
theorem text_56 : ratText false 5 6 = [53, 47, 54] := by
  unfold ratText
  simp [Lib.decDigits]
theorem q56 {s : Bool} {n d : Nat} (h : QOf s n d (mkRat 1 2 + mkRat 1 3)) : s = false ∧ n = 5 ∧ d = 6 := by
  rw [half_third] at h
  exact h.inj (QOf.mk_ (neg := false) (n := 5) (d := 6) (by omega) (by decide) (by simp))

theorem lit_at (W : World) (k : Nat) (xs : List Nat) (h : W.heap.size = k) : Rd .u32 (lit W xs) (some ⟨k, 0, none⟩) xs := h ▸ lit_rd W xs
/-- Two numbers as the check lays them. -/
theorem lits_is (W : World) (k n d : Nat) (o : Obj) (h : W.heap.size = k) (hn : 0 < n) (hn2 : n < 4294967296) (hd : 0 < d) (hd2 : d < 4294967296) (hc : Nat.Coprime n d) :
    RL.Is ((lit (lit W [n]) [d]).alloc o) ⟨false, some ⟨k, 0, none⟩, 1, [n], some ⟨k + 1, 0, none⟩, 1, [d]⟩ (mkRat n d) := by
  refine ⟨((lit_at W k [n] h).alloc _).alloc _, (lit_at (lit W [n]) (k + 1) [d] (by rw [lit_size, h])).alloc _, mag_one n hn2 (by omega), mag_one d hd2 (by omega), Nat.le_refl _, Nat.le_refl _, ?_⟩
  show QOf false (V32 [n]) (V32 [d]) _
  rw [V32_one, V32_one]
  exact QOf.mk_ (neg := false) hd hc (fun _ => rfl)

set_option maxRecDepth 100000 in
set_option maxHeartbeats 800000 in
theorem qawake_yes (w : World) (htab : Lib.TabBelow Tryd.prog w.heap.size w "internal/strconv.uint64pow10" .u64 Lib.pow10Tab) :
    Calls Tryd.prog 20 #[] w (Yes w) := by
  have HT := Lib.hid htab
  clear htab
  have h1 := fun o => lits_is w w.heap.size 1 2 o rfl (by omega) (by omega) (by omega) (by omega) (by decide)
  have hb1 : ∀ o, Below w.heap.size w ((lit (lit w [1]) [2]).alloc o) := fun o => (((Below.refl _ _).alloc (Nat.le_refl _) _).alloc (by simp) _).alloc (by simp; omega) _
  have hs1 : ∀ o, ((lit (lit w [1]) [2]).alloc o).heap.size = w.heap.size + 1 + 1 + 1 := fun o => by simp
  have HH := Lib.hid h1
  have HB := Lib.hid hb1
  have HS := Lib.hid hs1
  clear h1 hb1 hs1
  go_enter Tryd.func20, Tryd.ntmps20
  go_wp2_with fail
  obtain ⟨W, hW, hWB, hWS⟩ : ∃ W, W = (lit (lit w [1]) [2]).alloc (.cells #[.bool false, .slice (some ⟨w.heap.size, 0, none⟩) 1 1, .slice (some ⟨w.heap.size + 1, 0, none⟩) 1 1] 43) ∧ Below w.heap.size w W ∧ W.heap.size = w.heap.size + 1 + 1 + 1 := ⟨_, rfl, HB.out _, HS.out _⟩
  have ha : RL.Is W ⟨false, some ⟨w.heap.size, 0, none⟩, 1, [1], some ⟨w.heap.size + 1, 0, none⟩, 1, [2]⟩ (mkRat 1 2) := by rw [hW]; exact HH.out _
  have hcb := fun o => lits_is W (w.heap.size + 1 + 1 + 1) 1 3 o hWS (by omega) (by omega) (by omega) (by omega) (by decide)
  have hbb : ∀ o, Below W.heap.size W ((lit (lit W [1]) [3]).alloc o) := fun o => (((Below.refl _ _).alloc (Nat.le_refl _) _).alloc (by simp) _).alloc (by simp; omega) _
  refine (Add_same ⟨false, some ⟨w.heap.size, 0, none⟩, 1, [1], some ⟨w.heap.size + 1, 0, none⟩, 1, [2]⟩ ⟨false, some ⟨w.heap.size + 1 + 1 + 1, 0, none⟩, 1, [1], some ⟨w.heap.size + 1 + 1 + 1 + 1, 0, none⟩, 1, [3]⟩ (mkRat 1 2) (mkRat 1 3) _ (by rw [hW] at ha hbb; exact ha.below (hbb _)) (by rw [hW] at hcb; exact hcb _) (by simp) rfl).mono ?_
  rintro e w1 ⟨r, rfl, hr, hl1, hl2, hb⟩
  have hw1 : Below w.heap.size w w1 := by
    refine Below.trans ?_ (hb.mono ?_)
    · exact hWB.trans (by rw [hW] at hbb ⊢; exact (hbb _).mono (by simp; omega))
    · simp; omega
  clear hb hbb hcb ha hW hWB hWS HH HB HS
  go_wp2_with fail
  have hbx : Below w1.heap.size w1 (w1.alloc (.cells #[.bool r.s, .slice r.N r.ns.length r.nc, .slice r.D r.ds.length r.dc] 43)) := (Below.refl _ _).alloc (Nat.le_refl _) _
  refine (qtext r _ _ (hr.below hbx) (by simp at hl1; omega) (by simp at hl2; omega) (fun w' h => HT.out w' ((hw1.trans (hbx.mono hw1.size)).trans (h.mono (by have := hw1.size; simp; omega))))).mono ?_
  rintro e w2 ⟨he, hb2⟩
  obtain ⟨e1, e2, e3⟩ := q56 hr.q
  rw [e1, e2, e3, text_56] at he
  subst he
  have hw2 := (hw1.trans (hbx.mono hw1.size)).trans (hb2.mono (by have := hw1.size; simp; omega))
  clear e1 e2 e3 hb2 hbx
  go_wp2_with fail
  go_ret
  exact ⟨rfl, hw2⟩
end Go.Proofs.YtllcegiaojchdaaDoor

