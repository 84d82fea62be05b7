/- nat.window, nat.many, nat.gcd: the greatest common divisor of two numbers of at most 4096 words. -/
import Derived.Test.YtopppmlkddajjaaGreatDoorQSR13
namespace Go.Proofs.YtopppmlkddajjaaGreatDoor
open Go.RowKit V

theorem short_of_lt {ys : List Nat} (m : Mag ys) {k : Nat} (h : V32 ys < 4294967296 ^ k) : ys.length ≤ k := len_of_lt (B := 4294967296) (by omega) m.2 h

/-- A number that comes back; what was there is as it was. -/
def NumB (v : Value) (w : World) (e : Ending) (w' : World) : Prop := e = .returned v ∧ Below w.heap.size w w'

set_option maxRecDepth 100000 in
set_option maxHeartbeats 400000 in
theorem window_any (A : Option Addr) (ca p k : Nat) (xs : List Nat) (w : World) (hx : Rd .u32 w A xs) (hca : xs.length ≤ ca) (bx : xs.length ≤ 100000) (bp : p ≤ 10000000) (dx : Dig 4294967296 xs) (hk : V32 xs / 2 ^ p = k) (hlt : k < 4611686018427387904) :
    Calls Tryz.prog 146 #[.slice A xs.length ca, .int .i64 p] w (NumB (.int .i64 k) w) := by
  have HK := Lib.hid hk
  have hc : IntKind.i64.wrap (k : Int) = k := IntWalk.i64_in _ ⟨by omega, by omega⟩
  have HLT := Lib.hid hlt
  clear hk hlt
  go_enter Tryz.func146, Tryz.ntmps146
  go_wp2_with fail
  refine (shiftdn_ok A ca p xs _ hx hca bx bp dx).mono ?_
  rintro e w1 ⟨Y, yc, ys, rfl, hyc, hy1, hb1, hvy, hmy, hly⟩
  have HVY : Hid (V32 ys = k) := by show _ = _; rw [hvy, HK.out]
  have hl2 : ys.length ≤ 2 := short_of_lt hmy (by rw [HVY.out]; have := HLT.out; omega)
  clear hvy
  go_wp2_with fail
  refine (low_any Y yc ys _ hy1 hmy.1 hl2).mono ?_
  rintro e w2 ⟨he, rfl⟩
  rw [HVY.out] at he
  subst he
  go_wp2_with fail
  go_ret
  exact ⟨rfl, hb1⟩

/-- What many returns. -/
def ManyP (A B : Nat) (w : World) (e : Ending) (w' : World) : Prop :=
  ∃ x1 y1 x2 y2 : Int, ∃ Ai Bi : Nat, e = .returned (.agg #[.int .i64 x1, .int .i64 y1, .int .i64 x2, .int .i64 y2]) ∧
    Hid (Mix x1 y1 A B Ai) ∧ Hid (Mix x2 y2 A B Bi) ∧ Bi ≤ Ai ∧ Ai ≤ A ∧ Hid (Nat.gcd Ai Bi = Nat.gcd A B) ∧ Hid (y1 = 0 ∨ Ai + Bi < A + B) ∧ Below w.heap.size w w'

theorem many_end {w wr : World} {x1 y1 x2 y2 h n : Int} {H N A B : Nat} (hs : Hid (Lev x1 y1 x2 y2 h n H N A B)) (hb : Below w.heap.size w wr) :
    ManyP A B w (.returned (.agg #[.int .i64 x1, .int .i64 y1, .int .i64 x2, .int .i64 y2]))
      ((((wr.setCell ⟨w.heap.size, 0, none⟩ (.int .i64 x1)).setCell ⟨w.heap.size, 1, none⟩ (.int .i64 y1)).setCell ⟨w.heap.size, 2, none⟩ (.int .i64 x2)).setCell ⟨w.heap.size, 3, none⟩ (.int .i64 y2)) := by
  obtain ⟨Ai, Bi, m1, m2, i1, i2, i3, i4⟩ := hs.out.fin
  exact ⟨x1, y1, x2, y2, Ai, Bi, rfl, m1, m2, i1, i2, i3, i4, ((((hb.setCell (Nat.le_refl _) _).setCell (Nat.le_refl _) _).setCell (Nat.le_refl _) _).setCell (Nat.le_refl _) _)⟩

set_option maxRecDepth 100000 in
set_option maxHeartbeats 1600000 in
theorem many_any (A B : Option Addr) (ca cb : Nat) (xs ys : List Nat) (w : World) (hx : Rd .u32 w A xs) (hy : Rd .u32 w B ys) (bx : xs.length ≤ 100000) (hca : xs.length ≤ ca) (hcb : ys.length ≤ cb)
    (mx : Mag xs) (my : Mag ys) (hge : V32 ys ≤ V32 xs) (hl : 2 < xs.length) :
    Calls Tryz.prog 131 #[.slice A xs.length ca, .slice B ys.length cb] w (ManyP (V32 xs) (V32 ys) w) := by
  have hyl : ys.length ≤ xs.length := mx.len_le my hge
  have HGE := Lib.hid hge
  clear hge
  have h3 : (18446744073709551616 : Nat) ≤ V32 xs := by
    have h1 := val_ge (B := 4294967296) mx.2 (by omega)
    have h2 : 4294967296 ^ 2 ≤ 4294967296 ^ (xs.length - 1) := Nat.pow_le_pow_right (by omega) (by omega)
    unfold V32; omega
  have H3 := Lib.hid h3
  clear h3
  go_enter Tryz.func131, Tryz.ntmps131
  go_wp2_with fail
  refine (bitlen_any A ca xs _ (hx.alloc _) (by omega) mx).mono ?_
  rintro e w1 ⟨b, rfl, hbits, rfl⟩
  have hb1 : b ≤ 32 * xs.length := bits_words mx (Nat.le_refl _) hbits
  have hb2 : 65 ≤ b := by
    rcases Nat.lt_or_ge b 65 with h | h
    · have h1 := hbits.1
      have h2 : 2 ^ b ≤ 2 ^ 64 := Nat.pow_le_pow_right (by omega) (by omega)
      have := H3.out
      omega
    · exact h
  obtain ⟨p, hp, hpb⟩ : ∃ p : Nat, (b : Int) - 62 = p ∧ Hid (b = p + 62) := ⟨b - 62, by omega, by show _ = _; omega⟩
  obtain ⟨P, hP⟩ : ∃ P, Hid (2 ^ p = P) := ⟨_, Lib.hid rfl⟩
  have hPpos : 0 < P := by rw [← hP.out]; exact Nat.pow_pos (by omega)
  obtain ⟨H, hH⟩ : ∃ H, Hid (V32 xs / P = H) := ⟨_, Lib.hid rfl⟩
  obtain ⟨N, hN⟩ : ∃ N, Hid (V32 ys / P = N) := ⟨_, Lib.hid rfl⟩
  have hHlt : Hid (H < 4611686018427387904) := by
    show _ < _
    rw [← hH.out]
    refine Nat.div_lt_of_lt_mul ?_
    have h1 := hbits.1
    rw [hpb.out, Nat.pow_add, hP.out] at h1
    exact h1
  have hNlt : Hid (N < 4611686018427387904) := by
    show _ < _
    have h1 : N ≤ H := by rw [← hH.out, ← hN.out]; exact Nat.div_le_div_right HGE.out
    have := hHlt.out
    omega
  have hpx : p ≤ 10000000 := by have := hpb.out; omega
  clear hbits hb1 hb2
  go_wp2_with fail
  refine (window_any A ca p H xs _ (hx.alloc _) hca (by omega) (by omega) mx.1 (by rw [hP.out]; exact hH.out) hHlt.out).mono ?_
  rintro e w2 ⟨rfl, hb2⟩
  have hy2 := (hy.alloc (.cells #[.int .i64 0, .int .i64 0, .int .i64 0, .int .i64 0] 143)).below hb2
  go_wp2_with fail
  refine (window_any B cb p N ys _ hy2 hcb (by omega) (by omega) my.1 (by rw [hP.out]; exact hN.out) hNlt.out).mono ?_
  rintro e w3 ⟨rfl, hb3⟩
  go_wp2_with fail
  have hbw3 : Below w.heap.size w w3 := (((Below.refl _ _).alloc (Nat.le_refl _) (.cells #[.int .i64 0, .int .i64 0, .int .i64 0, .int .i64 0] 143)).trans (hb2.mono (by simp))).trans (hb3.mono (by have := hb2.size; simp at this; omega))
  have hres : w3.heap[w.heap.size]? = some (.cells #[.int .i64 0, .int .i64 0, .int .i64 0, .int .i64 0] 143 (0, 0)) := by
    have h1 := hb2.size
    simp at h1
    rw [hb3.block _ (by omega), hb2.block _ (by simp)]
    exact heap_alloc_new w _
  have hlw : w.heap.size < w3.heap.size := by have h1 := hb2.size; have h2 := hb3.size; simp at h1; omega
  have HST : Hid (Lev 1 0 0 1 H N H N (V32 xs) (V32 ys)) := Lev.start HGE.out hHlt.out hNlt.out
  have HA : Hid (V32 xs = H * P + V32 xs % P) := by show _ = _; rw [← hH.out, Nat.mul_comm]; exact (Nat.div_add_mod _ _).symm
  have HB : Hid (V32 ys = N * P + V32 ys % P) := by show _ = _; rw [← hN.out, Nat.mul_comm]; exact (Nat.div_add_mod _ _).symm
  clear hb2 hb3 hy2 hx hy H3
  go_loopw [6, 7, 9] (fun hv nv _ wr => ∃ (x1 y1 x2 y2 h n : Int), hv = .int .i64 h ∧ nv = .int .i64 n ∧ Lev x1 y1 x2 y2 h n H N (V32 xs) (V32 ys) ∧
      wr.heap[w3.heap.size]? = some (.cells #[.int .i64 x1, .int .i64 y1, .int .i64 x2, .int .i64 y2] 143 (0, 0)) ∧ Below w3.heap.size w3 wr) (fun _ nv _ _ => (intOf nv).toNat)
  case atStart => exact ⟨1, 0, 0, 1, H, N, rfl, rfl, HST.out, heap_alloc_new w3 _, (Below.refl _ _).alloc (Nat.le_refl _) _⟩
  case round =>
    obtain ⟨x1, y1, x2, y2, h, n, rfl, rfl, hs, hblk, hbw⟩ := hrel
    have bd := hs.bounds
    have lw := hs.low
    obtain ⟨b1, b2, b3, b4, b5, b6, b7, b8, b9, b10, b11, b12⟩ := bd
    obtain ⟨l1, l2⟩ := lw
    have HS := Lib.hid hs
    have HBK := Lib.hid hblk
    have c0 : wr.cell? ⟨w3.heap.size, 0, none⟩ = some (.int .i64 x1) := cell_of_row _ _ 0 _ _ _ hblk
    have c1 : wr.cell? ⟨w3.heap.size, 1, none⟩ = some (.int .i64 y1) := cell_of_row _ _ 1 _ _ _ hblk
    have c2 : wr.cell? ⟨w3.heap.size, 2, none⟩ = some (.int .i64 x2) := cell_of_row _ _ 2 _ _ _ hblk
    have c3 : wr.cell? ⟨w3.heap.size, 3, none⟩ = some (.int .i64 y2) := cell_of_row _ _ 3 _ _ _ hblk
    have f0 : ∀ i, wr.frozen? ⟨w3.heap.size, i, none⟩ = false := fun i => by simp [World.frozen?, hblk]
    have f0' := f0 0
    have f1' := f0 1
    have f2' := f0 2
    have f3' := f0 3
    have hres2 : wr.heap[w.heap.size]? = some (.cells #[.int .i64 0, .int .i64 0, .int .i64 0, .int .i64 0] 143 (0, 0)) := by rw [hbw.block _ hlw]; exact hres
    have r0 : wr.cell? ⟨w.heap.size, 0, none⟩ = some (.int .i64 0) := cell_of_row _ _ 0 _ _ _ hres2
    have r1 : wr.cell? ⟨w.heap.size, 1, none⟩ = some (.int .i64 0) := cell_of_row _ _ 1 _ _ _ hres2
    have r2 : wr.cell? ⟨w.heap.size, 2, none⟩ = some (.int .i64 0) := cell_of_row _ _ 2 _ _ _ hres2
    have r3 : wr.cell? ⟨w.heap.size, 3, none⟩ = some (.int .i64 0) := cell_of_row _ _ 3 _ _ _ hres2
    have q0 : ∀ i, wr.frozen? ⟨w.heap.size, i, none⟩ = false := fun i => by simp [World.frozen?, hres2]
    have q0' := q0 0
    have q1' := q0 1
    have q2' := q0 2
    have q3' := q0 3
    clear hs hblk f0 hres2 q0
    have hfin : Below w.heap.size w wr := hbw3.trans (hbw.mono (Nat.le_of_lt hlw))
    by_cases g1 : 0 < n + x2
    · by_cases g2 : 0 < n + y2
      · obtain ⟨q, hq⟩ : ∃ q, (h + x1) / (n + x2) = q := ⟨_, rfl⟩
        by_cases hqq : (h + y1) / (n + y2) = q
        · obtain ⟨st, t1, t2, t3, t4, t5⟩ := HS.out.step HA.out HB.out (Nat.mod_lt _ hPpos) (Nat.mod_lt _ hPpos) hHlt.out hNlt.out g1 g2 hq hqq
          have bd2 := st.bounds
          have ST := Lib.hid st
          obtain ⟨u1, hu1⟩ : ∃ u, q * x2 = u := ⟨_, rfl⟩
          obtain ⟨u2, hu2⟩ : ∃ u, q * y2 = u := ⟨_, rfl⟩
          obtain ⟨u3, hu3⟩ : ∃ u, q * n = u := ⟨_, rfl⟩
          rw [hu1, hu2, hu3] at bd2 ST
          rw [hu3] at t1 t3 t4
          obtain ⟨-, -, -, -, k1, k2, k3, k4, k5, k6, k7, k8⟩ := bd2
          have e1 : IntKind.i64.wrap (q * x2) = u1 := by rw [hu1]; exact IntWalk.i64_in _ ⟨by omega, by omega⟩
          have e2 : IntKind.i64.wrap (q * y2) = u2 := by rw [hu2]; exact IntWalk.i64_in _ ⟨by omega, by omega⟩
          have e3 : IntKind.i64.wrap (q * n) = u3 := by rw [hu3]; exact IntWalk.i64_in _ ⟨by omega, by omega⟩
          clear st hu1 hu2 hu3
          go_wp2_with (go_quiet (fail))
          go_roundw
          case rel => exact ⟨x2, y2, x1 - u1, y1 - u2, n, h - u3, rfl, rfl, ST.out, by simp [World.setCell, Array.getElem?_modify, HBK.out], (((hbw.setCell (Nat.le_refl _) _).setCell (Nat.le_refl _) _).setCell (Nat.le_refl _) _).setCell (Nat.le_refl _) _⟩
          case measure => simp [intOf]; omega
        · have hne : decide (q = (h + y1) / (n + y2)) = false := decide_eq_false (fun h => hqq h.symm)
          go_wp2_with (go_quiet (fail))
          refine bodyPost_ret (v := .agg #[.int .i64 x1, .int .i64 y1, .int .i64 x2, .int .i64 y2]) (by simp [results, Tryz.results131, go_sem, r0, r1, r2, r3]) rfl ?_
          exact many_end HS hfin
      · have g2' : decide (0 < n + y2) = false := decide_eq_false g2
        go_wp2_with (go_quiet (fail))
        refine bodyPost_ret (v := .agg #[.int .i64 x1, .int .i64 y1, .int .i64 x2, .int .i64 y2]) (by simp [results, Tryz.results131, go_sem, r0, r1, r2, r3]) rfl ?_
        exact many_end HS hfin
    · have g1' : decide (0 < n + x2) = false := decide_eq_false g1
      go_wp2_with (go_quiet (fail))
      refine bodyPost_ret (v := .agg #[.int .i64 x1, .int .i64 y1, .int .i64 x2, .int .i64 y2]) (by simp [results, Tryz.results131, go_sem, r0, r1, r2, r3]) rfl ?_
      exact many_end HS hfin
end Go.Proofs.YtopppmlkddajjaaGreatDoor


/- nat.gcd and nat.GCD: the greatest common divisor of two numbers of at most 4096 words. -/
namespace Go.Proofs.YtopppmlkddajjaaGreatDoor
open Go.RowKit V

theorem gcd_mod {a b q r : Nat} (h : a = q * b + r) : Nat.gcd b r = Nat.gcd a b := by
  rw [h, Nat.gcd_comm (q * b + r), Nat.add_comm, Nat.gcd_add_mul_right_right]

/-- The greatest common divisor, as a list. -/
def GcdP (g : Nat) (w : World) (e : Ending) (w' : World) : Prop := OutP .u32 (fun zs => V32 zs = g ∧ Mag zs) w e w'

set_option maxRecDepth 100000 in
set_option maxHeartbeats 3200000 in
theorem gcd_any (A B : Option Addr) (ca cb : Nat) (xs ys : List Nat) (w : World) (hx : Rd .u32 w A xs) (hy : Rd .u32 w B ys) (bx : xs.length ≤ 4096) (by_ : ys.length ≤ 4096) (hca : xs.length ≤ ca) (hcb : ys.length ≤ cb) (mx : Mag xs) (my : Mag ys) :
    Calls Tryz.prog 116 #[.slice A xs.length ca, .slice B ys.length cb] w (GcdP (Nat.gcd (V32 xs) (V32 ys)) w) := by
  obtain ⟨G, hG⟩ : ∃ G, Hid (Nat.gcd (V32 xs) (V32 ys) = G) := ⟨_, Lib.hid rfl⟩
  rw [hG.out]
  obtain ⟨c, hc, hcc⟩ : ∃ c : Int, Hid (cmpOf (val 4294967296 xs) (val 4294967296 ys) = c) ∧ ((c < 0 ∧ Hid (V32 xs ≤ V32 ys)) ∨ (0 ≤ c ∧ Hid (V32 ys ≤ V32 xs))) := by
    refine ⟨_, Lib.hid rfl, ?_⟩
    rcases Nat.lt_or_ge (V32 xs) (V32 ys) with h | h
    · left; exact ⟨by rw [cmpOf_lt (by unfold V32 at h; omega)]; omega, Nat.le_of_lt h⟩
    · right; exact ⟨by unfold V32 at h; unfold cmpOf; split <;> (try split) <;> omega, h⟩
  go_enter Tryz.func116, Tryz.ntmps116
  rcases hcc with ⟨hcc, hle⟩ | ⟨hcc, hle⟩
  all_goals
    go_wp2_with fail
    refine (compare_any A B ca cb xs ys _ hx hy (by omega) mx.1 my.1 mx.2 my.2).mono ?_
    rintro e w1 ⟨he, n1, hwe⟩
    rw [hc.out] at he
    subst he
    have hb1 : Below w.heap.size w w1 := by rw [hwe]; exact below_drew_ (Below.refl _ _) n1
    have hx1 := hx.below hb1
    have hy1 := hy.below hb1
    clear hwe
    go_wp2_with fail
    go_loopg [0, 1, 5, 6, 7] (V32 xs + V32 ys) (fun gh av bv _ _ _ wr => ∃ A1 ac al B1 bc bl, av = .slice A1 (al : List Nat).length ac ∧ bv = .slice B1 (bl : List Nat).length bc ∧ V32 al + V32 bl = gh ∧ Rd .u32 wr A1 al ∧ Rd .u32 wr B1 bl ∧ Mag al ∧ Mag bl ∧
      al.length ≤ ac ∧ bl.length ≤ bc ∧ al.length ≤ 4096 ∧ V32 bl ≤ V32 al ∧ Nat.gcd (V32 al) (V32 bl) = G ∧ Below w.heap.size w wr)
    case atStart =>
      first
        | exact ⟨A, ca, xs, B, cb, ys, rfl, rfl, rfl, hx1, hy1, mx, my, hca, hcb, bx, hle.out, hG.out, hb1⟩
        | exact ⟨B, cb, ys, A, ca, xs, rfl, rfl, Nat.add_comm _ _, hy1, hx1, my, mx, hcb, hca, by_, hle.out, by rw [Nat.gcd_comm]; exact hG.out, hb1⟩
    case round =>
      clear hx1 hy1 hx hy mx my hca hcb bx by_ hle hc hcc hb1
      obtain ⟨A1, ac, al, B1, bc, bl, rfl, rfl, hgh, ha, hb, ma, mb, hac, hbc, la, hba, hg, hbw⟩ := hrel
      have HG := Lib.hid hg
      have HGH := Lib.hid hgh
      have HBA := Lib.hid hba
      have hlen := ma.len_le mb hba
      clear hg hgh hba
      by_cases h2 : 2 < bl.length
      · go_wp2_with fail
        refine (many_any A1 B1 ac bc al bl _ ha hb (by omega) hac hbc ma mb HBA.out (by omega)).mono ?_
        rintro e w2 ⟨x1, y1, x2, y2, Ai, Bi, rfl, m1, m2, hBi, hAi, hgi, hpr, hb2⟩
        have ha2 := ha.below hb2
        have hbb2 := hb.below hb2
        have hbw2 := hbw.trans (hb2.mono hbw.size)
        clear ha hb hbw hb2
        by_cases h0 : y1 = 0
        · subst h0
          go_wp2_with fail
          refine (div_any A1 B1 ac bc al bl _ (ha2.alloc _) (hbb2.alloc _) (by omega) ma mb (by omega)).mono ?_
          rintro e w3 ⟨Q, qc, lq, R, rc, lr, rfl, hQ, hR, mq, mr, hqc, hrc, hdm, hlt, hb3⟩
          have hb3' := hbw2.trans (((Below.refl _ _).alloc (Nat.le_refl _) _).trans (hb3.mono (by simp)) |>.mono hbw2.size)
          have hbb3 := (hbb2.alloc _).below hb3
          clear hb3 hQ
          go_wp2_with fail
          go_roundg (V32 bl + V32 lr)
          case measure => have h1 := hlt.out; have h2 := HGH.out; have h3 := HBA.out; omega
          case rel => exact ⟨B1, bc, bl, R, rc, lr, rfl, rfl, rfl, hbb3, hR, mb, mr, hbc, hrc, by omega, Nat.le_of_lt hlt.out, (gcd_mod hdm.out).trans HG.out, hb3'⟩
        · have hne : (y1 == 0) = false := beq_eq_false_iff_ne.2 h0
          go_wp2_with fail
          obtain ⟨W0, hW0⟩ : ∃ W0, w2.alloc (.cells #[.int .i64 x1, .int .i64 y1, .int .i64 x2, .int .i64 y2] 143) = W0 := ⟨_, rfl⟩
          have HB0 : Hid (W0.heap[w2.heap.size]? = some (.cells #[.int .i64 x1, .int .i64 y1, .int .i64 x2, .int .i64 y2] 143 (0, 0))) := by rw [← hW0]; exact heap_alloc_new w2 _
          have hg0 : w2.heap.size < W0.heap.size := by rw [← hW0]; simp
          have ha3 : Rd .u32 W0 A1 al := by rw [← hW0]; exact ha2.alloc _
          have hb3 : Rd .u32 W0 B1 bl := by rw [← hW0]; exact hbb2.alloc _
          have hbw3 : Below w.heap.size w W0 := by rw [← hW0]; exact hbw2.alloc hbw2.size _
          have c0 : W0.cell? ⟨w2.heap.size, 0, none⟩ = some (.int .i64 x1) := cell_of_row _ _ 0 _ _ _ HB0.out
          have c1 : W0.cell? ⟨w2.heap.size, 1, none⟩ = some (.int .i64 y1) := cell_of_row _ _ 1 _ _ _ HB0.out
          have c2 : W0.cell? ⟨w2.heap.size, 2, none⟩ = some (.int .i64 x2) := cell_of_row _ _ 2 _ _ _ HB0.out
          have c3 : W0.cell? ⟨w2.heap.size, 3, none⟩ = some (.int .i64 y2) := cell_of_row _ _ 3 _ _ _ HB0.out
          rw [hW0]
          have HW0 := Lib.hid hW0
          clear hW0 ha2 hbb2 hbw2
          go_region_with (first
            | (go_at_call_of 133 x1; refine (mixof_any A1 B1 ac bc Ai x1 y1 al bl _ (by first | exact ha3 | exact ha3.drew | exact ha3.below hbr | exact ha3.drew.below hbr) (by first | exact hb3 | exact hb3.drew | exact hb3.below hbr | exact hb3.drew.below hbr) (by omega) hlen ma.1 mb.1 m1.out (by exact hAi)).mono ?_; rintro e wq ⟨Q, qc, lq, rfl, hqc, hQ, hbq, hqq⟩; have HQ := Lib.hid hqq; clear hqq; have hgq : w2.heap.size < wq.heap.size := by first | exact Nat.lt_of_lt_of_le hg0 hbq.size | exact Nat.lt_of_lt_of_le hgr hbq.size
               have HBq : Hid (wq.heap[w2.heap.size]? = some (.cells #[.int .i64 x1, .int .i64 y1, .int .i64 x2, .int .i64 y2] 143 (0, 0))) := by first | exact (hbq.block _ hg0).trans HB0.out | exact (hbq.block _ hgr).trans HBr.out
               have d0 : wq.cell? ⟨w2.heap.size, 0, none⟩ = some (.int .i64 x1) := cell_of_row _ _ 0 _ _ _ HBq.out
               have d1 : wq.cell? ⟨w2.heap.size, 1, none⟩ = some (.int .i64 y1) := cell_of_row _ _ 1 _ _ _ HBq.out
               have d2 : wq.cell? ⟨w2.heap.size, 2, none⟩ = some (.int .i64 x2) := cell_of_row _ _ 2 _ _ _ HBq.out
               have d3 : wq.cell? ⟨w2.heap.size, 3, none⟩ = some (.int .i64 y2) := cell_of_row _ _ 3 _ _ _ HBq.out)
            | (go_at_call_of 133 x2; refine (mixof_any A1 B1 ac bc Bi x2 y2 al bl _ (by first | exact ha3 | exact ha3.drew | exact ha3.below hbq | exact ha3.drew.below hbq) (by first | exact hb3 | exact hb3.drew | exact hb3.below hbq | exact hb3.drew.below hbq) (by omega) hlen ma.1 mb.1 m2.out (by exact Nat.le_trans hBi hAi)).mono ?_; rintro e wr_ ⟨R, rc, lr, rfl, hrc, hR, hbr, hrr⟩; have HR := Lib.hid hrr; clear hrr; have hgr : w2.heap.size < wr_.heap.size := by first | exact Nat.lt_of_lt_of_le hg0 hbr.size | exact Nat.lt_of_lt_of_le hgq hbr.size
               have HBr : Hid (wr_.heap[w2.heap.size]? = some (.cells #[.int .i64 x1, .int .i64 y1, .int .i64 x2, .int .i64 y2] 143 (0, 0))) := by first | exact (hbr.block _ hg0).trans HB0.out | exact (hbr.block _ hgq).trans HBq.out
               have e0 : wr_.cell? ⟨w2.heap.size, 0, none⟩ = some (.int .i64 x1) := cell_of_row _ _ 0 _ _ _ HBr.out
               have e1 : wr_.cell? ⟨w2.heap.size, 1, none⟩ = some (.int .i64 y1) := cell_of_row _ _ 1 _ _ _ HBr.out
               have e2 : wr_.cell? ⟨w2.heap.size, 2, none⟩ = some (.int .i64 x2) := cell_of_row _ _ 2 _ _ _ HBr.out
               have e3 : wr_.cell? ⟨w2.heap.size, 3, none⟩ = some (.int .i64 y2) := cell_of_row _ _ 3 _ _ _ HBr.out))
          all_goals
            have hlt : Ai + Bi < V32 al + V32 bl := hpr.out.resolve_left h0
            have hq1 : V32 lq = Ai := HQ.out.1
            have hr1 : V32 lr = Bi := HR.out.1
            have hl1 := ma.len_le HQ.out.2 (by rw [hq1]; exact hAi)
            have HLT := Lib.hid hlt
            have HQ1 := Lib.hid hq1
            have HR1 := Lib.hid hr1
            clear hlt hq1 hr1
            go_wp2_with fail
            go_roundg (V32 lq + V32 lr)
            case measure => rw [HQ1.out, HR1.out, ← HGH.out]; exact HLT.out
            case rel =>
              first
                | exact ⟨Q, qc, lq, R, rc, lr, rfl, rfl, rfl, hQ.below hbr, hR, HQ.out.2, HR.out.2, hqc, hrc, by omega, by rw [HQ1.out, HR1.out]; exact hBi, by rw [HQ1.out, HR1.out, hgi.out]; exact HG.out, (hbw3.trans (below_of_drew hbq hbw3.size)).trans (hbr.mono (Nat.le_trans hbw3.size hbq.size))⟩
                | exact ⟨Q, qc, lq, R, rc, lr, rfl, rfl, rfl, hQ, hR.below hbq, HQ.out.2, HR.out.2, hqc, hrc, by omega, by rw [HQ1.out, HR1.out]; exact hBi, by rw [HQ1.out, HR1.out, hgi.out]; exact HG.out, (hbw3.trans (below_of_drew hbr hbw3.size)).trans (hbq.mono (Nat.le_trans hbw3.size hbr.size))⟩
      · by_cases h0 : bl.length = 0
        · obtain rfl : bl = [] := List.eq_nil_of_length_eq_zero h0
          go_wp2_with fail
          refine (clone_u32 A1 ac al _ ha (by omega)).mono ?_
          rintro e w2 ⟨v, rfl, hown, hb2⟩
          obtain ⟨Z, zc, rfl, hzc, hz⟩ := hown.form
          go_wp2_with fail
          go_ret
          exact ⟨Z, zc, al, rfl, hzc, hz, hbw.trans (hb2.mono hbw.size), by rw [← HG.out]; simp [V32, val], ma⟩
        · have hpos : 0 < bl.length := by omega
          go_wp2_with fail
          refine (div_any A1 B1 ac bc al bl _ ha hb (by omega) ma mb hpos).mono ?_
          rintro e w2 ⟨Q, qc, lq, R, rc, lr, rfl, hQ, hR, mq, mr, hqc, hrc, hdm, hlt, hb2⟩
          have hbb2 := hb.below hb2
          have hbw2 := hbw.trans (hb2.mono hbw.size)
          have hrl : lr.length ≤ 2 := by have := mb.len_le mr (Nat.le_of_lt hlt.out); omega
          obtain ⟨b, hb3⟩ : ∃ b, Hid (V32 bl = b) := ⟨_, Lib.hid rfl⟩
          obtain ⟨r, hr3⟩ : ∃ r, Hid (V32 lr = r) := ⟨_, Lib.hid rfl⟩
          have hlb : Hid (b < 18446744073709551616) := by show _ < _; rw [← hb3.out]; have := V32_lt mb (k := 2) (by omega); omega
          have hlr : Hid (r < 18446744073709551616) := by show _ < _; rw [← hr3.out]; have := V32_lt mr (k := 2) hrl; omega
          have HGG : Hid (Nat.gcd b r = G) := by show _ = _; rw [← hb3.out, ← hr3.out]; exact (gcd_mod hdm.out).trans HG.out
          clear hb2 hQ hb ha hbw
          go_wp2_with fail
          refine (low_any B1 bc bl _ hbb2 mb.1 (by omega)).mono ?_
          rintro e w3 ⟨he, rfl⟩
          rw [hb3.out] at he
          subst he
          go_wp2_with fail
          refine (low_any R rc lr _ hR mr.1 hrl).mono ?_
          rintro e w3 ⟨he, rfl⟩
          rw [hr3.out] at he
          subst he
          go_wp2_with fail
          refine (gcdshort_any b r _ hlb.out hlr.out).mono ?_
          rintro e w3 ⟨he, n3, hwe⟩
          rw [HGG.out] at he
          subst he
          have hb4 : Below w2.heap.size w2 w3 := by rw [hwe]; exact below_drew_ (Below.refl _ _) n3
          have hbw3 := hbw2.trans (hb4.mono hbw2.size)
          have hGlt : G < 18446744073709551616 := by
            have h1 : Nat.gcd b r ≤ b := Nat.gcd_le_left _ (by rw [← hb3.out]; exact V32_pos mb hpos)
            rw [HGG.out] at h1
            have := hlb.out
            omega
          have HGL := Lib.hid hGlt
          clear hwe hGlt
          go_wp2_with fail
          refine (from_any G _ HGL.out).mono ?_
          rintro e w4 ⟨Z, zc, zs, rfl, hzc, hz, hb5, hvz, hmz, hlz⟩
          have HVZ := Lib.hid hvz
          clear hvz
          go_wp2_with fail
          go_ret
          exact ⟨Z, zc, zs, rfl, hzc, hz, hbw3.trans (hb5.mono hbw3.size), HVZ.out, hmz⟩

set_option maxHeartbeats 400000 in
theorem GCD_ok (A B : Option Addr) (ca cb : Nat) (xs ys : List Nat) (w : World) (hx : Rd .u32 w A xs) (hy : Rd .u32 w B ys) (hca : xs.length ≤ ca) (hcb : ys.length ≤ cb) (ox : Ok xs) (oy : Ok ys) (dx : Dig 4294967296 xs) (dy : Dig 4294967296 ys) :
    Calls Tryz.prog 97 #[.slice A xs.length ca, .slice B ys.length cb] w (OkP (fun zs => V32 zs = Nat.gcd (V32 xs) (V32 ys) ∧ Mag zs) w) := by
  have mx : Mag xs := ⟨dx, ox.2⟩
  have my : Mag ys := ⟨dy, oy.2⟩
  have hl : xs.length ≤ 4096 := ox.1
  have hl2 : ys.length ≤ 4096 := oy.1
  go_enter Tryz.func97, Tryz.ntmps97
  go_wp2_with fail
  refine (valid_yes A ca xs _ hx ox).mono ?_
  rintro e w1 ⟨rfl, rfl⟩
  go_wp2_with fail
  refine (valid_yes B cb ys _ hy oy).mono ?_
  rintro e w1 ⟨rfl, rfl⟩
  go_wp2_with fail
  refine (gcd_any A B ca cb xs ys _ hx hy hl hl2 hca hcb mx my).mono ?_
  rintro e w1 ⟨Z, zc, zs, rfl, hzc, hz, hb, hr⟩
  have HR := Lib.hid hr
  clear hr
  go_wp2_with fail
  go_ret2
  exact ⟨Z, zc, zs, hz, hzc, hb, HR.out, rfl⟩
end Go.Proofs.YtopppmlkddajjaaGreatDoor


/- rat.trim, rat.combine, rat.plus, rat.minus: sums and differences of numbers of at most 100000 words. -/
namespace Go.Proofs.YtopppmlkddajjaaGreatDoor
open Go.RowKit V

set_option maxHeartbeats 400000 in
theorem wtrim (A : Option Addr) (c : Nat) (xs : List Nat) (w : World) (h : Rd .u32 w A xs) (hl : xs.length ≤ c) (hb : xs.length ≤ 200000) :
    Calls Tryz.prog 102 #[.slice A xs.length c] w (TrimP A c xs w) := by
  go_enter Tryz.func102, Tryz.ntmps102
  go_wp2
  go_loop [3] (fun n => ∃ m : Nat, m ≤ xs.length ∧ n = .int .i64 m ∧ ∀ B, val B (xs.take m) = val B xs) (fun n => (intOf n).toNat)
  case atStart => exact ⟨xs.length, Nat.le_refl _, rfl, fun B => by rw [List.take_length]⟩
  case round =>
    obtain ⟨m, hm, rfl, hv⟩ := hrel
    have HV := Lib.hid hv
    clear hv
    by_cases h0 : m = 0
    · subst h0
      go_wp2
      go_ret
      exact ⟨0, by omega, rfl, HV.out, nrm_take _ _ (by omega) (by omega), rfl⟩
    · obtain ⟨ad, x, rfl, hbl, hx, hcell⟩ := h.ask (i := m - 1) (by omega)
      have hm1 : m - 1 < xs.length := by omega
      by_cases hz : x = 0
      · subst hz
        go_wp2
        go_round
        case rel => exact ⟨m - 1, by omega, by go_num, fun B => val_cut B xs (m - 1) hm1 hx.out (by rw [Nat.sub_add_cancel (by omega)]; exact HV.out B)⟩
        case measure => simp [intOf]; omega
      · go_wp2
        go_ret
        exact ⟨m, hm, rfl, HV.out, nrm_take _ _ hm (fun _ => by rw [hx.out]; exact hz), rfl⟩

theorem wtrimN (A : Option Addr) (c n : Nat) (xs : List Nat) (w : World) (hn : xs.length = n) (h : Rd .u32 w A xs) (hl : n ≤ c) (hb : n ≤ 200000) :
    Calls Tryz.prog 102 #[.slice A n c] w (TrimP A c xs w) := by subst hn; exact wtrim A c xs w h hl hb

/-- One step of a sum with a factor. -/
theorem mixsum_any (B k s : Nat) (c c' x y : Int) (a b : Nat) (cur xs ys : List Nat) (hk : k < cur.length) (ex : xs.getD k 0 = a) (ey : ys.getD k 0 = b)
    (e : (s : Int) + B * c' = c + x * a + y * b) (hv : (val B (cur.take k) : Int) + (B ^ k : Nat) * c = x * val B (xs.take k) + y * val B (ys.take k)) :
    (val B ((cur.set k s).take (k + 1)) : Int) + (B ^ (k + 1) : Nat) * c' = x * val B (xs.take (k + 1)) + y * val B (ys.take (k + 1)) := by
  rw [val_set_take B cur k s hk, val_take_any, val_take_any, ex, ey, Nat.pow_succ]
  have h := congrArg (((B ^ k : Nat) : Int) * ·) e
  simp only [Int.natCast_add, Int.natCast_mul, Int.mul_add] at h ⊢
  have e1 : ((B ^ k : Nat) : Int) * ((B : Int) * c') = ((B ^ k : Nat) : Int) * (B : Int) * c' := by rw [Int.mul_assoc]
  have e2 : ((B ^ k : Nat) : Int) * (x * a) = x * (((B ^ k : Nat) : Int) * a) := by rw [Int.mul_left_comm]
  have e3 : ((B ^ k : Nat) : Int) * (y * b) = y * (((B ^ k : Nat) : Int) * b) := by rw [Int.mul_left_comm]
  omega
theorem combine_room {xs ys : List Nat} {R n : Nat} {y : Int} (hf : y = 1 ∨ y = -1) (dx : Dig 4294967296 xs) (dy : Dig 4294967296 ys) (hx : xs.length ≤ n) (hy : ys.length ≤ n) (hR : (V32 xs : Int) + y * V32 ys = R) : R < 4294967296 ^ (n + 1) := by
  have h1 := val_lt 4294967296 xs dx
  have h2 := val_lt 4294967296 ys dy
  have h3 : 4294967296 ^ xs.length ≤ 4294967296 ^ n := Nat.pow_le_pow_right (by omega) hx
  have h4 : 4294967296 ^ ys.length ≤ 4294967296 ^ n := Nat.pow_le_pow_right (by omega) hy
  have h5 : 4294967296 ^ (n + 1) = 4294967296 ^ n * 4294967296 := Nat.pow_succ _ _
  unfold V32 at hR
  rcases hf with rfl | rfl <;> omega

set_option maxRecDepth 100000 in
set_option maxHeartbeats 1600000 in
theorem combine_any (A B : Option Addr) (ca cb R : Nat) (y : Int) (xs ys : List Nat) (w : World) (hf : y = 1 ∨ y = -1) (hx : Rd .u32 w A xs) (hy : Rd .u32 w B ys) (bx : xs.length ≤ 100000) (by_ : ys.length ≤ 100000)
    (dx : Dig 4294967296 xs) (dy : Dig 4294967296 ys) (hR : (V32 xs : Int) + y * V32 ys = R) :
    Calls Tryz.prog 119 #[.slice A xs.length ca, .slice B ys.length cb, .int .i64 y] w (OutP .u32 (fun zs => V32 zs = R ∧ Mag zs ∧ zs.length ≤ max xs.length ys.length + 1) w) := by
  obtain ⟨n, hn, hnx, hny, hnm⟩ : ∃ n, Hid (max xs.length ys.length = n) ∧ xs.length ≤ n ∧ ys.length ≤ n ∧ n ≤ 100000 := ⟨_, Lib.hid rfl, by omega, by omega, by omega⟩
  have hni : max (xs.length : Int) (ys.length : Int) = (n : Int) := by have := hn.out; omega
  have hyl : -2147483648 < y := by rcases hf with rfl | rfl <;> omega
  have hyu : y < 2147483648 := by rcases hf with rfl | rfl <;> omega
  have hroom := combine_room hf dx dy hnx hny hR
  have HROOM := Lib.hid hroom
  have HR := Lib.hid hR
  have HF := Lib.hid hf
  have hmk := fun W => make_u32 (n + 1) (n + 1 : Nat) rfl (by omega) W
  have hc1 : ((n + 1 : Nat) : Int) = (n : Int) + 1 := by omega
  rw [hc1] at hmk
  clear hroom hR hf hc1
  rw [hn.out]
  go_enter Tryz.func119, Tryz.ntmps119
  go_wp2
  clear hmk
  have HNI := Lib.hid hni
  clear hni
  go_loopw [8, 19] (fun cv i wr => ∃ (k : Nat) (c : Int) (cur : List Nat), k ≤ n + 1 ∧ i = .int .i64 k ∧ cv = .int .i64 c ∧ -2147483648 ≤ c ∧ c ≤ 2147483647 ∧ cur.length = n + 1 ∧ Dig 4294967296 cur ∧
      (val 4294967296 (cur.take k) : Int) + (4294967296 ^ k : Nat) * c = 1 * val 4294967296 (xs.take k) + y * val 4294967296 (ys.take k) ∧
      Row .u32 59 wr w.heap.size cur ∧ Below w.heap.size w wr) (fun _ i _ => n + 1 - (intOf i).toNat)
  case atStart => exact ⟨0, 0, _, Nat.zero_le _, rfl, rfl, by omega, by omega, List.length_replicate, Dig.zeros (by omega) _, by simp [val], Row.new _ _, (Below.refl _ _).alloc (Nat.le_refl _) _⟩
  case round =>
    obtain ⟨k, c, cur, hk, rfl, rfl, hc1, hc2, hcl, hdc, hv, hrow, hbw⟩ := hrel
    have HV := Lib.hid hv
    have HCL := Lib.hid hcl
    have hwr := hbw.size
    clear hv hcl
    by_cases hlt : k < n + 1
    · have hxr : Rd .u32 wr A xs := hx.below hbw
      have hyr : Rd .u32 wr B ys := hy.below hbw
      have hkc : k < cur.length := by have := HCL.out; omega
      obtain ⟨z, hz⟩ : ∃ z, cur.getD k 0 = z := ⟨_, rfl⟩
      have hcell := hrow.cell hkc
      have hfr := hrow.frozen k
      have hki : (k : Int) < (n : Int) + 1 := by omega
      by_cases hkx : k < xs.length
      · obtain ⟨ad, a, rfl, hba, ea, ca_⟩ := hxr.ask hkx
        have hal : a < 4294967296 := by rw [← ea.out]; exact dig_getD dx (by omega) k
        by_cases hky : k < ys.length
        · obtain ⟨bd, b, rfl, hbb, eb, cb_⟩ := hyr.ask hky
          have hbl : b < 4294967296 := by rw [← eb.out]; exact dig_getD dy (by omega) k
          obtain ⟨g1, g2, g3, g4⟩ := fac_word y b hyl hyu hbl
          have hsb : -4294967296 ≤ y * b ∧ y * b ≤ 4294967296 := by rcases HF.out with rfl | rfl <;> omega
          obtain ⟨hs1, hs2⟩ := hsb
          have e1 : IntKind.i64.wrap (y * b) = y * b := IntWalk.i64_in _ ⟨by omega, by omega⟩
          obtain ⟨s, c2, hs, hc3, hc4, es, em, ed⟩ := mix_cut (c + a + y * b) (by omega) (by omega)
          clear g1 g2 g3 g4
          go_wp2_with (go_quiet (fail))
          go_roundw
          case rel => exact ⟨k + 1, c2, cur.set k s, by omega, by go_num, by rw [ed.out], hc3, hc4, by rw [List.length_set]; exact HCL.out, hdc.set _ hs, mixsum_any 4294967296 k s c c2 1 y a b cur xs ys hkc ea.out eb.out (by rw [es.out, Int.one_mul]) HV.out, by rw [em.out]; exact hrow.set_ k s, hbw.setCell (Nat.le_refl _) _⟩
          case measure => simp [intOf]; omega
        · have eb : Hid (ys.getD k 0 = 0) := getD_beyond ys k (by omega)
          obtain ⟨s, c2, hs, hc3, hc4, es, em, ed⟩ := mix_cut (c + a) (by omega) (by omega)
          go_wp2_with (go_quiet (fail))
          go_roundw
          case rel => exact ⟨k + 1, c2, cur.set k s, by omega, by go_num, by rw [ed.out], hc3, hc4, by rw [List.length_set]; exact HCL.out, hdc.set _ hs, mixsum_any 4294967296 k s c c2 1 y a 0 cur xs ys hkc ea.out eb.out (by rw [es.out]; simp) HV.out, by rw [em.out]; exact hrow.set_ k s, hbw.setCell (Nat.le_refl _) _⟩
          case measure => simp [intOf]; omega
      · have ea : Hid (xs.getD k 0 = 0) := getD_beyond xs k (by omega)
        by_cases hky : k < ys.length
        · obtain ⟨bd, b, rfl, hbb, eb, cb_⟩ := hyr.ask hky
          have hbl : b < 4294967296 := by rw [← eb.out]; exact dig_getD dy (by omega) k
          have hsb : -4294967296 ≤ y * b ∧ y * b ≤ 4294967296 := by rcases HF.out with rfl | rfl <;> omega
          obtain ⟨hs1, hs2⟩ := hsb
          have e1 : IntKind.i64.wrap (y * b) = y * b := IntWalk.i64_in _ ⟨by omega, by omega⟩
          obtain ⟨s, c2, hs, hc3, hc4, es, em, ed⟩ := mix_cut (c + y * b) (by omega) (by omega)
          go_wp2_with (go_quiet (fail))
          go_roundw
          case rel => exact ⟨k + 1, c2, cur.set k s, by omega, by go_num, by rw [ed.out], hc3, hc4, by rw [List.length_set]; exact HCL.out, hdc.set _ hs, mixsum_any 4294967296 k s c c2 1 y 0 b cur xs ys hkc ea.out eb.out (by rw [es.out]; simp) HV.out, by rw [em.out]; exact hrow.set_ k s, hbw.setCell (Nat.le_refl _) _⟩
          case measure => simp [intOf]; omega
        · have eb : Hid (ys.getD k 0 = 0) := getD_beyond ys k (by omega)
          obtain ⟨s, c2, hs, hc3, hc4, es, em, ed⟩ := mix_cut c (by omega) (by omega)
          go_wp2_with (go_quiet (fail))
          go_roundw
          case rel => exact ⟨k + 1, c2, cur.set k s, by omega, by go_num, by rw [ed.out], hc3, hc4, by rw [List.length_set]; exact HCL.out, hdc.set _ hs, mixsum_any 4294967296 k s c c2 1 y 0 0 cur xs ys hkc ea.out eb.out (by rw [es.out]; simp) HV.out, by rw [em.out]; exact hrow.set_ k s, hbw.setCell (Nat.le_refl _) _⟩
          case measure => simp [intOf]; omega
    · obtain rfl : k = n + 1 := by omega
      have hrd := hrow.rd
      have HFN : Hid (val 4294967296 cur = R) := by
        have h1 := HV.out
        rw [List.take_of_length_le (by have := HCL.out; omega), List.take_of_length_le (by omega), List.take_of_length_le (by omega), Int.one_mul] at h1
        exact mixsum_end hdc HCL.out (Nat.le_refl R) HROOM.out (h1.trans HR.out)
      go_wp2_with (go_at_call 102; refine (wtrimN _ _ _ cur _ HCL.out hrd (Nat.le_refl _) (by omega)).mono ?_; rintro e w2 ⟨m, hm, rfl, hv3, hn3, rfl⟩; have HV3 := Lib.hid hv3; clear hv3)
      go_ret
      exact OutP.of_take hm (by have := HCL.out; omega) hrd hbw ⟨by show val 4294967296 (cur.take m) = R; rw [HV3.out]; exact HFN.out, ⟨hdc.take m, hn3⟩, by rw [List.length_take]; have := HCL.out; omega⟩

theorem qplus (A B : Option Addr) (ca cb : Nat) (xs ys : List Nat) (w : World) (hx : Rd .u32 w A xs) (hy : Rd .u32 w B ys) (bx : xs.length ≤ 100000) (by_ : ys.length ≤ 100000) (dx : Dig 4294967296 xs) (dy : Dig 4294967296 ys) :
    Calls Tryz.prog 99 #[.slice A xs.length ca, .slice B ys.length cb] w (OutP .u32 (fun zs => V32 zs = V32 xs + V32 ys ∧ Mag zs ∧ zs.length ≤ max xs.length ys.length + 1) w) := by
  go_enter Tryz.func99, Tryz.ntmps99
  go_wp2_with fail
  refine (combine_any A B ca cb (V32 xs + V32 ys) 1 xs ys _ (.inl rfl) hx hy bx by_ dx dy (by omega)).mono ?_
  rintro e w1 ⟨Z, zc, zs, rfl, hzc, hz, hb, hq⟩
  have HQ := Lib.hid hq
  clear hq
  go_wp2_with fail
  go_ret
  exact ⟨Z, zc, zs, rfl, hzc, hz, hb, HQ.out⟩

theorem qminus (A B : Option Addr) (ca cb : Nat) (xs ys : List Nat) (w : World) (hx : Rd .u32 w A xs) (hy : Rd .u32 w B ys) (bx : xs.length ≤ 100000) (by_ : ys.length ≤ 100000) (dx : Dig 4294967296 xs) (dy : Dig 4294967296 ys) (hge : V32 ys ≤ V32 xs) :
    Calls Tryz.prog 100 #[.slice A xs.length ca, .slice B ys.length cb] w (OutP .u32 (fun zs => V32 zs = V32 xs - V32 ys ∧ Mag zs) w) := by
  have HGE := Lib.hid hge
  clear hge
  go_enter Tryz.func100, Tryz.ntmps100
  go_wp2_with fail
  refine (combine_any A B ca cb (V32 xs - V32 ys) (-1) xs ys _ (.inr rfl) hx hy bx by_ dx dy (by have := HGE.out; omega)).mono ?_
  rintro e w1 ⟨Z, zc, zs, rfl, hzc, hz, hb, hq⟩
  have HQ := Lib.hid hq
  clear hq
  go_wp2_with fail
  go_ret
  exact ⟨Z, zc, zs, rfl, hzc, hz, hb, HQ.out.1, HQ.out.2.1⟩

/-- rat.times where nat can multiply. -/
theorem qtimes (A B : Option Addr) (ca cb : Nat) (xs ys : List Nat) (w : World) (hx : Rd .u32 w A xs) (hy : Rd .u32 w B ys) (bl : xs.length + ys.length ≤ 4096) (mx : Mag xs) (my : Mag ys) :
    Calls Tryz.prog 77 #[.slice A xs.length ca, .slice B ys.length cb] w (OutP .u32 (fun zs => V32 zs = V32 xs * V32 ys ∧ Mag zs ∧ zs.length ≤ xs.length + ys.length) w) := by
  go_enter Tryz.func77, Tryz.ntmps77
  go_wp2_with fail
  refine (Mul_ok A B ca cb xs ys _ hx hy mx my (by omega) (by omega)).mono ?_
  rintro e w1 ⟨Z, zc, zs, hz, hzc, hb, ⟨hv, mz⟩, hor⟩
  have hl : zs.length ≤ xs.length + ys.length := by
    refine len_of_lt (B := 4294967296) (by omega) mz.2 ?_
    show V32 zs < _
    rw [hv, Nat.pow_add]
    have h1 := val_lt 4294967296 xs mx.1
    have h2 := val_lt 4294967296 ys my.1
    exact Nat.mul_lt_mul'' h1 h2
  rcases hor with ⟨_, rfl⟩ | ⟨h, _⟩
  · have HV := Lib.hid hv
    clear hv
    go_wp2_with fail
    go_ret
    exact ⟨Z, zc, zs, rfl, hzc, hz, hb, HV.out, mz, hl⟩
  · omega

theorem qgcd (A B : Option Addr) (ca cb : Nat) (xs ys : List Nat) (w : World) (hx : Rd .u32 w A xs) (hy : Rd .u32 w B ys) (hca : xs.length ≤ ca) (hcb : ys.length ≤ cb) (bx : xs.length ≤ 4096) (by_ : ys.length ≤ 4096) (mx : Mag xs) (my : Mag ys) :
    Calls Tryz.prog 74 #[.slice A xs.length ca, .slice B ys.length cb] w (OutP .u32 (fun zs => V32 zs = Nat.gcd (V32 xs) (V32 ys) ∧ Mag zs) w) := by
  go_enter Tryz.func74, Tryz.ntmps74
  go_wp2_with fail
  refine (GCD_ok A B ca cb xs ys _ hx hy hca hcb ⟨bx, mx.2⟩ ⟨by_, my.2⟩ mx.1 my.1).mono ?_
  rintro e w1 ⟨Z, zc, zs, hz, hzc, hb, ⟨hv, mz⟩, rfl⟩
  have HV := Lib.hid hv
  clear hv
  go_wp2_with fail
  go_ret
  exact ⟨Z, zc, zs, rfl, hzc, hz, hb, HV.out, mz⟩

/-- Quotient and remainder. -/
def QDivP (xs ys : List Nat) (w : World) (e : Ending) (w' : World) : Prop :=
  ∃ Q qc q R rc r, e = .returned (.tuple #[.slice Q (q : List Nat).length qc, .slice R (r : List Nat).length rc]) ∧ Rd .u32 w' Q q ∧ Rd .u32 w' R r ∧ Mag q ∧ Mag r ∧ q.length ≤ qc ∧ r.length ≤ rc ∧
    Hid (V32 q = V32 xs / V32 ys) ∧ Hid (V32 r = V32 xs % V32 ys) ∧ q.length ≤ xs.length ∧ r.length ≤ ys.length ∧ Below w.heap.size w w'
theorem div_uniq {a b q r : Nat} (h : a = q * b + r) (hr : r < b) : q = a / b ∧ r = a % b := by
  have e1 : a / b = q := by rw [h, Nat.mul_comm, Nat.mul_add_div (by omega), Nat.div_eq_of_lt hr, Nat.add_zero]
  have e2 := Nat.div_add_mod a b
  rw [e1, Nat.mul_comm] at e2
  omega
set_option maxHeartbeats 400000 in
theorem qdivide (A B : Option Addr) (ca cb : Nat) (xs ys : List Nat) (w : World) (hx : Rd .u32 w A xs) (hy : Rd .u32 w B ys) (bx : xs.length ≤ 4096) (by_ : ys.length ≤ 4096) (mx : Mag xs) (my : Mag ys) (hpos : 0 < ys.length) :
    Calls Tryz.prog 98 #[.slice A xs.length ca, .slice B ys.length cb] w (QDivP xs ys w) := by
  have hyp := V32_pos my hpos
  have hgt : decide ((xs.length : Int) > 4096) = false := decide_eq_false (by omega)
  go_enter Tryz.func98, Tryz.ntmps98
  go_wp2_with fail
  go_loopw [0, 4] (fun av qv wr => av = .slice A xs.length ca ∧ qv = .slice none 0 0 ∧ wr = w) (fun _ _ _ => 0)
  case atStart => exact ⟨rfl, rfl, rfl⟩
  case round =>
    obtain ⟨rfl, rfl, rfl⟩ := hrel
    go_wp2_with fail
    refine (DivMod_any A B ca cb xs ys _ hx hy ⟨bx, mx.2⟩ ⟨by_, my.2⟩ mx.1 my.1 hpos).mono ?_
    rintro e w1 ⟨Q, qc, q, R, rc, r, rfl, hQ, hR, mq, mr, hqc, hrc, hdm, hlt, hb⟩
    have hql : q.length ≤ xs.length := mx.len_le mq (by rw [hdm.out]; exact mul_ge _ _ _ hyp)
    have hrl : r.length ≤ ys.length := my.len_le mr (Nat.le_of_lt hlt.out)
    go_wp2_with fail
    refine (qplus none Q 0 qc [] q _ Rd.nil_ hQ (by simp) (by omega) (fun _ h => by simp at h) mq.1).mono ?_
    rintro e w2 ⟨Z, zc, zs, rfl, hzc, hz, hb2, hv, mz, hzl⟩
    have HV := Lib.hid hv
    clear hv
    go_wp2_with fail
    go_ret2
    have hvq : V32 zs = V32 q := by rw [HV.out]; simp [V32, val]
    obtain ⟨u1, u2⟩ := div_uniq hdm.out hlt.out
    exact ⟨Z, zc, zs, R, rc, r, rfl, hz, hR.below hb2, mz, mr, hzc, hrc, by show _ = _; rw [hvq]; exact u1, u2, by rw [mz.eq mq hvq]; exact hql, hrl, hb.trans (hb2.mono hb.size)⟩

theorem qquot (A B : Option Addr) (ca cb : Nat) (xs ys : List Nat) (w : World) (hx : Rd .u32 w A xs) (hy : Rd .u32 w B ys) (bx : xs.length ≤ 4096) (by_ : ys.length ≤ 4096) (mx : Mag xs) (my : Mag ys) (hpos : 0 < ys.length) :
    Calls Tryz.prog 75 #[.slice A xs.length ca, .slice B ys.length cb] w (OutP .u32 (fun zs => V32 zs = V32 xs / V32 ys ∧ Mag zs ∧ zs.length ≤ xs.length) w) := by
  go_enter Tryz.func75, Tryz.ntmps75
  go_wp2_with fail
  refine (qdivide A B ca cb xs ys _ hx hy bx by_ mx my hpos).mono ?_
  rintro e w1 ⟨Q, qc, q, R, rc, r, rfl, hQ, hR, mq, mr, hqc, hrc, hd, hm, hql, hrl, hb⟩
  go_wp2_with fail
  go_ret
  exact ⟨Q, qc, q, rfl, hqc, hQ, hb, hd.out, mq, hql⟩
theorem qrem (A B : Option Addr) (ca cb : Nat) (xs ys : List Nat) (w : World) (hx : Rd .u32 w A xs) (hy : Rd .u32 w B ys) (bx : xs.length ≤ 4096) (by_ : ys.length ≤ 4096) (mx : Mag xs) (my : Mag ys) (hpos : 0 < ys.length) :
    Calls Tryz.prog 78 #[.slice A xs.length ca, .slice B ys.length cb] w (OutP .u32 (fun zs => V32 zs = V32 xs % V32 ys ∧ Mag zs ∧ zs.length ≤ ys.length) w) := by
  go_enter Tryz.func78, Tryz.ntmps78
  go_wp2_with fail
  refine (qdivide A B ca cb xs ys _ hx hy bx by_ mx my hpos).mono ?_
  rintro e w1 ⟨Q, qc, q, R, rc, r, rfl, hQ, hR, mq, mr, hqc, hrc, hd, hm, hql, hrl, hb⟩
  go_wp2_with fail
  go_ret
  exact ⟨R, rc, r, rfl, hrc, hR, hb, hm.out, mr, hrl⟩

/-- rat.isOne. -/
theorem isone_any (A : Option Addr) (c : Nat) (xs : List Nat) (w : World) (hx : Rd .u32 w A xs) (hl : xs.length ≤ 100000) (mx : Mag xs) :
    Calls Tryz.prog 63 #[.slice A xs.length c] w (Says (.bool (decide (V32 xs = 1))) w) := by
  by_cases h1 : xs.length = 1
  · obtain ⟨ad, x, rfl, hbl, ex, hc⟩ := hx.ask (i := 0) (by omega)
    rw [add_zero_] at hc
    have hv : V32 xs = x := by rw [one_of_len h1, ex.out]; unfold V32; simp [val]
    rw [hv]
    have hb1 : ((xs.length : Int) == 1) = true := by simp [h1]
    have hpos : 0 < xs.length := by omega
    clear h1
    by_cases hx1 : x = 1
    · subst hx1
      go_enter Tryz.func63, Tryz.ntmps63
      go_wp2_with (go_quiet (fail))
      go_ret
      exact ⟨rfl, 0, rfl⟩
    · have hb2 : ((x : Int) == 1) = false := beq_eq_false_iff_ne.2 (by omega)
      rw [decide_eq_false hx1]
      go_enter Tryz.func63, Tryz.ntmps63
      go_wp2_with (go_quiet (fail))
      go_ret
      exact ⟨by simp, 0, rfl⟩
  · have hb1 : ((xs.length : Int) == 1) = false := beq_eq_false_iff_ne.2 (by omega)
    have hne : V32 xs ≠ 1 := by
      intro h
      rcases Nat.lt_or_ge 1 xs.length with h2 | h2
      · have h3 := val_ge (B := 4294967296) mx.2 (by omega)
        have h4 : 4294967296 ^ 1 ≤ 4294967296 ^ (xs.length - 1) := Nat.pow_le_pow_right (by omega) (by omega)
        unfold V32 at h; omega
      · have h3 : xs = [] := List.eq_nil_of_length_eq_zero (by omega)
        rw [h3] at h; simp [V32, val] at h
    rw [decide_eq_false hne]
    go_enter Tryz.func63, Tryz.ntmps63
    go_wp2_with (go_quiet (fail))
    go_ret
    exact ⟨rfl, 0, rfl⟩
end Go.Proofs.YtopppmlkddajjaaGreatDoor

