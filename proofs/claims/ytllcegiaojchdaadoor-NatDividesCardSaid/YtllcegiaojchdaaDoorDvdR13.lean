/- nat.window, nat.many, nat.gcd: the greatest common divisor of two numbers of at most 4096 words. -/
import Derived.Test.YtllcegiaojchdaaDoorDvdR12
namespace Go.Proofs.YtllcegiaojchdaaDoor
open Go.RowKit V

theorem short_of_lt {ys : List Nat} (m : Mag ys) {k : Nat} (h : V32 ys < 4294967296 ^ k) : ys.length ≤ k := len_of_lt (B := 4294967296) (by omega) m.2 h

/-- A number that comes back; what was there is as it was. -/
def NumB (v : Value) (w : World) (e : Ending) (w' : World) : Prop := e = .returned v ∧ Below w.heap.size w w'

set_option maxRecDepth 100000 in
set_option maxHeartbeats 400000 in
theorem window_any (A : Option Addr) (ca p k : Nat) (xs : List Nat) (w : World) (hx : Rd .u32 w A xs) (hca : xs.length ≤ ca) (bx : xs.length ≤ 100000) (bp : p ≤ 10000000) (dx : Dig 4294967296 xs) (hk : V32 xs / 2 ^ p = k) (hlt : k < 4611686018427387904) :
    Calls Tryd.prog 82 #[.slice A xs.length ca, .int .i64 p] w (NumB (.int .i64 k) w) := by
  have HK := Lib.hid hk
  have hc : IntKind.i64.wrap (k : Int) = k := IntWalk.i64_in _ ⟨by omega, by omega⟩
  have HLT := Lib.hid hlt
  clear hk hlt
  go_enter Tryd.func82, Tryd.ntmps82
  go_wp2_with fail
  refine (shiftdn_ok A ca p xs _ hx hca bx bp dx).mono ?_
  rintro e w1 ⟨Y, yc, ys, rfl, hyc, hy1, hb1, hvy, hmy, hly⟩
  have HVY : Hid (V32 ys = k) := by show _ = _; rw [hvy, HK.out]
  have hl2 : ys.length ≤ 2 := short_of_lt hmy (by rw [HVY.out]; have := HLT.out; omega)
  clear hvy
  go_wp2_with fail
  refine (low_any Y yc ys _ hy1 hmy.1 hl2).mono ?_
  rintro e w2 ⟨he, rfl⟩
  rw [HVY.out] at he
  subst he
  go_wp2_with fail
  go_ret
  exact ⟨rfl, hb1⟩

/-- What many returns. -/
def ManyP (A B : Nat) (w : World) (e : Ending) (w' : World) : Prop :=
  ∃ x1 y1 x2 y2 : Int, ∃ Ai Bi : Nat, e = .returned (.agg #[.int .i64 x1, .int .i64 y1, .int .i64 x2, .int .i64 y2]) ∧
    Hid (Mix x1 y1 A B Ai) ∧ Hid (Mix x2 y2 A B Bi) ∧ Bi ≤ Ai ∧ Ai ≤ A ∧ Hid (Nat.gcd Ai Bi = Nat.gcd A B) ∧ Hid (y1 = 0 ∨ Ai + Bi < A + B) ∧ Below w.heap.size w w'

theorem many_end {w wr : World} {x1 y1 x2 y2 h n : Int} {H N A B : Nat} (hs : Hid (Lev x1 y1 x2 y2 h n H N A B)) (hb : Below w.heap.size w wr) :
    ManyP A B w (.returned (.agg #[.int .i64 x1, .int .i64 y1, .int .i64 x2, .int .i64 y2]))
      ((((wr.setCell ⟨w.heap.size, 0, none⟩ (.int .i64 x1)).setCell ⟨w.heap.size, 1, none⟩ (.int .i64 y1)).setCell ⟨w.heap.size, 2, none⟩ (.int .i64 x2)).setCell ⟨w.heap.size, 3, none⟩ (.int .i64 y2)) := by
  obtain ⟨Ai, Bi, m1, m2, i1, i2, i3, i4⟩ := hs.out.fin
  exact ⟨x1, y1, x2, y2, Ai, Bi, rfl, m1, m2, i1, i2, i3, i4, ((((hb.setCell (Nat.le_refl _) _).setCell (Nat.le_refl _) _).setCell (Nat.le_refl _) _).setCell (Nat.le_refl _) _)⟩

set_option maxRecDepth 100000 in
set_option maxHeartbeats 1600000 in
theorem many_any (A B : Option Addr) (ca cb : Nat) (xs ys : List Nat) (w : World) (hx : Rd .u32 w A xs) (hy : Rd .u32 w B ys) (bx : xs.length ≤ 100000) (hca : xs.length ≤ ca) (hcb : ys.length ≤ cb)
    (mx : Mag xs) (my : Mag ys) (hge : V32 ys ≤ V32 xs) (hl : 2 < xs.length) :
    Calls Tryd.prog 59 #[.slice A xs.length ca, .slice B ys.length cb] w (ManyP (V32 xs) (V32 ys) w) := by
  have hyl : ys.length ≤ xs.length := mx.len_le my hge
  have HGE := Lib.hid hge
  clear hge
  have h3 : (18446744073709551616 : Nat) ≤ V32 xs := by
    have h1 := val_ge (B := 4294967296) mx.2 (by omega)
    have h2 : 4294967296 ^ 2 ≤ 4294967296 ^ (xs.length - 1) := Nat.pow_le_pow_right (by omega) (by omega)
    unfold V32; omega
  have H3 := Lib.hid h3
  clear h3
  go_enter Tryd.func59, Tryd.ntmps59
  go_wp2_with fail
  refine (bitlen_any A ca xs _ (hx.alloc _) (by omega) mx).mono ?_
  rintro e w1 ⟨b, rfl, hbits, rfl⟩
  have hb1 : b ≤ 32 * xs.length := bits_words mx (Nat.le_refl _) hbits
  have hb2 : 65 ≤ b := by
    rcases Nat.lt_or_ge b 65 with h | h
    · have h1 := hbits.1
      have h2 : 2 ^ b ≤ 2 ^ 64 := Nat.pow_le_pow_right (by omega) (by omega)
      have := H3.out
      omega
    · exact h
  obtain ⟨p, hp, hpb⟩ : ∃ p : Nat, (b : Int) - 62 = p ∧ Hid (b = p + 62) := ⟨b - 62, by omega, by show _ = _; omega⟩
  obtain ⟨P, hP⟩ : ∃ P, Hid (2 ^ p = P) := ⟨_, Lib.hid rfl⟩
  have hPpos : 0 < P := by rw [← hP.out]; exact Nat.pow_pos (by omega)
  obtain ⟨H, hH⟩ : ∃ H, Hid (V32 xs / P = H) := ⟨_, Lib.hid rfl⟩
  obtain ⟨N, hN⟩ : ∃ N, Hid (V32 ys / P = N) := ⟨_, Lib.hid rfl⟩
  have hHlt : Hid (H < 4611686018427387904) := by
    show _ < _
    rw [← hH.out]
    refine Nat.div_lt_of_lt_mul ?_
    have h1 := hbits.1
    rw [hpb.out, Nat.pow_add, hP.out] at h1
    exact h1
  have hNlt : Hid (N < 4611686018427387904) := by
    show _ < _
    have h1 : N ≤ H := by rw [← hH.out, ← hN.out]; exact Nat.div_le_div_right HGE.out
    have := hHlt.out
    omega
  have hpx : p ≤ 10000000 := by have := hpb.out; omega
  clear hbits hb1 hb2
  go_wp2_with fail
  refine (window_any A ca p H xs _ (hx.alloc _) hca (by omega) (by omega) mx.1 (by rw [hP.out]; exact hH.out) hHlt.out).mono ?_
  rintro e w2 ⟨rfl, hb2⟩
  have hy2 := (hy.alloc (.cells #[.int .i64 0, .int .i64 0, .int .i64 0, .int .i64 0] 84)).below hb2
  go_wp2_with fail
  refine (window_any B cb p N ys _ hy2 hcb (by omega) (by omega) my.1 (by rw [hP.out]; exact hN.out) hNlt.out).mono ?_
  rintro e w3 ⟨rfl, hb3⟩
  go_wp2_with fail
  have hbw3 : Below w.heap.size w w3 := (((Below.refl _ _).alloc (Nat.le_refl _) (.cells #[.int .i64 0, .int .i64 0, .int .i64 0, .int .i64 0] 84)).trans (hb2.mono (by simp))).trans (hb3.mono (by have := hb2.size; simp at this; omega))
  have hres : w3.heap[w.heap.size]? = some (.cells #[.int .i64 0, .int .i64 0, .int .i64 0, .int .i64 0] 84 (0, 0)) := by
    have h1 := hb2.size
    simp at h1
    rw [hb3.block _ (by omega), hb2.block _ (by simp)]
    exact heap_alloc_new w _
  have hlw : w.heap.size < w3.heap.size := by have h1 := hb2.size; have h2 := hb3.size; simp at h1; omega
  have HST : Hid (Lev 1 0 0 1 H N H N (V32 xs) (V32 ys)) := Lev.start HGE.out hHlt.out hNlt.out
  have HA : Hid (V32 xs = H * P + V32 xs % P) := by show _ = _; rw [← hH.out, Nat.mul_comm]; exact (Nat.div_add_mod _ _).symm
  have HB : Hid (V32 ys = N * P + V32 ys % P) := by show _ = _; rw [← hN.out, Nat.mul_comm]; exact (Nat.div_add_mod _ _).symm
  clear hb2 hb3 hy2 hx hy H3
  go_loopw [6, 7, 9] (fun hv nv _ wr => ∃ (x1 y1 x2 y2 h n : Int), hv = .int .i64 h ∧ nv = .int .i64 n ∧ Lev x1 y1 x2 y2 h n H N (V32 xs) (V32 ys) ∧
      wr.heap[w3.heap.size]? = some (.cells #[.int .i64 x1, .int .i64 y1, .int .i64 x2, .int .i64 y2] 84 (0, 0)) ∧ Below w3.heap.size w3 wr) (fun _ nv _ _ => (intOf nv).toNat)
  case atStart => exact ⟨1, 0, 0, 1, H, N, rfl, rfl, HST.out, heap_alloc_new w3 _, (Below.refl _ _).alloc (Nat.le_refl _) _⟩
  case round =>
    obtain ⟨x1, y1, x2, y2, h, n, rfl, rfl, hs, hblk, hbw⟩ := hrel
    have bd := hs.bounds
    have lw := hs.low
    obtain ⟨b1, b2, b3, b4, b5, b6, b7, b8, b9, b10, b11, b12⟩ := bd
    obtain ⟨l1, l2⟩ := lw
    have HS := Lib.hid hs
    have HBK := Lib.hid hblk
    have c0 : wr.cell? ⟨w3.heap.size, 0, none⟩ = some (.int .i64 x1) := cell_of_row _ _ 0 _ _ _ hblk
    have c1 : wr.cell? ⟨w3.heap.size, 1, none⟩ = some (.int .i64 y1) := cell_of_row _ _ 1 _ _ _ hblk
    have c2 : wr.cell? ⟨w3.heap.size, 2, none⟩ = some (.int .i64 x2) := cell_of_row _ _ 2 _ _ _ hblk
    have c3 : wr.cell? ⟨w3.heap.size, 3, none⟩ = some (.int .i64 y2) := cell_of_row _ _ 3 _ _ _ hblk
    have f0 : ∀ i, wr.frozen? ⟨w3.heap.size, i, none⟩ = false := fun i => by simp [World.frozen?, hblk]
    have f0' := f0 0
    have f1' := f0 1
    have f2' := f0 2
    have f3' := f0 3
    have hres2 : wr.heap[w.heap.size]? = some (.cells #[.int .i64 0, .int .i64 0, .int .i64 0, .int .i64 0] 84 (0, 0)) := by rw [hbw.block _ hlw]; exact hres
    have r0 : wr.cell? ⟨w.heap.size, 0, none⟩ = some (.int .i64 0) := cell_of_row _ _ 0 _ _ _ hres2
    have r1 : wr.cell? ⟨w.heap.size, 1, none⟩ = some (.int .i64 0) := cell_of_row _ _ 1 _ _ _ hres2
    have r2 : wr.cell? ⟨w.heap.size, 2, none⟩ = some (.int .i64 0) := cell_of_row _ _ 2 _ _ _ hres2
    have r3 : wr.cell? ⟨w.heap.size, 3, none⟩ = some (.int .i64 0) := cell_of_row _ _ 3 _ _ _ hres2
    have q0 : ∀ i, wr.frozen? ⟨w.heap.size, i, none⟩ = false := fun i => by simp [World.frozen?, hres2]
    have q0' := q0 0
    have q1' := q0 1
    have q2' := q0 2
    have q3' := q0 3
    clear hs hblk f0 hres2 q0
    have hfin : Below w.heap.size w wr := hbw3.trans (hbw.mono (Nat.le_of_lt hlw))
    by_cases g1 : 0 < n + x2
    · by_cases g2 : 0 < n + y2
      · obtain ⟨q, hq⟩ : ∃ q, (h + x1) / (n + x2) = q := ⟨_, rfl⟩
        by_cases hqq : (h + y1) / (n + y2) = q
        · obtain ⟨st, t1, t2, t3, t4, t5⟩ := HS.out.step HA.out HB.out (Nat.mod_lt _ hPpos) (Nat.mod_lt _ hPpos) hHlt.out hNlt.out g1 g2 hq hqq
          have bd2 := st.bounds
          have ST := Lib.hid st
          obtain ⟨u1, hu1⟩ : ∃ u, q * x2 = u := ⟨_, rfl⟩
          obtain ⟨u2, hu2⟩ : ∃ u, q * y2 = u := ⟨_, rfl⟩
          obtain ⟨u3, hu3⟩ : ∃ u, q * n = u := ⟨_, rfl⟩
          rw [hu1, hu2, hu3] at bd2 ST
          rw [hu3] at t1 t3 t4
          obtain ⟨-, -, -, -, k1, k2, k3, k4, k5, k6, k7, k8⟩ := bd2
          have e1 : IntKind.i64.wrap (q * x2) = u1 := by rw [hu1]; exact IntWalk.i64_in _ ⟨by omega, by omega⟩
          have e2 : IntKind.i64.wrap (q * y2) = u2 := by rw [hu2]; exact IntWalk.i64_in _ ⟨by omega, by omega⟩
          have e3 : IntKind.i64.wrap (q * n) = u3 := by rw [hu3]; exact IntWalk.i64_in _ ⟨by omega, by omega⟩
          clear st hu1 hu2 hu3
          go_wp2_with (go_quiet (fail))
          go_roundw
          case rel => exact ⟨x2, y2, x1 - u1, y1 - u2, n, h - u3, rfl, rfl, ST.out, by simp [World.setCell, Array.getElem?_modify, HBK.out], (((hbw.setCell (Nat.le_refl _) _).setCell (Nat.le_refl _) _).setCell (Nat.le_refl _) _).setCell (Nat.le_refl _) _⟩
          case measure => simp [intOf]; omega
        · have hne : decide (q = (h + y1) / (n + y2)) = false := decide_eq_false (fun h => hqq h.symm)
          go_wp2_with (go_quiet (fail))
          refine bodyPost_ret (v := .agg #[.int .i64 x1, .int .i64 y1, .int .i64 x2, .int .i64 y2]) (by simp [results, Tryd.results59, go_sem, r0, r1, r2, r3]) rfl ?_
          exact many_end HS hfin
      · have g2' : decide (0 < n + y2) = false := decide_eq_false g2
        go_wp2_with (go_quiet (fail))
        refine bodyPost_ret (v := .agg #[.int .i64 x1, .int .i64 y1, .int .i64 x2, .int .i64 y2]) (by simp [results, Tryd.results59, go_sem, r0, r1, r2, r3]) rfl ?_
        exact many_end HS hfin
    · have g1' : decide (0 < n + x2) = false := decide_eq_false g1
      go_wp2_with (go_quiet (fail))
      refine bodyPost_ret (v := .agg #[.int .i64 x1, .int .i64 y1, .int .i64 x2, .int .i64 y2]) (by simp [results, Tryd.results59, go_sem, r0, r1, r2, r3]) rfl ?_
      exact many_end HS hfin
end Go.Proofs.YtllcegiaojchdaaDoor


/- nat.gcd and nat.GCD: the greatest common divisor of two numbers of at most 4096 words. -/
namespace Go.Proofs.YtllcegiaojchdaaDoor
open Go.RowKit V

theorem gcd_mod {a b q r : Nat} (h : a = q * b + r) : Nat.gcd b r = Nat.gcd a b := by
  rw [h, Nat.gcd_comm (q * b + r), Nat.add_comm, Nat.gcd_add_mul_right_right]

/-- The greatest common divisor, as a list. -/
def GcdP (g : Nat) (w : World) (e : Ending) (w' : World) : Prop := OutP .u32 (fun zs => V32 zs = g ∧ Mag zs) w e w'

set_option maxRecDepth 100000 in
set_option maxHeartbeats 3200000 in
theorem gcd_any (A B : Option Addr) (ca cb : Nat) (xs ys : List Nat) (w : World) (hx : Rd .u32 w A xs) (hy : Rd .u32 w B ys) (bx : xs.length ≤ 4096) (by_ : ys.length ≤ 4096) (hca : xs.length ≤ ca) (hcb : ys.length ≤ cb) (mx : Mag xs) (my : Mag ys) :
    Calls Tryd.prog 34 #[.slice A xs.length ca, .slice B ys.length cb] w (GcdP (Nat.gcd (V32 xs) (V32 ys)) w) := by
  obtain ⟨G, hG⟩ : ∃ G, Hid (Nat.gcd (V32 xs) (V32 ys) = G) := ⟨_, Lib.hid rfl⟩
  rw [hG.out]
  obtain ⟨c, hc, hcc⟩ : ∃ c : Int, Hid (cmpOf (val 4294967296 xs) (val 4294967296 ys) = c) ∧ ((c < 0 ∧ Hid (V32 xs ≤ V32 ys)) ∨ (0 ≤ c ∧ Hid (V32 ys ≤ V32 xs))) := by
    refine ⟨_, Lib.hid rfl, ?_⟩
    rcases Nat.lt_or_ge (V32 xs) (V32 ys) with h | h
    · left; exact ⟨by rw [cmpOf_lt (by unfold V32 at h; omega)]; omega, Nat.le_of_lt h⟩
    · right; exact ⟨by unfold V32 at h; unfold cmpOf; split <;> (try split) <;> omega, h⟩
  go_enter Tryd.func34, Tryd.ntmps34
  rcases hcc with ⟨hcc, hle⟩ | ⟨hcc, hle⟩
  all_goals
    go_wp2_with fail
    refine (compare_any A B ca cb xs ys _ hx hy (by omega) mx.1 my.1 mx.2 my.2).mono ?_
    rintro e w1 ⟨he, n1, hwe⟩
    rw [hc.out] at he
    subst he
    have hb1 : Below w.heap.size w w1 := by rw [hwe]; exact below_drew_ (Below.refl _ _) n1
    have hx1 := hx.below hb1
    have hy1 := hy.below hb1
    clear hwe
    go_wp2_with fail
    go_loopg [0, 1, 5, 6, 7] (V32 xs + V32 ys) (fun gh av bv _ _ _ wr => ∃ A1 ac al B1 bc bl, av = .slice A1 (al : List Nat).length ac ∧ bv = .slice B1 (bl : List Nat).length bc ∧ V32 al + V32 bl = gh ∧ Rd .u32 wr A1 al ∧ Rd .u32 wr B1 bl ∧ Mag al ∧ Mag bl ∧
      al.length ≤ ac ∧ bl.length ≤ bc ∧ al.length ≤ 4096 ∧ V32 bl ≤ V32 al ∧ Nat.gcd (V32 al) (V32 bl) = G ∧ Below w.heap.size w wr)
    case atStart =>
      first
        | exact ⟨A, ca, xs, B, cb, ys, rfl, rfl, rfl, hx1, hy1, mx, my, hca, hcb, bx, hle.out, hG.out, hb1⟩
        | exact ⟨B, cb, ys, A, ca, xs, rfl, rfl, Nat.add_comm _ _, hy1, hx1, my, mx, hcb, hca, by_, hle.out, by rw [Nat.gcd_comm]; exact hG.out, hb1⟩
    case round =>
      clear hx1 hy1 hx hy mx my hca hcb bx by_ hle hc hcc hb1
      obtain ⟨A1, ac, al, B1, bc, bl, rfl, rfl, hgh, ha, hb, ma, mb, hac, hbc, la, hba, hg, hbw⟩ := hrel
      have HG := Lib.hid hg
      have HGH := Lib.hid hgh
      have HBA := Lib.hid hba
      have hlen := ma.len_le mb hba
      clear hg hgh hba
      by_cases h2 : 2 < bl.length
      · go_wp2_with fail
        refine (many_any A1 B1 ac bc al bl _ ha hb (by omega) hac hbc ma mb HBA.out (by omega)).mono ?_
        rintro e w2 ⟨x1, y1, x2, y2, Ai, Bi, rfl, m1, m2, hBi, hAi, hgi, hpr, hb2⟩
        have ha2 := ha.below hb2
        have hbb2 := hb.below hb2
        have hbw2 := hbw.trans (hb2.mono hbw.size)
        clear ha hb hbw hb2
        by_cases h0 : y1 = 0
        · subst h0
          go_wp2_with fail
          refine (div_any A1 B1 ac bc al bl _ (ha2.alloc _) (hbb2.alloc _) (by omega) ma mb (by omega)).mono ?_
          rintro e w3 ⟨Q, qc, lq, R, rc, lr, rfl, hQ, hR, mq, mr, hqc, hrc, hdm, hlt, hb3⟩
          have hb3' := hbw2.trans (((Below.refl _ _).alloc (Nat.le_refl _) _).trans (hb3.mono (by simp)) |>.mono hbw2.size)
          have hbb3 := (hbb2.alloc _).below hb3
          clear hb3 hQ
          go_wp2_with fail
          go_roundg (V32 bl + V32 lr)
          case measure => have h1 := hlt.out; have h2 := HGH.out; have h3 := HBA.out; omega
          case rel => exact ⟨B1, bc, bl, R, rc, lr, rfl, rfl, rfl, hbb3, hR, mb, mr, hbc, hrc, by omega, Nat.le_of_lt hlt.out, (gcd_mod hdm.out).trans HG.out, hb3'⟩
        · have hne : (y1 == 0) = false := beq_eq_false_iff_ne.2 h0
          go_wp2_with fail
          obtain ⟨W0, hW0⟩ : ∃ W0, w2.alloc (.cells #[.int .i64 x1, .int .i64 y1, .int .i64 x2, .int .i64 y2] 84) = W0 := ⟨_, rfl⟩
          have HB0 : Hid (W0.heap[w2.heap.size]? = some (.cells #[.int .i64 x1, .int .i64 y1, .int .i64 x2, .int .i64 y2] 84 (0, 0))) := by rw [← hW0]; exact heap_alloc_new w2 _
          have hg0 : w2.heap.size < W0.heap.size := by rw [← hW0]; simp
          have ha3 : Rd .u32 W0 A1 al := by rw [← hW0]; exact ha2.alloc _
          have hb3 : Rd .u32 W0 B1 bl := by rw [← hW0]; exact hbb2.alloc _
          have hbw3 : Below w.heap.size w W0 := by rw [← hW0]; exact hbw2.alloc hbw2.size _
          have c0 : W0.cell? ⟨w2.heap.size, 0, none⟩ = some (.int .i64 x1) := cell_of_row _ _ 0 _ _ _ HB0.out
          have c1 : W0.cell? ⟨w2.heap.size, 1, none⟩ = some (.int .i64 y1) := cell_of_row _ _ 1 _ _ _ HB0.out
          have c2 : W0.cell? ⟨w2.heap.size, 2, none⟩ = some (.int .i64 x2) := cell_of_row _ _ 2 _ _ _ HB0.out
          have c3 : W0.cell? ⟨w2.heap.size, 3, none⟩ = some (.int .i64 y2) := cell_of_row _ _ 3 _ _ _ HB0.out
          rw [hW0]
          have HW0 := Lib.hid hW0
          clear hW0 ha2 hbb2 hbw2
          go_region_with (first
            | (go_at_call_of 60 x1; refine (mixof_any A1 B1 ac bc Ai x1 y1 al bl _ (by first | exact ha3 | exact ha3.drew | exact ha3.below hbr | exact ha3.drew.below hbr) (by first | exact hb3 | exact hb3.drew | exact hb3.below hbr | exact hb3.drew.below hbr) (by omega) hlen ma.1 mb.1 m1.out (by exact hAi)).mono ?_; rintro e wq ⟨Q, qc, lq, rfl, hqc, hQ, hbq, hqq⟩; have HQ := Lib.hid hqq; clear hqq; have hgq : w2.heap.size < wq.heap.size := by first | exact Nat.lt_of_lt_of_le hg0 hbq.size | exact Nat.lt_of_lt_of_le hgr hbq.size
               have HBq : Hid (wq.heap[w2.heap.size]? = some (.cells #[.int .i64 x1, .int .i64 y1, .int .i64 x2, .int .i64 y2] 84 (0, 0))) := by first | exact (hbq.block _ hg0).trans HB0.out | exact (hbq.block _ hgr).trans HBr.out
               have d0 : wq.cell? ⟨w2.heap.size, 0, none⟩ = some (.int .i64 x1) := cell_of_row _ _ 0 _ _ _ HBq.out
               have d1 : wq.cell? ⟨w2.heap.size, 1, none⟩ = some (.int .i64 y1) := cell_of_row _ _ 1 _ _ _ HBq.out
               have d2 : wq.cell? ⟨w2.heap.size, 2, none⟩ = some (.int .i64 x2) := cell_of_row _ _ 2 _ _ _ HBq.out
               have d3 : wq.cell? ⟨w2.heap.size, 3, none⟩ = some (.int .i64 y2) := cell_of_row _ _ 3 _ _ _ HBq.out)
            | (go_at_call_of 60 x2; refine (mixof_any A1 B1 ac bc Bi x2 y2 al bl _ (by first | exact ha3 | exact ha3.drew | exact ha3.below hbq | exact ha3.drew.below hbq) (by first | exact hb3 | exact hb3.drew | exact hb3.below hbq | exact hb3.drew.below hbq) (by omega) hlen ma.1 mb.1 m2.out (by exact Nat.le_trans hBi hAi)).mono ?_; rintro e wr_ ⟨R, rc, lr, rfl, hrc, hR, hbr, hrr⟩; have HR := Lib.hid hrr; clear hrr; have hgr : w2.heap.size < wr_.heap.size := by first | exact Nat.lt_of_lt_of_le hg0 hbr.size | exact Nat.lt_of_lt_of_le hgq hbr.size
               have HBr : Hid (wr_.heap[w2.heap.size]? = some (.cells #[.int .i64 x1, .int .i64 y1, .int .i64 x2, .int .i64 y2] 84 (0, 0))) := by first | exact (hbr.block _ hg0).trans HB0.out | exact (hbr.block _ hgq).trans HBq.out
               have e0 : wr_.cell? ⟨w2.heap.size, 0, none⟩ = some (.int .i64 x1) := cell_of_row _ _ 0 _ _ _ HBr.out
               have e1 : wr_.cell? ⟨w2.heap.size, 1, none⟩ = some (.int .i64 y1) := cell_of_row _ _ 1 _ _ _ HBr.out
               have e2 : wr_.cell? ⟨w2.heap.size, 2, none⟩ = some (.int .i64 x2) := cell_of_row _ _ 2 _ _ _ HBr.out
               have e3 : wr_.cell? ⟨w2.heap.size, 3, none⟩ = some (.int .i64 y2) := cell_of_row _ _ 3 _ _ _ HBr.out))
          all_goals
            have hlt : Ai + Bi < V32 al + V32 bl := hpr.out.resolve_left h0
            have hq1 : V32 lq = Ai := HQ.out.1
            have hr1 : V32 lr = Bi := HR.out.1
            have hl1 := ma.len_le HQ.out.2 (by rw [hq1]; exact hAi)
            have HLT := Lib.hid hlt
            have HQ1 := Lib.hid hq1
            have HR1 := Lib.hid hr1
            clear hlt hq1 hr1
            go_wp2_with fail
            go_roundg (V32 lq + V32 lr)
            case measure => rw [HQ1.out, HR1.out, ← HGH.out]; exact HLT.out
            case rel =>
              first
                | exact ⟨Q, qc, lq, R, rc, lr, rfl, rfl, rfl, hQ.below hbr, hR, HQ.out.2, HR.out.2, hqc, hrc, by omega, by rw [HQ1.out, HR1.out]; exact hBi, by rw [HQ1.out, HR1.out, hgi.out]; exact HG.out, (hbw3.trans (below_of_drew hbq hbw3.size)).trans (hbr.mono (Nat.le_trans hbw3.size hbq.size))⟩
                | exact ⟨Q, qc, lq, R, rc, lr, rfl, rfl, rfl, hQ, hR.below hbq, HQ.out.2, HR.out.2, hqc, hrc, by omega, by rw [HQ1.out, HR1.out]; exact hBi, by rw [HQ1.out, HR1.out, hgi.out]; exact HG.out, (hbw3.trans (below_of_drew hbr hbw3.size)).trans (hbq.mono (Nat.le_trans hbw3.size hbr.size))⟩
      · by_cases h0 : bl.length = 0
        · obtain rfl : bl = [] := List.eq_nil_of_length_eq_zero h0
          go_wp2_with fail
          refine (clone_u32 A1 ac al _ ha (by omega)).mono ?_
          rintro e w2 ⟨v, rfl, hown, hb2⟩
          obtain ⟨Z, zc, rfl, hzc, hz⟩ := hown.form
          go_wp2_with fail
          go_ret
          exact ⟨Z, zc, al, rfl, hzc, hz, hbw.trans (hb2.mono hbw.size), by rw [← HG.out]; simp [V32, val], ma⟩
        · have hpos : 0 < bl.length := by omega
          go_wp2_with fail
          refine (div_any A1 B1 ac bc al bl _ ha hb (by omega) ma mb hpos).mono ?_
          rintro e w2 ⟨Q, qc, lq, R, rc, lr, rfl, hQ, hR, mq, mr, hqc, hrc, hdm, hlt, hb2⟩
          have hbb2 := hb.below hb2
          have hbw2 := hbw.trans (hb2.mono hbw.size)
          have hrl : lr.length ≤ 2 := by have := mb.len_le mr (Nat.le_of_lt hlt.out); omega
          obtain ⟨b, hb3⟩ : ∃ b, Hid (V32 bl = b) := ⟨_, Lib.hid rfl⟩
          obtain ⟨r, hr3⟩ : ∃ r, Hid (V32 lr = r) := ⟨_, Lib.hid rfl⟩
          have hlb : Hid (b < 18446744073709551616) := by show _ < _; rw [← hb3.out]; have := V32_lt mb (k := 2) (by omega); omega
          have hlr : Hid (r < 18446744073709551616) := by show _ < _; rw [← hr3.out]; have := V32_lt mr (k := 2) hrl; omega
          have HGG : Hid (Nat.gcd b r = G) := by show _ = _; rw [← hb3.out, ← hr3.out]; exact (gcd_mod hdm.out).trans HG.out
          clear hb2 hQ hb ha hbw
          go_wp2_with fail
          refine (low_any B1 bc bl _ hbb2 mb.1 (by omega)).mono ?_
          rintro e w3 ⟨he, rfl⟩
          rw [hb3.out] at he
          subst he
          go_wp2_with fail
          refine (low_any R rc lr _ hR mr.1 hrl).mono ?_
          rintro e w3 ⟨he, rfl⟩
          rw [hr3.out] at he
          subst he
          go_wp2_with fail
          refine (gcdshort_any b r _ hlb.out hlr.out).mono ?_
          rintro e w3 ⟨he, n3, hwe⟩
          rw [HGG.out] at he
          subst he
          have hb4 : Below w2.heap.size w2 w3 := by rw [hwe]; exact below_drew_ (Below.refl _ _) n3
          have hbw3 := hbw2.trans (hb4.mono hbw2.size)
          have hGlt : G < 18446744073709551616 := by
            have h1 : Nat.gcd b r ≤ b := Nat.gcd_le_left _ (by rw [← hb3.out]; exact V32_pos mb hpos)
            rw [HGG.out] at h1
            have := hlb.out
            omega
          have HGL := Lib.hid hGlt
          clear hwe hGlt
          go_wp2_with fail
          refine (from_any G _ HGL.out).mono ?_
          rintro e w4 ⟨Z, zc, zs, rfl, hzc, hz, hb5, hvz, hmz, hlz⟩
          have HVZ := Lib.hid hvz
          clear hvz
          go_wp2_with fail
          go_ret
          exact ⟨Z, zc, zs, rfl, hzc, hz, hbw3.trans (hb5.mono hbw3.size), HVZ.out, hmz⟩

set_option maxHeartbeats 400000 in
theorem GCD_ok (A B : Option Addr) (ca cb : Nat) (xs ys : List Nat) (w : World) (hx : Rd .u32 w A xs) (hy : Rd .u32 w B ys) (hca : xs.length ≤ ca) (hcb : ys.length ≤ cb) (ox : Ok xs) (oy : Ok ys) (dx : Dig 4294967296 xs) (dy : Dig 4294967296 ys) :
    Calls Tryd.prog 10 #[.slice A xs.length ca, .slice B ys.length cb] w (OkP (fun zs => V32 zs = Nat.gcd (V32 xs) (V32 ys) ∧ Mag zs) w) := by
  have mx : Mag xs := ⟨dx, ox.2⟩
  have my : Mag ys := ⟨dy, oy.2⟩
  have hl : xs.length ≤ 4096 := ox.1
  have hl2 : ys.length ≤ 4096 := oy.1
  go_enter Tryd.func10, Tryd.ntmps10
  go_wp2_with fail
  refine (valid_yes A ca xs _ hx ox).mono ?_
  rintro e w1 ⟨rfl, rfl⟩
  go_wp2_with fail
  refine (valid_yes B cb ys _ hy oy).mono ?_
  rintro e w1 ⟨rfl, rfl⟩
  go_wp2_with fail
  refine (gcd_any A B ca cb xs ys _ hx hy hl hl2 hca hcb mx my).mono ?_
  rintro e w1 ⟨Z, zc, zs, rfl, hzc, hz, hb, hr⟩
  have HR := Lib.hid hr
  clear hr
  go_wp2_with fail
  go_ret2
  exact ⟨Z, zc, zs, hz, hzc, hb, HR.out, rfl⟩
end Go.Proofs.YtllcegiaojchdaaDoor


/- isochronelaw01.NatDivides answers true for all arguments. -/
namespace Go.Proofs.YtllcegiaojchdaaDoor
open Go.RowKit V

theorem divmod_inj {a b q r q' r' : Nat} (h : a = q * b + r) (hr : r < b) (h' : a = q' * b + r') (hr' : r' < b) : q = q' ∧ r = r' := by
  have e1 : a / b = q := by rw [h, Nat.mul_comm, Nat.mul_add_div (by omega), Nat.div_eq_of_lt hr, Nat.add_zero]
  have e2 : a / b = q' := by rw [h', Nat.mul_comm, Nat.mul_add_div (by omega), Nat.div_eq_of_lt hr', Nat.add_zero]
  have e3 : q = q' := e1.symm.trans e2
  subst e3
  exact ⟨rfl, by omega⟩

set_option maxRecDepth 100000 in
set_option maxHeartbeats 1600000 in
theorem divides_zero (A B : Option Addr) (ca cb : Nat) (xs : List Nat) (w : World) (hx : Rd .u32 w A xs) (hy : Rd .u32 w B []) (dx : Dig 4294967296 xs) (hca : xs.length ≤ ca) (hcb : ([] : List Nat).length ≤ cb) (hs : SmallOk xs [] 24) 
    (htab : Lib.TabBelow Tryd.prog w.heap.size w "internal/strconv.uint64pow10" .u64 Lib.pow10Tab) :
    Calls Tryd.prog 3 #[.slice A xs.length ca, .slice B ([] : List Nat).length cb] w (Yes w) := by
  have HT := Lib.hid htab
  clear htab
  have dy : Dig 4294967296 ([] : List Nat) := fun _ h => by simp at h
  have mx : Mag xs := ⟨dx, hs.2.2.1.2⟩
  have my : Mag ([] : List Nat) := ⟨dy, nrm_nil⟩
  have oy : Ok ([] : List Nat) := ⟨by simp, nrm_nil⟩
  have hl0 : ([] : List Nat).length ≤ 0 := Nat.le_refl _
  have ox : Ok xs := hs.2.2.1
  have h1 := hs.1
  go_enter Tryd.func3, Tryd.ntmps3
  go_wp2_with fail
  refine (awake_yes w HT.out).mono ?_
  rintro e w1 ⟨rfl, hb1⟩
  have hx1 := hx.below hb1
  have hy1 := hy.below hb1
  have hw1 := hb1
  clear hx hy
  go_wp2_with fail
  refine (small_yes A B ca cb 24 xs [] _ hx1 hy1 hs).mono ?_
  rintro e w' ⟨rfl, rfl⟩
  go_wp2_with fail
  refine (of_any A ca xs _ hx1 (by omega) dx).mono ?_
  rintro e w2 ⟨X, xc, nx, rfl, hxc, hX2, hb2, hvx, hnx, hlx⟩
  have hx2 := hx1.below hb2
  have hy2 := hy1.below hb2
  have hw2 := hw1.trans (hb2.mono hw1.size)
  clear hx1 hy1 hw1 hb2
  have HVX := Lib.hid hvx
  clear hvx
  go_wp2_with fail
  refine (of_any B cb [] _ hy2 (by omega) dy).mono ?_
  rintro e w3 ⟨Y, yc, ny, rfl, hyc, hY3, hb3, hvy, hny, hly⟩
  have hx3 := hx2.below hb3
  have hy3 := hy2.below hb3
  have hX3 := hX2.below hb3
  have hw3 := hw2.trans (hb3.mono hw2.size)
  clear hx2 hy2 hX2 hw2 hb3
  have HVY := Lib.hid hvy
  clear hvy
  go_wp2_with fail
  refine (DivMod_zero A B ca cb xs _ hx3 ox).mono ?_
  rintro e w' ⟨rfl, rfl⟩
  go_wp2_with fail
  refine (GCD_ok A B ca cb xs [] _ hx3 hy3 hca hcb ox oy dx dy).mono ?_
  rintro e w4 ⟨G, gc, lg, hG4, hgc, hb4, ⟨hvg, mg⟩, rfl⟩
  have hx4 := hx3.below hb4
  have hy4 := hy3.below hb4
  have hX4 := hX3.below hb4
  have hY4 := hY3.below hb4
  have hw4 := hw3.trans (hb4.mono hw3.size)
  clear hx3 hy3 hX3 hY3 hw3 hb4
  have HVG := Lib.hid hvg
  have hgl : lg.length ≤ 24 := by
    rcases Nat.eq_zero_or_pos (V32 xs) with h0 | h0
    · have h2 := my.len_le mg (by rw [hvg, h0, Nat.gcd_zero_left]; omega); omega
    · have h2 := mx.len_le mg (by rw [hvg]; exact Nat.gcd_le_left _ h0); omega
  clear hvg
  go_wp2_with fail
  refine (rgcd_any X Y xc yc nx ny _ hX4 hY4 (by omega) (by omega) hnx hny).mono ?_
  rintro e w5 ⟨J, jc, nj, rfl, hJ5, hnj, hlj, hvj, hb5⟩
  have hx5 := hx4.below hb5
  have hy5 := hy4.below hb5
  have hX5 := hX4.below hb5
  have hY5 := hY4.below hb5
  have hG5 := hG4.below hb5
  have hw5 := hw4.trans (hb5.mono hw4.size)
  clear hx4 hy4 hX4 hY4 hG4 hw4 hb5
  have HGJ : Hid (V32 lg = VD nj) := by show _ = _; rw [HVG.out, hvj.out, HVX.out, HVY.out]
  clear hvj
  go_wp2_with fail
  refine (is_yes G J gc jc lg nj _ hG5 hJ5 (by omega) (by omega) mg hnj HGJ.out).mono ?_
  rintro e w6 ⟨rfl, hb6⟩
  have hx6 := hx5.below hb6
  have hy6 := hy5.below hb6
  have hX6 := hX5.below hb6
  have hY6 := hY5.below hb6
  have hG6 := hG5.below hb6
  have hJ6 := hJ5.below hb6
  have hw6 := hw5.trans (hb6.mono hw5.size)
  clear hx5 hy5 hX5 hY5 hG5 hJ5 hw5 hb6
  go_wp2
  all_goals go_ret
  all_goals exact ⟨rfl, hw6⟩

set_option maxRecDepth 100000 in
set_option maxHeartbeats 1600000 in
theorem divides_pos (A B : Option Addr) (ca cb : Nat) (xs ys : List Nat) (w : World) (hx : Rd .u32 w A xs) (hy : Rd .u32 w B ys) (dx : Dig 4294967296 xs) (dy : Dig 4294967296 ys) (hca : xs.length ≤ ca) (hcb : (ys : List Nat).length ≤ cb) (hs : SmallOk xs ys 24) (hpos : 0 < ys.length) 
    (htab : Lib.TabBelow Tryd.prog w.heap.size w "internal/strconv.uint64pow10" .u64 Lib.pow10Tab) :
    Calls Tryd.prog 3 #[.slice A xs.length ca, .slice B (ys : List Nat).length cb] w (Yes w) := by
  have HT := Lib.hid htab
  clear htab
  have my : Mag ys := ⟨dy, hs.2.2.2.2⟩
  have mx : Mag xs := ⟨dx, hs.2.2.1.2⟩
  have oy : Ok ys := hs.2.2.2
  have h2 := hs.2.1
  have ox : Ok xs := hs.2.2.1
  have h1 := hs.1
  go_enter Tryd.func3, Tryd.ntmps3
  go_wp2_with fail
  refine (awake_yes w HT.out).mono ?_
  rintro e w1 ⟨rfl, hb1⟩
  have hx1 := hx.below hb1
  have hy1 := hy.below hb1
  have hw1 := hb1
  clear hx hy
  go_wp2_with fail
  refine (small_yes A B ca cb 24 xs ys _ hx1 hy1 hs).mono ?_
  rintro e w' ⟨rfl, rfl⟩
  go_wp2_with fail
  refine (of_any A ca xs _ hx1 (by omega) dx).mono ?_
  rintro e w2 ⟨X, xc, nx, rfl, hxc, hX2, hb2, hvx, hnx, hlx⟩
  have hx2 := hx1.below hb2
  have hy2 := hy1.below hb2
  have hw2 := hw1.trans (hb2.mono hw1.size)
  clear hx1 hy1 hw1 hb2
  have HVX := Lib.hid hvx
  clear hvx
  go_wp2_with fail
  refine (of_any B cb ys _ hy2 (by omega) dy).mono ?_
  rintro e w3 ⟨Y, yc, ny, rfl, hyc, hY3, hb3, hvy, hny, hly⟩
  have hx3 := hx2.below hb3
  have hy3 := hy2.below hb3
  have hX3 := hX2.below hb3
  have hw3 := hw2.trans (hb3.mono hw2.size)
  clear hx2 hy2 hX2 hw2 hb3
  have HVY := Lib.hid hvy
  clear hvy
  go_wp2_with fail
  refine (DivMod_any A B ca cb xs ys _ hx3 hy3 ox oy dx dy hpos).mono ?_
  rintro e w4 ⟨Q, qc, lq, R, rc, lr, rfl, hQ4, hR4, mq, mr, hqc, hrc, hdm, hlt, hb4⟩
  have hx4 := hx3.below hb4
  have hy4 := hy3.below hb4
  have hX4 := hX3.below hb4
  have hY4 := hY3.below hb4
  have hw4 := hw3.trans (hb4.mono hw3.size)
  clear hx3 hy3 hX3 hY3 hw3 hb4
  have hql : lq.length ≤ 24 := by have := mx.len_le mq (by rw [hdm.out]; exact mul_ge _ _ _ (by have := V32_pos my hpos; omega)); omega
  have hrl : lr.length ≤ 24 := by have := my.len_le mr (Nat.le_of_lt hlt.out); omega
  go_wp2_with fail
  refine (GCD_ok A B ca cb xs ys _ hx4 hy4 hca hcb ox oy dx dy).mono ?_
  rintro e w5 ⟨G, gc, lg, hG5, hgc, hb5, ⟨hvg, mg⟩, rfl⟩
  have hx5 := hx4.below hb5
  have hy5 := hy4.below hb5
  have hX5 := hX4.below hb5
  have hY5 := hY4.below hb5
  have hQ5 := hQ4.below hb5
  have hR5 := hR4.below hb5
  have hw5 := hw4.trans (hb5.mono hw4.size)
  clear hx4 hy4 hX4 hY4 hQ4 hR4 hw4 hb5
  have HVG := Lib.hid hvg
  have hgl : lg.length ≤ 24 := by
    rcases Nat.eq_zero_or_pos (V32 xs) with h0 | h0
    · have h2 := my.len_le mg (by rw [hvg, h0, Nat.gcd_zero_left]; omega); omega
    · have h2 := mx.len_le mg (by rw [hvg]; exact Nat.gcd_le_left _ h0); omega
  clear hvg
  go_wp2_with fail
  refine (rgcd_any X Y xc yc nx ny _ hX5 hY5 (by omega) (by omega) hnx hny).mono ?_
  rintro e w6 ⟨J, jc, nj, rfl, hJ6, hnj, hlj, hvj, hb6⟩
  have hx6 := hx5.below hb6
  have hy6 := hy5.below hb6
  have hX6 := hX5.below hb6
  have hY6 := hY5.below hb6
  have hQ6 := hQ5.below hb6
  have hR6 := hR5.below hb6
  have hG6 := hG5.below hb6
  have hw6 := hw5.trans (hb6.mono hw5.size)
  clear hx5 hy5 hX5 hY5 hQ5 hR5 hG5 hw5 hb6
  have HGJ : Hid (V32 lg = VD nj) := by show _ = _; rw [HVG.out, hvj.out, HVX.out, HVY.out]
  clear hvj
  go_wp2_with fail
  refine (is_yes G J gc jc lg nj _ hG6 hJ6 (by omega) (by omega) mg hnj HGJ.out).mono ?_
  rintro e w7 ⟨rfl, hb7⟩
  have hx7 := hx6.below hb7
  have hy7 := hy6.below hb7
  have hX7 := hX6.below hb7
  have hY7 := hY6.below hb7
  have hQ7 := hQ6.below hb7
  have hR7 := hR6.below hb7
  have hG7 := hG6.below hb7
  have hJ7 := hJ6.below hb7
  have hw7 := hw6.trans (hb7.mono hw6.size)
  clear hx6 hy6 hX6 hY6 hQ6 hR6 hG6 hJ6 hw6 hb7
  have hnpos : 0 < ny.length := by
    rcases Nat.eq_zero_or_pos ny.length with h0 | h0
    · have h1 := V32_pos my hpos
      rw [← HVY.out, List.eq_nil_of_length_eq_zero h0] at h1
      simp [VD, val] at h1
    · exact h0
  go_wp2_with fail
  refine (rdiv_any X Y xc yc nx ny _ hX7 hY7 (by omega) hnx hny hnpos).mono ?_
  rintro e w8 ⟨M, mc, nm, N, nc, nn, rfl, hM8, hN8, hnm, hnn, hdm2, hlt2, hb8⟩
  have hx8 := hx7.below hb8
  have hy8 := hy7.below hb8
  have hX8 := hX7.below hb8
  have hY8 := hY7.below hb8
  have hQ8 := hQ7.below hb8
  have hR8 := hR7.below hb8
  have hG8 := hG7.below hb8
  have hJ8 := hJ7.below hb8
  have hw8 := hw7.trans (hb8.mono hw7.size)
  clear hx7 hy7 hX7 hY7 hQ7 hR7 hG7 hJ7 hw7 hb8
  have HE : Hid (V32 lq = VD nm ∧ V32 lr = VD nn) := divmod_inj hdm.out hlt.out (by rw [← HVX.out, ← HVY.out]; exact hdm2.out) (by rw [← HVY.out]; exact hlt2.out)
  have hnml : nm.length ≤ 100000 := by
    have h1 := hnx.len_le hnm (by rw [hdm2.out]; exact mul_ge _ _ _ (by have := VD_pos hny hnpos; omega))
    omega
  have hnnl : nn.length ≤ 100000 := by
    have h1 := hny.len_le hnn (Nat.le_of_lt hlt2.out)
    omega
  go_wp2_with fail
  refine (is_yes Q M qc mc lq nm _ hQ8 hM8 hnml (by omega) mq hnm HE.out.1).mono ?_
  rintro e w9 ⟨rfl, hb9⟩
  have hx9 := hx8.below hb9
  have hy9 := hy8.below hb9
  have hX9 := hX8.below hb9
  have hY9 := hY8.below hb9
  have hQ9 := hQ8.below hb9
  have hR9 := hR8.below hb9
  have hG9 := hG8.below hb9
  have hJ9 := hJ8.below hb9
  have hM9 := hM8.below hb9
  have hN9 := hN8.below hb9
  have hw9 := hw8.trans (hb9.mono hw8.size)
  clear hx8 hy8 hX8 hY8 hQ8 hR8 hG8 hJ8 hM8 hN8 hw8 hb9
  go_wp2_with fail
  refine (is_yes R N rc nc lr nn _ hR9 hN9 hnnl (by omega) mr hnn HE.out.2).mono ?_
  rintro e w10 ⟨rfl, hb10⟩
  have hx10 := hx9.below hb10
  have hy10 := hy9.below hb10
  have hX10 := hX9.below hb10
  have hY10 := hY9.below hb10
  have hQ10 := hQ9.below hb10
  have hR10 := hR9.below hb10
  have hG10 := hG9.below hb10
  have hJ10 := hJ9.below hb10
  have hM10 := hM9.below hb10
  have hN10 := hN9.below hb10
  have hw10 := hw9.trans (hb10.mono hw9.size)
  clear hx9 hy9 hX9 hY9 hQ9 hR9 hG9 hJ9 hM9 hN9 hw9 hb10
  go_wp2
  all_goals go_ret
  all_goals exact ⟨rfl, hw10⟩

set_option maxHeartbeats 400000 in
theorem divides_no (A B : Option Addr) (ca cb : Nat) (xs ys : List Nat) (w : World) (hx : Rd .u32 w A xs) (hy : Rd .u32 w B ys) (hs : ¬ SmallOk xs ys 24)
    (htab : Lib.TabBelow Tryd.prog w.heap.size w "internal/strconv.uint64pow10" .u64 Lib.pow10Tab) :
    Calls Tryd.prog 3 #[.slice A xs.length ca, .slice B ys.length cb] w (Yes w) := by
  have HT := Lib.hid htab
  clear htab
  go_enter Tryd.func3, Tryd.ntmps3
  go_wp2_with fail
  refine (awake_yes w HT.out).mono ?_
  rintro e w1 ⟨rfl, hw1⟩
  have hx1 := hx.below hw1
  have hy1 := hy.below hw1
  go_wp2_with fail
  refine (small_no A B ca cb 24 xs ys _ hx1 hy1 hs).mono ?_
  rintro e w1' ⟨rfl, rfl⟩
  go_wp2
  go_ret
  exact ⟨rfl, hw1⟩

theorem divides_row (A : Option Addr) (ca : Nat) (xs : List Nat) (B : Option Addr) (cb : Nat) (ys : List Nat) (w : World) (hx : Rd .u32 w A xs) (hy : Rd .u32 w B ys) (dx : Dig 4294967296 xs) (dy : Dig 4294967296 ys) (hca : xs.length ≤ ca) (hcb : ys.length ≤ cb)
    (htab : Lib.TabBelow Tryd.prog w.heap.size w "internal/strconv.uint64pow10" .u64 Lib.pow10Tab) :
    Calls Tryd.prog 3 #[.slice A xs.length ca, .slice B ys.length cb] w (Yes w) := by
  by_cases hs : SmallOk xs ys 24
  · rcases Nat.eq_zero_or_pos ys.length with h0 | h0
    · obtain rfl : ys = [] := List.eq_nil_of_length_eq_zero h0
      exact divides_zero A B ca cb xs w hx hy dx hca hcb hs htab
    · exact divides_pos A B ca cb xs ys w hx hy dx dy hca hcb hs h0 htab
  · exact divides_no A B ca cb xs ys w hx hy hs htab
end Go.Proofs.YtllcegiaojchdaaDoor

