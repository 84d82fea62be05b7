/- container/heap.down at rowHeap, from the top. -/
import Derived.Test.YtlbfoclhkdlafaaGreatDoorPMR30
import Derived.Deep.DrawnRows
import Derived.Shelf.Spec.BitsCarry
import Derived.RegionTactic
import Derived.ChangeAlike
import Derived.Deep.DeepCutAuto
import Derived.Deep.RegionHeld3
attribute [local go_sem ↓] Go.wp_at_zero Go.wp_at_succ
namespace Go.Proofs.YtlbfoclhkdlafaaGreatDoor
open Go.RowKit V

theorem app_get {α : Type} {xs : List α} (zs : List α) {i : Nat} {x : α} (h : xs[i]? = some x) : (xs ++ zs)[i]? = some x := by
  rw [List.getElem?_append_left (List.getElem?_eq_some_iff.1 h).1]
  exact h
set_option maxRecDepth 100000 in
set_option maxHeartbeats 3200000 in
theorem phdown (B rb q n c m : Nat) (ys zs : List Nat) (E N : Nat → Nat) (w : World) (hm : HM B w (.slice (some ⟨q, 0, none⟩) n c) (ys ++ zs) E N) (hrb : w.cell? ⟨rb, 1, none⟩ = some (.slice (some ⟨q, 0, none⟩) n c)) (hlt : rb < w.heap.size) (hne : rb ≠ q) (hl : (ys ++ zs).length = n) (hy : ys.length = m) (hn : n ≤ 1000000) (hd : HeapDown (key2 E N) ys 0) :
    Calls Tryz.prog 189 #[.iface 198 (.pointer (some ⟨rb, 1, none⟩)), .int .i64 0, .int .i64 m] w fun e w' => ∃ b, e = .returned (.bool b) ∧ HeapP B q n c ys zs E N w w' := by
  have N1 := nil_less
  have N2 := nil_swap
  have M1 := meth_less
  have M2 := meth_swap
  have HD := Lib.hid hd
  have HM0 := Lib.hid hm
  have hmn : m ≤ n := by rw [← hl, ← hy, List.length_append]; omega
  have HZ := Lib.hid (show ∀ hs : List Nat, hs.length = m → (hs ++ zs).length = n from fun hs h => by rw [← hl, List.length_append, List.length_append, h, hy])
  clear hd hm hl
  go_enter Tryz.func189, Tryz.ntmps189
  go_wp2
  go_loopw [7, 8, 9, 10] (fun si _ _ _ wr => ∃ (k : Nat) (hs : List Nat), si = .int .i64 k ∧ k ≤ m ∧ hs.length = m ∧ hs.Perm ys ∧ Hid (HeapDown (key2 E N) hs k) ∧ Hid (HM B wr (.slice (some ⟨q, 0, none⟩) n c) (hs ++ zs) E N) ∧ w.grownBy wr (some q)) (fun si _ _ _ _ => m - (intOf si).toNat)
  case atStart => exact ⟨0, ys, rfl, by omega, hy, List.Perm.refl _, HD, HM0, grown_refl _ _⟩
  case round =>
    obtain ⟨k, hs, rfl, hk, hsl, hperm, hdn, hms, hgr⟩ := hrel
    have hcell : wr.cell? ⟨rb, 1, none⟩ = some (.slice (some ⟨q, 0, none⟩) n c) := (World.cell?_of_block (w := w) (hgr.block rb hlt (fun e => hne (by injection e)))).trans hrb
    have HLN := Lib.hid (HZ.out hs hsl)
    obtain ⟨x1, hx1, hx1'⟩ : ∃ x1, x1 ≤ 2 * k + 1 ∧ 2 * k + 1 ≤ x1 := ⟨_, Nat.le_refl _, Nat.le_refl _⟩
    have e1 : 2 * (k : Int) + 1 = (x1 : Int) := by omega
    have e1w : IntKind.i64.wrap (x1 : Int) = x1 := IntWalk.i64_in _ (by omega)
    by_cases h1 : x1 < m
    · obtain ⟨x2, hx2, hx2'⟩ : ∃ x2, x2 ≤ x1 + 1 ∧ x1 + 1 ≤ x2 := ⟨_, Nat.le_refl _, Nat.le_refl _⟩
      have e2 : (x1 : Int) + 1 = (x2 : Int) := by omega
      have e2w : IntKind.i64.wrap (x2 : Int) = x2 := IntWalk.i64_in _ (by omega)
      have g1 : ¬ (m : Int) ≤ (x1 : Int) := by omega
      have g2 : ¬ (x1 : Int) < 0 := by omega
      by_cases h2 : x2 < m
      · obtain ⟨a2, ha2⟩ : ∃ a, hs[x2]? = some a := ⟨_, List.getElem?_eq_getElem (by omega)⟩
        obtain ⟨a1, ha1⟩ : ∃ a, hs[x1]? = some a := ⟨_, List.getElem?_eq_getElem (by omega)⟩
        have HL0 := Lib.hid (fun W (h : HM B W (.slice (some ⟨q, 0, none⟩) n c) (hs ++ zs) E N) => hm_less h HLN.out (app_get zs ha2) (app_get zs ha1))
        have HK1 := Lib.hid (keyAt_get (f := key2 E N) ha1)
        have HK2 := Lib.hid (keyAt_get (f := key2 E N) ha2)
        clear ha1 ha2
        go_wp2_with fail
        refine (HL0.out _ hms.out).mono ?_
        rintro e ws ⟨rfl, hbs⟩
        have hcells := (hbs.cell (p := ⟨rb, 1, none⟩) (Nat.lt_of_lt_of_le hlt hgr.size)).trans hcell
        have hmss := Lib.hid (hms.out.below hbs)
        have hgrs := grown_trans hgr (grown_of_below hbs (some q))
        by_cases hle : key2 E N a1 < key2 E N a2
        · rw [decide_eq_true hle]
          have HBIG : Hid (∀ x, 0 < x → x < hs.length → (x - 1) / 2 = k → keyAt (key2 E N) hs x ≤ keyAt (key2 E N) hs x2) := fun x h0 _ h3 => by
            have : x = x1 ∨ x = x2 := by omega
            rcases this with e | e
            · rw [e, HK1.out, HK2.out]; exact Nat.le_of_lt hle
            · rw [e]; exact Nat.le_refl _
          clear hle
          obtain ⟨a, ha⟩ : ∃ a, hs[x2]? = some a := ⟨_, List.getElem?_eq_getElem (by omega)⟩
          obtain ⟨b, hb⟩ : ∃ b, hs[k]? = some b := ⟨_, List.getElem?_eq_getElem (by omega)⟩
          have HL := Lib.hid (fun W (h : HM B W (.slice (some ⟨q, 0, none⟩) n c) (hs ++ zs) E N) => hm_less h HLN.out (app_get zs ha) (app_get zs hb))
          have HKA := Lib.hid (keyAt_get (f := key2 E N) ha)
          have HKB := Lib.hid (keyAt_get (f := key2 E N) hb)
          clear ha hb
          go_wp2_with fail
          refine (HL.out _ hmss.out).mono ?_
          rintro e wt ⟨rfl, hbt⟩
          have hcellt := (hbt.cell (p := ⟨rb, 1, none⟩) (Nat.lt_of_lt_of_le hlt hgrs.size)).trans hcells
          have hmst := Lib.hid (hmss.out.below hbt)
          have hgrt := grown_trans hgrs (grown_of_below hbt (some q))
          by_cases hless : key2 E N b < key2 E N a
          · rw [decide_eq_true hless]
            have HLE := Lib.hid hless
            clear hless
            go_wp2_with fail
            refine (hm_swap hmst.out HLN.out (show k < n by omega) (show x2 < n by omega)).mono ?_
            rintro e w2 ⟨rfl, hm2, hg2⟩
            have HM2 := Lib.hid hm2
            clear hm2
            go_wp2_with fail
            go_roundw
            case rel =>
              refine ⟨x2, swp hs k x2, rfl, by omega, by rw [swp_len]; exact hsl, (swp_perm (by omega) (by omega)).trans hperm, ?_, ?_, grown_trans hgrt hg2⟩
              · exact HeapDown.step hdn.out (by omega) (by omega) (by omega) (by omega) HBIG.out (by rw [HKA.out, HKB.out]; exact HLE.out)
              · rw [swp_app hs zs (by omega) (by omega)] at HM2
                exact HM2
            case measure => simp [intOf]; omega
          · rw [decide_eq_false hless]
            have HLE := Lib.hid hless
            clear hless
            go_wp2_with fail
            go_ret
            refine ⟨_, rfl, hs, hperm, HeapDown.stop hdn.out (fun x h0 h1 h2 => Nat.le_trans (HBIG.out x h0 h1 h2) ?_), hmst.out, hgrt⟩
            rw [HKA.out, HKB.out]
            exact Nat.le_of_not_lt HLE.out
        · rw [decide_eq_false hle]
          have HBIG : Hid (∀ x, 0 < x → x < hs.length → (x - 1) / 2 = k → keyAt (key2 E N) hs x ≤ keyAt (key2 E N) hs x1) := fun x h0 _ h3 => by
            have : x = x1 ∨ x = x2 := by omega
            rcases this with e | e
            · rw [e]; exact Nat.le_refl _
            · rw [e, HK1.out, HK2.out]; exact Nat.le_of_not_lt hle
          clear hle
          obtain ⟨a, ha⟩ : ∃ a, hs[x1]? = some a := ⟨_, List.getElem?_eq_getElem (by omega)⟩
          obtain ⟨b, hb⟩ : ∃ b, hs[k]? = some b := ⟨_, List.getElem?_eq_getElem (by omega)⟩
          have HL := Lib.hid (fun W (h : HM B W (.slice (some ⟨q, 0, none⟩) n c) (hs ++ zs) E N) => hm_less h HLN.out (app_get zs ha) (app_get zs hb))
          have HKA := Lib.hid (keyAt_get (f := key2 E N) ha)
          have HKB := Lib.hid (keyAt_get (f := key2 E N) hb)
          clear ha hb
          go_wp2_with fail
          refine (HL.out _ hmss.out).mono ?_
          rintro e wt ⟨rfl, hbt⟩
          have hcellt := (hbt.cell (p := ⟨rb, 1, none⟩) (Nat.lt_of_lt_of_le hlt hgrs.size)).trans hcells
          have hmst := Lib.hid (hmss.out.below hbt)
          have hgrt := grown_trans hgrs (grown_of_below hbt (some q))
          by_cases hless : key2 E N b < key2 E N a
          · rw [decide_eq_true hless]
            have HLE := Lib.hid hless
            clear hless
            go_wp2_with fail
            refine (hm_swap hmst.out HLN.out (show k < n by omega) (show x1 < n by omega)).mono ?_
            rintro e w2 ⟨rfl, hm2, hg2⟩
            have HM2 := Lib.hid hm2
            clear hm2
            go_wp2_with fail
            go_roundw
            case rel =>
              refine ⟨x1, swp hs k x1, rfl, by omega, by rw [swp_len]; exact hsl, (swp_perm (by omega) (by omega)).trans hperm, ?_, ?_, grown_trans hgrt hg2⟩
              · exact HeapDown.step hdn.out (by omega) (by omega) (by omega) (by omega) HBIG.out (by rw [HKA.out, HKB.out]; exact HLE.out)
              · rw [swp_app hs zs (by omega) (by omega)] at HM2
                exact HM2
            case measure => simp [intOf]; omega
          · rw [decide_eq_false hless]
            have HLE := Lib.hid hless
            clear hless
            go_wp2_with fail
            go_ret
            refine ⟨_, rfl, hs, hperm, HeapDown.stop hdn.out (fun x h0 h1 h2 => Nat.le_trans (HBIG.out x h0 h1 h2) ?_), hmst.out, hgrt⟩
            rw [HKA.out, HKB.out]
            exact Nat.le_of_not_lt HLE.out
      · have HBIG : Hid (∀ x, 0 < x → x < hs.length → (x - 1) / 2 = k → keyAt (key2 E N) hs x ≤ keyAt (key2 E N) hs x1) := fun x h0 h1 h3 => by
          have : x = x1 := by omega
          rw [this]; exact Nat.le_refl _
        obtain ⟨a, ha⟩ : ∃ a, hs[x1]? = some a := ⟨_, List.getElem?_eq_getElem (by omega)⟩
        obtain ⟨b, hb⟩ : ∃ b, hs[k]? = some b := ⟨_, List.getElem?_eq_getElem (by omega)⟩
        have HL := Lib.hid (fun W (h : HM B W (.slice (some ⟨q, 0, none⟩) n c) (hs ++ zs) E N) => hm_less h HLN.out (app_get zs ha) (app_get zs hb))
        have HKA := Lib.hid (keyAt_get (f := key2 E N) ha)
        have HKB := Lib.hid (keyAt_get (f := key2 E N) hb)
        clear ha hb
        go_wp2_with fail
        refine (HL.out _ hms.out).mono ?_
        rintro e wt ⟨rfl, hbt⟩
        have hcellt := (hbt.cell (p := ⟨rb, 1, none⟩) (Nat.lt_of_lt_of_le hlt hgr.size)).trans hcell
        have hmst := Lib.hid (hms.out.below hbt)
        have hgrt := grown_trans hgr (grown_of_below hbt (some q))
        by_cases hless : key2 E N b < key2 E N a
        · rw [decide_eq_true hless]
          have HLE := Lib.hid hless
          clear hless
          go_wp2_with fail
          refine (hm_swap hmst.out HLN.out (show k < n by omega) (show x1 < n by omega)).mono ?_
          rintro e w2 ⟨rfl, hm2, hg2⟩
          have HM2 := Lib.hid hm2
          clear hm2
          go_wp2_with fail
          go_roundw
          case rel =>
            refine ⟨x1, swp hs k x1, rfl, by omega, by rw [swp_len]; exact hsl, (swp_perm (by omega) (by omega)).trans hperm, ?_, ?_, grown_trans hgrt hg2⟩
            · exact HeapDown.step hdn.out (by omega) (by omega) (by omega) (by omega) HBIG.out (by rw [HKA.out, HKB.out]; exact HLE.out)
            · rw [swp_app hs zs (by omega) (by omega)] at HM2
              exact HM2
          case measure => simp [intOf]; omega
        · rw [decide_eq_false hless]
          have HLE := Lib.hid hless
          clear hless
          go_wp2_with fail
          go_ret
          refine ⟨_, rfl, hs, hperm, HeapDown.stop hdn.out (fun x h0 h1 h2 => Nat.le_trans (HBIG.out x h0 h1 h2) ?_), hmst.out, hgrt⟩
          rw [HKA.out, HKB.out]
          exact Nat.le_of_not_lt HLE.out
    · have HS : Hid (Heap (key2 E N) hs) := HeapDown.stop hdn.out (fun x h0 h1 h2 => by omega)
      have g1 : (m : Int) ≤ (x1 : Int) := by omega
      go_wp2_with fail
      go_ret
      exact ⟨_, rfl, hs, hperm, HS.out, hms.out, hgr⟩
end Go.Proofs.YtlbfoclhkdlafaaGreatDoor


/- poly.Const. -/
attribute [local go_sem ↓] Go.wp_at_zero Go.wp_at_succ
namespace Go.Proofs.YtlbfoclhkdlafaaGreatDoor
open Go.RowKit V

theorem const_mem (q : Rat) (t : Nat × Rat) (h : t ∈ scaleL [(0, 1)] q) : t = (0, q) := by
  unfold scaleL at h
  split at h
  · cases h
  · have := List.mem_singleton.1 h
    rw [this]
    exact congrArg (Prod.mk 0) (Rat.one_mul q)
theorem const_fits (q : Rat) (hf : TFits 0 q) : ∀ t ∈ scaleL [(0, 1)] q, TFits t.1 t.2 := fun t ht => by
  obtain rfl := const_mem q t ht
  exact hf
theorem const_words (q : Rat) : Words (scaleL [(0, 1)] q) := fun t ht => by
  obtain rfl := const_mem q t ht
  show 0 < 18446744073709551616
  omega
theorem const_len (q : Rat) : (scaleL [(0, 1)] q).length ≤ 1 := by
  unfold scaleL
  split <;> simp
end Go.Proofs.YtlbfoclhkdlafaaGreatDoor


/- poly.Const. -/
attribute [local go_sem ↓] Go.wp_at_zero Go.wp_at_succ
namespace Go.Proofs.YtlbfoclhkdlafaaGreatDoor
open Go.RowKit V

theorem cells3_of {t : TypeId} {w : World} {g : Nat} {a b c : Value} (h : BlkT t w g a b c) : w.cell? ⟨g, 0, none⟩ = some a ∧ w.cell? ⟨g, 1, none⟩ = some b ∧ w.cell? ⟨g, 2, none⟩ = some c := ⟨h.facts.c0, h.facts.c1, h.facts.c2⟩
set_option maxRecDepth 100000 in
set_option maxHeartbeats 1600000 in
theorem pconst (n : Nat) (a : RL) (q : Rat) (w : World) (ha : a.Is w q) (l1 : a.ns.length ≤ 200) (l2 : a.ds.length ≤ 200) (hn : n ≤ 8) (hm : MulOk 1 q) (hf : TFits 0 q) :
    Calls Tryz.prog 25 #[.int .i64 n, .agg #[.bool a.s, .slice a.N a.ns.length a.nc, .slice a.D a.ds.length a.dc]] w (StoreOk n (scaleL [(0, 1)] q) w) := by
  have HM := Lib.hid hm
  have HF := Lib.hid (const_fits q hf)
  have HW := Lib.hid (const_words q)
  have HMA : Hid (∀ t ∈ [((0 : Nat), (1 : Rat))], MulOk t.2 q) := by
    intro t ht
    obtain rfl := List.mem_singleton.1 ht
    exact HM.out
  have HLL := Lib.hid (const_len q)
  have HST := Lib.hid (fun (Y : Option Addr) (yc : Nat) (ys : List TM) (W : World) (h1 : PRd W Y ys (scaleL [(0, 1)] q)) (h2 : ys.length ≤ 4000) => pstore_ok n Y yc ys _ W h1 h2 hn HW.out HF.out)
  clear hm hf
  have hn2 : (0 : Int) ≤ (n : Int) ∧ (n : Int) ≤ 8 := ⟨by omega, by omega⟩
  have hb0 : Below w.heap.size w ((w.alloc (.cells #[.bool a.s, .slice a.N a.ns.length a.nc, .slice a.D a.ds.length a.dc] 27)).alloc (.cells #[.int .i64 0, .slice none 0 0] 24)) := ((Below.refl _ _).alloc (Nat.le_refl _) _).alloc (by simp) _
  have ka := (BlkT.new 27 w (.bool a.s) (.slice a.N a.ns.length a.nc) (.slice a.D a.ds.length a.dc)).alloc (.cells #[.int .i64 0, .slice none 0 0] 24)
  have kz : Blk2c 24 ((w.alloc (.cells #[.bool a.s, .slice a.N a.ns.length a.nc, .slice a.D a.ds.length a.dc] 27)).alloc (.cells #[.int .i64 0, .slice none 0 0] 24)) (w.heap.size + 1) (.int .i64 0) (.slice none 0 0) := by
    have := Blk2c.new 24 (w.alloc (.cells #[.bool a.s, .slice a.N a.ns.length a.nc, .slice a.D a.ds.length a.dc] 27)) (.int .i64 0) (.slice none 0 0)
    simpa using this
  have HC := Lib.hid (pisCount (n : Int))
  rw [decide_eq_true hn2] at HC
  have hv := qvalid_yes a q _ (ha.below hb0) (by omega) (by omega)
  have ha0 := ha.below hb0
  go_enter Tryz.func25, Tryz.ntmps25
  go_wp2_with fail
  refine hv.mono ?_
  rintro e w1 ⟨rfl, hb1⟩
  have hb2 := hb0.trans (hb1.mono hb0.size)
  have ka1 := ka.below hb1
  have kz1 := kz.below hb1
  have ha1 := ha0.below hb1
  obtain ⟨p0, p1, p2, p3, p4⟩ := kz1.facts
  obtain ⟨a0, a1, a2, a3, a4, a5, a6⟩ := ka1.facts
  clear hb0 hb1 ka kz hv ha0
  go_wp2_with fail
  refine (HC.out _).mono ?_
  rintro e w2 ⟨rfl, rfl⟩
  go_upto_region 5 with fail
  have HA := Lib.hid ha1
  have HB := Lib.hid hb2
  have HS0 := cells3_of ka1
  clear ha1 hn2 hb2
  refine wp_region_held_drew (S := fun w' => w'.cell? ⟨w.heap.size, 0, none⟩ = some (.bool a.s) ∧ w'.cell? ⟨w.heap.size, 1, none⟩ = some (.slice a.N a.ns.length a.nc) ∧ w'.cell? ⟨w.heap.size, 2, none⟩ = some (.slice a.D a.ds.length a.dc)) (by kernel_rfl) ?_ (fun hHeld => ?_)
  · first | exact HS0 | go_keep
  refine wpAnyH_take (i := 0) (v := ?v0) rfl (by kernel_rfl) (by kernel_rfl) (by kernel_rfl) (fun _ _ _ h => h) (Or.inl ⟨by rfl, ?hy0⟩) (by assumption) ?rest0
  case hy0 =>
    intro w hSw
    (try dsimp only at hSw)
    go_simp
    all_goals with_reducible rfl
  simp only [Act.put, List.getElem_toArray, List.getElem_cons_zero, List.setIfInBounds_toArray, List.set_cons_zero, List.set_cons_succ]
  refine wpAnyH_take (i := 2) (v := ?v2) rfl (by kernel_rfl) (by kernel_rfl) (by kernel_rfl) (fun _ _ _ h => h) (Or.inl ⟨by rfl, ?hy2⟩) (by assumption) ?rest2
  case hy2 =>
    intro w hSw
    (try dsimp only at hSw)
    go_simp
    all_goals with_reducible rfl
  simp only [Act.put, List.getElem_toArray, List.getElem_cons_zero, List.getElem_cons_succ, List.setIfInBounds_toArray, List.set_cons_zero, List.set_cons_succ]
  refine wpAnyH_ready (rs := [1]) (by kernel_rfl) (by simp) ?_
  refine AllReadyH.cons (o := _) rfl (fun K hK => ?_) AllReadyH.nil
  go_simp
  go_at_call 70
  refine (pone _).mono ?_
  rintro e x1 ⟨X, xc, xs, rfl, hxc, hx, hbx⟩
  have hq1 : Below w1.heap.size w1 x1 := by first | exact hbx | exact below_of_drew hbx (Nat.le_refl _)
  have HS_ := cells3_of (ka1.below hq1)
  have HX := Lib.hid hx
  have HXL := Lib.hid hx.hs.1
  clear hx
  go_wp2_with fail
  refine hK.out _ _ ?_ (fun hHeld => ?_)
  · first | exact HS_ | go_keep
  clear hK K
  try simp only [Act.put, List.getElem_toArray, List.getElem_cons_zero, List.getElem_cons_succ, List.setIfInBounds_toArray, List.set_cons_zero, List.set_cons_succ]
  refine wpAnyH_ready (rs := [3]) (by kernel_rfl) (by simp) ?_
  refine AllReadyH.cons (o := _) rfl (fun K hK => ?_) AllReadyH.nil
  go_simp
  go_at_call 59
  refine (wOf a q _ (HA.out.below hq1) (by omega) (by omega)).mono ?_
  rintro e x2 ⟨r, rfl, hr, hl1, hl2, hby⟩
  have hq2 := hq1.trans (hby.mono hq1.size)
  clear HS_
  have HS_ := cells3_of (ka1.below hq2)
  have HX2 := Lib.hid (HX.out.below hby)
  have HRN := Lib.hid hr
  clear hr
  go_wp2_with fail
  refine hK.out _ _ ?_ (fun hHeld => ?_)
  · first | exact HS_ | go_keep
  clear hK K
  try simp only [Act.put, List.getElem_toArray, List.getElem_cons_zero, List.getElem_cons_succ, List.setIfInBounds_toArray, List.set_cons_zero, List.set_cons_succ]
  refine wpAnyH_ready (rs := [4]) (by kernel_rfl) (by simp) ?_
  refine AllReadyH.cons (o := _) rfl (fun K hK => ?_) AllReadyH.nil
  go_simp
  go_at_call 55
  refine (pscaled X xc xs [(0, 1)] r q _ HX2.out HRN.out (by rw [HXL.out]; simp) HMA.out).mono ?_
  rintro e x3 ⟨Y, yc, ys, rfl, hyc, hy, hbv⟩
  have hq3 := hq2.trans (hbv.mono hq2.size)
  clear HS_
  have HS_ := cells3_of (ka1.below hq3)
  have HY := Lib.hid hy
  have HYL := Lib.hid (show ys.length ≤ 1 by rw [hy.hs.1]; exact HLL.out)
  clear hy
  go_wp2_with fail
  refine hK.out _ _ ?_ (fun hHeld => ?_)
  · first | exact HS_ | go_keep
  clear hK K
  try simp only [Act.put, List.getElem_toArray, List.getElem_cons_zero, List.getElem_cons_succ, List.setIfInBounds_toArray, List.set_cons_zero, List.set_cons_succ]
  refine wpAnyH_ready (rs := [5]) (by kernel_rfl) (by simp) ?_
  refine AllReadyH.cons (o := _) rfl (fun K hK => ?_) AllReadyH.nil
  go_simp
  go_at_call 52
  refine (HST.out Y yc ys _ HY.out (by have := HYL.out; omega)).mono ?_
  rintro e x4 ⟨C, cc, ms, rfl, hcc, hat, hbu⟩
  have hq4 := hq3.trans (hbu.mono hq3.size)
  clear HS_
  have HS_ := cells3_of (ka1.below hq4)
  have HAT := Lib.hid hat
  clear hat
  have kz4 := kz1.below hq4
  obtain ⟨g0, g1, g2, g3, g4⟩ := kz4.facts
  go_wp2_with fail
  refine hK.out _ _ ?_ (fun hHeld => ?_)
  · first | exact HS_ | go_keep
  clear hK K
  try simp only [Act.put, List.getElem_toArray, List.getElem_cons_zero, List.getElem_cons_succ, List.setIfInBounds_toArray, List.set_cons_zero, List.set_cons_succ]
  refine wpAnyH_take (i := 6) (v := ?v6) rfl (by kernel_rfl) (by kernel_rfl) (by kernel_rfl) (fun _ _ _ h => h) (Or.inl ⟨by rfl, ?hy6⟩) (by assumption) ?rest6
  case hy6 =>
    intro w hSw
    (try dsimp only at hSw)
    go_simp
    all_goals with_reducible rfl
  simp only [Act.put, List.getElem_toArray, List.getElem_cons_zero, List.getElem_cons_succ, List.setIfInBounds_toArray, List.set_cons_zero, List.set_cons_succ]
  refine wpAnyH_take (i := 7) (v := ?v7) rfl (by kernel_rfl) (by kernel_rfl) (by kernel_rfl) (fun _ _ _ h => h) (Or.inl ⟨by rfl, ?hy7⟩) (by assumption) ?rest7
  case hy7 =>
    intro w hSw
    (try dsimp only at hSw)
    go_simp
    all_goals with_reducible rfl
  simp only [Act.put, List.getElem_toArray, List.getElem_cons_zero, List.getElem_cons_succ, List.setIfInBounds_toArray, List.set_cons_zero, List.set_cons_succ]
  refine wpAnyH_ready (rs := [8]) (by kernel_rfl) (by simp) ?_
  refine AllReadyH.cons (o := _) rfl (fun K hK => ?_) AllReadyH.nil
  go_simp
  refine hK.out _ _ ?_ (fun hHeld => ?_)
  · first | exact cells3_of (((ka1.below hq4).far (p := ⟨w.heap.size + 1, 0, none⟩) (by show w.heap.size ≠ w.heap.size + 1; omega) _).far (p := ⟨w.heap.size + 1, 1, none⟩) (by show w.heap.size ≠ w.heap.size + 1; omega) _) | go_keep
  clear hK K
  try simp only [Act.put, List.getElem_toArray, List.getElem_cons_zero, List.getElem_cons_succ, List.setIfInBounds_toArray, List.set_cons_zero, List.set_cons_succ]
  refine wpAnyH_take (i := 9) (v := ?v9) rfl (by kernel_rfl) (by kernel_rfl) (by kernel_rfl) (fun _ _ _ h => h) (Or.inl ⟨by rfl, ?hy9⟩) (by assumption) ?rest9
  case hy9 =>
    intro w hSw
    (try dsimp only at hSw)
    go_simp
    all_goals with_reducible rfl
  simp only [Act.put, List.getElem_toArray, List.getElem_cons_zero, List.getElem_cons_succ, List.setIfInBounds_toArray, List.set_cons_zero, List.set_cons_succ]
  refine wpAnyH_done (by kernel_rfl) ?_ _
  go_wp2_with fail
  refine bodyPost_ret (v := .tuple #[.agg #[.int .i64 n, .slice C ms.length cc], .int .i64 0]) (by simp [results, Tryz.results25, go_sem, g0, g1]) rfl ?_
  exact ⟨C, cc, ms, rfl, hcc, HAT.out.put2 kz4.ty (by decide) (by decide) _ _, ((HB.out.trans (hq4.mono HB.out.size)).setCell (by show w.heap.size ≤ w.heap.size + 1; omega) _).setCell (by show w.heap.size ≤ w.heap.size + 1; omega) _⟩
end Go.Proofs.YtlbfoclhkdlafaaGreatDoor


/- Sums and products of whole numbers below 2^64 by amount. -/
namespace Go.Proofs.YtlbfoclhkdlafaaGreatDoor
open Go.RowKit V

theorem num_len {w : World} {a : RL} {q : Rat} (h : a.Num w q) {k j : Nat} (hn : q.num.natAbs < 18446744073709551616 ^ k) (hd : q.den < 18446744073709551616 ^ j) : a.ns.length ≤ k ∧ a.ds.length ≤ j := by
  rcases h.q with ⟨h1, h2, _, _⟩ | ⟨_, h1⟩
  · rw [h1, h2]; exact ⟨Nat.zero_le _, Nat.zero_le _⟩
  · exact ⟨len_of_lt (B := 18446744073709551616) (by omega) h.mn.2 (by show V64 a.ns < _; rw [h1.2.1]; exact hn), len_of_lt (B := 18446744073709551616) (by omega) h.md.2 (by show V64 a.ds < _; rw [h1.2.2]; exact hd)⟩
theorem wint_len {w : World} {a : RL} {m : Int} (h : a.Num w (m : Rat)) (hb : m.natAbs < 18446744073709551616) : a.ns.length ≤ 1 ∧ a.ds.length ≤ 1 :=
  num_len h (by rw [Rat.num_intCast, Nat.pow_one]; exact hb) (by rw [Rat.den_intCast]; decide)
theorem addOk_int (m n : Int) (hm : m.natAbs < 18446744073709551616) (hn : n.natAbs < 18446744073709551616) (hs : (m + n).natAbs < 18446744073709551616) : AddOk (m : Rat) (n : Rat) := fun a b w ha hb => by
  refine (wAdd_int a b m n w ha hb (by have := (wint_len ha hm).1; omega) (by have := (wint_len hb hn).1; omega)).mono fun e w' => ?_
  rintro ⟨r, he, hr, hw⟩
  have hl := wint_len hr hs
  exact ⟨r, he, by rw [Rat.intCast_add] at hr; exact hr, by omega, by omega, hw⟩
theorem mulOk_int (m n : Int) (hm : m.natAbs < 18446744073709551616) (hn : n.natAbs < 18446744073709551616) (hs : (m * n).natAbs < 18446744073709551616) : MulOk (m : Rat) (n : Rat) := fun a b w ha hb => by
  have h1 := (wint_len ha hm).1
  refine (wMul_int a b m n w ha hb (by omega) (by have := (wint_len hb hn).1; omega) (.inl (by omega))).mono fun e w' => ?_
  rintro ⟨r, he, hr, hw⟩
  have hl := wint_len hr hs
  exact ⟨r, he, by rw [Rat.intCast_mul] at hr; exact hr, by omega, by omega, hw⟩
end Go.Proofs.YtlbfoclhkdlafaaGreatDoor


/- isochroneref03.Degree and Small. -/
attribute [local go_sem ↓] Go.wp_at_zero Go.wp_at_succ
namespace Go.Proofs.YtlbfoclhkdlafaaGreatDoor
open Go.RowKit V

theorem sum_cast : ∀ l : List Nat, (l.map fun (x : Nat) => (x : Int)).sum = (l.sum : Nat)
  | [] => rfl
  | a :: r => by rw [List.map_cons, List.sum_cons, List.sum_cons, sum_cast r]; omega
end Go.Proofs.YtlbfoclhkdlafaaGreatDoor

