/- nat.Text: the decimal digits of a valid magnitude; it leans on the library's contract for strconv.AppendUint. -/
import Derived.Test.YtllcegiaojchdaaDoorTsplit
import Derived.Test.YtllcegiaojchdaaDoorDec
import Derived.Test.YtllcegiaojchdaaDoorShelf
import Derived.Lib.AppendIntMem
import Derived.Laws.IdiomCopy
import Derived.Lib.SmallJoins
import Derived.Laws.IdiomStrings
namespace Go.Proofs.YtllcegiaojchdaaDoor
open Go.RowKit V

def asN (l : List UInt8) : List Nat := l.map fun b => b.toNat
theorem asN_len (l : List UInt8) : (asN l).length = l.length := by simp [asN]
theorem asN_cells (l : List UInt8) : nums .u8 (asN l) = Lib.byteCells l := by simp [nums, asN, Lib.byteCells]
theorem own_bytes {e : TypeId} {B : Nat} {w : World} {v : Value} {l : List UInt8} : Own .u8 e B w v (asN l) ↔ w.ownsRow B e 1 v l.length (Lib.byteCells l) := by
  unfold Own; rw [asN_len, asN_cells]

theorem dec_len9 {r : Nat} (h : r < 1000000000) : (Lib.decDigits r).length ≤ 9 := (pad_eq 9 r (by omega) (by omega)).1
theorem dec_pos (r : Nat) : 0 < (Lib.decDigits r).length := by
  rw [Lib.decDigits]; split <;> simp

/-- The digits, appended. -/
def AppP (B : Nat) (l : List UInt8) (w : World) (e : Ending) (w' : World) : Prop :=
  ∃ v', e = .returned v' ∧ Own .u8 5 B w' v' (asN l) ∧ Below B w w' ∧ Lib.OthersKept 5 none w w'

set_option maxHeartbeats 400000 in
theorem appendUint (B u : Nat) (hu : u < 1000000000) (v : Value) (l : List UInt8) (w : World) (hown : Own .u8 5 B w v (asN l)) (hB : B ≤ w.heap.size) (hlim : l.length ≤ 1000000)
    (htab : Lib.TabIs Tryd.prog w "internal/strconv.uint64pow10" .u64 Lib.pow10Tab) :
    Calls Tryd.prog 53 #[v, .int .u64 u, .int .i64 10] w (AppP B (l ++ Lib.decDigits u) w) := by
  have hl : ∀ v', Own .u8 5 B v' v (asN l) → v'.ownsRow B 5 1 v l.length (Lib.byteCells l) := fun _ h => own_bytes.1 h
  have hc : Calls Tryd.prog 75 #[v, .int .u64 u, .int .i64 10] w (AppP B (l ++ Lib.decDigits u) w) := by
    have fin : ∀ e w', (∃ v', e = Ending.returned v' ∧ w'.ownsRow B 5 1 v' (l.length + (Lib.decDigits u).length) (Lib.byteCells l ++ Lib.byteCells (Lib.decDigits u)) ∧ Below B w w' ∧ Lib.OthersKept 5 none w w') → AppP B (l ++ Lib.decDigits u) w e w' := by
      rintro e w' ⟨v', he, h1, h2, h3⟩
      refine ⟨v', he, own_bytes.2 ?_, h2, h3⟩
      rw [List.length_append, show Lib.byteCells (l ++ Lib.decDigits u) = Lib.byteCells l ++ Lib.byteCells (Lib.decDigits u) by simp [Lib.byteCells]]
      exact h1
    by_cases h : u < 100
    · exact (Tryd.internal_strconv_AppendUint_10_small B l.length u h v (Lib.byteCells l) w (hl w hown) hB (by omega)).mono fin
    · exact (Tryd.internal_strconv_AppendUint_10_big B l.length u (by omega) (by omega) v (Lib.byteCells l) w (hl w hown) hB (by omega) htab).mono fin
  have HC := Lib.hid hc
  clear hc hl
  go_enter Tryd.func53, Tryd.ntmps53
  go_wp2_with (go_at_call 75; refine HC.out.mono ?_; rintro e w1 ⟨v', rfl, h1, h2, h3⟩)
  go_ret
  exact ⟨v', rfl, h1, h2, h3⟩

theorem below_setCells {B b : Nat} (hB : B ≤ b) : ∀ (vs : List Value) (o : Nat) (w : World), Below B w (w.setCells b o vs)
  | [], _, _ => Below.refl _ _
  | v :: r, o, w => ((Below.refl B w).setCell (p := ⟨b, o, none⟩) hB v).trans (below_setCells hB r (o + 1) _)

/-- copy(dst[o:], src) into cells that are there and not frozen. -/
theorem wpList_copy_cells {P : Program} {w : World} {ops : Array Oper} {rest : List Oper} {o : Oper} {a : Act} {Q : Exit → Act → World → Prop} (hgd : o.guard = none) (d s : Operand) (dT sT : TypeId)
    (ho : o.op = .call { callee := .builtin .copy, args := #[d, s], argTypes := #[dT, sT] }) (elem : TypeId) (hu : P.underlying dT = some (.slice elem)) (hsz : (P.info? elem).map (·.size) = some 1)
    (b off dLen dCap : Nat) (ad : Addr) (sLen sCap : Nat) (hd : a.eval d = .slice (some ⟨b, off, none⟩) dLen dCap) (hs : a.eval s = .slice (some ad) sLen sCap) (cs : List Value) (hn : cs.length = Nat.min sLen dLen)
    (hsrc : ∀ j v, cs[j]? = some v → w.cell? (ad.add j) = some v) (hc : ∀ j, j < cs.length → (w.cell? ⟨b, off + j, none⟩).isSome = true) (hf : ∀ j, j < cs.length → w.frozen? ⟨b, off + j, none⟩ = false) (h1 : ∀ v ∈ cs, v.oneCell' = true)
    (h : ∀ w', Hid (∀ j (hj : j < cs.length), w'.cell? ⟨b, off + j, none⟩ = some cs[j]) → Hid (∀ x : Addr, (x.block = b → x.spot = none → x.off < off ∨ off + cs.length ≤ x.off) → w'.cell? x = w.cell? x) → Below b w w' → wpList P ops Q rest (a.put o.dst (goInt cs.length)) w') :
    wpList P ops Q (o :: rest) a w := by
  refine wpList_plain hgd fun K hK => ?_
  have hrun := run_copy_cells (P := P) w dT sT o.type elem b off dLen dCap ad sLen sCap cs hu hsz hn hsrc hc hf h1
  unfold Oper.wp
  simp [execOp, ho, resolve, invoke, builtin, hd, hs, hrun, Result.andThen]
  exact hK _ _ (h _ (fun j hj => World.cell?_setCells_in b cs off w hc j hj) (fun x hx => World.cell?_setCells_out b cs off w x hx) (below_setCells (Nat.le_refl _) cs off w))

theorem info_u8 : (Tryd.prog.info? 5).map (fun i => (i.zero, i.size, i.bytes)) = some (some (.int .u8 0), 1, 1) := by kernel_rfl
theorem size_u8 : (Tryd.prog.info? 5).map (·.size) = some 1 := by kernel_rfl

/-- The block of zeros as '[]byte' leaves it. -/
abbrev zeros9 (w : World) : World := w.alloc (.cells #[.int .u8 48, .int .u8 48, .int .u8 48, .int .u8 48, .int .u8 48, .int .u8 48, .int .u8 48, .int .u8 48, .int .u8 48] 5 (9, 10))
theorem zeros9_cell (w : World) (j : Nat) (hj : j < 9) : (zeros9 w).cell? ⟨w.heap.size, j, none⟩ = some (.int .u8 48) := by
  rw [World.cell?_alloc_mark]
  match j, hj with
  | 0, _ => rfl
  | 1, _ => rfl
  | 2, _ => rfl
  | 3, _ => rfl
  | 4, _ => rfl
  | 5, _ => rfl
  | 6, _ => rfl
  | 7, _ => rfl
  | 8, _ => rfl
theorem zeros9_frozen (w : World) (j : Nat) (hj : j < 9) : (zeros9 w).frozen? ⟨w.heap.size, j, none⟩ = false := by
  rw [World.frozen?_alloc_mark]
  simp; omega
theorem pad_get (r : Nat) (hr : r < 1000000000) (j : Nat) : (asN (pad 9 r)).getD j 0 = if j < 9 - (Lib.decDigits r).length then 48 else (asN (Lib.decDigits r)).getD (j - (9 - (Lib.decDigits r).length)) 0 := by
  rw [(pad_eq 9 r (by omega) (by omega)).2]
  simp only [asN, List.map_append, List.map_replicate, List.getD_eq_getElem?_getD]
  by_cases h : j < 9 - (Lib.decDigits r).length
  · rw [if_pos h, List.getElem?_append_left (by rw [List.length_replicate]; exact h), List.getElem?_replicate, if_pos h]; rfl
  · rw [if_neg h, List.getElem?_append_right (by rw [List.length_replicate]; omega), List.length_replicate]
/-- What the copy leaves reads as the padded digits. -/
theorem pad_rd (w w' : World) (r n : Nat) (hr : r < 1000000000) (hn : (Lib.decDigits r).length = n)
    (h1 : ∀ j (hj : j < (Lib.byteCells (Lib.decDigits r)).length), w'.cell? ⟨w.heap.size, 9 - n + j, none⟩ = some (Lib.byteCells (Lib.decDigits r))[j])
    (h2 : ∀ x : Addr, (x.block = w.heap.size → x.spot = none → x.off < 9 - n ∨ 9 - n + (Lib.byteCells (Lib.decDigits r)).length ≤ x.off) → w'.cell? x = (zeros9 w).cell? x)
    (hs : (zeros9 w).heap.size ≤ w'.heap.size) : Rd .u8 w' (some ⟨w.heap.size, 0, none⟩) (asN (pad 9 r)) := fun _ => by
  subst hn
  refine ⟨_, rfl, by simp at hs; show w.heap.size < _; omega, fun j hj => ?_⟩
  rw [asN_len, pad_length] at hj
  have e : (⟨w.heap.size, 0, none⟩ : Addr).add j = ⟨w.heap.size, j, none⟩ := by unfold Addr.add; split <;> simp_all
  rw [e, pad_get r hr j]
  have h9 := dec_len9 hr
  have hbl : (Lib.byteCells (Lib.decDigits r)).length = (Lib.decDigits r).length := Lib.byteCells_length _
  by_cases h : j < 9 - (Lib.decDigits r).length
  · rw [if_pos h, h2 _ (fun _ _ => .inl h), zeros9_cell w j hj]; rfl
  · rw [if_neg h]
    have h3 := h1 (j - (9 - (Lib.decDigits r).length)) (by omega)
    rw [show 9 - (Lib.decDigits r).length + (j - (9 - (Lib.decDigits r).length)) = j by omega] at h3
    rw [h3]
    have h4 := nums_get (k := .u8) (xs := asN (Lib.decDigits r)) (j := j - (9 - (Lib.decDigits r).length)) (by rw [asN_len]; omega)
    rw [asN_cells] at h4
    rw [← h4, List.getElem?_eq_getElem]

def TextP (xs : List Nat) (w : World) (e : Ending) (w' : World) : Prop :=
  e = .returned (.tuple #[.string ⟨(Lib.decDigits (V32 xs)).toArray⟩, .int .i64 0]) ∧ Below w.heap.size w w'

set_option maxRecDepth 100000 in
set_option maxHeartbeats 1000000 in
theorem text_any (A : Option Addr) (c : Nat) (xs : List Nat) (w : World) (hx : Rd .u32 w A xs) (mx : Mag xs) (lx : xs.length ≤ 4096)
    (htab : Lib.TabBelow Tryd.prog w.heap.size w "internal/strconv.uint64pow10" .u64 Lib.pow10Tab) :
    Calls Tryd.prog 29 #[.slice A xs.length c] w (TextP xs w) := by
  have ox : Ok xs := ⟨lx, mx.2⟩
  have HT := Lib.hid htab
  clear htab
  go_enter Tryd.func29, Tryd.ntmps29
  go_wp2_with (first
    | (go_at_call 32; refine (valid_yes A c xs _ hx ox).mono ?_; rintro e w1 ⟨rfl, rfl⟩)
    | (go_at_call 52; fail))
  refine (tsplit_any A c xs _ hx (by omega) mx.1 mx.2).mono ?_
  rintro e w2 ⟨v, bs, rfl, hownb, hbl, hbv, hbd, hbn, hblen, hb2⟩
  obtain ⟨S, sc, rfl, hsc, hsr⟩ := hownb.form
  obtain ⟨sd, x, rfl, hbx, ex, cx⟩ := hsr.ask (i := bs.length - 1) (by omega)
  have hxl : x < 1000000000 := by rw [← ex.out]; exact dig_getD hbd (by omega) _
  have HBV := Lib.hid hbv
  have HBN := Lib.hid hbn
  have hnil : Own .u8 5 w2.heap.size w2 (.slice none 0 0) (asN []) := Own.nil_
  have htab2 := (HT.out.on hb2).here
  clear hbv hbn
  have HT2 := Lib.hid htab2
  clear htab2
  go_wp2_with fail
  refine (appendUint w2.heap.size x hxl _ [] _ hnil (Nat.le_refl _) (by simp) HT2.out).mono ?_
  rintro e w3 ⟨tv, rfl, hownt, hb3, hok3⟩
  go_wp2
  have hlow : Hid (Lib.decDigits x = Lib.decDigits (val 1000000000 (bs.drop (bs.length - 1)))) := by
    show _ = _
    rw [val_drop _ bs _ (by omega), ex.out, List.drop_of_length_le (by omega)]
    simp [val]
  have hl9 := dec_len9 hxl
  go_loopw [6, 7, 8, 9] (fun v i _ _ wr => ∃ j : Int, ∃ l : List UInt8, -1 ≤ j ∧ j < bs.length - 1 ∧ i = .int .i64 j ∧ Own .u8 5 w2.heap.size wr v (asN l) ∧ l = Lib.decDigits (val 1000000000 (bs.drop (j + 1).toNat)) ∧
      (l.length : Int) + 9 * (j + 1) ≤ 9 * bs.length ∧ Below w2.heap.size w2 wr) (fun _ i _ _ _ => (intOf i + 1).toNat)
  case atStart => exact ⟨_, Lib.decDigits x, by omega, by omega, rfl, hownt, by rw [hlow.out]; congr 3; omega, by omega, hb3⟩
  case round =>
    obtain ⟨j, l, hj, hjl, rfl, hown, hl, hll, hbw⟩ := hrel
    have HL := Lib.hid hl
    clear hl hownt hok3 hb3
    by_cases h0 : j < 0
    · have hfin : l = Lib.decDigits (V32 xs) := by rw [HL.out, show (j + 1).toNat = 0 by omega, List.drop_zero, HBV.out]
      have hlp : 0 < l.length := by rw [hfin]; exact dec_pos _
      have HF := Lib.hid hfin
      clear hfin
      obtain ⟨T, tc, rfl, htc, htr, hsh⟩ := hown.shapeN (asN_len l)
      obtain ⟨tg, rfl, htg⟩ := hsh hlp
      have hcell : ∀ i (hi : i < l.length), wr.cell? ((⟨tg, 0, none⟩ : Addr).add i) = some (.int .u8 (l[i].toNat : Int)) := fun i hi => by
        obtain ⟨ad, e, _, hc⟩ := htr (by rw [asN_len]; exact hlp)
        injection e with e
        subst e
        rw [hc i (by rw [asN_len]; exact hi)]
        simp [asN, List.getD_eq_getElem?_getD, List.getElem?_eq_getElem hi]
      have hcv := run_convert_bytes_back (P := Tryd.prog) wr 77 9 5 ⟨tg, 0, none⟩ tc l Tryd.underlying77 Tryd.underlying5 Tryd.underlying9 hcell
      clear hcell hsh
      go_wp2
      go_ret2
      exact ⟨congrArg (fun q : List UInt8 => Ending.returned (.tuple #[.string ⟨q.toArray⟩, .int .i64 0])) HF.out, hb2.trans (hbw.mono hb2.size)⟩
    · obtain ⟨k, rfl⟩ := Int.eq_ofNat_of_zero_le (show 0 ≤ j by omega)
      obtain ⟨sd', r, hse, hbr, er, cr⟩ := (hsr.below hbw).ask (i := k) (by omega)
      injection hse with hse
      subst hse
      have hrl : r < 1000000000 := by rw [← er.out]; exact dig_getD hbd (by omega) _
      have hdl := dec_len9 hrl
      have hdp := dec_pos r
      have HT4 := Lib.hid ((HT.out.on (hb2.trans (hbw.mono hb2.size))).here)
      go_wp2_with fail
      refine (appendUint wr.heap.size r hrl _ [] _ Own.nil_ (Nat.le_refl _) (by simp) HT4.out).mono ?_
      rintro e w4 ⟨dv, rfl, hownd, hb4, hok4⟩
      rw [List.nil_append] at hownd
      obtain ⟨n, hn⟩ : ∃ n, Hid ((asN (Lib.decDigits r)).length = n) := ⟨_, rfl⟩
      obtain ⟨D, dc, rfl, hdc, hrd, hshd⟩ := hownd.shapeN hn.out
      have hn1 : 1 ≤ n := by rw [← hn.out, asN_len]; exact hdp
      have hn9 : n ≤ 9 := by rw [← hn.out, asN_len]; exact hdl
      clear hdp hdl
      obtain ⟨dg, rfl, hdg⟩ := hshd (by omega)
      clear hshd
      have hcs := Go.Joins.run_convert_bytes_const_at (P := Tryd.prog) w4 77 5 #[.int .u8 48, .int .u8 48, .int .u8 48, .int .u8 48, .int .u8 48, .int .u8 48, .int .u8 48, .int .u8 48, .int .u8 48] 9 9 w4.heap.size rfl Tryd.underlying77 Tryd.underlying5
      have hdn : (Lib.byteCells (Lib.decDigits r)).length = n := by rw [Lib.byteCells_length, ← asN_len]; exact hn.out
      have HDN := Lib.hid hdn
      have HZC : Hid (∀ j, j < (Lib.byteCells (Lib.decDigits r)).length → ((zeros9 w4).cell? ⟨w4.heap.size, 9 - n + j, none⟩).isSome = true) := fun j hj => by rw [zeros9_cell w4 _ (by omega)]; rfl
      have HZF : Hid (∀ j, j < (Lib.byteCells (Lib.decDigits r)).length → (zeros9 w4).frozen? ⟨w4.heap.size, 9 - n + j, none⟩ = false) := fun j hj => zeros9_frozen w4 _ (by omega)
      have HSRC : Hid (∀ j v, (Lib.byteCells (Lib.decDigits r))[j]? = some v → (zeros9 w4).cell? ((⟨dg, 0, none⟩ : Addr).add j) = some v) := fun j v hv => by
        obtain ⟨ad, e, _, hc⟩ := (hrd.alloc (.cells #[.int .u8 48, .int .u8 48, .int .u8 48, .int .u8 48, .int .u8 48, .int .u8 48, .int .u8 48, .int .u8 48, .int .u8 48] 5 (9, 10))) (by have := hn.out; omega)
        injection e with e
        subst e
        have hj : j < (asN (Lib.decDigits r)).length := by
          rcases Nat.lt_or_ge j (Lib.byteCells (Lib.decDigits r)).length with h | h
          · rw [asN_len, ← Lib.byteCells_length]; exact h
          · rw [List.getElem?_eq_none h] at hv; cases hv
        rw [← asN_cells, nums_get hj] at hv
        rw [← hv]
        exact hc j hj
      have HONE : Hid (∀ v ∈ Lib.byteCells (Lib.decDigits r), v.oneCell' = true) := fun v hv => by
        unfold Lib.byteCells at hv
        obtain ⟨q, _, rfl⟩ := List.mem_map.1 hv
        rfl
      have HMIN : Hid ((Lib.byteCells (Lib.decDigits r)).length = Nat.min n (9 - (9 - n))) := by show _ = _; rw [hdn]; show n = min n (9 - (9 - n)); omega
      clear hdn
      have HNL : Hid ((Lib.decDigits r).length = n) := by show _ = _; rw [← asN_len]; exact hn.out
      have HPL : Hid ((asN (pad 9 r)).length = 9) := by show _ = _; rw [asN_len, pad_length]
      have hlen : (asN l).length + 9 ≤ 1000000 := by rw [asN_len]; omega
      have HLEN := Lib.hid hlen
      have hsz4 := hb4.size
      clear hlen
      go_wp2_with (first
        | (with_reducible refine wpList_copy_cells rfl (.tmp 42) (.tmp 43) 77 77 rfl 5 Tryd.underlying77 size_u8 w4.heap.size (9 - n) _ _ ⟨dg, 0, none⟩ _ _ rfl rfl (Lib.byteCells (Lib.decDigits r)) HMIN.out HSRC.out HZC.out HZF.out HONE.out ?_; intro w5 hin5 hout5 hb5; have hrd5 := pad_rd w4 w5 r n hrl HNL.out hin5.out hout5.out hb5.size; have hb45 : Below wr.heap.size wr w5 := (hb4.alloc hsz4 _).trans (hb5.mono hsz4); have hown5 := hown.kept hb45; have hbw5 := hbw.trans (hb45.mono hbw.size); clear hin5 hout5)
        | (at_builtin; refine wpList_appN rfl (.tmp 45) (.tmp 46) 77 5 rfl .u8 1 info_u8 Tryd.underlying77 (by omega) w2.heap.size _ (asN l) (asN (pad 9 r)) rfl hown5 ⟨w4.heap.size, 0, none⟩ 9 9 HPL.out rfl hrd5 hbw5 (Nat.le_refl _) HLEN.out ?_; intro v' w6 hown6 hb6))
      go_roundw
      case rel =>
        refine ⟨_, l ++ pad 9 r, by omega, by omega, rfl, by rw [show asN (l ++ pad 9 r) = asN l ++ asN (pad 9 r) by simp [asN]]; exact hown6, ?_, by rw [List.length_append, pad_length]; omega, hb6⟩
        have h1 := blocks_text bs hbd k (by omega) (drop_pos (HBN.out (by omega)) (k + 1) (by omega))
        rw [er.out] at h1
        rw [show ((k : Int) - 1 + 1).toNat = k by omega, h1, HL.out, show ((k : Int) + 1).toNat = k + 1 by omega]
      case measure => simp [intOf]
end Go.Proofs.YtllcegiaojchdaaDoor

