/- strings.Builder: copyCheck and WriteString (the shelf's contracts do not lie here: copyCheck's way to its panic holds what the loader refuses). -/
import Derived.Test.YtgekmfcbbjeahaaGreatDoorPpR43
import Derived.Lib.Strings
import Derived.Lib.Builder
import Derived.Lib.AppendStr
import Derived.Lib.UnsafeStr
import Derived.Laws.Externs
import Derived.Deep.CutBlock
import Derived.Laws.Concat
namespace Go.Proofs.YtgekmfcbbjeahaaGreatDoor
open Go.RowKit V
theorem bd_size:(Tryz.prog.info? 121).map (·.size)=some 2:=by kernel_rfl
theorem bd_lies:liesAt Tryz.prog Tryz.prog.depth 121 (2 / Tryz.prog.cellsOf 121) 0 121 1=true:=by kernel_rfl
theorem bd_byte:(Tryz.prog.info? 5).map (fun i=>(i.zero,i.size,i.bytes))=some (some (.int .u8 0),1,1):=by kernel_rfl
set_option maxHeartbeats 1000000 in
set_option maxRecDepth 100000 in
theorem bd_used (b:Nat) (w:World) (h0:w.cell? ⟨b,0,none⟩=some (.pointer (some ⟨b,0,none⟩))) :
    Calls Tryz.prog 127 #[.pointer (some ⟨b,0,none⟩)] w fun e w'=>e = .returned (.tuple #[])∧w'=w:=by
  obtain ⟨j,hj,_⟩:=Option.map_eq_some_iff.1 bd_size;go_enter Tryz.func127,Tryz.ntmps127;go_wp2;rw [Lib.run_neq_ptr_same w _ Tryz.underlying119 hj];go_wp2;go_end0;exact ⟨rfl,rfl⟩
set_option maxHeartbeats 1000000 in
set_option maxRecDepth 100000 in
theorem bd_fresh (b:Nat) (w:World) (h0:w.cell? ⟨b,0,none⟩=some (.pointer none)) (hsh:w.shape? b=some (121,2)) (hfz:w.frozen? ⟨b,0,none⟩=false) :
    Calls Tryz.prog 127 #[.pointer (some ⟨b,0,none⟩)] w fun e w'=>e = .returned (.tuple #[])∧w'=w.setCell ⟨b,0,none⟩ (.pointer (some ⟨b,0,none⟩)):=by
  obtain ⟨j,hj,hjs⟩:=Option.map_eq_some_iff.1 bd_size;go_enter Tryz.func127,Tryz.ntmps127;go_wp2;rw [Lib.run_to_unsafe w ⟨b,0,none⟩ Tryz.underlying119 Tryz.underlying220 hj (by rw [hjs];decide) hsh (Nat.zero_lt_succ 1)];simp only [Result.andThen];rw [Oper.upon_value];go_wp2;rw [run_callFunc_extern Tryz.func171 (by kernel_rfl) (by kernel_rfl) (by kernel_rfl) (e:=Extern.AbiNoEscape.same) (by kernel_rfl)];rw [Lib.run_noEscape];simp only [Result.andThen];rw [Oper.upon_value];go_wp2;rw [Lib.run_from_unsafe w ⟨b,0,none⟩ Tryz.underlying220 Tryz.underlying119 hj hsh bd_lies];simp only [Result.andThen];rw [Oper.upon_value];go_wp2;go_end0;exact ⟨rfl,rfl⟩
def KeepB (w w':World):Prop:=∀ k t,HasT w k t→t≠5→t≠121→w'.heap[k]?=w.heap[k]?
theorem KeepB.trans {a b c:World} (h:KeepB a b) (k:KeepB b c):KeepB a c:=fun x t hx h1 h2=>by
  have e:=h x t hx h1 h2;exact (k x t (by obtain ⟨cs,f,hh⟩:=hx;exact ⟨cs,f,e.trans hh⟩) h1 h2).trans e
theorem KeepB.set_ {w:World} {b:Nat} {cs:Array Value} (hb:w.heap[b]?=some (.cells cs 121 (0,0))) (i:Nat) (u:Value):KeepB w (w.setCell ⟨b,i,none⟩ u):=fun k t hk _ h2=>
  Below.heap_setCell w ⟨b,i,none⟩ u k (fun e=>by
    have e:k=b:=e;subst e;obtain ⟨ds,f,hh⟩:=hk;rw [hb] at hh;cases hh;exact h2 rfl)
abbrev Bdr:=Lib.IsBuilder 121 5
theorem bd_check (B b:Nat) (bs:List Value) (w:World) (h:Bdr B b bs w) :
    Calls Tryz.prog 127 #[.pointer (some ⟨b,0,none⟩)] w fun e w'=>e = .returned (.tuple #[])∧(Lib.BuilderAt 121 5 B b (.pointer (some ⟨b,0,none⟩)) bs w'∧Below B w w'∧KeepB w w'):=by
  rcases h with h | h
  · refine (bd_fresh b w h.cell0 h.shape h.frozen0).mono ?_;rintro e w' ⟨rfl,rfl⟩;obtain ⟨_,v,hb,_⟩:=h;exact ⟨rfl,Lib.BuilderAt.used ⟨by assumption,v,hb,by assumption⟩ _,(Below.refl B w).setCell (p:=⟨b,0,none⟩) (by assumption) _,KeepB.set_ hb _ _⟩
  · refine (bd_used b w h.cell0).mono ?_;rintro e w' ⟨rfl,rfl⟩;exact ⟨rfl,h,Below.refl B _,fun _ _ _ _ _=>rfl⟩
set_option maxHeartbeats 1000000 in
set_option maxRecDepth 100000 in
theorem bd_write (B b : Nat) (bs : List Value) (s : ByteArray) (w : World) (h : Bdr B b bs w) (hlen : bs.length + s.size ≤ 1000000000) (hBw : B ≤ w.heap.size) :
    Calls Tryz.prog 78 #[.pointer (some ⟨b,0,none⟩),.string s] w fun e w'=>e = .returned (.tuple #[.int .i64 s.size,.nilIface])∧Bdr B b (bs ++ Lib.strCells s) w'∧Below B w w'∧KeepB w w':=by
  obtain ⟨i0,hi,hz0,hz1,hz2⟩:=info_parts bd_byte;have HC:=Lib.hid (bd_check B b bs w h);have HL:=Lib.hid hlen;clear h hlen;go_enter Tryz.func78,Tryz.ntmps78;go_wp2_with fail;refine HC.out.mono ?_;rintro e w1 ⟨rfl,h1,hb1,hkb⟩;have HKB:=Lib.hid hkb;clear hkb;obtain ⟨hB,v,hbk,hown,hne⟩:=h1;have c0:w1.cell? ⟨b,0,none⟩=some (.pointer (some ⟨b,0,none⟩)):=by rw [Lib.cell_of_heap hbk];rfl
  have c1:w1.cell? ⟨b,1,none⟩=some v:=by rw [Lib.cell_of_heap hbk];rfl
  go_wp2_with (at_builtin;refine Lib.wpList_append_own_string _ rfl _ _ 71 9 rfl B 5 i0 Tryz.underlying71 Tryz.underlying9 hi hz0 hz1 hz2 _ _ _ rfl hown s rfl ?c3 ?c4 ?c5 ?_)
  case c3=>have:=HL.out;unfold maxLen;omega
  case c4=>have:=HL.out;omega
  case c5=>have:=hb1.size;omega
  intro v' w2 hown' hgrow _;have hlt:b<w1.heap.size:=by
    rcases Nat.lt_or_ge b w1.heap.size with h' | h'
    · exact h'
    · simp [Array.getElem?_eq_none h'] at hbk
  have hb2:w2.heap[b]?=some (.cells #[.pointer (some ⟨b,0,none⟩),v] 121 (0,0)):=by
    rw [hgrow.block b hlt (fun e=>hne e.symm)];exact hbk
  have d0:w2.cell? ⟨b,0,none⟩=some (.pointer (some ⟨b,0,none⟩)):=by rw [Lib.cell_of_heap hb2];rfl
  have d1:w2.cell? ⟨b,1,none⟩=some v:=by rw [Lib.cell_of_heap hb2];rfl
  have f1:w2.frozen? ⟨b,1,none⟩=false:=Lib.frozen_of_heap hb2 1;obtain ⟨ao,n',cap,rfl⟩:∃ ao n' cap,v' = .slice ao n' cap:=by
    rcases hown'.2 with ⟨hv,_⟩ | ⟨g,cap,cur,hv,_⟩
    · exact ⟨_,_,_,hv⟩
    · exact ⟨_,_,_,hv⟩
  go_wp2;go_ret2;refine ⟨rfl,.inr ?_,?_,?_⟩
  · exact Lib.BuilderAt.put (T:=121) (e:=5) hB hb2 (bs':=bs ++ Lib.strCells s) (by simpa [Lib.strCells_length] using hown') (by decide)
  · exact (hb1.grown hgrow (by have:=hb1.size;omega) (fun k hk=>(hown.lt k hk).1)).setCell (p:=⟨b,1,none⟩) hB _
  · refine HKB.out.trans (KeepB.trans (fun k t hk h1 _=>hgrow.block k ?_ (fun e=>?_)) (KeepB.set_ hb2 _ _))
    · obtain ⟨cs,f,hh⟩:=hk;exact (Array.getElem?_eq_some_iff.1 hh).1
    · rcases hown.2 with ⟨e0,_⟩ | ⟨g,cap',cur,e0,_,h3,_⟩
      · rw [e0] at e;cases e
      · rw [e0] at e;have e:k=g:=by simpa [Value.ownBlock] using e
        subst e;obtain ⟨cs,f,hh⟩:=hk;rw [h3] at hh;cases hh;exact h1 rfl
end Go.Proofs.YtgekmfcbbjeahaaGreatDoor
/- poly.Text of a valid polynomial. -/
attribute [local go_sem ↓] Go.wp_at_zero Go.wp_at_succ
namespace Go.Proofs.YtgekmfcbbjeahaaGreatDoor
open Go.RowKit V
def termText (t:List Nat × Rat):List UInt8:=ratText (decide (t.2.num<0)) t.2.num.natAbs t.2.den ++ facTo t.1 t.1.length
def textTo (p:AL):Nat→List UInt8
  | 0=>[]
  | k+1=>textTo p k ++ (if 0<k then [32,43,32] else []) ++ (match p[k]? with | some t=>termText t | none=>[])
def polyText (p:AL):List UInt8:=if p.length=0 then [48] else textTo p p.length
theorem ratText_len {s:Bool} {n d:Nat} (h1:(Lib.decDigits n).length≤2000) (h2:(Lib.decDigits d).length≤2000):(ratText s n d).length≤4002:=by
  unfold ratText
  by_cases h:d=1
  · rw [if_pos h];cases s <;> simp only [List.length_append] <;> simp <;> omega
  · rw [if_neg h];cases s <;> simp only [List.length_append] <;> simp <;> omega
theorem bdr_below {B b:Nat} {bs:List Value} {w w':World} (h:Bdr B b bs w) (hb:Below w.heap.size w w'):Bdr B b bs w':=by
  have key:∀ {p:Value},Lib.BuilderAt 121 5 B b p bs w→Lib.BuilderAt 121 5 B b p bs w':=fun {p} ⟨h1,v,h2,h3,h4⟩=>
    ⟨h1,v,(hb.block b (Array.getElem?_eq_some_iff.1 h2).1).trans h2,ownsRow_below h3 hb,h4⟩
  rcases h with h | h
  · exact .inl (key h)
  · exact .inr (key h)
theorem blk4_keepB {w w':World} {g:Nat} {a b c d:Value} (h:Blk4 79 w g a b c d) (hk:KeepB w w'):Blk4 79 w' g a b c d:=(hk g _ ⟨_,_,h⟩ (by decide) (by decide)).trans h
theorem strCells_list (l:List UInt8):Lib.strCells ⟨l.toArray⟩=Lib.byteCells l:=rfl
theorem byteCells_app (a b:List UInt8):Lib.byteCells (a ++ b)=Lib.byteCells a ++ Lib.byteCells b:=by simp [Lib.byteCells]
set_option maxRecDepth 100000 in
set_option maxHeartbeats 3200000 in
theorem ptext (n : Nat) (A : Option Addr) (c : Nat) (ms : List MM) (P : PL) (w : World) (ha : ARd w A ms (up n P)) (hP : PIn n P) (htab : Lib.TabBelow Tryz.prog w.heap.size w "internal/strconv.uint64pow10" .u64 Lib.pow10Tab) :
    Calls Tryz.prog 37 #[.agg #[.int .i64 n,.slice A ms.length c]] w (Gives (.tuple #[.string ⟨(polyText (up n P)).toArray⟩,.int .i64 0]) w):=by
  have hb0:Below w.heap.size w (w.alloc (.cells #[.int .i64 n,.slice A ms.length c] 24)):=(Below.refl _ _).alloc (Nat.le_refl _) _;have k0:=Blk2c.new 24 w (.int .i64 n) (.slice A ms.length c);have HV:=Lib.hid (pvalid n A c ms _ _ (ha.raw.below hb0) true ⟨fun _=>ha.val hP,fun _=>rfl⟩);have hml:ms.length≤4000:=by rw [ha.hs.1,up,List.length_map];exact hP.len
  have HA:=Lib.hid ha;have HEO:=Lib.hid (eok_up hP);have HT:=Lib.hid htab;have HL:=Lib.hid ha.hs.1;clear ha hP htab
  by_cases h0:ms.length=0
  · have H0:=Lib.hid h0;have hpt:Hid (polyText (up n P)=[48]):=if_pos (by rw [← HL.out];exact h0);rw [h0] at k0 hb0 HV ⊢;clear h0;go_enter Tryz.func37,Tryz.ntmps37;go_wp2_with fail;refine HV.out.mono ?_;rintro e w1 ⟨rfl,hb1⟩;obtain ⟨p0,p1,p2,p3,p4⟩:=(k0.below hb1).facts;go_wp2_with fail;go_ret2;exact ⟨by rw [hpt.out];rfl,hb0.trans (hb1.mono hb0.size)⟩
  · have h02:((ms.length:Int) == 0)=false:=beq_eq_false_iff_ne.2 (by omega);have hpt:Hid (polyText (up n P)=textTo (up n P) ms.length):=by
      show polyText _=_;rw [polyText,if_neg (by rw [← HL.out];exact h0),← HL.out]
    go_enter Tryz.func37,Tryz.ntmps37;go_wp2_with fail;refine HV.out.mono ?_;rintro e w1 ⟨rfl,hb1⟩;obtain ⟨p0,p1,p2,p3,p4⟩:=(k0.below hb1).facts;have hb2:=hb0.trans (hb1.mono hb0.size);have hbs:=hb2.size;clear hb1 HV hb0 k0;go_wp2;go_loopw [5,6,7,8,19] (fun _ _ _ _ si wr=>∃ (k:Nat) (t:List UInt8),k≤ms.length∧si = .int .i64 k∧Hid (t=textTo (up n P) k)∧t.length≤5000*k∧Hid (Bdr w.heap.size w1.heap.size (Lib.byteCells t) wr)∧Below w.heap.size w wr) (fun _ _ _ _ si _=>ms.length - (intOf si).toNat)
    case atStart=>exact ⟨0,[],by omega,rfl,rfl,by simp,.inl ⟨hbs,.slice none 0 0,heap_alloc_new w1 _,World.ownsRow_nil _ _ _ _,by simp [Value.ownBlock]⟩,hb2.alloc hbs _⟩
    case round=>
      obtain ⟨k,t,hk,rfl,ht,htl,hbd,hbw⟩:=hrel
      by_cases hlt:k<ms.length
      · obtain ⟨ad,m,rfl,hbl,hm,hc⟩:=(HA.out.below hbw).rd.ask hlt;obtain ⟨es,q,hp,hrd,hmn,hmc,his,l1,l2⟩:=HA.out.hs.2 k m hm.out;obtain ⟨c0,c1,c2,c3⟩:=hc;have hes:=HEO.out.2 _ (List.mem_of_getElem? hp);have hel:es.length≤8:=by rw [hes.1];exact HEO.out.1
        have hes40:∀ x ∈ es,x≤40:=fun x hx=>Nat.le_trans (le_sum hx) hes.2
        obtain ⟨rt,hrt⟩:∃ r,ratText m.c.s (V32 m.c.ns) (V32 m.c.ds)=r:=⟨_,rfl⟩;obtain ⟨ft,hft⟩:∃ r,facTo es es.length=r:=⟨_,rfl⟩;have HTT:Hid (termText (es,q)=rt ++ ft):=by
          show ratText _ _ _ ++ _=_;rw [← hrt,← hft,his.q.1,his.q.2.1,his.q.2.2]
        have hrl:rt.length≤4002:=by
          rw [← hrt];have h1:=dec_short his.mn l1 (by omega);have h2:=dec_short his.md l2 (by omega);exact ratText_len (by omega) (by omega)
        have hfl:ft.length≤56:=by
          rw [← hft];have:=facTo_len es (fun i=>by
            rw [List.getD_eq_getElem?_getD];cases h:es[i]? with
            | none=>simp
            | some x=>have:=hes40 x (List.mem_of_getElem? h);simp;omega) es.length (by omega)
          omega
        have HRT:=Lib.hid hrt;have HFT:=Lib.hid hft;have HPK:=Lib.hid hp;rw [hmn] at c0;have HKB0:=Lib.hid (Blk4.new 79 wr (.slice m.X es.length m.xc) (.bool m.c.s) (.slice m.c.N m.c.ns.length m.c.nc) (.slice m.c.D m.c.ds.length m.c.dc));obtain ⟨W,hW⟩:∃ x,wr.alloc (.cells #[.slice m.X es.length m.xc,.bool m.c.s,.slice m.c.N m.c.ns.length m.c.nc,.slice m.c.D m.c.ds.length m.c.dc] 79)=x:=⟨_,rfl⟩;have HBW:Hid (Below wr.heap.size wr W):=by rw [← hW];exact (Below.refl _ _).alloc (Nat.le_refl _) _
        have HB0:=Lib.hid (bdr_below hbd.out HBW.out);have HW0:=Lib.hid (hbw.trans (HBW.out.mono hbw.size));rw [hW] at HKB0;have HWE:=Lib.hid hW;clear hrt hft hp hmn hW hes;go_upto_region 9 with fail;rw [HWE.out];clear HWE c0 c1 c2 c3
        by_cases hk0:k=0
        · have HK0:=Lib.hid hk0;have ht0:Hid (t=[]):=by rw [ht.out,hk0];rfl
          have HKB:=HKB0;have hkz:(k:Int)=0:=by omega
          clear hk0;have HX1:=Lib.hid (qtext m.c q W (his.below (HW0.out)) (by omega) (by omega) (fun w' h=>HT.out w' (HW0.out.trans (h.mono HW0.out.size))));obtain ⟨b0,b1,b2,b3,b4,b5,b6,b7,b8⟩:=HKB.out.facts;go_wp2_with fail;refine HX1.out.mono ?_;rintro e v1 ⟨rfl,hv1⟩;rw [HRT.out];have HB1:=Lib.hid (bdr_below HB0.out hv1);have HK1:=Lib.hid (HKB.out.below hv1);have HW1:=Lib.hid (HW0.out.trans (hv1.mono HW0.out.size));clear hv1 b0 b1 b2 b3 b4 b5 b6 b7 b8;have HX2:=Lib.hid (bd_write w.heap.size w1.heap.size (Lib.byteCells (t)) ⟨rt.toArray⟩ v1 HB1.out (by rw [Lib.byteCells_length];have:(⟨rt.toArray⟩:ByteArray).size=rt.length:=rfl;rw [this];omega) HW1.out.size);rw [strCells_list,← byteCells_app] at HX2;go_wp2_with fail;refine HX2.out.mono ?_;rintro e v2 ⟨rfl,hbd2,hv2,hk2⟩;have HB2:=Lib.hid hbd2;have HK2:=Lib.hid (blk4_keepB HK1.out hk2);have HW2:=Lib.hid (HW1.out.trans hv2);clear hbd2 hv2 hk2;obtain ⟨b0,b1,b2,b3,b4,b5,b6,b7,b8⟩:=HK2.out.facts;have HX3:=Lib.hid (pfactors m.X m.xc es v2 (hrd.below HW2.out) hel hes40);go_wp2_with fail;refine HX3.out.mono ?_;rintro e v3 ⟨rfl,hv3⟩;rw [HFT.out];have HB3:=Lib.hid (bdr_below HB2.out hv3);have HW3:=Lib.hid (HW2.out.trans (hv3.mono HW2.out.size));clear hv3 b0 b1 b2 b3 b4 b5 b6 b7 b8;have HX4:=Lib.hid (bd_write w.heap.size w1.heap.size (Lib.byteCells (t ++ rt)) ⟨ft.toArray⟩ v3 HB3.out (by rw [Lib.byteCells_length];have:(⟨ft.toArray⟩:ByteArray).size=ft.length:=rfl;rw [this];simp only [List.length_append];omega) HW3.out.size);rw [strCells_list,← byteCells_app] at HX4;go_wp2_with fail;refine HX4.out.mono ?_;rintro e v4 ⟨rfl,hbd4,hv4,hk4⟩;have HB4:=Lib.hid hbd4;have HW4:=Lib.hid (HW3.out.trans hv4);clear hbd4 hv4 hk4;go_wp2_with fail;go_roundw
          case rel=>exact ⟨k+1,t ++ rt ++ ft,by omega,by go_num,(by show _=textTo _ k ++ _ ++ _;rw [HPK.out,if_neg (by have:=HK0.out;omega),List.append_nil,← ht.out];show _=_ ++ termText _;rw [HTT.out,List.append_assoc]),by simp only [List.length_append];omega,HB4,HW4.out⟩
          case measure=>simp [intOf];omega
        · have hkp:(0:Int)<k:=by omega
          have HKP:=Lib.hid (show 0<k by omega);have HX0:=Lib.hid (bd_write w.heap.size w1.heap.size (Lib.byteCells t) ⟨[32,43,32].toArray⟩ W HB0.out (by rw [Lib.byteCells_length];have:(⟨[32,43,32].toArray⟩:ByteArray).size=3:=rfl;rw [this];omega) HW0.out.size);rw [strCells_list,← byteCells_app] at HX0;clear hk0;go_wp2_with fail;refine HX0.out.mono ?_;rintro e v0 ⟨rfl,hbd0,hv0,hk0⟩;have HBa:=Lib.hid hbd0;have HKB:=Lib.hid (blk4_keepB HKB0.out hk0);have HWa:=Lib.hid (HW0.out.trans hv0);clear hbd0 hv0 hk0 HKB0;have HX1:=Lib.hid (qtext m.c q v0 (his.below (HWa.out)) (by omega) (by omega) (fun w' h=>HT.out w' (HWa.out.trans (h.mono HWa.out.size))));obtain ⟨b0,b1,b2,b3,b4,b5,b6,b7,b8⟩:=HKB.out.facts;go_wp2_with fail;refine HX1.out.mono ?_;rintro e v1 ⟨rfl,hv1⟩;rw [HRT.out];have HB1:=Lib.hid (bdr_below HBa.out hv1);have HK1:=Lib.hid (HKB.out.below hv1);have HW1:=Lib.hid (HWa.out.trans (hv1.mono HWa.out.size));clear hv1 b0 b1 b2 b3 b4 b5 b6 b7 b8;have HX2:=Lib.hid (bd_write w.heap.size w1.heap.size (Lib.byteCells (t ++ [32,43,32])) ⟨rt.toArray⟩ v1 HB1.out (by rw [Lib.byteCells_length];have:(⟨rt.toArray⟩:ByteArray).size=rt.length:=rfl;rw [this];simp only [List.length_append,List.length_cons,List.length_nil];omega) HW1.out.size);rw [strCells_list,← byteCells_app] at HX2;go_wp2_with fail;refine HX2.out.mono ?_;rintro e v2 ⟨rfl,hbd2,hv2,hk2⟩;have HB2:=Lib.hid hbd2;have HK2:=Lib.hid (blk4_keepB HK1.out hk2);have HW2:=Lib.hid (HW1.out.trans hv2);clear hbd2 hv2 hk2;obtain ⟨b0,b1,b2,b3,b4,b5,b6,b7,b8⟩:=HK2.out.facts;have HX3:=Lib.hid (pfactors m.X m.xc es v2 (hrd.below HW2.out) hel hes40);go_wp2_with fail;refine HX3.out.mono ?_;rintro e v3 ⟨rfl,hv3⟩;rw [HFT.out];have HB3:=Lib.hid (bdr_below HB2.out hv3);have HW3:=Lib.hid (HW2.out.trans (hv3.mono HW2.out.size));clear hv3 b0 b1 b2 b3 b4 b5 b6 b7 b8;have HX4:=Lib.hid (bd_write w.heap.size w1.heap.size (Lib.byteCells (t ++ [32,43,32] ++ rt)) ⟨ft.toArray⟩ v3 HB3.out (by rw [Lib.byteCells_length];have:(⟨ft.toArray⟩:ByteArray).size=ft.length:=rfl;rw [this];simp only [List.length_append,List.length_cons,List.length_nil];omega) HW3.out.size);rw [strCells_list,← byteCells_app] at HX4;go_wp2_with fail;refine HX4.out.mono ?_;rintro e v4 ⟨rfl,hbd4,hv4,hk4⟩;have HB4:=Lib.hid hbd4;have HW4:=Lib.hid (HW3.out.trans hv4);clear hbd4 hv4 hk4;go_wp2_with fail;go_roundw
          case rel=>exact ⟨k+1,t ++ [32,43,32] ++ rt ++ ft,by omega,by go_num,(by show _=textTo _ k ++ _ ++ _;rw [HPK.out,if_pos HKP.out,← ht.out];show _=_ ++ termText _;rw [HTT.out,List.append_assoc]),by simp only [List.length_append,List.length_cons,List.length_nil];omega,HB4,HW4.out⟩
          case measure=>simp [intOf];omega
      · obtain rfl:k=ms.length:=by omega
        have HS:=Lib.hid (Tryz.Builder_String_any w.heap.size w1.heap.size t wr hbd.out hbw.size);go_wp2_with fail;refine HS.out.mono ?_;rintro e w3 ⟨rfl,hb3⟩;go_wp2_with fail;go_ret2;exact ⟨by rw [hpt.out,← ht.out];rfl,hbw.trans hb3⟩
end Go.Proofs.YtgekmfcbbjeahaaGreatDoor
/- The square of x0 + 1: plain facts, and what the sums and products on the way ask. -/
namespace Go.Proofs.YtgekmfcbbjeahaaGreatDoor
open Go.RowKit V
def awX:PL:=[(72057594037927936,1)]
def awC:PL:=[(0,1)]
def awS:PL:=[(72057594037927936,1),(0,1)]
def awM:PL:=[(144115188075855872,1),(72057594037927936,2),(0,1)]
theorem aw_pow:256 ^ (7 - 0)=72057594037927936:=by decide
theorem aw_c:scaleL [(0,1)] 1=awC:=by kernel_rfl
theorem aw_s:addL awX awC=awS:=by kernel_rfl
theorem aw_m:nfOf (mulA awS awS)=awM:=by kernel_rfl
theorem wfits_small {q:Rat} (h1:q.num.natAbs<4294967296) (h2:q.den<4294967296):WFits q 200:=
  ⟨Nat.lt_of_lt_of_le h1 (by rw [show (4294967296:Nat) ^ 200=4294967296 ^ 1*4294967296 ^ 199 by rw [← Nat.pow_add]];rw [Nat.pow_one];exact Nat.le_mul_of_pos_right _ (Nat.pow_pos (by omega))),.inr (Nat.lt_of_lt_of_le h2 (by rw [show (4294967296:Nat) ^ 200=4294967296 ^ 1*4294967296 ^ 199 by rw [← Nat.pow_add]];rw [Nat.pow_one];exact Nat.le_mul_of_pos_right _ (Nat.pow_pos (by omega))))⟩
def smallB (p:PL):Bool:=p.all fun t=>decide (deg t.1≤40) && decide (t.2.num.natAbs<4294967296) && decide (t.2.den<4294967296) && decide (t.1<18446744073709551616) && decide (t.1 % 72057594037927936=0) && decide (t.2≠0)
def descB:PL→Bool
  | []=>true
  | [_]=>true
  | a :: b :: r=>decide (b.1<a.1) && descB (b :: r)
theorem desc_of:∀ {p:PL},descB p=true→p.Pairwise (fun a b=>b.1<a.1)
  | [],_=>List.Pairwise.nil
  | [a],_=>List.pairwise_singleton _ _
  | a :: b :: r, h => by
    simp only [descB,Bool.and_eq_true,decide_eq_true_eq] at h;have ih:=desc_of (p:=b :: r) h.2;refine List.pairwise_cons.2 ⟨fun x hx=>?_,ih⟩;rcases List.mem_cons.1 hx with rfl | hx
    · exact h.1
    · have:=(List.pairwise_cons.1 ih).1 x hx;omega
theorem pin1 {p:PL} (h1:smallB p=true) (h2:descB p=true) (h3:p.length≤4000):PIn 1 p:=by
  have key:∀ t ∈ p,deg t.1≤40∧t.2.num.natAbs<4294967296∧t.2.den<4294967296∧t.1<18446744073709551616∧t.1 % 72057594037927936=0∧t.2≠0:=fun t ht=>by
    have:=List.all_eq_true.1 h1 t ht;simp only [Bool.and_eq_true,decide_eq_true_eq] at this;obtain ⟨⟨⟨⟨⟨a,b⟩,c⟩,d⟩,e⟩,f⟩:=this;exact ⟨a,b,c,d,e,f⟩
  exact ⟨by omega,⟨desc_of h2,fun t ht=>(key t ht).2.2.2.2.2⟩,h3,fun t ht=>⟨(key t ht).1,wfits_small (key t ht).2.1 (key t ht).2.2.1⟩,fun t ht=>(key t ht).2.2.2.1,fun t ht=>(key t ht).2.2.2.2.1⟩
theorem pin_x:PIn 1 awX:=pin1 (by kernel_rfl) (by kernel_rfl) (by decide)
theorem pin_c:PIn 1 awC:=pin1 (by kernel_rfl) (by kernel_rfl) (by decide)
theorem pin_s:PIn 1 awS:=pin1 (by kernel_rfl) (by kernel_rfl) (by decide)
theorem pin_m:PIn 1 awM:=pin1 (by kernel_rfl) (by kernel_rfl) (by decide)
theorem mulOk_11:MulOk 1 1:=mulOk_int 1 1 (by decide) (by decide) (by decide)
theorem addOk_n1 (n:Nat) (h:n≤1000):AddOk ((n:Int):Rat) 1:=addOk_int n 1 (by omega) (by decide) (by omega)
theorem coef_x {t:Nat × Rat} (h:t ∈ awX):t.2=1:=by
  simp [awX] at h;rw [h]
theorem coef_c {t:Nat × Rat} (h:t ∈ awC):t.2=1:=by
  simp [awC] at h;rw [h]
theorem coef_s {t:Nat × Rat} (h:t ∈ awS):t.2=1∧t.1≤72057594037927936:=by
  simp [awS] at h;rcases h with h | h <;> rw [h] <;> exact ⟨rfl,by decide⟩
def awSum (j:Nat) (x:Rat):Prop:=∃ n:Nat,n≤j∧x=((n:Int):Rat)
theorem aw_prod:ProdOk awSum 4 awS awS:=by
  refine ⟨fun f hf u hu=>?_,fun j x hj hx f hf u hu=>?_,⟨0,Nat.le_refl _,rfl⟩,fun f hf u hu=>?_,by decide⟩
  · rw [(coef_s hf).1,(coef_s hu).1];exact mulOk_11
  · obtain ⟨n,hn,rfl⟩:=hx;rw [(coef_s hf).1,(coef_s hu).1,Rat.mul_one];refine ⟨addOk_n1 n (by omega),n+1,by omega,?_⟩;rw [show (((n+1:Nat):Int):Rat)=(((n:Int)+1:Int):Rat) by rfl,Rat.intCast_add];rfl
  · have:=(coef_s hf).2;have:=(coef_s hu).2;omega
theorem aw_up:up 1 awM=[([2],1),([1],2),([0],1)]:=by kernel_rfl
theorem dec_d {n:Nat} (h:n<10):Lib.decDigits n=[UInt8.ofNat (48+n)]:=by rw [Lib.decDigits,dif_pos h]
theorem aw_text:polyText (up 1 awM)=[49,42,120,48,94,50,32,43,32,50,42,120,48,32,43,32,49]:=by
  have t0:termText ([2],1)=[49,42,120,48,94,50]:=by
    show ratText false 1 1 ++ facTo [2] 1=_;simp [ratText,facTo,facOne,dec_d]
  have t1:termText ([1],2)=[50,42,120,48]:=by
    show ratText false 2 1 ++ facTo [1] 1=_;simp [ratText,facTo,facOne,dec_d]
  have t2:termText ([0],1)=[49]:=by
    show ratText false 1 1 ++ facTo [0] 1=_;simp [ratText,facTo,facOne,dec_d]
  rw [aw_up];simp [polyText,textTo,t0,t1,t2]
end Go.Proofs.YtgekmfcbbjeahaaGreatDoor
/- isochronelaw03.awake: the square of x0 + 1. -/
attribute [local go_sem ↓] Go.wp_at_zero Go.wp_at_succ
namespace Go.Proofs.YtgekmfcbbjeahaaGreatDoor
open Go.RowKit V
abbrev PBox (A:Option Addr) (l c:Nat):Obj:=.cells #[.int .i64 1,.slice A l c] 24
set_option maxRecDepth 100000 in
set_option maxHeartbeats 3200000 in
theorem pawake (w : World) (htab : Lib.TabBelow Tryz.prog w.heap.size w "internal/strconv.uint64pow10" .u64 Lib.pow10Tab) :
    Calls Tryz.prog 8 #[] w (Yes w):=by
  have HT:=Lib.hid htab;clear htab;have HV:=Lib.hid (pvar 1 0 w (by omega) (by omega));rw [aw_pow] at HV;go_enter Tryz.func8,Tryz.ntmps8;go_wp2_with fail;refine HV.out.mono ?_;rintro e w1 ⟨A1,c1,m1,rfl,hc1,hat1,hb1⟩;have HA1:=Lib.hid ((hat1.below ((Below.refl _ _).alloc (Nat.le_refl _) (PBox A1 m1.length c1))).ard);have HK1:=Lib.hid (Blk2c.new 24 w1 (.int .i64 1) (.slice A1 m1.length c1));have HB1:Hid (Below w.heap.size w (w1.alloc (PBox A1 m1.length c1))):=hb1.alloc hb1.size _;have HO:=Lib.hid (rone (w1.alloc (PBox A1 m1.length c1)));clear hat1 hb1 hc1 HV;go_wp2_with fail;refine HO.out.mono ?_;rintro e w2 ⟨o,rfl,ho,ol1,ol2,hb2⟩;have HQ:=Lib.hid (qto o 1 w2 ho (by omega) (by omega));have HA2:=Lib.hid (HA1.out.below hb2);have HK2:=Lib.hid (HK1.out.below hb2);have HB2:=Lib.hid (HB1.out.trans (hb2.mono HB1.out.size));clear ho ol1 ol2 hb2 HO HA1 HK1 HB1;go_wp2_with fail;refine HQ.out.mono ?_;rintro e w3 ⟨r,rfl,hr,rl1,rl2,hb3⟩;obtain ⟨l1,l2⟩:=fits_len hr (wfits_small (by decide) (by decide));have HC:=Lib.hid (pconst 1 r 1 w3 hr l1 l2 (by omega) mulOk_11 ⟨by decide,wfits_small (by decide) (by decide)⟩);rw [aw_c] at HC;have HA3:=Lib.hid (HA2.out.below hb3);have HK3:=Lib.hid (HK2.out.below hb3);have HB3:=Lib.hid (HB2.out.trans (hb3.mono HB2.out.size));clear hr rl1 rl2 hb3 l1 l2 HQ HA2 HK2 HB2;go_wp2_with fail;refine HC.out.mono ?_;rintro e w4 ⟨A2,c2,m2,rfl,hc2,hat2,hb4⟩;have hq4:Below w4.heap.size w4 (w4.alloc (PBox A2 m2.length c2)):=(Below.refl _ _).alloc (Nat.le_refl _) _;have hq34:=hb4.trans (hq4.mono hb4.size);have HX4:=Lib.hid (HA3.out.below hq34);have HC4:=Lib.hid (hat2.below hq4).ard;have HK4:=Lib.hid (HK3.out.below hq34);have HJ4:=Lib.hid (Blk2c.new 24 w4 (.int .i64 1) (.slice A2 m2.length c2));have HB4:=Lib.hid (HB3.out.trans (hq34.mono HB3.out.size));have HADD:=Lib.hid (padd_ok 1 A1 A2 c1 c2 m1 m2 awX awC _ HX4.out HC4.out pin_x pin_c (fun t ht u hu=>by rw [coef_x ht,coef_c hu];exact addOk_n1 1 (by omega)) (by rw [aw_s];exact pin_s.words) (by rw [aw_s];exact pin_s.fits) (by rw [aw_s];decide));rw [aw_s] at HADD;obtain ⟨k0,k1,k2,k3,k4⟩:=HK4.out.facts;obtain ⟨j0,j1,j2,j3,j4⟩:=HJ4.out.facts;clear hat2 hb4 hq4 hq34 hc2 HC HA3 HK3 HB3;go_wp2_with fail;refine HADD.out.mono ?_;rintro e w5 ⟨A3,c3,m3,rfl,hc3,hat3,hb5⟩;have hq5:Below w5.heap.size w5 (w5.alloc (PBox A3 m3.length c3)):=(Below.refl _ _).alloc (Nat.le_refl _) _;have HS5:=Lib.hid (hat3.below hq5).ard;have HJ5:=Lib.hid (Blk2c.new 24 w5 (.int .i64 1) (.slice A3 m3.length c3));have HB5:=Lib.hid (HB4.out.trans ((hb5.trans (hq5.mono hb5.size)).mono HB4.out.size));have HMUL:=Lib.hid (pmul_ok 1 A3 A3 c3 c3 m3 m3 awS awS awSum 4 _ HS5.out HS5.out pin_s pin_s aw_prod (fun f hf u hu=>by rw [(coef_s hf).1,(coef_s hu).1];exact mulOk_11) (by rw [aw_m];exact pin_m.words));rw [aw_m] at HMUL;clear k0 k1 k2 k3 k4 j0 j1 j2 j3 j4 hat3 hb5 hq5 hc3 HADD HX4 HC4 HK4 HJ4 HB4;obtain ⟨j0,j1,j2,j3,j4⟩:=HJ5.out.facts;go_wp2_with fail;refine HMUL.out.mono ?_;rintro e w6 (⟨_,A4,c4,m4,rfl,hc4,hat4,hb6⟩ | ⟨hno,_⟩)
  · have hq6:Below w6.heap.size w6 (w6.alloc (PBox A4 m4.length c4)):=(Below.refl _ _).alloc (Nat.le_refl _) _;have HM6:=Lib.hid (hat4.below hq6).ard;have HJ6:=Lib.hid (Blk2c.new 24 w6 (.int .i64 1) (.slice A4 m4.length c4));have HB6:=Lib.hid (HB5.out.trans ((hb6.trans (hq6.mono hb6.size)).mono HB5.out.size));have HTX:=Lib.hid (ptext 1 A4 c4 m4 awM _ HM6.out pin_m (fun w' h=>HT.out w' (HB6.out.trans (h.mono HB6.out.size))));rw [aw_text] at HTX;clear j0 j1 j2 j3 j4 hat4 hb6 hq6 hc4 HMUL HS5 HJ5 HB5;obtain ⟨j0,j1,j2,j3,j4⟩:=HJ6.out.facts;go_wp2_with fail;refine HTX.out.mono ?_;rintro e w7 ⟨rfl,hb7⟩;have HB7:=Lib.hid (HB6.out.trans (hb7.mono HB6.out.size));clear hb7;go_wp2_with fail;go_ret;exact ⟨rfl,HB7.out⟩
  · exact absurd ⟨pin_m.fits,pin_m.len⟩ hno
end Go.Proofs.YtgekmfcbbjeahaaGreatDoor
/- isochronelaw03.PolyForms answers true for all arguments: the walk. -/
namespace Go.Proofs.YtgekmfcbbjeahaaGreatDoor
open Go.RowKit V
theorem pboxes2 (w:World) (a b x y:Value):Blk2c 24 ((w.alloc (.cells #[a,b] 24)).alloc (.cells #[x,y] 24)) w.heap.size a b∧Blk2c 24 ((w.alloc (.cells #[a,b] 24)).alloc (.cells #[x,y] 24)) (w.heap.size+1) x y ∧
    Below w.heap.size w ((w.alloc (.cells #[a,b] 24)).alloc (.cells #[x,y] 24)):=by
  refine ⟨(Blk2c.new 24 w a b).alloc _,?_,((Below.refl _ _).alloc (Nat.le_refl _) _).alloc (by simp) _⟩;have:=Blk2c.new 24 (w.alloc (.cells #[a,b] 24)) x y;simpa using this
end Go.Proofs.YtgekmfcbbjeahaaGreatDoor
/- isochronelaw03.small; isochronelaw03.PolyTexts answers true for all arguments: the walk. -/
attribute [local go_sem ↓] Go.wp_at_zero Go.wp_at_succ
namespace Go.Proofs.YtgekmfcbbjeahaaGreatDoor
open Go.RowKit V
theorem psm1 (n:Int) (A:Option Addr) (c:Nat) (ms:List MM) (es:List (List Int)) (w:World) (h:PRaw w A ms es) (v:Bool) (hv:v=true↔Sm n ms es 12 8 2) :
    Calls Tryz.prog 48 #[.agg #[.int .i64 n,.slice A ms.length c],.int .i64 12,.int .i64 8,.int .i64 2] w (Gives (.bool v) w):=psmall n A c ms es 12 8 2 w h (by omega) v hv
set_option maxRecDepth 100000 in
set_option maxHeartbeats 1600000 in
theorem psm (n n2 : Int) (A B : Option Addr) (c d : Nat) (ms ms2 : List MM) (es es2 : List (List Int)) (w : World) (h : PRaw w A ms es) (h2 : PRaw w B ms2 es2) (v : Bool) (hv : v = true ↔ n = n2 ∧ Sm n ms es 12 8 2 ∧ Sm n2 ms2 es2 12 8 2) :
    Calls Tryz.prog 9 #[.agg #[.int .i64 n,.slice A ms.length c],.agg #[.int .i64 n2,.slice B ms2.length d]] w (Gives (.bool v) w):=by
  have HV:=Lib.hid hv;have HF:=Lib.hid (fun (h:¬ (n=n2∧Sm n ms es 12 8 2∧Sm n2 ms2 es2 12 8 2))=>not_false_of hv h);clear hv;obtain ⟨ka,kb,hb0⟩:=pboxes2 w (.int .i64 n) (.slice A ms.length c) (.int .i64 n2) (.slice B ms2.length d);go_enter Tryz.func9,Tryz.ntmps9;go_upto_region 1 with fail;obtain ⟨w1,hw1⟩:∃ x,(w.alloc (.cells #[.int .i64 n,.slice A ms.length c] 24)).alloc (.cells #[.int .i64 n2,.slice B ms2.length d] 24)=x:=⟨_,rfl⟩;rw [hw1] at ka kb hb0 ⊢;clear hw1;have HA:=Lib.hid (h.below hb0);have HB:=Lib.hid (h2.below hb0);clear h h2;obtain ⟨a0,a1,a2,a3,a4⟩:=ka.facts;obtain ⟨b0,b1,b2,b3,b4⟩:=kb.facts
  by_cases hn:n=n2
  · subst hn
    by_cases hs:Sm n ms es 12 8 2
    · have HS:=Lib.hid hs;have H1:=Lib.hid (psm1 n A c ms es w1 HA.out true ⟨fun _=>hs,fun _=>rfl⟩);clear hs
      by_cases hs2:Sm n ms2 es2 12 8 2
      · have hvt:v=true:=HV.out.2 ⟨rfl,HS.out,hs2⟩;subst hvt;have H2:=Lib.hid (fun W (hW:Below w1.heap.size w1 W)=>psm1 n B d ms2 es2 W (HB.out.below hW) true ⟨fun _=>hs2,fun _=>rfl⟩);clear hs2;go_wp2_with fail;refine H1.out.mono ?_;rintro e w2 ⟨rfl,hb2⟩;clear a0 a1 a2 a3 a4 b0 b1 b2 b3 b4;obtain ⟨b0,b1,b2,b3,b4⟩:=(kb.below hb2).facts;go_wp2_with fail;refine (H2.out _ hb2).mono ?_;rintro e w3 ⟨rfl,hb3⟩;go_wp2_with fail;go_ret;exact ⟨rfl,(hb0.trans (hb2.mono hb0.size)).trans (hb3.mono (hb0.trans (hb2.mono hb0.size)).size)⟩
      · have hvf:v=false:=HF.out (fun h=>hs2 h.2.2);subst hvf;have H2:=Lib.hid (fun W (hW:Below w1.heap.size w1 W)=>psm1 n B d ms2 es2 W (HB.out.below hW) false ⟨fun hh=>(by cases hh),fun hh=>absurd hh hs2⟩);clear hs2;go_wp2_with fail;refine H1.out.mono ?_;rintro e w2 ⟨rfl,hb2⟩;clear a0 a1 a2 a3 a4 b0 b1 b2 b3 b4;obtain ⟨b0,b1,b2,b3,b4⟩:=(kb.below hb2).facts;go_wp2_with fail;refine (H2.out _ hb2).mono ?_;rintro e w3 ⟨rfl,hb3⟩;go_wp2_with fail;go_ret;exact ⟨rfl,(hb0.trans (hb2.mono hb0.size)).trans (hb3.mono (hb0.trans (hb2.mono hb0.size)).size)⟩
    · have hvf:v=false:=HF.out (fun h=>hs h.2.1);subst hvf;have H1:=Lib.hid (psm1 n A c ms es w1 HA.out false ⟨fun hh=>(by cases hh),fun hh=>absurd hh hs⟩);clear hs;go_wp2_with fail;refine H1.out.mono ?_;rintro e w2 ⟨rfl,hb2⟩;go_wp2_with fail;go_ret;exact ⟨rfl,hb0.trans (hb2.mono hb0.size)⟩
  · have hvf:v=false:=HF.out (fun h=>hn h.1);subst hvf;go_wp2_with fail;go_ret;exact ⟨rfl,hb0⟩
end Go.Proofs.YtgekmfcbbjeahaaGreatDoor
/- What PolyParts asks of its arguments: isochronelaw03.number; numbers of two short words are one long word; the reference's Const of any number. -/
attribute [local go_sem ↓] Go.wp_at_zero Go.wp_at_succ
namespace Go.Proofs.YtgekmfcbbjeahaaGreatDoor
open Go.RowKit V
def RL.Two (a:RL):Prop:=(a.ns.length≤2∧a.ds.length≤2)∧a.Val
theorem blk3_new (w:World) (a:RL):BlkT 27 (w.alloc (.cells #[.bool a.s,.slice a.N a.ns.length a.nc,.slice a.D a.ds.length a.dc] 27)) w.heap.size (.bool a.s) (.slice a.N a.ns.length a.nc) (.slice a.D a.ds.length a.dc):=BlkT.new _ w _ _ _
set_option maxRecDepth 100000 in
set_option maxHeartbeats 800000 in
theorem pnumber (a:RL) (w:World) (h:a.Raw w) (v:Bool) (hv:v=true↔a.Two) :
    Calls Tryz.prog 10 #[.agg #[.bool a.s,.slice a.N a.ns.length a.nc,.slice a.D a.ds.length a.dc]] w (Gives (.bool v) w):=by
  have hb0:Below w.heap.size w (w.alloc (.cells #[.bool a.s,.slice a.N a.ns.length a.nc,.slice a.D a.ds.length a.dc] 27)):=(Below.refl _ _).alloc (Nat.le_refl _) _;have k0:=blk3_new w a;have HV:=Lib.hid hv;have HF:=Lib.hid (fun (h:¬ a.Two)=>not_false_of hv h);clear hv;go_enter Tryz.func10,Tryz.ntmps10;go_upto_region 1 with fail;obtain ⟨w1,hw1⟩:∃ x,w.alloc (.cells #[.bool a.s,.slice a.N a.ns.length a.nc,.slice a.D a.ds.length a.dc] 27)=x:=⟨_,rfl⟩;rw [hw1] at k0 hb0 ⊢;clear hw1;have HR:=Lib.hid (h.below hb0);clear h;obtain ⟨a0,a1,a2,a3,a4,a5,a6⟩:=k0.facts
  by_cases hs:a.ns.length≤2∧a.ds.length≤2
  · have H1:=Lib.hid (qshort_yes a.s a.N a.D a.ns.length a.nc a.ds.length a.dc 2 w1 hs.1 hs.2)
    by_cases hq:a.Val
    · have hvt:v=true:=HV.out.2 ⟨hs,hq⟩;subst hvt;have H2:=Lib.hid (fun W (hW:Below w1.heap.size w1 W)=>rqvalid_rawyes a W (HR.out.below hW) hq);clear hs hq;go_wp2_with fail;refine H1.out.mono ?_;rintro e w2 ⟨rfl,hb2⟩;clear a0 a1 a2 a3 a4 a5 a6;obtain ⟨a0,a1,a2,a3,a4,a5,a6⟩:=(k0.below hb2).facts;go_wp2_with fail;refine (H2.out _ hb2).mono ?_;rintro e w3 ⟨rfl,hb3⟩;go_wp2_with fail;go_ret;exact ⟨rfl,(hb0.trans (hb2.mono hb0.size)).trans (hb3.mono (hb0.trans (hb2.mono hb0.size)).size)⟩
    · have hvf:v=false:=HF.out (fun h=>hq h.2);subst hvf;have H2:=Lib.hid (fun W (hW:Below w1.heap.size w1 W)=>rqvalid_rawno a W (HR.out.below hW) hq);clear hs hq;go_wp2_with fail;refine H1.out.mono ?_;rintro e w2 ⟨rfl,hb2⟩;clear a0 a1 a2 a3 a4 a5 a6;obtain ⟨a0,a1,a2,a3,a4,a5,a6⟩:=(k0.below hb2).facts;go_wp2_with fail;refine (H2.out _ hb2).mono ?_;rintro e w3 ⟨rfl,hb3⟩;go_wp2_with fail;go_ret;exact ⟨rfl,(hb0.trans (hb2.mono hb0.size)).trans (hb3.mono (hb0.trans (hb2.mono hb0.size)).size)⟩
  · have hvf:v=false:=HF.out (fun h=>hs h.1);subst hvf;have H1:=Lib.hid (qshort_no a.s a.N a.D a.ns.length a.nc a.ds.length a.dc 2 w1 hs);clear hs;go_wp2_with fail;refine H1.out.mono ?_;rintro e w2 ⟨rfl,hb2⟩;go_wp2_with fail;go_ret;exact ⟨rfl,hb0.trans (hb2.mono hb0.size)⟩
theorem two_word {w:World} {a:RL} {q:Rat} (h:a.Is w q) (l1:a.ns.length≤2) (l2:a.ds.length≤2):q.num.natAbs<18446744073709551616∧q.den<18446744073709551616:=by
  have h1:=V32_lt h.mn l1;have h2:=V32_lt h.md l2;rw [h.q.2.1] at h1;rw [h.q.2.2] at h2;exact ⟨h1,h2⟩
theorem poly_oneW {w:World} {A:Option Addr} {n:Nat} {ms:List MM} {P:PL} (ha:ARd w A ms (up n P)) (hs:∀ m ∈ ms,m.c.ns.length≤2∧m.c.ds.length≤2):OneW P:=fun t ht=>by
  obtain ⟨j,hj⟩:=List.getElem?_of_mem ht;have hl:=ha.hs.1;have hjl:j<ms.length:=by
    have:=(List.getElem?_eq_some_iff.1 hj).1;rw [hl,up,List.length_map];exact this
  have hm:ms[j]?=some ms[j]:=List.getElem?_eq_getElem hjl;obtain ⟨e,q,h1,_,_,_,h5,_,_⟩:=ha.hs.2 j _ hm;rw [up,List.getElem?_map,hj] at h1;cases h1;have hsm:=hs _ (List.mem_of_getElem? hm);exact two_word h5 hsm.1 hsm.2
def constL (q:Rat):PL:=if q=0 then [] else [(0,q)]
theorem constL_scale (q:Rat):scaleL [(0,1)] q=constL q:=by
  unfold scaleL constL;split
  · rfl
  · simp [Rat.one_mul]
theorem constL_nf (q:Rat):NF (constL q):=by
  unfold constL;split
  · exact NF.nil
  · rename_i h
    exact ⟨List.pairwise_singleton _ _,fun t ht=>by simp at ht;rw [ht];exact h⟩
theorem constL_words (q:Rat):Words (constL q):=by rw [← constL_scale];exact const_words q
theorem pconstRq (L:Nat) (a:RL) (q:Rat) (w:World) (ha:a.Ref w q) (hty:a.TyI w) (l1:a.ns.length≤L) (l2:a.ds.length≤L) :
    Calls Tryz.prog 27 #[.agg #[.bool a.s,.slice a.N a.ns.length a.nc,.slice a.D a.ds.length a.dc]] w (QP L (constL q) w):=by
  by_cases h0:q=0
  · rw [constL,if_pos h0];subst h0;exact pconstR0 L a w ha
  · rw [constL,if_neg h0];exact pconstR L a q w ha hty h0 l1 l2
end Go.Proofs.YtgekmfcbbjeahaaGreatDoor
