/- poly.Const. -/
import Derived.Test.YtgekmfcbbjeahaaGreatDoorPpR32
import Derived.Shelf.Spec.BitsCarry
import Derived.RegionTactic
import Derived.ChangeAlike
import Derived.Deep.DeepCutAuto
import Derived.Deep.RegionHeld3
import Derived.Deep.DrawnRows
attribute [local go_sem ↓] Go.wp_at_zero Go.wp_at_succ
namespace Go.Proofs.YtgekmfcbbjeahaaGreatDoor
open Go.RowKit V
theorem cells3_of {t:TypeId} {w:World} {g:Nat} {a b c:Value} (h:BlkT t w g a b c):w.cell? ⟨g,0,none⟩=some a∧w.cell? ⟨g,1,none⟩=some b∧w.cell? ⟨g,2,none⟩=some c:=⟨h.facts.c0,h.facts.c1,h.facts.c2⟩
set_option maxRecDepth 100000 in
set_option maxHeartbeats 1600000 in
theorem pconst (n:Nat) (a:RL) (q:Rat) (w:World) (ha:a.Is w q) (l1:a.ns.length≤200) (l2:a.ds.length≤200) (hn:n≤8) (hm:MulOk 1 q) (hf:TFits 0 q) :
    Calls Tryz.prog 25 #[.int .i64 n,.agg #[.bool a.s,.slice a.N a.ns.length a.nc,.slice a.D a.ds.length a.dc]] w (StoreOk n (scaleL [(0,1)] q) w):=by
  have HM:=Lib.hid hm;have HF:=Lib.hid (const_fits q hf);have HW:=Lib.hid (const_words q);have HMA:Hid (∀ t ∈ [((0:Nat),(1:Rat))],MulOk t.2 q):=by
    intro t ht;obtain rfl:=List.mem_singleton.1 ht;exact HM.out
  have HLL:=Lib.hid (const_len q);have HST:=Lib.hid (fun (Y:Option Addr) (yc:Nat) (ys:List TM) (W:World) (h1:PRd W Y ys (scaleL [(0,1)] q)) (h2:ys.length≤4000)=>pstore_ok n Y yc ys _ W h1 h2 hn HW.out HF.out);clear hm hf;have hn2:(0:Int)≤(n:Int)∧(n:Int)≤8:=⟨by omega,by omega⟩;have hb0:Below w.heap.size w ((w.alloc (.cells #[.bool a.s,.slice a.N a.ns.length a.nc,.slice a.D a.ds.length a.dc] 27)).alloc (.cells #[.int .i64 0,.slice none 0 0] 24)):=((Below.refl _ _).alloc (Nat.le_refl _) _).alloc (by simp) _;have ka:=(BlkT.new 27 w (.bool a.s) (.slice a.N a.ns.length a.nc) (.slice a.D a.ds.length a.dc)).alloc (.cells #[.int .i64 0,.slice none 0 0] 24);have kz:Blk2c 24 ((w.alloc (.cells #[.bool a.s,.slice a.N a.ns.length a.nc,.slice a.D a.ds.length a.dc] 27)).alloc (.cells #[.int .i64 0,.slice none 0 0] 24)) (w.heap.size+1) (.int .i64 0) (.slice none 0 0):=by
    have:=Blk2c.new 24 (w.alloc (.cells #[.bool a.s,.slice a.N a.ns.length a.nc,.slice a.D a.ds.length a.dc] 27)) (.int .i64 0) (.slice none 0 0);simpa using this
  have HC:=Lib.hid (pisCount (n:Int));rw [decide_eq_true hn2] at HC;have hv:=qvalid_yes a q _ (ha.below hb0) (by omega) (by omega);have ha0:=ha.below hb0;go_enter Tryz.func25,Tryz.ntmps25;go_wp2_with fail;refine hv.mono ?_;rintro e w1 ⟨rfl,hb1⟩;have hb2:=hb0.trans (hb1.mono hb0.size);have ka1:=ka.below hb1;have kz1:=kz.below hb1;have ha1:=ha0.below hb1;obtain ⟨p0,p1,p2,p3,p4⟩:=kz1.facts;obtain ⟨a0,a1,a2,a3,a4,a5,a6⟩:=ka1.facts;clear hb0 hb1 ka kz hv ha0;go_wp2_with fail;refine (HC.out _).mono ?_;rintro e w2 ⟨rfl,rfl⟩;go_upto_region 5 with fail;have HA:=Lib.hid ha1;have HB:=Lib.hid hb2;have HS0:=cells3_of ka1;clear ha1 hn2 hb2;refine wp_region_held_drew (S:=fun w'=>w'.cell? ⟨w.heap.size,0,none⟩=some (.bool a.s)∧w'.cell? ⟨w.heap.size,1,none⟩=some (.slice a.N a.ns.length a.nc)∧w'.cell? ⟨w.heap.size,2,none⟩=some (.slice a.D a.ds.length a.dc)) (by kernel_rfl) ?_ (fun hHeld=>?_)
  · first | exact HS0 | go_keep
  refine wpAnyH_take (i:=0) (v:=?v0) rfl (by kernel_rfl) (by kernel_rfl) (by kernel_rfl) (fun _ _ _ h=>h) (Or.inl ⟨by rfl,?hy0⟩) (by assumption) ?rest0
  case hy0=>
    intro w hSw
    (try dsimp only at hSw)
    go_simp
    all_goals with_reducible rfl
  simp only [Act.put,List.getElem_toArray,List.getElem_cons_zero,List.setIfInBounds_toArray,List.set_cons_zero,List.set_cons_succ];refine wpAnyH_take (i:=2) (v:=?v2) rfl (by kernel_rfl) (by kernel_rfl) (by kernel_rfl) (fun _ _ _ h=>h) (Or.inl ⟨by rfl,?hy2⟩) (by assumption) ?rest2
  case hy2=>
    intro w hSw
    (try dsimp only at hSw)
    go_simp
    all_goals with_reducible rfl
  simp only [Act.put,List.getElem_toArray,List.getElem_cons_zero,List.getElem_cons_succ,List.setIfInBounds_toArray,List.set_cons_zero,List.set_cons_succ];refine wpAnyH_ready (rs:=[1]) (by kernel_rfl) (by simp) ?_;refine AllReadyH.cons (o:=_) rfl (fun K hK=>?_) AllReadyH.nil;go_simp;go_at_call 70;refine (pone _).mono ?_;rintro e x1 ⟨X,xc,xs,rfl,hxc,hx,hbx⟩;have hq1:Below w1.heap.size w1 x1:=by first | exact hbx | exact below_of_drew hbx (Nat.le_refl _)
  have HS_:=cells3_of (ka1.below hq1);have HX:=Lib.hid hx;have HXL:=Lib.hid hx.hs.1;clear hx;go_wp2_with fail;refine hK.out _ _ ?_ (fun hHeld=>?_)
  · first | exact HS_ | go_keep
  clear hK K
  try simp only [Act.put,List.getElem_toArray,List.getElem_cons_zero,List.getElem_cons_succ,List.setIfInBounds_toArray,List.set_cons_zero,List.set_cons_succ]
  refine wpAnyH_ready (rs:=[3]) (by kernel_rfl) (by simp) ?_;refine AllReadyH.cons (o:=_) rfl (fun K hK=>?_) AllReadyH.nil;go_simp;go_at_call 59;refine (wOf a q _ (HA.out.below hq1) (by omega) (by omega)).mono ?_;rintro e x2 ⟨r,rfl,hr,hl1,hl2,hby⟩;have hq2:=hq1.trans (hby.mono hq1.size);clear HS_;have HS_:=cells3_of (ka1.below hq2);have HX2:=Lib.hid (HX.out.below hby);have HRN:=Lib.hid hr;clear hr;go_wp2_with fail;refine hK.out _ _ ?_ (fun hHeld=>?_)
  · first | exact HS_ | go_keep
  clear hK K
  try simp only [Act.put,List.getElem_toArray,List.getElem_cons_zero,List.getElem_cons_succ,List.setIfInBounds_toArray,List.set_cons_zero,List.set_cons_succ]
  refine wpAnyH_ready (rs:=[4]) (by kernel_rfl) (by simp) ?_;refine AllReadyH.cons (o:=_) rfl (fun K hK=>?_) AllReadyH.nil;go_simp;go_at_call 55;refine (pscaled X xc xs [(0,1)] r q _ HX2.out HRN.out (by rw [HXL.out];simp) HMA.out).mono ?_;rintro e x3 ⟨Y,yc,ys,rfl,hyc,hy,hbv⟩;have hq3:=hq2.trans (hbv.mono hq2.size);clear HS_;have HS_:=cells3_of (ka1.below hq3);have HY:=Lib.hid hy;have HYL:=Lib.hid (show ys.length≤1 by rw [hy.hs.1];exact HLL.out);clear hy;go_wp2_with fail;refine hK.out _ _ ?_ (fun hHeld=>?_)
  · first | exact HS_ | go_keep
  clear hK K
  try simp only [Act.put,List.getElem_toArray,List.getElem_cons_zero,List.getElem_cons_succ,List.setIfInBounds_toArray,List.set_cons_zero,List.set_cons_succ]
  refine wpAnyH_ready (rs:=[5]) (by kernel_rfl) (by simp) ?_;refine AllReadyH.cons (o:=_) rfl (fun K hK=>?_) AllReadyH.nil;go_simp;go_at_call 52;refine (HST.out Y yc ys _ HY.out (by have:=HYL.out;omega)).mono ?_;rintro e x4 ⟨C,cc,ms,rfl,hcc,hat,hbu⟩;have hq4:=hq3.trans (hbu.mono hq3.size);clear HS_;have HS_:=cells3_of (ka1.below hq4);have HAT:=Lib.hid hat;clear hat;have kz4:=kz1.below hq4;obtain ⟨g0,g1,g2,g3,g4⟩:=kz4.facts;go_wp2_with fail;refine hK.out _ _ ?_ (fun hHeld=>?_)
  · first | exact HS_ | go_keep
  clear hK K
  try simp only [Act.put,List.getElem_toArray,List.getElem_cons_zero,List.getElem_cons_succ,List.setIfInBounds_toArray,List.set_cons_zero,List.set_cons_succ]
  refine wpAnyH_take (i:=6) (v:=?v6) rfl (by kernel_rfl) (by kernel_rfl) (by kernel_rfl) (fun _ _ _ h=>h) (Or.inl ⟨by rfl,?hy6⟩) (by assumption) ?rest6
  case hy6=>
    intro w hSw
    (try dsimp only at hSw)
    go_simp
    all_goals with_reducible rfl
  simp only [Act.put,List.getElem_toArray,List.getElem_cons_zero,List.getElem_cons_succ,List.setIfInBounds_toArray,List.set_cons_zero,List.set_cons_succ];refine wpAnyH_take (i:=7) (v:=?v7) rfl (by kernel_rfl) (by kernel_rfl) (by kernel_rfl) (fun _ _ _ h=>h) (Or.inl ⟨by rfl,?hy7⟩) (by assumption) ?rest7
  case hy7=>
    intro w hSw
    (try dsimp only at hSw)
    go_simp
    all_goals with_reducible rfl
  simp only [Act.put,List.getElem_toArray,List.getElem_cons_zero,List.getElem_cons_succ,List.setIfInBounds_toArray,List.set_cons_zero,List.set_cons_succ];refine wpAnyH_ready (rs:=[8]) (by kernel_rfl) (by simp) ?_;refine AllReadyH.cons (o:=_) rfl (fun K hK=>?_) AllReadyH.nil;go_simp;refine hK.out _ _ ?_ (fun hHeld=>?_)
  · first | exact cells3_of (((ka1.below hq4).far (p:=⟨w.heap.size+1,0,none⟩) (by show w.heap.size≠w.heap.size+1;omega) _).far (p:=⟨w.heap.size+1,1,none⟩) (by show w.heap.size≠w.heap.size+1;omega) _) | go_keep
  clear hK K
  try simp only [Act.put,List.getElem_toArray,List.getElem_cons_zero,List.getElem_cons_succ,List.setIfInBounds_toArray,List.set_cons_zero,List.set_cons_succ]
  refine wpAnyH_take (i:=9) (v:=?v9) rfl (by kernel_rfl) (by kernel_rfl) (by kernel_rfl) (fun _ _ _ h=>h) (Or.inl ⟨by rfl,?hy9⟩) (by assumption) ?rest9
  case hy9=>
    intro w hSw
    (try dsimp only at hSw)
    go_simp
    all_goals with_reducible rfl
  simp only [Act.put,List.getElem_toArray,List.getElem_cons_zero,List.getElem_cons_succ,List.setIfInBounds_toArray,List.set_cons_zero,List.set_cons_succ];refine wpAnyH_done (by kernel_rfl) ?_ _;go_wp2_with fail;refine bodyPost_ret (v:=.tuple #[.agg #[.int .i64 n,.slice C ms.length cc],.int .i64 0]) (by simp [results,Tryz.results25,go_sem,g0,g1]) rfl ?_;exact ⟨C,cc,ms,rfl,hcc,HAT.out.put2 kz4.ty (by decide) (by decide) _ _,((HB.out.trans (hq4.mono HB.out.size)).setCell (by show w.heap.size≤w.heap.size+1;omega) _).setCell (by show w.heap.size≤w.heap.size+1;omega) _⟩
end Go.Proofs.YtgekmfcbbjeahaaGreatDoor
/- Sums and products of whole numbers below 2^64 by amount. -/
namespace Go.Proofs.YtgekmfcbbjeahaaGreatDoor
open Go.RowKit V
theorem num_len {w:World} {a:RL} {q:Rat} (h:a.Num w q) {k j:Nat} (hn:q.num.natAbs<18446744073709551616 ^ k) (hd:q.den<18446744073709551616 ^ j):a.ns.length≤k∧a.ds.length≤j:=by
  rcases h.q with ⟨h1,h2,_,_⟩ | ⟨_,h1⟩
  · rw [h1,h2];exact ⟨Nat.zero_le _,Nat.zero_le _⟩
  · exact ⟨len_of_lt (B:=18446744073709551616) (by omega) h.mn.2 (by show V64 a.ns<_;rw [h1.2.1];exact hn),len_of_lt (B:=18446744073709551616) (by omega) h.md.2 (by show V64 a.ds<_;rw [h1.2.2];exact hd)⟩
theorem wint_len {w:World} {a:RL} {m:Int} (h:a.Num w (m:Rat)) (hb:m.natAbs<18446744073709551616):a.ns.length≤1∧a.ds.length≤1:=
  num_len h (by rw [Rat.num_intCast,Nat.pow_one];exact hb) (by rw [Rat.den_intCast];decide)
theorem addOk_int (m n:Int) (hm:m.natAbs<18446744073709551616) (hn:n.natAbs<18446744073709551616) (hs:(m+n).natAbs<18446744073709551616):AddOk (m:Rat) (n:Rat):=fun a b w ha hb=>by
  refine (wAdd_int a b m n w ha hb (by have:=(wint_len ha hm).1;omega) (by have:=(wint_len hb hn).1;omega)).mono fun e w'=>?_
  rintro ⟨r,he,hr,hw⟩;have hl:=wint_len hr hs;exact ⟨r,he,by rw [Rat.intCast_add] at hr;exact hr,by omega,by omega,hw⟩
theorem mulOk_int (m n:Int) (hm:m.natAbs<18446744073709551616) (hn:n.natAbs<18446744073709551616) (hs:(m*n).natAbs<18446744073709551616):MulOk (m:Rat) (n:Rat):=fun a b w ha hb=>by
  have h1:=(wint_len ha hm).1;refine (wMul_int a b m n w ha hb (by omega) (by have:=(wint_len hb hn).1;omega) (.inl (by omega))).mono fun e w'=>?_
  rintro ⟨r,he,hr,hw⟩;have hl:=wint_len hr hs;exact ⟨r,he,by rw [Rat.intCast_mul] at hr;exact hr,by omega,by omega,hw⟩
end Go.Proofs.YtgekmfcbbjeahaaGreatDoor
/- poly.Degree, DegreeIn and checkVar; Coef and Deriv refused. -/
attribute [local go_sem ↓] Go.wp_at_zero Go.wp_at_succ
namespace Go.Proofs.YtgekmfcbbjeahaaGreatDoor
open Go.RowKit V
def exAt (i m:Nat):Nat:=ex m i
theorem exAt_le (i m:Nat):exAt i m≤255:=by have:=ex_lt m i;unfold exAt;omega
set_option maxHeartbeats 400000 in
theorem pdegreeIn (A:Option Addr) (c:Nat) (ts:List TM) (p:List (Nat × Rat)) (i:Nat) (w:World) (hx:PRd w A ts p) (bx:ts.length≤100000) (hm:Words p) (hi:i≤7) :
    Calls Tryz.prog 73 #[.slice A ts.length c,.int .i64 i] w fun e w'=>e = .returned (.int .i64 (maxTo (exAt i) p p.length))∧Below w.heap.size w w':=by
  have HM:=Lib.hid hm;have HL:=Lib.hid hx.hs.1;clear hm;go_enter Tryz.func73,Tryz.ntmps73;go_wp2;go_loopw [5,7,10] (fun t _ i' wr=>∃ k:Nat,k≤ts.length∧i' = .int .i64 k∧t = .int .i64 (maxTo (exAt i) p k)∧Below w.heap.size w wr) (fun _ _ i' _=>ts.length - (intOf i').toNat)
  case atStart=>exact ⟨0,by omega,rfl,rfl,Below.refl _ _⟩
  case round=>
    obtain ⟨k,hk,rfl,rfl,hbw⟩:=hrel;have hml:=maxTo_le (exAt i) p 255 (exAt_le i) k
    by_cases hlt:k<ts.length
    · obtain ⟨ad,t,rfl,hb,ht,hc⟩:=(hx.below hbw).rd.ask hlt;obtain ⟨m,q,hp,he,_⟩:=(hx.below hbw).hs.2 k t ht.out;have HS:Hid (maxTo (exAt i) p (k+1)=max (maxTo (exAt i) p k) (exAt i t.e)):=by show _=_;simp only [maxTo,hp,he]
      have htl:t.e<18446744073709551616:=by rw [he];exact HM.out _ (getD_mem hp)
      have hdl:=exAt_le i t.e;have hpe:∀ W,Calls Tryz.prog 75 #[.int .u64 t.e,.int .i64 i] W fun e w'=>e = .returned (.int .i64 (exAt i t.e:Nat))∧W=w':=fun W=>pexponent t.e i W hi htl
      have HPE:=Lib.hid hpe;obtain ⟨c0,c1,c2,c3⟩:=hc;clear hp he hpe;go_wp2_with (go_at_call 75;refine (HPE.out _).mono ?_;rintro e w' ⟨rfl,rfl⟩);go_roundw
      case rel=>exact ⟨k+1,by omega,by go_num,by rw [HS.out];try go_num,hbw.alloc hbw.size _⟩
      case measure=>simp [intOf];omega
    · obtain rfl:k=ts.length:=by omega
      go_wp2;go_ret;exact ⟨by rw [← HL.out];rfl,hbw⟩
theorem phasVar (n i:Int) (A:Option Addr) (l c:Nat) (w:World) :
    Calls Tryz.prog 92 #[.agg #[.int .i64 n,.slice A l c],.int .i64 i] w (Gives (.bool (decide (0≤i∧i<n))) w):=by
  have hb0:Below w.heap.size w (w.alloc (.cells #[.int .i64 n,.slice A l c] 24)):=(Below.refl _ _).alloc (Nat.le_refl _) _;obtain ⟨p0,p1,p2,p3,p4⟩:=(Blk2c.new 24 w (.int .i64 n) (.slice A l c)).facts
  by_cases h0:0≤i
  · by_cases h1:i<n
    · go_enter Tryz.func92,Tryz.ntmps92;go_wp2;go_ret;exact ⟨by rw [decide_eq_true ⟨h0,h1⟩];rfl,hb0⟩
    · go_enter Tryz.func92,Tryz.ntmps92;go_wp2;go_ret;exact ⟨by rw [decide_eq_false (by omega)];rfl,hb0⟩
  · go_enter Tryz.func92,Tryz.ntmps92;go_wp2;go_ret;exact ⟨by rw [decide_eq_false (by omega)];rfl,hb0⟩
set_option maxRecDepth 100000 in
set_option maxHeartbeats 400000 in
theorem pcheckVar (n i r:Int) (A:Option Addr) (c:Nat) (ms:List MM) (es:List (List Int)) (w:World) (h:PRaw w A ms es) (hv:PVal n ms es) (hr:r=if 0≤i∧i<n then 0 else 1) :
    Calls Tryz.prog 72 #[.agg #[.int .i64 n,.slice A ms.length c],.int .i64 i] w (Gives (.int .i64 r) w):=by
  have hb0:Below w.heap.size w (w.alloc (.cells #[.int .i64 n,.slice A ms.length c] 24)):=(Below.refl _ _).alloc (Nat.le_refl _) _;have k0:=Blk2c.new 24 w (.int .i64 n) (.slice A ms.length c);have HH:=Lib.hid fun W=>phasVar n i A ms.length c W
  by_cases hd:0≤i∧i<n
  · rw [if_pos hd] at hr;rw [decide_eq_true hd] at HH;subst hr;clear hd;go_enter Tryz.func72,Tryz.ntmps72;go_wp2_with fail;refine (pvalid n A c ms es _ (h.below hb0) true ⟨fun _=>hv,fun _=>rfl⟩).mono ?_;rintro e w1 ⟨rfl,hb1⟩;have hb2:=hb0.trans (hb1.mono hb0.size);obtain ⟨p0,p1,p2,p3,p4⟩:=(k0.below hb1).facts;clear k0;go_wp2_with fail;refine (HH.out _).mono ?_;rintro e w2 ⟨rfl,hb3⟩;have hb4:=hb2.trans (hb3.mono hb2.size);go_wp2;go_ret;exact ⟨rfl,hb4⟩
  · rw [if_neg hd] at hr;rw [decide_eq_false hd] at HH;subst hr;clear hd;go_enter Tryz.func72,Tryz.ntmps72;go_wp2_with fail;refine (pvalid n A c ms es _ (h.below hb0) true ⟨fun _=>hv,fun _=>rfl⟩).mono ?_;rintro e w1 ⟨rfl,hb1⟩;have hb2:=hb0.trans (hb1.mono hb0.size);obtain ⟨p0,p1,p2,p3,p4⟩:=(k0.below hb1).facts;clear k0;go_wp2_with fail;refine (HH.out _).mono ?_;rintro e w2 ⟨rfl,hb3⟩;have hb4:=hb2.trans (hb3.mono hb2.size);go_wp2;go_ret;exact ⟨rfl,hb4⟩
set_option maxRecDepth 100000 in
set_option maxHeartbeats 400000 in
theorem pdegree_of (n:Nat) (A:Option Addr) (c:Nat) (ms:List MM) (P:PL) (w:World) (ha:ARd w A ms (up n P)) (hP:PIn n P) :
    Calls Tryz.prog 24 #[.agg #[.int .i64 n,.slice A ms.length c]] w (Gives (.tuple #[.int .i64 (maxTo deg P P.length),.int .i64 0]) w):=by
  have hb0:Below w.heap.size w (w.alloc (.cells #[.int .i64 n,.slice A ms.length c] 24)):=(Below.refl _ _).alloc (Nat.le_refl _) _;have k0:=Blk2c.new 24 w (.int .i64 n) (.slice A ms.length c);have hml:ms.length≤4000:=by rw [ha.hs.1,up,List.length_map];exact hP.len
  have HL:=Lib.hid (fun W (hb:Below w.heap.size w W)=>pload n A c n ms (up n P) W (ha.below hb) (by omega) (eok_up hP));have HW:=Lib.hid hP.words;have HPL:=Lib.hid hP.len;rw [pk_up hP] at HL;go_enter Tryz.func24,Tryz.ntmps24;go_wp2_with fail;refine (pvalid n A c ms _ _ (ha.raw.below hb0) true ⟨fun _=>ha.val hP,fun _=>rfl⟩).mono ?_;rintro e w1 ⟨rfl,hb1⟩;have hb2:=hb0.trans (hb1.mono hb0.size);obtain ⟨p0,p1,p2,p3,p4⟩:=(k0.below hb1).facts;clear k0;go_wp2_with fail;refine (HL.out _ hb2).mono ?_;rintro e w2 ⟨A2,c2,ts,rfl,h2,hx,hb3⟩;have hb4:=hb2.trans (hb3.mono hb2.size);have hts:ts.length≤100000:=by rw [hx.hs.1];exact Nat.le_trans HPL.out (by decide)
  go_wp2_with fail;refine (ptotdeg A2 c2 ts P _ hx hts HW.out).mono ?_;rintro e w3 ⟨rfl,hb5⟩;have hb6:=hb4.trans (hb5.mono hb4.size);go_wp2_with fail;go_ret2;exact ⟨rfl,hb6⟩
set_option maxRecDepth 100000 in
set_option maxHeartbeats 400000 in
theorem pdegreeIn_of (n i:Nat) (A:Option Addr) (c:Nat) (ms:List MM) (P:PL) (w:World) (ha:ARd w A ms (up n P)) (hP:PIn n P) (hi:i<n) :
    Calls Tryz.prog 28 #[.agg #[.int .i64 n,.slice A ms.length c],.int .i64 i] w (Gives (.tuple #[.int .i64 (maxTo (exAt i) P P.length),.int .i64 0]) w):=by
  have hb0:Below w.heap.size w (w.alloc (.cells #[.int .i64 n,.slice A ms.length c] 24)):=(Below.refl _ _).alloc (Nat.le_refl _) _;have k0:=Blk2c.new 24 w (.int .i64 n) (.slice A ms.length c);have hml:ms.length≤4000:=by rw [ha.hs.1,up,List.length_map];exact hP.len
  have HL:=Lib.hid (fun W (hb:Below w.heap.size w W)=>pload n A c n ms (up n P) W (ha.below hb) (by omega) (eok_up hP));have hi7:i≤7:=by have:=hP.nv;omega
  have HW:=Lib.hid hP.words;have HPL:=Lib.hid hP.len;rw [pk_up hP] at HL;go_enter Tryz.func28,Tryz.ntmps28;go_wp2_with fail;refine (pcheckVar n i 0 A c ms _ _ (ha.raw.below hb0) (ha.val hP) (by rw [if_pos (by omega)])).mono ?_;rintro e w1 ⟨rfl,hb1⟩;have hb2:=hb0.trans (hb1.mono hb0.size);obtain ⟨p0,p1,p2,p3,p4⟩:=(k0.below hb1).facts;clear k0;go_wp2_with fail;refine (HL.out _ hb2).mono ?_;rintro e w2 ⟨A2,c2,ts,rfl,h2,hx,hb3⟩;have hb4:=hb2.trans (hb3.mono hb2.size);have hts:ts.length≤100000:=by rw [hx.hs.1];exact Nat.le_trans HPL.out (by decide)
  go_wp2_with fail;refine (pdegreeIn A2 c2 ts P i _ hx hts HW.out hi7).mono ?_;rintro e w3 ⟨rfl,hb5⟩;have hb6:=hb4.trans (hb5.mono hb4.size);go_wp2_with fail;go_ret2;exact ⟨rfl,hb6⟩
set_option maxRecDepth 100000 in
set_option maxHeartbeats 400000 in
theorem pdegreeIn_range (n:Nat) (i:Int) (A:Option Addr) (c:Nat) (ms:List MM) (P:PL) (w:World) (ha:ARd w A ms (up n P)) (hP:PIn n P) (hi:¬ (0≤i∧i<n)) :
    Calls Tryz.prog 28 #[.agg #[.int .i64 n,.slice A ms.length c],.int .i64 i] w (Gives (.tuple #[.int .i64 0,.int .i64 1]) w):=by
  have hb0:Below w.heap.size w (w.alloc (.cells #[.int .i64 n,.slice A ms.length c] 24)):=(Below.refl _ _).alloc (Nat.le_refl _) _;have k0:=Blk2c.new 24 w (.int .i64 n) (.slice A ms.length c);have HI:=Lib.hid hi;clear hi;go_enter Tryz.func28,Tryz.ntmps28;go_wp2_with fail;refine (pcheckVar n i 1 A c ms _ _ (ha.raw.below hb0) (ha.val hP) (by rw [if_neg HI.out])).mono ?_;rintro e w1 ⟨rfl,hb1⟩;have hb2:=hb0.trans (hb1.mono hb0.size);obtain ⟨p0,p1,p2,p3,p4⟩:=(k0.below hb1).facts;clear k0;go_wp2_with fail;go_ret2;exact ⟨rfl,hb2⟩
end Go.Proofs.YtgekmfcbbjeahaaGreatDoor
/- poly.Deriv of a valid polynomial. -/
attribute [local go_sem ↓] Go.wp_at_zero Go.wp_at_succ
namespace Go.Proofs.YtgekmfcbbjeahaaGreatDoor
open Go.RowKit V
def derivP (i:Nat) (p:PL):PL:=(p.filter fun t=>decide (0<ex t.1 i)).map fun t=>(t.1 - 256 ^ (7 - i),t.2*(((ex t.1 i:Nat):Int):Rat))
theorem derivP_yes {i j:Nat} {p:PL} {t:Nat × Rat} (h:p[j]?=some t) (he:0<ex t.1 i):derivP i (p.take (j+1))=derivP i (p.take j) ++ [(t.1 - 256 ^ (7 - i),t.2*(((ex t.1 i:Nat):Int):Rat))]:=by
  rw [take_snoc' h];unfold derivP;rw [List.filter_append,List.map_append];congr 1;simp [he]
theorem derivP_no {i j:Nat} {p:PL} {t:Nat × Rat} (h:p[j]?=some t) (he:¬ 0<ex t.1 i):derivP i (p.take (j+1))=derivP i (p.take j):=by
  rw [take_snoc' h];unfold derivP;rw [List.filter_append,List.map_append];simp at he;simp [he]
theorem ex_pow {m i:Nat} (h:0<ex m i):256 ^ (7 - i)≤m:=by
  unfold ex at h;have h2:0<m / 256 ^ (7 - i):=Nat.pos_of_ne_zero fun e=>by rw [e] at h;simp at h
  exact (Nat.div_pos_iff.1 h2).2
set_option maxRecDepth 100000 in
set_option maxHeartbeats 3200000 in
theorem pderiv_of (n i : Nat) (A : Option Addr) (c : Nat) (ms : List MM) (P : PL) (w : World) (ha : ARd w A ms (up n P)) (hP : PIn n P) (hi : i < n) (hmo : ∀ t ∈ P, 0 < ex t.1 i → MulOk t.2 (((ex t.1 i : Nat) : Int) : Rat)) (hw : Words (derivP i P)) (hf : ∀ t ∈ derivP i P, TFits t.1 t.2) :
    Calls Tryz.prog 30 #[.agg #[.int .i64 n,.slice A ms.length c],.int .i64 i] w (StoreOk n (derivP i P) w):=by
  have hb0:Below w.heap.size w ((w.alloc (.cells #[.int .i64 n,.slice A ms.length c] 24)).alloc (.cells #[.int .i64 0,.slice none 0 0] 24)):=((Below.refl _ _).alloc (Nat.le_refl _) _).alloc (by simp) _;have k0:=(Blk2c.new 24 w (.int .i64 n) (.slice A ms.length c)).alloc (.cells #[.int .i64 0,.slice none 0 0] 24);have k1:Blk2c 24 ((w.alloc (.cells #[.int .i64 n,.slice A ms.length c] 24)).alloc (.cells #[.int .i64 0,.slice none 0 0] 24)) (w.heap.size+1) (.int .i64 0) (.slice none 0 0):=by
    have:=Blk2c.new 24 (w.alloc (.cells #[.int .i64 n,.slice A ms.length c] 24)) (.int .i64 0) (.slice none 0 0);simpa using this
  have hml:ms.length≤4000:=by rw [ha.hs.1,up,List.length_map];exact hP.len
  have HL:=Lib.hid (fun W (hb:Below w.heap.size w W)=>pload n A c n ms (up n P) W (ha.below hb) (by omega) (eok_up hP));rw [pk_up hP] at HL;have hn8:=hP.nv;have hi7:i≤7:=by omega
  have HW:=Lib.hid hP.words;have HPL:=Lib.hid hP.len;have HMOS:=Lib.hid hmo;have HDW:=Lib.hid hw;have HDF:=Lib.hid hf;have HCV:=Lib.hid (pcheckVar n i 0 A c ms _ _ (ha.raw.below hb0) (ha.val hP) (by rw [if_pos (by omega)]));have HPW:=Lib.hid fun W=>ppower i 1 W hi7 (by decide)
  obtain ⟨x,hx⟩:∃ x,256 ^ (7 - i)=x:=⟨_,rfl⟩;rw [Nat.one_mul,hx] at HPW;have HX:=Lib.hid hx;clear hx hmo hw hf ha hP;go_enter Tryz.func30,Tryz.ntmps30;go_wp2_with fail;refine HCV.out.mono ?_;rintro e wb ⟨rfl,hb1⟩;have hb2:=hb0.trans (hb1.mono hb0.size);obtain ⟨p0,p1,p2,p3,p4⟩:=(k0.below hb1).facts;have j0:=k0.below hb1;have j1:=k1.below hb1;clear k0 k1 HCV hb1;go_wp2_with fail;refine (HL.out _ hb2).mono ?_;rintro e w2 ⟨A2,c2,ts,rfl,h2,hx,hb3⟩;have hb4:=hb2.trans (hb3.mono hb2.size);have K0:=Lib.hid (j0.below hb3);have K1:=Lib.hid (j1.below hb3);have HTX:=Lib.hid hx;have hts:ts.length≤4000:=by rw [hx.hs.1];exact HPL.out
  clear j0 j1 p0 p1 p2 p3 p4 hx hb0 hb2 hb3;go_wp2;go_loopw [7,9,10,21] (fun v _ _ si wr=>∃ (k:Nat) (us:List TM),k≤ts.length∧si = .int .i64 k∧us.length≤k∧OwnT w2.heap.size wr v us∧THolds wr us (derivP i (P.take k))∧Below w2.heap.size w2 wr) (fun _ _ _ si _=>ts.length - (intOf si).toNat)
  case atStart=>exact ⟨0,[],by omega,rfl,by simp,OwnT.nil_ _ _,THolds.nil _,Below.refl _ _⟩
  case round=>
    obtain ⟨k,us,hk,rfl,hul,hown,hus,hbw⟩:=hrel;have HUS:=Lib.hid hus;clear hus
    by_cases hlt:k<ts.length
    · obtain ⟨ad,t,rfl,hb,ht,hc⟩:=(HTX.out.below hbw).rd.ask hlt;obtain ⟨m,q,hp,hme,htc,htl1,htl2⟩:=(HTX.out.below hbw).hs.2 k t ht.out;subst hme;have HP:=Lib.hid hp;have HMEM:=Lib.hid (getD_mem hp);have htl:t.e<18446744073709551616:=HW.out _ (getD_mem hp);have HPE:=Lib.hid fun W=>pexponent t.e i W hi7 htl
      have kt:=Blk4.new 115 wr (.int .u64 t.e) (.bool t.c.s) (.slice t.c.N t.c.ns.length t.c.nc) (.slice t.c.D t.c.ds.length t.c.dc);have hbt:Below wr.heap.size wr (wr.alloc (.cells #[.int .u64 t.e,.bool t.c.s,.slice t.c.N t.c.ns.length t.c.nc,.slice t.c.D t.c.ds.length t.c.dc] 115)):=(Below.refl _ _).alloc (Nat.le_refl _) _;have hel:=ex_lt t.e i;obtain ⟨c0,c1,c2,c3⟩:=hc;clear ht hp;go_wp2_with fail;obtain ⟨w1,hw1⟩:∃ x,wr.alloc (.cells #[.int .u64 t.e,.bool t.c.s,.slice t.c.N t.c.ns.length t.c.nc,.slice t.c.D t.c.ds.length t.c.dc] 115)=x:=⟨_,rfl⟩;rw [hw1] at kt hbt ⊢;clear hw1 c0 c1 c2 c3 hb;refine (HPE.out _).mono ?_;rintro e wq ⟨rfl,rfl⟩;have HTC:=Lib.hid (htc.below hbt);have HW1:=Lib.hid (hbw.trans (hbt.mono hbw.size));have hown1:=hown.below hbt;have HU1:=Lib.hid (HUS.out.below hbt);have hws:=HW1.out.size;have hwrs:=hbw.size;have hktw:=kt.lt;have hovl:u7.ownBlock≠some wr.heap.size:=fun e=>by have:=(World.ownsRow.lt hown _ e).2;omega
      have HOWN:=Lib.hid hown1;clear hown1 hown htc hbt;obtain ⟨a0,a1,a2,a3,a4,a5,a6,a7,a8⟩:=kt.facts;obtain ⟨d,hd⟩:∃ d,ex t.e i=d:=⟨_,rfl⟩
      by_cases he:0<ex t.e i
      · have HY:=Lib.hid (derivP_yes HP.out he);have hge:=ex_pow he;have HMO:=Lib.hid (HMOS.out _ HMEM.out he);rw [HX.out] at hge HY;dsimp only at HY HMO;obtain ⟨y,hy⟩:∃ y,t.e - x=y:=⟨_,rfl⟩;rw [hy,hd] at HY;rw [hd] at HMO he hel ⊢;have hsub:(t.e:Int) - (x:Int)=(y:Int):=by omega
        have hwr:IntKind.u64.wrap ((t.e:Int) - (x:Int))=(y:Int):=by rw [hsub];exact IntWalk.u64_in _ (by omega)
        have hd0:0<d:=he;have hdi:(0:Int)<(d:Int):=by omega
        have hdl:d≤9223372036854775807:=by omega
        have HYE:=Lib.hid hy;clear hsub hy hge he;obtain ⟨i0,hi0,hz0_,hz1_,hz2_⟩:=info_parts info_term;go_upto_region 10 with fail;refine wp_region_last 14 (S:=fun w'=>w'.cell? ⟨wr.heap.size,0,none⟩=some (.int .u64 t.e)∧w'.cell? ⟨wr.heap.size,1,none⟩=some (.bool t.c.s)∧w'.cell? ⟨wr.heap.size,2,none⟩=some (.slice t.c.N t.c.ns.length t.c.nc)∧w'.cell? ⟨wr.heap.size,3,none⟩=some (.slice t.c.D t.c.ds.length t.c.dc)) (by kernel_rfl) ?_ (fun hHeld=>?_)
        · exact ⟨kt.facts.1,kt.facts.2,kt.facts.3,kt.facts.4⟩
        refine wpAnyL_take (i:=0) (v:=?v0L1) rfl (by kernel_rfl) (by kernel_rfl) (by kernel_rfl) (fun _ _ _ h=>h) (by kernel_rfl) (by kernel_rfl) (Or.inl ⟨by rfl,?hy0L1⟩) (by assumption) ?rest0L1
        case hy0L1=>
          intro w hSw
          (try dsimp only at hSw)
          go_simp
          all_goals with_reducible rfl
        simp only [Act.put,List.getElem_toArray,List.getElem_cons_zero,List.setIfInBounds_toArray,List.set_cons_zero,List.set_cons_succ];refine wpAnyL_take (i:=1) (v:=?v1L1) rfl (by kernel_rfl) (by kernel_rfl) (by kernel_rfl) (fun _ _ _ h=>h) (by kernel_rfl) (by kernel_rfl) (Or.inl ⟨by rfl,?hy1L1⟩) (by assumption) ?rest1L1
        case hy1L1=>
          intro w hSw
          (try dsimp only at hSw)
          go_simp
          all_goals with_reducible rfl
        simp only [Act.put,List.getElem_toArray,List.getElem_cons_zero,List.getElem_cons_succ,List.setIfInBounds_toArray,List.set_cons_zero,List.set_cons_succ];refine wpAnyL_take (i:=2) (v:=?v2L1) rfl (by kernel_rfl) (by kernel_rfl) (by kernel_rfl) (fun _ _ _ h=>h) (by kernel_rfl) (by kernel_rfl) (Or.inl ⟨by rfl,?hy2L1⟩) (by assumption) ?rest2L1
        case hy2L1=>
          intro w hSw
          (try dsimp only at hSw)
          go_simp
          all_goals with_reducible rfl
        simp only [Act.put,List.getElem_toArray,List.getElem_cons_zero,List.getElem_cons_succ,List.setIfInBounds_toArray,List.set_cons_zero,List.set_cons_succ];refine wpAnyL_take (i:=3) (v:=?v3L1) rfl (by kernel_rfl) (by kernel_rfl) (by kernel_rfl) (fun _ _ _ h=>h) (by kernel_rfl) (by kernel_rfl) (Or.inl ⟨by rfl,?hy3L1⟩) (by assumption) ?rest3L1
        case hy3L1=>
          intro w hSw
          (try dsimp only at hSw)
          go_simp
          all_goals with_reducible rfl
        simp only [Act.put,List.getElem_toArray,List.getElem_cons_zero,List.getElem_cons_succ,List.setIfInBounds_toArray,List.set_cons_zero,List.set_cons_succ];refine wpAnyL_take (i:=6) (v:=?v6L1) rfl (by kernel_rfl) (by kernel_rfl) (by kernel_rfl) (fun _ _ _ h=>h) (by kernel_rfl) (by kernel_rfl) (Or.inl ⟨by rfl,?hy6L1⟩) (by assumption) ?rest6L1
        case hy6L1=>
          intro w hSw
          (try dsimp only at hSw)
          go_simp
          all_goals with_reducible rfl
        simp only [Act.put,List.getElem_toArray,List.getElem_cons_zero,List.getElem_cons_succ,List.setIfInBounds_toArray,List.set_cons_zero,List.set_cons_succ];refine wpAnyL_take (i:=7) (v:=?v7L1) rfl (by kernel_rfl) (by kernel_rfl) (by kernel_rfl) (fun _ _ _ h=>h) (by kernel_rfl) (by kernel_rfl) (Or.inl ⟨by rfl,?hy7L1⟩) (by assumption) ?rest7L1
        case hy7L1=>
          intro w hSw
          (try dsimp only at hSw)
          go_simp
          all_goals with_reducible rfl
        simp only [Act.put,List.getElem_toArray,List.getElem_cons_zero,List.getElem_cons_succ,List.setIfInBounds_toArray,List.set_cons_zero,List.set_cons_succ];refine wpAnyL_take (i:=8) (v:=?v8L1) rfl (by kernel_rfl) (by kernel_rfl) (by kernel_rfl) (fun _ _ _ h=>h) (by kernel_rfl) (by kernel_rfl) (Or.inl ⟨by rfl,?hy8L1⟩) (by assumption) ?rest8L1
        case hy8L1=>
          intro w hSw
          (try dsimp only at hSw)
          go_simp
          all_goals with_reducible rfl
        simp only [Act.put,List.getElem_toArray,List.getElem_cons_zero,List.getElem_cons_succ,List.setIfInBounds_toArray,List.set_cons_zero,List.set_cons_succ];refine wpAnyL_next 4 (by kernel_rfl) rfl (fun K hK=>?_);clear hHeld;go_simp;refine (HPW.out _).mono ?_;rintro e' wp ⟨rfl,rfl⟩;go_wp2_with fail;refine hK.out _ _ ?_ (fun hHeld=>?_)
        · exact ⟨kt.facts.1,kt.facts.2,kt.facts.3,kt.facts.4⟩
        clear hK K
        try simp only [Act.put,List.getElem_toArray,List.getElem_cons_zero,List.getElem_cons_succ,List.setIfInBounds_toArray,List.set_cons_zero,List.set_cons_succ]
        refine wpAnyL_take (i:=5) (v:=?v5L1) rfl (by kernel_rfl) (by kernel_rfl) (by kernel_rfl) (fun _ _ _ h=>h) (by kernel_rfl) (by kernel_rfl) (Or.inl ⟨by rfl,?hy5L1⟩) (by assumption) ?rest5L1
        case hy5L1=>
          intro w hSw
          (try dsimp only at hSw)
          go_simp
          all_goals with_reducible rfl
        simp only [Act.put,List.getElem_toArray,List.getElem_cons_zero,List.getElem_cons_succ,List.setIfInBounds_toArray,List.set_cons_zero,List.set_cons_succ];refine wpAnyL_next 9 (by kernel_rfl) rfl (fun K hK=>?_);clear hHeld;go_simp;refine (wInt_pos d _ hd0 hdl).mono ?_;rintro e' wa ⟨z,rfl,hz,hz1,hz2,hba⟩;have hba1:Below w1.heap.size w1 wa:=by first | exact below_of_drew hba (Nat.le_refl _) | exact hba
        have kta:=kt.below hba1;go_wp2_with fail;refine hK.out _ _ ?_ (fun hHeld=>?_)
        · exact ⟨kta.facts.1,kta.facts.2,kta.facts.3,kta.facts.4⟩
        clear hK K
        try simp only [Act.put,List.getElem_toArray,List.getElem_cons_zero,List.getElem_cons_succ,List.setIfInBounds_toArray,List.set_cons_zero,List.set_cons_succ]
        refine wpAnyL_next 10 (by kernel_rfl) rfl (fun K hK=>?_);clear hHeld;go_simp;refine (HMO.out t.c z _ (HTC.out.below hba1) hz).mono ?_;rintro e' wx ⟨r,rfl,hr,hl1,hl2,hbx⟩;have hbx1:=hba1.trans (hbx.mono hba1.size);have ktx:=kt.below hbx1;have HQX:=Lib.hid hbx1;have hxs:=HQX.out.size;have hktl:=ktx.lt;go_wp2_with fail;refine hK.out _ _ ?_ (fun hHeld=>?_)
        · exact ⟨ktx.facts.1,ktx.facts.2,ktx.facts.3,ktx.facts.4⟩
        clear hK K
        try simp only [Act.put,List.getElem_toArray,List.getElem_cons_zero,List.getElem_cons_succ,List.setIfInBounds_toArray,List.set_cons_zero,List.set_cons_succ]
        refine wpAnyL_take (i:=11) (v:=?v11L1) rfl (by kernel_rfl) (by kernel_rfl) (by kernel_rfl) (fun _ _ _ h=>h) (by kernel_rfl) (by kernel_rfl) (Or.inl ⟨by rfl,?hy11L1⟩) (by assumption) ?rest11L1
        case hy11L1=>
          intro w hSw
          (try dsimp only at hSw)
          go_simp
          all_goals with_reducible rfl
        simp only [Act.put,List.getElem_toArray,List.getElem_cons_zero,List.getElem_cons_succ,List.setIfInBounds_toArray,List.set_cons_zero,List.set_cons_succ];refine wpAnyL_next 12 (by kernel_rfl) rfl (fun K hK=>?_);clear hHeld;go_simp;refine hK.out _ _ ?_ (fun hHeld=>?_)
        · exact ⟨(ktx.alloc _).facts.1,(ktx.alloc _).facts.2,(ktx.alloc _).facts.3,(ktx.alloc _).facts.4⟩
        clear hK K
        try simp only [Act.put,List.getElem_toArray,List.getElem_cons_zero,List.getElem_cons_succ,List.setIfInBounds_toArray,List.set_cons_zero,List.set_cons_succ]
        refine wpAnyL_next 13 (by kernel_rfl) rfl (fun K hK=>?_);clear hHeld;refine step_append_lies _ rfl _ _ _ rfl w2.heap.size 115 i0 _ 4 64 Tryz.underlying85 hi0 hz0_ hz1_ hz2_ rfl (by omega) u7 us.length (flat us) rfl (World.ownsRow.alloc (HOWN.out.below HQX.out) _)
          ⟨wx.heap.size,0,none⟩ 1 1 [.int .u64 y,.bool r.s,.slice r.N r.ns.length r.nc,.slice r.D r.ds.length r.dc] rfl rfl (World.news_of_block (cs:=#[.int .u64 y,.bool r.s,.slice r.N r.ns.length r.nc,.slice r.D r.ds.length r.dc]) (t:=115) (fr:=(0,0)) (heap_alloc_new _ _)) (by simp [Value.oneCell'])
          (by omega) (by unfold maxLen;omega) (by omega) (by simp;omega) (wx.heap.size+1) (by simp) ?_
        intro gg cap w4 hown4 hgrow hat hlt4;have kt4:=(ktx.alloc _).grown hgrow hovl;refine hK.out _ _ ?_ (fun hHeld=>?_)
        · exact ⟨kt4.facts.1,kt4.facts.2,kt4.facts.3,kt4.facts.4⟩
        clear hK K
        try simp only [Act.put,List.getElem_toArray,List.getElem_cons_zero,List.getElem_cons_succ,List.setIfInBounds_toArray,List.set_cons_zero,List.set_cons_succ]
        refine wpAnyL_last (by kernel_rfl) (by kernel_rfl) (by kernel_rfl) rfl (fun K hK=>?_);clear hHeld;go_simp;refine hK.out _ _ ?_;clear hK K
        try simp only [Act.put,List.getElem_toArray,List.getElem_cons_zero,List.getElem_cons_succ,List.setIfInBounds_toArray,List.set_cons_zero,List.set_cons_succ]
        have hoff:Off wx w4:=((Off.refl wx).alloc _).grown hgrow (fun g hg=>⟨115,by decide,ownsRow_type (World.ownsRow.alloc (HOWN.out.below HQX.out) _) g hg⟩);have hq4:THolds w4 (us ++ [⟨y,r⟩]) (derivP i (P.take (k+1))):=by
          rw [HY.out];exact ((HU1.out.off (Off.of_below HQX.out)).off hoff).snoc (t:=⟨y,r⟩) rfl (hr.off hoff) hl1 hl2
        have HQ4:=Lib.hid hq4;have HO4:Hid (OwnT w2.heap.size w4 (.slice (some ⟨gg,0,none⟩) (us.length+1) cap) (us ++ [⟨y,r⟩])):=by
          show OwnT _ _ _ _;unfold OwnT;rw [flat_snoc,List.length_append];exact hown4
        have HW4:Hid (Below w2.heap.size w2 w4):=HW1.out.trans ((HQX.out.mono hws).trans (((Below.refl _ _).alloc (by omega) _).grown hgrow (by simp;omega) fun g hg=>(World.ownsRow.lt HOWN.out g hg).1));clear hoff hr hq4 kt4 ktx kta kt hown4;go_wp2_with fail;go_roundw
        case rel=>exact ⟨k+1,us ++ [⟨y,r⟩],by omega,by go_num,by rw [List.length_append,List.length_singleton];omega,HO4.out,HQ4.out,HW4.out⟩
        case measure=>simp [intOf];omega
      · have HN:=Lib.hid (derivP_no HP.out he);have hei:¬ (0:Int)<((ex t.e i:Nat):Int):=by omega
        clear hd he;go_wp2_with fail;go_roundw
        case rel=>exact ⟨k+1,us,by omega,by go_num,by omega,HOWN.out,by rw [HN.out];exact HU1.out,HW1.out⟩
        case measure=>simp [intOf];omega
    · obtain rfl:k=ts.length:=by omega
      obtain ⟨VA,vc,rfl,hvc,hvr,hvn,hvlt⟩:=hown.form;have hpl:P.take ts.length=P:=List.take_of_length_le (by rw [HTX.out.hs.1];exact Nat.le_refl _);have HTE:Hid (THolds wr us (derivP i P)):=by have:=HUS.out;rw [hpl] at this;exact this
      have hus4:us.length≤4000:=by omega
      have HS:=Lib.hid (fun W (hb:Below wr.heap.size wr W)=>pstore_ok n VA vc us (derivP i P) W ⟨hvr.below hb,HTE.out.below hb⟩ hus4 hn8 HDW.out HDF.out);obtain ⟨p0,p1,p2,p3,p4⟩:=(K0.out.below hbw).facts;obtain ⟨q0,q1,q2,q3,q4⟩:=(K1.out.below hbw).facts;clear hpl;go_wp2_with fail;refine (HS.out _ (Below.refl _ _)).mono ?_;rintro e w3 ⟨A3,c3,ms3,rfl,hc3,hat,hb5⟩;have kb3:=(K1.out.below hbw).below hb5;have hbe:=(hb4.trans (hbw.mono hb4.size)).trans (hb5.mono (by have:=hbw.size;have:=hb4.size;omega));obtain ⟨r0,r1,r2,r3,r4⟩:=kb3.facts;have HAT:=Lib.hid hat;have HK:=Lib.hid kb3;clear hat kb3 p0 p1 p2 p3 p4 q0 q1 q2 q3 q4;go_wp2_with fail;refine bodyPost_ret (v:=.tuple #[.agg #[.int .i64 n,.slice A3 ms3.length c3],.int .i64 0]) (by simp [results,Tryz.results30,go_sem,r0,r1]) rfl ?_;exact ⟨A3,c3,ms3,rfl,hc3,HAT.out.put2 HK.out.ty (by decide) (by decide) _ _,(hbe.setCell (Nat.le_succ _) _).setCell (Nat.le_succ _) _⟩
end Go.Proofs.YtgekmfcbbjeahaaGreatDoor
/- wide: numbers of one word: gcdWord, remainderWord; math/bits.Div64 and Rem64 with nothing above. -/
attribute [local go_sem ↓] Go.wp_at_zero Go.wp_at_succ
namespace Go.Proofs.YtgekmfcbbjeahaaGreatDoor
open Go.RowKit V
theorem wgcd_mod (x y:Nat):Nat.gcd y (x % y)=Nat.gcd x y:=by
  rw [Nat.gcd_comm y (x % y),← Nat.gcd_rec,Nat.gcd_comm]
set_option maxHeartbeats 800000 in
theorem wgcdWord (a b:Nat) (w:World) (ha:a<18446744073709551616) (hb:b<18446744073709551616) :
    Calls Tryz.prog 163 #[.int .u64 a,.int .u64 b] w (Gives (.int .u64 (Nat.gcd a b:Nat)) w):=by
  obtain ⟨G,HG⟩:∃ G,Hid (Nat.gcd a b=G):=⟨_,rfl⟩;rw [HG.out];go_enter Tryz.func163,Tryz.ntmps163;go_wp2;go_loopw [0,1] (fun sx sy wr=>∃ x y:Nat,sx = .int .u64 x∧sy = .int .u64 y∧x<18446744073709551616∧y<18446744073709551616∧Hid (Nat.gcd x y=G)∧Below w.heap.size w wr) (fun _ sy _=>(intOf sy).toNat)
  case atStart=>exact ⟨a,b,rfl,rfl,ha,hb,HG.out,Below.refl _ _⟩
  case round=>
    obtain ⟨x,y,rfl,rfl,hx,hy,hg,hbw⟩:=hrel
    by_cases h0:y=0
    · subst h0;have hG:Hid (G=x):=by show G=x;rw [← hg.out,Nat.gcd_zero_right]
      go_wp2;go_ret;exact ⟨by rw [hG.out];rfl,hbw⟩
    · have hyp:0<y:=by omega
      have hlt:x % y<y:=Nat.mod_lt _ hyp;have HGM:Hid (Nat.gcd y (x % y)=G):=(wgcd_mod x y).trans hg.out;have hm1:(x:Int) % (y:Int)=((x % y:Nat):Int):=(Int.natCast_emod x y).symm;have hm2:(x:Int).tmod (y:Int)=((x % y:Nat):Int):=by rw [Int.tmod_eq_emod_of_nonneg (by omega)];exact hm1
      obtain ⟨z,hz⟩:∃ z,x % y=z:=⟨_,rfl⟩;rw [hz] at hlt HGM hm1 hm2;have hzw:IntKind.u64.wrap (z:Int)=(z:Int):=by rw [IntKind.wrap_u64];omega
      clear hz;have hne:¬ (y:Int)=0:=by omega
      go_upto_region 2 with fail;go_quiet (fail);go_wp2_with fail;go_roundw
      case rel=>exact ⟨y,z,rfl,rfl,hy,by omega,HGM,below_drew_ hbw _⟩
      case measure=>simp [intOf];omega
set_option maxHeartbeats 800000 in
theorem div64_0 (x y:Nat) (w:World) (hx:x<18446744073709551616) (hy:y<18446744073709551616) (hp:0<y) :
    Calls Tryz.prog 223 #[.int .u64 0,.int .u64 x,.int .u64 y] w (Gives (.tuple #[.int .u64 (x / y:Nat),.int .u64 (x % y:Nat)]) w):=by
  have hm1:(x:Int) % (y:Int)=((x % y:Nat):Int):=(Int.natCast_emod x y).symm;have hm2:(x:Int).tmod (y:Int)=((x % y:Nat):Int):=by rw [Int.tmod_eq_emod_of_nonneg (by omega)];exact hm1
  have hd1:(x:Int) / (y:Int)=((x / y:Nat):Int):=(Int.natCast_ediv x y).symm;have hd2:(x:Int).tdiv (y:Int)=((x / y:Nat):Int):=by rw [Int.tdiv_eq_ediv_of_nonneg (by omega)];exact hd1
  have hz1:x % y<y:=Nat.mod_lt _ hp;have hq1:x / y≤x:=Nat.div_le_self _ _;obtain ⟨z,hz⟩:∃ z,x % y=z:=⟨_,rfl⟩;obtain ⟨q,hq⟩:∃ q,x / y=q:=⟨_,rfl⟩;rw [hz] at hm1 hm2 hz1 ⊢;rw [hq] at hd1 hd2 hq1 ⊢;have hzw:IntKind.u64.wrap (z:Int)=(z:Int):=by rw [IntKind.wrap_u64];omega
  have hqw:IntKind.u64.wrap (q:Int)=(q:Int):=by rw [IntKind.wrap_u64];omega
  have hne:¬ (y:Int)=0:=by omega
  have hle:¬ (y:Int)≤0:=by omega
  clear hz hq;go_enter Tryz.func223,Tryz.ntmps223;go_upto_region 6 with fail;go_quiet (fail);go_wp2_with fail;go_ret2;exact ⟨rfl,below_drew_ (Below.refl _ _) _⟩
set_option maxHeartbeats 800000 in
theorem rem64_0 (x y:Nat) (w:World) (hx:x<18446744073709551616) (hy:y<18446744073709551616) (hp:0<y) :
    Calls Tryz.prog 196 #[.int .u64 0,.int .u64 x,.int .u64 y] w (Gives (.int .u64 (x % y:Nat)) w):=by
  have hne:¬ (y:Int)=0:=by omega
  have H:=Lib.hid (div64_0 x y w hx hy hp);go_enter Tryz.func196,Tryz.ntmps196;go_wp2_with fail;refine H.out.mono ?_;rintro e w2 ⟨rfl,hb2⟩;go_wp2_with fail;go_ret;exact ⟨rfl,hb2⟩
end Go.Proofs.YtgekmfcbbjeahaaGreatDoor
