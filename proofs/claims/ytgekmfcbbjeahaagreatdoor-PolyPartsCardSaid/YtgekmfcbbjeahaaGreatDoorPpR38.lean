/- poly.product. -/
import Derived.Test.YtgekmfcbbjeahaaGreatDoorPpR37
attribute [local go_sem ↓] Go.wp_at_zero Go.wp_at_succ
namespace Go.Proofs.YtgekmfcbbjeahaaGreatDoor
open Go.RowKit V
structure ProdM (B rb:Nat) (vl:Value) (R:RF) (K N:Nat→Nat) (ls:List TM) (L:PL) (gs:List Nat) (vo vw:Value) (hp wt:List Nat) (T:PL) (v:Value) (rs:List TM) (out:PL) (w:World):Prop where
  rm:RM B w rb vl vo vw R K N ls L gs hp wt
  rows:RowsOk R.f K N L gs hp wt
  heap:Heap (key2 (fun g=>(R.f g).1) N) hp
  own:OwnT B w v rs
  th:THolds w rs out
  pin:ProdIn R.f K L gs T out
  fits:∀ t ∈ out,TFits t.1 t.2
  len:out.length≤4000
  sep:∀ q,v.ownBlock=some q→vl.ownBlock≠some q
section
variable {B rb:Nat} {vl:Value} {R:RF} {K N K' N':Nat→Nat} {ls:List TM} {L:PL} {gs:List Nat} {vo vw vo' vw':Value} {hp wt hp' wt':List Nat} {T:PL} {v:Value} {rs:List TM} {out:PL} {w w':World} {m:Nat} {c:Rat}
theorem prod_done (h:ProdM B rb vl R K N ls L gs vo vw [] wt T v rs out w):nfOf T=out:=(h.pin.done h.rows.done).symm
theorem ProdM.below (h:ProdM B rb vl R K N ls L gs vo vw hp wt T v rs out w) (hb:Below w.heap.size w w'):ProdM B rb vl R K N ls L gs vo vw hp wt T v rs out w':=
  ⟨h.rm.below hb,h.rows,h.heap,h.own.below hb,h.th.below hb,h.pin,h.fits,h.len,h.sep⟩
structure ProdT (B rb:Nat) (vl:Value) (R:RF) (K K' N':Nat→Nat) (ls:List TM) (L:PL) (gs:List Nat) (vo vw:Value) (hp wt:List Nat) (T:PL) (v:Value) (rs:List TM) (out:PL) (w:World):Prop where
  rm:RM B w rb vl vo vw R K' N' ls L gs hp wt
  own:OwnT B w v rs
  th:THolds w rs out
  pin:ProdIn R.f K L gs T out
  fits:∀ t ∈ out,TFits t.1 t.2
  len:out.length≤4000
  sep:∀ q,v.ownBlock=some q→vl.ownBlock≠some q
theorem ProdM.taken (h:ProdM B rb vl R K N ls L gs vo vw hp wt T v rs out w) (_:TakeOut R.f K L gs m K' N' hp' wt' c) (hr:RM B w' rb vl vo' vw' R K' N' ls L gs hp' wt') (hk:KeepT w w'):ProdT B rb vl R K K' N' ls L gs vo' vw' hp' wt' T v rs out w':=
  ⟨hr,ownsRow_block h.own fun q hq=>hk.keep q _ (h.own.ty q hq) (.inl rfl),h.th.off hk.off,h.pin,h.fits,h.len,h.sep⟩
theorem ProdT.zero (h:ProdT B rb vl R K K' N' ls L gs vo vw hp wt T v rs out w) (ho:TakeOut R.f K L gs m K' N' hp wt c) (hc:c=0):ProdM B rb vl R K' N' ls L gs vo vw hp wt T v rs out w:=
  ⟨h.rm,ho.rows,ho.heap,h.own,h.th,h.pin.zero ho.tak hc,h.fits,h.len,h.sep⟩
theorem ProdT.below (h:ProdT B rb vl R K K' N' ls L gs vo vw hp wt T v rs out w) (hb:Below w.heap.size w w'):ProdT B rb vl R K K' N' ls L gs vo vw hp wt T v rs out w':=
  ⟨h.rm.below hb,h.own.below hb,h.th.below hb,h.pin,h.fits,h.len,h.sep⟩
end
theorem RM.rowT {B rb:Nat} {w w':World} {vl vo vw:Value} {R:RF} {K N:Nat→Nat} {ls:List TM} {L:PL} {gs hp wt:List Nat} (h:RM B w rb vl vo vw R K N ls L gs hp wt) {row:Option Nat} (hg:w.grownBy w' row) (ht:∀ q,row=some q→HasT w q 115) (hne:∀ q,row=some q→vl.ownBlock≠some q):RM B w' rb vl vo vw R K N ls L gs hp wt:=by
  have hrow:∀ {b:Nat} {t:TypeId},HasT w b t→t≠115→w'.heap[b]?=w.heap[b]?:=fun {b t} hb h1=>hg.block b hb.lt (fun e=>h1 (hb.uniq (ht b e.symm)))
  have hoff:Off w w':=⟨hg.size,fun b cs t f hp hb=>hrow ⟨cs,f,hb⟩ (fun e=>by rw [e] at hp;exact absurd hp (by decide))⟩;exact ⟨(hrow h.blk.ty (by decide)).trans h.blk,h.rbB,ownsRow_block h.lst fun q hq=>hg.block q (World.ownsRow.lt h.lst q hq).2 (fun e=>hne q e.symm hq),h.lh.off hoff,ownsRow_block h.op fun q hq=>hrow (h.op.ty q hq) (by decide),
    ownsRow_block h.wa fun q hq=>hrow (h.wa.ty q hq) (by decide),h.sep,fun g hg=>⟨(hrow (h.row g hg).1.ty (by decide)).trans (h.row g hg).1,(h.row g hg).2⟩,fun g hg=>⟨(h.num g hg).1,(h.num g hg).2.1,(h.num g hg).2.2.1.off hoff,(h.num g hg).2.2.2⟩⟩
theorem ProdT.put {B rb gg cap:Nat} {vl:Value} {R:RF} {K K' N':Nat→Nat} {ls:List TM} {L:PL} {gs:List Nat} {vo vw:Value} {hp wt:List Nat} {T:PL} {v:Value} {rs:List TM} {out:PL} {w w6:World} {o:Obj} {t:TM} {c:Rat}
    (h:ProdT B rb vl R K K' N' ls L gs vo vw hp wt T v rs out w) (ho:TakeOut R.f K L gs t.e K' N' hp wt c) (hc:c≠0) (hn:t.c.Num w c) (l1:t.c.ns.length≤20000) (l2:t.c.ds.length≤20000) (hf:TFits t.e c) (hl:out.length<4000) (hB:B≤w.heap.size)
    (hown:w6.ownsRow B 115 4 (.slice (some ⟨gg,0,none⟩) (rs.length+1) cap) (rs.length+1) (flat rs ++ [.int .u64 t.e,.bool t.c.s,.slice t.c.N t.c.ns.length t.c.nc,.slice t.c.D t.c.ds.length t.c.dc]))
    (hgrow:(w.alloc o).grownBy w6 v.ownBlock) (hat:v.ownBlock=some gg∨gg=w.heap.size+1) :
    ProdM B rb vl R K' N' ls L gs vo vw hp wt T (.slice (some ⟨gg,0,none⟩) (rs.length+1) cap) (rs ++ [t]) (out ++ [(t.e,c)]) w6∧Below B w w6:=by
  have ha:Below w.heap.size w (w.alloc o):=(Below.refl _ _).alloc (Nat.le_refl _) o;have hb:=ha;have hvt:∀ q,v.ownBlock=some q→HasT (w.alloc o) q 115:=fun q hq=>(h.own.ty q hq).below hb
  have hoff:Off w w6:=(Off.of_below hb).trans ⟨hgrow.size,fun b cs t f hp he=>hgrow.block b (HasT.lt ⟨cs,f,he⟩) (fun e=>by
    have:=(hvt b e.symm).uniq ⟨cs,f,he⟩;rw [← this] at hp;exact absurd hp (by decide))⟩
  refine ⟨⟨(h.rm.below hb).rowT hgrow hvt h.sep,ho.rows,ho.heap,?_,(h.th.off hoff).snoc rfl (hn.off hoff) l1 l2,h.pin.put ho.tak hc,?_,by rw [List.length_append];simp;omega,?_⟩,((Below.refl B w).alloc hB o).grown hgrow (by simp;omega) fun q hq=>(World.ownsRow.lt h.own q hq).1⟩
  · show World.ownsRow _ _ _ _ _ (rs ++ [t]).length (flat (rs ++ [t]));rw [flat_snoc,List.length_append];exact hown
  · intro x hx;rcases List.mem_append.1 hx with hx | hx
    · exact h.fits x hx
    · rw [List.mem_singleton.1 hx];exact hf
  · intro q hq hq2;have e:gg=q:=by simpa [Value.ownBlock] using hq
    subst e;rcases hat with e | e
    · exact h.sep gg e hq2
    · have:=(World.ownsRow.lt h.rm.lst gg hq2).2;omega
theorem rem_word {F:Nat→Nat × Rat} {K:Nat→Nat} {L:PL} {gs:List Nat} {y:Nat × Rat} (h:y ∈ remL F K L gs):∃ g ∈ gs,∃ u ∈ L,y.1=(F g).1+u.1:=by
  obtain ⟨g,hg,hy⟩:=mem_rem h;obtain ⟨u,hu,e⟩:=List.mem_map.1 (List.mem_of_mem_drop hy);exact ⟨g,hg,u,hu,by rw [← e]⟩
structure ProdOk (S:Nat→Rat→Prop) (T:Nat) (P Q:PL):Prop where
  mul:∀ f ∈ P,∀ u ∈ Q,MulOk f.2 u.2
  add:∀ j x,j<T→S j x → ∀ f ∈ P,∀ u ∈ Q,AddOk x (f.2*u.2)∧S (j+1) (x+f.2*u.2)
  zero:S 0 0
  word:∀ f ∈ P,∀ u ∈ Q,f.1+u.1<18446744073709551616
  len:(mulA P Q).length≤T
def ProdP (M:PL) (w:World) (e:Ending) (w':World):Prop:=
  (∃ A c ts,e = .returned (.tuple #[.slice A (ts:List TM).length c,.bool true])∧ts.length≤c∧PRd w' A ts M∧(∀ t ∈ M,TFits t.1 t.2)∧M.length≤4000∧Below w.heap.size w w') ∨
  (¬ ((∀ t ∈ M,TFits t.1 t.2)∧M.length≤4000)∧e = .returned (.tuple #[.slice none 0 0,.bool false])∧Below w.heap.size w w')
set_option maxRecDepth 100000 in
set_option maxHeartbeats 6400000 in
theorem pproduct1 (A B : Option Addr) (c d : Nat) (ts us : List TM) (P Q : PL) (S : Nat → Rat → Prop) (T : Nat) (w : World) (hx : PRd w A ts P) (hy : PRd w B us Q) (bt : ts.length ≤ 4000) (bu : us.length ≤ 4000) (hle : ts.length ≤ us.length) (hwP : Words P) (hnQ : NF Q) (hB : B = none → d = 0) (hS : ProdOk S T P Q) :
    Calls Tryz.prog 57 #[.slice A ts.length c,.slice B us.length d] w (ProdP (nfOf (mulA P Q)) w):=by
  have HX:=Lib.hid hx;have HY:=Lib.hid hy;have HWP:=Lib.hid hwP;have HNFQ:=Lib.hid hnQ;have HMUL:=Lib.hid hS.mul;have HADD:=Lib.hid hS.add;have HZ:=Lib.hid hS.zero;have HWORD:=Lib.hid hS.word;have HTT:=Lib.hid hS.len;have hg1:¬ (us.length:Int)<(ts.length:Int):=by omega
  clear hx hy hwP hnQ hS
  by_cases h0:ts.length=0
  · have hP:P=[]:=List.eq_nil_of_length_eq_zero (by rw [← HX.out.hs.1];exact h0);have HP0:=Lib.hid hP;rw [h0] at hg1;have h01:ts=[]:=List.eq_nil_of_length_eq_zero h0;subst h01;clear h0 hP;have h00:([]:List TM).length=0:=rfl;go_enter Tryz.func57,Tryz.ntmps57;go_wp2_with fail;go_ret2;refine .inl ⟨none,0,[],rfl,Nat.le_refl _,?_,?_,?_,Below.refl _ _⟩
    · rw [HP0.out];exact ⟨TRd.nil_,rfl,fun j u h=>by simp at h⟩
    · rw [HP0.out];intro t ht;cases ht
    · rw [HP0.out];exact Nat.zero_le _
  · have hposus : 0 < us.length := by omega
    have h02:¬ (ts.length:Int)=0:=by omega
    go_enter Tryz.func57,Tryz.ntmps57;go_wp2_with fail;refine (pnewrows A c ts P _ HX.out (by omega) HWP.out).mono ?_;rintro e w1 ⟨rb,vw,R,gs,rfl,hr,hf,hb1⟩;have HF:=Lib.hid hf;have HGL:=Lib.hid (show gs.length≤4000 by
      have h1:=congrArg List.length hf.fac;rw [List.length_map,← HX.out.hs.1] at h1;omega)
    have HMEM:=Lib.hid (fun g (hg:g ∈ gs)=>(show R.f g ∈ P by rw [← hf.fac];exact List.mem_map_of_mem hg));have HEX:=Lib.hid (pextend w.heap.size rb (.slice none 0 0) (.slice none 0 0) vw R (fun _=>0) (fun _=>0) [] us [] Q gs [] gs B d w1 hr ⟨hf.nodup,List.Perm.refl _,fun g h=>by simp at h,fun g _=>rfl⟩ (fun i h0 h1=>by simp at h1) (HY.out.below hb1) (by assumption) hposus hb1.size (by rw [List.length_nil];omega) (by have:=HGL.out;omega) (fun g hg u hu=>HWORD.out _ (HMEM.out g hg) u (by simpa using hu)));have HB1:=Lib.hid hb1;clear hr hf hb1;go_wp2_with fail;refine HEX.out.mono ?_;rintro e w2 ⟨hp,hperm,rfl,vl,vo,vw2,N,hr2,ho2,hh2,hb2⟩;rw [List.nil_append,List.nil_append] at hr2;rw [List.nil_append] at ho2;have HB2:=Lib.hid (HB1.out.trans hb2);have HR2:=Lib.hid hr2;have HO2:=Lib.hid ho2;have HH2:=Lib.hid hh2;have HSO:Hid (SumOk R S T Q gs):=⟨fun g hg u hu=>HMUL.out _ (HMEM.out g hg) u hu,fun j x hj hx g hg u hu=>HADD.out j x hj hx _ (HMEM.out g hg) u hu,HZ.out,fun g hg u hu=>HWORD.out _ (HMEM.out g hg) u hu⟩;have HTL:Hid ((remL R.f (fun _=>0) Q gs).length≤T):=by
      show _≤_;rw [mulA_rem,HF.out.fac];exact HTT.out
    have HPI:Hid (ProdIn R.f (fun _=>0) Q gs (mulA P Q) []):=by
      have h:=ProdIn.start R.f Q gs;rw [HF.out.fac] at h;exact h
    have hb2s:=HB2.out.size;clear hr2 ho2 hh2 hperm hb2 HEX HB1;go_wp2_with fail;go_loopg [4,7] ((remL R.f (fun _=>0) Q gs).length) (fun gh s4 _ wr=>∃ (K N:Nat→Nat) (vo vw:Value) (hp wt:List Nat) (out:PL) (rs:List TM) (v:Value),(remL R.f K Q gs).length=gh∧gh≤T∧s4=v∧Hid (ProdM w.heap.size rb vl R K N us Q gs vo vw hp wt (mulA P Q) v rs out wr)∧Below w.heap.size w wr)
    case atStart=>exact ⟨fun _=>0,N,vo,vw2,hp,[],[],[],.slice none 0 0,rfl,HTL,rfl,⟨HR2.out,HO2.out,HH2.out,OwnT.nil_ _ _,⟨rfl,fun j u h=>by simp at h⟩,HPI.out,fun t h=>by simp at h,by simp,fun q h=>by cases h⟩,HB2.out⟩
    case round=>
      obtain ⟨K1,N1,vo1,vw1,hp1,wt1,out,rs,v,hgh,hgT,rfl,hM,hbw⟩:=hrel;have HG:=Lib.hid hgh;clear hgh;have HI:=Lib.hid (pisdone hM.out.rm);cases hp1 with
      | nil =>
        have hnil:decide (([]:List Nat).length=0)=true:=rfl;rw [hnil] at HI;clear hnil;have HE:=Lib.hid (prod_done hM.out);go_wp2_with fail;refine HI.out.mono ?_;rintro e w3 ⟨rfl,hw3⟩;subst hw3;obtain ⟨vA,vc,hv,hvc,hvr,_,_⟩:=hM.out.own.form;subst hv;go_wp2_with fail;go_ret2;exact .inl ⟨vA,vc,rs,rfl,hvc,⟨hvr,by rw [HE.out];exact hM.out.th⟩,by rw [HE.out];exact hM.out.fits,by rw [HE.out];exact hM.out.len,hbw⟩
      | cons g r =>
        have hnil:decide ((g :: r).length=0)=false:=rfl;rw [hnil] at HI;clear hnil;have HTK:=Lib.hid (ptake w.heap.size rb g vl vo1 vw1 R K1 N1 us Q gs r wt1 S T wr hM.out.rm hM.out.rows hM.out.heap HNFQ.out.desc HSO.out (by rw [HG.out];exact hgT) hbw.size (by have:=HGL.out;omega) (by omega));go_wp2_with fail;refine HI.out.mono ?_;rintro e w3 ⟨rfl,hw3⟩;subst hw3;go_wp2_with fail;refine HTK.out.mono ?_;rintro e w3 ⟨t,x,K2,N2,vo2,vw2',hp2,wt2,rfl,hnum,l1,l2,hr3,hto,hb3,hk3⟩;have HM3:=Lib.hid (hM.out.taken hto hr3 hk3);have HTO:=Lib.hid hto;have HB3:=Lib.hid (hbw.trans hb3);have HNUM:=Lib.hid hnum;have hwt:t.e<18446744073709551616:=by
          obtain ⟨y,hy,he⟩:=hto.tak.has;obtain ⟨f,hf,u,hu,e2⟩:=rem_word hy;rw [← he,e2];exact HSO.out.word f hf u hu
        have hlt:(remL R.f K2 Q gs).length<(remL R.f K1 Q gs).length:=hto.len;rw [HG.out] at hlt;clear hto hr3 hb3 hk3 hnum HTK HI;obtain ⟨b0,b1,b2,b3,b4,b5,b6,b7,b8⟩:=(Blk4.new 115 w3 (.int .u64 t.e) (.bool t.c.s) (.slice t.c.N t.c.ns.length t.c.nc) (.slice t.c.D t.c.ds.length t.c.dc)).facts;have hbb:Below w3.heap.size w3 (w3.alloc (TBox t)):=(Below.refl _ _).alloc (Nat.le_refl _) _;have HZI:=Lib.hid (wisZero t.c.s t.c.N t.c.D t.c.ns.length t.c.nc t.c.ds.length t.c.dc (w3.alloc (TBox t)))
        by_cases hz:t.c.ns.length=0
        · rw [decide_eq_true hz] at HZI;have hx0:x=0:=HNUM.out.zero_iff.1 hz;clear hz;go_wp2_with fail;refine HZI.out.mono ?_;rintro e w4 ⟨rfl,hb4⟩;have hb34:=hbb.trans (hb4.mono hbb.size);go_wp2_with fail;go_roundg ((remL R.f K2 Q gs).length)
          case rel=>exact ⟨K2,N2,vo2,vw2',hp2,wt2,out,rs,_,rfl,by omega,rfl,(HM3.out.zero HTO.out hx0).below hb34,HB3.out.trans (hb34.mono HB3.out.size)⟩
          case measure=>exact hlt
        · rw [decide_eq_false hz] at HZI; have hx0 : x ≠ 0 := fun e => hz (HNUM.out.zero_iff.2 e)
          have HX0:=Lib.hid hx0;clear hz hx0;go_wp2_with fail;refine HZI.out.mono ?_;rintro e w4 ⟨rfl,hb4⟩;have hb34:=hbb.trans (hb4.mono hbb.size);have HK4:=Lib.hid ((Blk4.new 115 w3 (.int .u64 t.e) (.bool t.c.s) (.slice t.c.N t.c.ns.length t.c.nc) (.slice t.c.D t.c.ds.length t.c.dc)).below hb4);obtain ⟨d0,d1,d2,d3,d4,d5,d6,d7,d8⟩:=HK4.out.facts;have HFI:=Lib.hid (pfits t x w4 (HNUM.out.below hb34) hwt (by omega) (by omega));clear HZI b0 b1 b2 b3 b4 b5 b6 b7 b8;go_wp2_with fail;refine HFI.out.mono ?_;rintro e w5 ⟨b,rfl,hbf,hb5⟩;have HBF:=Lib.hid hbf;have HB35:=Lib.hid (hb34.trans (hb5.mono hb34.size));obtain ⟨k0,k1,k2,k3,k4,k5,k6,k7,k8⟩:=(HK4.out.below hb5).facts;have HWH:=Lib.hid (HM3.out.pin.put HTO.out.tak HX0.out).whole;have HLO:=Lib.hid HM3.out.th.1;clear hbf hb4 hb5 hb34 HFI HK4 d0 d1 d2 d3 d4 d5 d6 d7 d8;have HBW5:=Lib.hid (HB3.out.trans (HB35.out.mono HB3.out.size));obtain ⟨vA,vc,hv,hvc,_,_,_⟩:=HM3.out.own.form;subst hv;cases b with
          | false =>
            go_wp2_with fail;go_ret2;refine .inr ⟨fun h=>?_,rfl,HBW5.out⟩;have h1:=h.1 (t.e,x) (by rw [HWH.out];simp);exact absurd (HBF.out.2 h1) (by simp)
          | true =>
            by_cases h4:rs.length=4000
            · have h4e:((rs.length:Int) == 4000)=true:=by rw [beq_iff_eq];omega
              have H4:=Lib.hid h4;clear h4;go_wp2_with fail;go_ret2;refine .inr ⟨fun h=>?_,rfl,HBW5.out⟩;have h1:=h.2;rw [HWH.out,List.length_append,List.length_append,List.length_singleton,← HLO.out,H4.out] at h1;omega
            · have h4e:((rs.length:Int) == 4000)=false:=by rw [beq_eq_false_iff_ne];omega
              have hrl:rs.length≤4000:=by rw [HLO.out];exact HM3.out.len
              have H4:=Lib.hid h4;clear h4;obtain ⟨i0,hi,hz0,hz1,hz2⟩:=info_parts info_term;have HOW:=Lib.hid ((HM3.out.below HB35.out).own);have hb5s:=HBW5.out.size;go_wp2_with (at_builtin;refine wpList_append_lies _ rfl _ _ 85 rfl w.heap.size 115 i0 _ 4 64 Tryz.underlying85 hi hz0 hz1 hz2 rfl (by omega) (.slice vA rs.length vc) rs.length (flat rs) rfl (World.ownsRow.alloc HOW.out _) ⟨w5.heap.size,0,none⟩ 1 1 [.int .u64 t.e,.bool t.c.s,.slice t.c.N t.c.ns.length t.c.nc,.slice t.c.D t.c.ds.length t.c.dc] rfl rfl (World.news_of_block (cs:=#[.int .u64 t.e,.bool t.c.s,.slice t.c.N t.c.ns.length t.c.nc,.slice t.c.D t.c.ds.length t.c.dc]) (t:=115) (fr:=(0,0)) (heap_alloc_new _ _)) (by simp [Value.oneCell']) (by omega) (by unfold maxLen;omega) (by omega) (by simp;omega) (w5.heap.size+1) (by simp) ?_;intro gg cap w6 hown6 hgrow6 hat6 hlt6);go_roundg ((remL R.f K2 Q gs).length)
              case rel=>
                obtain ⟨h6,hb6⟩:=(HM3.out.below HB35.out).put HTO.out HX0.out (HNUM.out.below HB35.out) l1 l2 (HBF.out.1 (by simp)) (by have:=H4.out;rw [← HLO.out];omega) (by omega) hown6 hgrow6 hat6;exact ⟨K2,N2,vo2,vw2',hp2,wt2,out ++ [(t.e,x)],rs ++ [t],_,rfl,by omega,rfl,h6,HBW5.out.trans hb6⟩
              case measure=>exact hlt
end Go.Proofs.YtgekmfcbbjeahaaGreatDoor
/- poly.product, the longer one first. -/
attribute [local go_sem ↓] Go.wp_at_zero Go.wp_at_succ
namespace Go.Proofs.YtgekmfcbbjeahaaGreatDoor
open Go.RowKit V
set_option maxRecDepth 100000 in
set_option maxHeartbeats 6400000 in
theorem pproduct2 (A B : Option Addr) (c d : Nat) (ts us : List TM) (P Q : PL) (S : Nat → Rat → Prop) (T : Nat) (w : World) (hx : PRd w A ts P) (hy : PRd w B us Q) (bt : ts.length ≤ 4000) (bu : us.length ≤ 4000) (hle : us.length < ts.length) (hwQ : Words Q) (hnP : NF P) (hA : A = none → c = 0) (hS : ProdOk S T Q P) :
    Calls Tryz.prog 57 #[.slice A ts.length c,.slice B us.length d] w (ProdP (nfOf (mulA Q P)) w):=by
  have HX:=Lib.hid hx;have HY:=Lib.hid hy;have HWQ:=Lib.hid hwQ;have HNFP:=Lib.hid hnP;have HMUL:=Lib.hid hS.mul;have HADD:=Lib.hid hS.add;have HZ:=Lib.hid hS.zero;have HWORD:=Lib.hid hS.word;have HTT:=Lib.hid hS.len;have hg1:(us.length:Int)<(ts.length:Int):=by omega
  clear hx hy hwQ hnP hS
  by_cases h0:us.length=0
  · have hP:Q=[]:=List.eq_nil_of_length_eq_zero (by rw [← HY.out.hs.1];exact h0);have HP0:=Lib.hid hP;rw [h0] at hg1;have h01:us=[]:=List.eq_nil_of_length_eq_zero h0;subst h01;clear h0 hP;have h00:([]:List TM).length=0:=rfl;go_enter Tryz.func57,Tryz.ntmps57;go_wp2_with fail;go_ret2;refine .inl ⟨none,0,[],rfl,Nat.le_refl _,?_,?_,?_,Below.refl _ _⟩
    · rw [HP0.out];exact ⟨TRd.nil_,rfl,fun j u h=>by simp at h⟩
    · rw [HP0.out];intro t ht;cases ht
    · rw [HP0.out];exact Nat.zero_le _
  · have hposts : 0 < ts.length := by omega
    have h02:¬ (us.length:Int)=0:=by omega
    go_enter Tryz.func57,Tryz.ntmps57;go_wp2_with fail;refine (pnewrows B d us Q _ HY.out (by omega) HWQ.out).mono ?_;rintro e w1 ⟨rb,vw,R,gs,rfl,hr,hf,hb1⟩;have HF:=Lib.hid hf;have HGL:=Lib.hid (show gs.length≤4000 by
      have h1:=congrArg List.length hf.fac;rw [List.length_map,← HY.out.hs.1] at h1;omega)
    have HMEM:=Lib.hid (fun g (hg:g ∈ gs)=>(show R.f g ∈ Q by rw [← hf.fac];exact List.mem_map_of_mem hg));have HEX:=Lib.hid (pextend w.heap.size rb (.slice none 0 0) (.slice none 0 0) vw R (fun _=>0) (fun _=>0) [] ts [] P gs [] gs A c w1 hr ⟨hf.nodup,List.Perm.refl _,fun g h=>by simp at h,fun g _=>rfl⟩ (fun i h0 h1=>by simp at h1) (HX.out.below hb1) (by assumption) hposts hb1.size (by rw [List.length_nil];omega) (by have:=HGL.out;omega) (fun g hg u hu=>HWORD.out _ (HMEM.out g hg) u (by simpa using hu)));have HB1:=Lib.hid hb1;clear hr hf hb1;go_wp2_with fail;refine HEX.out.mono ?_;rintro e w2 ⟨hp,hperm,rfl,vl,vo,vw2,N,hr2,ho2,hh2,hb2⟩;rw [List.nil_append,List.nil_append] at hr2;rw [List.nil_append] at ho2;have HB2:=Lib.hid (HB1.out.trans hb2);have HR2:=Lib.hid hr2;have HO2:=Lib.hid ho2;have HH2:=Lib.hid hh2;have HSO:Hid (SumOk R S T P gs):=⟨fun g hg u hu=>HMUL.out _ (HMEM.out g hg) u hu,fun j x hj hx g hg u hu=>HADD.out j x hj hx _ (HMEM.out g hg) u hu,HZ.out,fun g hg u hu=>HWORD.out _ (HMEM.out g hg) u hu⟩;have HTL:Hid ((remL R.f (fun _=>0) P gs).length≤T):=by
      show _≤_;rw [mulA_rem,HF.out.fac];exact HTT.out
    have HPI:Hid (ProdIn R.f (fun _=>0) P gs (mulA Q P) []):=by
      have h:=ProdIn.start R.f P gs;rw [HF.out.fac] at h;exact h
    have hb2s:=HB2.out.size;clear hr2 ho2 hh2 hperm hb2 HEX HB1;go_wp2_with fail;go_loopg [4,7] ((remL R.f (fun _=>0) P gs).length) (fun gh s4 _ wr=>∃ (K N:Nat→Nat) (vo vw:Value) (hp wt:List Nat) (out:PL) (rs:List TM) (v:Value),(remL R.f K P gs).length=gh∧gh≤T∧s4=v∧Hid (ProdM w.heap.size rb vl R K N ts P gs vo vw hp wt (mulA Q P) v rs out wr)∧Below w.heap.size w wr)
    case atStart=>exact ⟨fun _=>0,N,vo,vw2,hp,[],[],[],.slice none 0 0,rfl,HTL,rfl,⟨HR2.out,HO2.out,HH2.out,OwnT.nil_ _ _,⟨rfl,fun j u h=>by simp at h⟩,HPI.out,fun t h=>by simp at h,by simp,fun q h=>by cases h⟩,HB2.out⟩
    case round=>
      obtain ⟨K1,N1,vo1,vw1,hp1,wt1,out,rs,v,hgh,hgT,rfl,hM,hbw⟩:=hrel;have HG:=Lib.hid hgh;clear hgh;have HI:=Lib.hid (pisdone hM.out.rm);cases hp1 with
      | nil =>
        have hnil:decide (([]:List Nat).length=0)=true:=rfl;rw [hnil] at HI;clear hnil;have HE:=Lib.hid (prod_done hM.out);go_wp2_with fail;refine HI.out.mono ?_;rintro e w3 ⟨rfl,hw3⟩;subst hw3;obtain ⟨vA,vc,hv,hvc,hvr,_,_⟩:=hM.out.own.form;subst hv;go_wp2_with fail;go_ret2;exact .inl ⟨vA,vc,rs,rfl,hvc,⟨hvr,by rw [HE.out];exact hM.out.th⟩,by rw [HE.out];exact hM.out.fits,by rw [HE.out];exact hM.out.len,hbw⟩
      | cons g r =>
        have hnil:decide ((g :: r).length=0)=false:=rfl;rw [hnil] at HI;clear hnil;have HTK:=Lib.hid (ptake w.heap.size rb g vl vo1 vw1 R K1 N1 ts P gs r wt1 S T wr hM.out.rm hM.out.rows hM.out.heap HNFP.out.desc HSO.out (by rw [HG.out];exact hgT) hbw.size (by have:=HGL.out;omega) (by omega));go_wp2_with fail;refine HI.out.mono ?_;rintro e w3 ⟨rfl,hw3⟩;subst hw3;go_wp2_with fail;refine HTK.out.mono ?_;rintro e w3 ⟨t,x,K2,N2,vo2,vw2',hp2,wt2,rfl,hnum,l1,l2,hr3,hto,hb3,hk3⟩;have HM3:=Lib.hid (hM.out.taken hto hr3 hk3);have HTO:=Lib.hid hto;have HB3:=Lib.hid (hbw.trans hb3);have HNUM:=Lib.hid hnum;have hwt:t.e<18446744073709551616:=by
          obtain ⟨y,hy,he⟩:=hto.tak.has;obtain ⟨f,hf,u,hu,e2⟩:=rem_word hy;rw [← he,e2];exact HSO.out.word f hf u hu
        have hlt:(remL R.f K2 P gs).length<(remL R.f K1 P gs).length:=hto.len;rw [HG.out] at hlt;clear hto hr3 hb3 hk3 hnum HTK HI;obtain ⟨b0,b1,b2,b3,b4,b5,b6,b7,b8⟩:=(Blk4.new 115 w3 (.int .u64 t.e) (.bool t.c.s) (.slice t.c.N t.c.ns.length t.c.nc) (.slice t.c.D t.c.ds.length t.c.dc)).facts;have hbb:Below w3.heap.size w3 (w3.alloc (TBox t)):=(Below.refl _ _).alloc (Nat.le_refl _) _;have HZI:=Lib.hid (wisZero t.c.s t.c.N t.c.D t.c.ns.length t.c.nc t.c.ds.length t.c.dc (w3.alloc (TBox t)))
        by_cases hz:t.c.ns.length=0
        · rw [decide_eq_true hz] at HZI;have hx0:x=0:=HNUM.out.zero_iff.1 hz;clear hz;go_wp2_with fail;refine HZI.out.mono ?_;rintro e w4 ⟨rfl,hb4⟩;have hb34:=hbb.trans (hb4.mono hbb.size);go_wp2_with fail;go_roundg ((remL R.f K2 P gs).length)
          case rel=>exact ⟨K2,N2,vo2,vw2',hp2,wt2,out,rs,_,rfl,by omega,rfl,(HM3.out.zero HTO.out hx0).below hb34,HB3.out.trans (hb34.mono HB3.out.size)⟩
          case measure=>exact hlt
        · rw [decide_eq_false hz] at HZI; have hx0 : x ≠ 0 := fun e => hz (HNUM.out.zero_iff.2 e)
          have HX0:=Lib.hid hx0;clear hz hx0;go_wp2_with fail;refine HZI.out.mono ?_;rintro e w4 ⟨rfl,hb4⟩;have hb34:=hbb.trans (hb4.mono hbb.size);have HK4:=Lib.hid ((Blk4.new 115 w3 (.int .u64 t.e) (.bool t.c.s) (.slice t.c.N t.c.ns.length t.c.nc) (.slice t.c.D t.c.ds.length t.c.dc)).below hb4);obtain ⟨d0,d1,d2,d3,d4,d5,d6,d7,d8⟩:=HK4.out.facts;have HFI:=Lib.hid (pfits t x w4 (HNUM.out.below hb34) hwt (by omega) (by omega));clear HZI b0 b1 b2 b3 b4 b5 b6 b7 b8;go_wp2_with fail;refine HFI.out.mono ?_;rintro e w5 ⟨b,rfl,hbf,hb5⟩;have HBF:=Lib.hid hbf;have HB35:=Lib.hid (hb34.trans (hb5.mono hb34.size));obtain ⟨k0,k1,k2,k3,k4,k5,k6,k7,k8⟩:=(HK4.out.below hb5).facts;have HWH:=Lib.hid (HM3.out.pin.put HTO.out.tak HX0.out).whole;have HLO:=Lib.hid HM3.out.th.1;clear hbf hb4 hb5 hb34 HFI HK4 d0 d1 d2 d3 d4 d5 d6 d7 d8;have HBW5:=Lib.hid (HB3.out.trans (HB35.out.mono HB3.out.size));obtain ⟨vA,vc,hv,hvc,_,_,_⟩:=HM3.out.own.form;subst hv;cases b with
          | false =>
            go_wp2_with fail;go_ret2;refine .inr ⟨fun h=>?_,rfl,HBW5.out⟩;have h1:=h.1 (t.e,x) (by rw [HWH.out];simp);exact absurd (HBF.out.2 h1) (by simp)
          | true =>
            by_cases h4:rs.length=4000
            · have h4e:((rs.length:Int) == 4000)=true:=by rw [beq_iff_eq];omega
              have H4:=Lib.hid h4;clear h4;go_wp2_with fail;go_ret2;refine .inr ⟨fun h=>?_,rfl,HBW5.out⟩;have h1:=h.2;rw [HWH.out,List.length_append,List.length_append,List.length_singleton,← HLO.out,H4.out] at h1;omega
            · have h4e:((rs.length:Int) == 4000)=false:=by rw [beq_eq_false_iff_ne];omega
              have hrl:rs.length≤4000:=by rw [HLO.out];exact HM3.out.len
              have H4:=Lib.hid h4;clear h4;obtain ⟨i0,hi,hz0,hz1,hz2⟩:=info_parts info_term;have HOW:=Lib.hid ((HM3.out.below HB35.out).own);have hb5s:=HBW5.out.size;go_wp2_with (at_builtin;refine wpList_append_lies _ rfl _ _ 85 rfl w.heap.size 115 i0 _ 4 64 Tryz.underlying85 hi hz0 hz1 hz2 rfl (by omega) (.slice vA rs.length vc) rs.length (flat rs) rfl (World.ownsRow.alloc HOW.out _) ⟨w5.heap.size,0,none⟩ 1 1 [.int .u64 t.e,.bool t.c.s,.slice t.c.N t.c.ns.length t.c.nc,.slice t.c.D t.c.ds.length t.c.dc] rfl rfl (World.news_of_block (cs:=#[.int .u64 t.e,.bool t.c.s,.slice t.c.N t.c.ns.length t.c.nc,.slice t.c.D t.c.ds.length t.c.dc]) (t:=115) (fr:=(0,0)) (heap_alloc_new _ _)) (by simp [Value.oneCell']) (by omega) (by unfold maxLen;omega) (by omega) (by simp;omega) (w5.heap.size+1) (by simp) ?_;intro gg cap w6 hown6 hgrow6 hat6 hlt6);go_roundg ((remL R.f K2 P gs).length)
              case rel=>
                obtain ⟨h6,hb6⟩:=(HM3.out.below HB35.out).put HTO.out HX0.out (HNUM.out.below HB35.out) l1 l2 (HBF.out.1 (by simp)) (by have:=H4.out;rw [← HLO.out];omega) (by omega) hown6 hgrow6 hat6;exact ⟨K2,N2,vo2,vw2',hp2,wt2,out ++ [(t.e,x)],rs ++ [t],_,rfl,by omega,rfl,h6,HBW5.out.trans hb6⟩
              case measure=>exact hlt
theorem mulA_len (P:PL):∀ Q:PL,(mulA Q P).length=Q.length*P.length
  | []=>by simp [mulA]
  | f :: r => by
    show (rowL f P ++ mulA r P).length=_;rw [List.length_append,mulA_len P r,List.length_cons,Nat.succ_mul,Nat.add_comm];simp [rowL]
theorem ProdOk.comm {S:Nat→Rat→Prop} {T:Nat} {P Q:PL} (h:ProdOk S T P Q) (hm:∀ f ∈ P,∀ u ∈ Q,MulOk u.2 f.2):ProdOk S T Q P:=
  ⟨fun u hu f hf=>hm f hf u hu,fun j x hj hx u hu f hf=>by
    rw [Rat.mul_comm];exact h.add j x hj hx f hf u hu,h.zero,fun u hu f hf=>by
    rw [Nat.add_comm];exact h.word f hf u hu,by rw [mulA_len,Nat.mul_comm,← mulA_len];exact h.len⟩
theorem pproduct (A B:Option Addr) (c d:Nat) (ts us:List TM) (P Q:PL) (S:Nat→Rat→Prop) (T:Nat) (w:World) (hx:PRd w A ts P) (hy:PRd w B us Q) (bt:ts.length≤4000) (bu:us.length≤4000) (hwP:Words P) (hwQ:Words Q) (hnP:NF P) (hnQ:NF Q) (hA:A=none→c=0) (hB:B=none→d=0) (hS:ProdOk S T P Q) (hm:∀ f ∈ P,∀ u ∈ Q,MulOk u.2 f.2) :
    Calls Tryz.prog 57 #[.slice A ts.length c,.slice B us.length d] w (ProdP (nfOf (mulA P Q)) w):=by
  rcases Nat.lt_or_ge us.length ts.length with h | h
  · rw [nfOf_comm];exact pproduct2 A B c d ts us P Q S T w hx hy bt bu h hwQ hnP hA (hS.comm hm)
  · exact pproduct1 A B c d ts us P Q S T w hx hy bt bu h hwP hnQ hB hS
end Go.Proofs.YtgekmfcbbjeahaaGreatDoor
/- poly.Mul of valid polynomials. -/
attribute [local go_sem ↓] Go.wp_at_zero Go.wp_at_succ
namespace Go.Proofs.YtgekmfcbbjeahaaGreatDoor
open Go.RowKit V
set_option maxRecDepth 100000 in
set_option maxHeartbeats 1600000 in
theorem pmul_ok (n:Nat) (A B:Option Addr) (c d:Nat) (ms ns:List MM) (P Q:PL) (S:Nat→Rat→Prop) (T:Nat) (w:World) (ha:ARd w A ms (up n P)) (hb:ARd w B ns (up n Q)) (hP:PIn n P) (hQ:PIn n Q) (hS:ProdOk S T P Q) (hm:∀ f ∈ P,∀ u ∈ Q,MulOk u.2 f.2) (hws:Words (nfOf (mulA P Q))) :
    Calls Tryz.prog 14 #[.agg #[.int .i64 n,.slice A ms.length c],.agg #[.int .i64 n,.slice B ns.length d]] w fun e w'=>
      (((∀ t ∈ nfOf (mulA P Q),TFits t.1 t.2)∧(nfOf (mulA P Q)).length≤4000)∧StoreOk n (nfOf (mulA P Q)) w e w')∨(¬ ((∀ t ∈ nfOf (mulA P Q),TFits t.1 t.2)∧(nfOf (mulA P Q)).length≤4000)∧PolyErr 2 w e w'):=by
  have HA:=Lib.hid ha;have HB:=Lib.hid hb;have hnv:=hP.nv;have hba:Below w.heap.size w (((w.alloc (.cells #[.int .i64 n,.slice A ms.length c] 24)).alloc (.cells #[.int .i64 n,.slice B ns.length d] 24)).alloc (.cells #[.int .i64 0,.slice none 0 0] 24)):=(((Below.refl _ _).alloc (Nat.le_refl _) _).alloc (by simp) _).alloc (by simp;omega) _;have HCP:=Lib.hid (ppair_ok (n:Int) A B c d ms ns _ _ _ (ha.raw.below hba) (hb.raw.below hba) (ha.val hP) (hb.val hQ));obtain ⟨k1,k2,k3⟩:=box3p w (.int .i64 n) (.slice A ms.length c) (.int .i64 n) (.slice B ns.length d) (.int .i64 0) (.slice none 0 0);have hml:ms.length≤4000:=by rw [ha.hs.1,up,List.length_map];exact hP.len
  have hnl:ns.length≤4000:=by rw [hb.hs.1,up,List.length_map];exact hQ.len
  have HP:=Lib.hid hP;have HQ:=Lib.hid hQ;have HPK:=Lib.hid (pk_up hP);have HQK:=Lib.hid (pk_up hQ);clear ha hb hP hQ;have HSO:=Lib.hid hS;have HMC:=Lib.hid hm;have HWS:=Lib.hid hws;clear hS hm hws;go_enter Tryz.func14,Tryz.ntmps14;go_wp2_with fail;refine HCP.out.mono ?_;rintro e w1 ⟨rfl,hb1⟩;have hb2:=hba.trans (hb1.mono hba.size);have j1:=k1.below hb1;have j2:=k2.below hb1;have j3:=k3.below hb1;have HS0:=cells22 j1 j2;have HBW:=Lib.hid hb2;clear hba hb1 k1 k2 k3 HCP;go_upto_region 4 with fail;obtain ⟨p0,p1,p2,p3,p4⟩:=j3.facts;refine wp_region_held_drew (S:=fun w'=>w'.cell? ⟨w.heap.size,0,none⟩=some (.int .i64 n)∧w'.cell? ⟨w.heap.size,1,none⟩=some (.slice A ms.length c)∧w'.cell? ⟨w.heap.size+1,0,none⟩=some (.int .i64 n)∧w'.cell? ⟨w.heap.size+1,1,none⟩=some (.slice B ns.length d)) (by kernel_rfl) ?_ (fun hHeld=>?_)
  · first | exact HS0 | go_keep
  refine wpAnyH_take (i:=0) (v:=?v0) rfl (by kernel_rfl) (by kernel_rfl) (by kernel_rfl) (fun _ _ _ h=>h) (Or.inl ⟨by rfl,?hy0⟩) (by assumption) ?rest0
  case hy0=>
    intro w hSw
    (try dsimp only at hSw)
    go_simp
    all_goals with_reducible rfl
  simp only [Act.put,List.getElem_toArray,List.getElem_cons_zero,List.setIfInBounds_toArray,List.set_cons_zero,List.set_cons_succ];refine wpAnyH_take (i:=2) (v:=?v2) rfl (by kernel_rfl) (by kernel_rfl) (by kernel_rfl) (fun _ _ _ h=>h) (Or.inl ⟨by rfl,?hy2⟩) (by assumption) ?rest2
  case hy2=>
    intro w hSw
    (try dsimp only at hSw)
    go_simp
    all_goals with_reducible rfl
  simp only [Act.put,List.getElem_toArray,List.getElem_cons_zero,List.getElem_cons_succ,List.setIfInBounds_toArray,List.set_cons_zero,List.set_cons_succ];refine wpAnyH_ready (rs:=[1]) (by kernel_rfl) (by simp) ?_;refine AllReadyH.cons (o:=_) rfl (fun K hK=>?_) AllReadyH.nil;go_simp;go_at_call 54;refine (ploadc n A c n ms (up n P) _ (HA.out.below (by first | exact HBW.out | exact below_drew_ HBW.out 1)) (by omega) (eok_up HP.out)).mono ?_;rintro e x1 ⟨X,xc,xs,rfl,hxc,hx,hbx,hxn,hxe⟩;have hq1:Below w1.heap.size w1 x1:=by first | exact hbx | exact below_of_drew hbx (Nat.le_refl _)
  have HS_:=cells22 (j1.below hq1) (j2.below hq1);rw [HPK.out] at hx;have HX:=Lib.hid hx;have HXL:=Lib.hid hx.hs.1;have HXI:=Lib.hid (And.intro hxc (And.intro hxn hxe));clear hx hxc hxn hxe;go_wp2_with fail;refine hK.out _ _ ?_ (fun hHeld=>?_)
  · first | exact HS_ | go_keep
  clear hK K
  try simp only [Act.put,List.getElem_toArray,List.getElem_cons_zero,List.getElem_cons_succ,List.setIfInBounds_toArray,List.set_cons_zero,List.set_cons_succ]
  refine wpAnyH_ready (rs:=[3]) (by kernel_rfl) (by simp) ?_;refine AllReadyH.cons (o:=_) rfl (fun K hK=>?_) AllReadyH.nil;go_simp;go_at_call 54;refine (ploadc n B d n ns (up n Q) _ (HB.out.below (HBW.out.trans (hq1.mono HBW.out.size))) (by omega) (eok_up HQ.out)).mono ?_;rintro e x2 ⟨Y,yc,ys,rfl,hyc,hy,hby,hyn,hye⟩;have hq2:=hq1.trans (hby.mono hq1.size);clear HS_;have HS_:=cells22 (j1.below hq2) (j2.below hq2);rw [HQK.out] at hy;have HY:=Lib.hid hy;have HYL:=Lib.hid hy.hs.1;have HX2:=Lib.hid (HX.out.below hby);have HYI:=Lib.hid (And.intro hyc (And.intro hyn hye));clear hy hyc hyn hye;go_wp2_with fail;refine hK.out _ _ ?_ (fun hHeld=>?_)
  · first | exact HS_ | go_keep
  clear hK K
  try simp only [Act.put,List.getElem_toArray,List.getElem_cons_zero,List.getElem_cons_succ,List.setIfInBounds_toArray,List.set_cons_zero,List.set_cons_succ]
  refine wpAnyH_ready (rs:=[4]) (by kernel_rfl) (by simp) ?_;refine AllReadyH.cons (o:=_) rfl (fun K hK=>?_) AllReadyH.nil;go_simp;go_at_call 57;have HSU:=pproduct X Y xc yc xs ys P Q S T x2 HX2.out HY.out (by rw [HXL.out];exact HP.out.len) (by rw [HYL.out];exact HQ.out.len) HP.out.words HQ.out.words HP.out.nf HQ.out.nf HXI.out.2.1 HYI.out.2.1 HSO.out HMC.out;refine HSU.mono ?_;clear HSU;intro e x3 hpr;obtain ⟨r1,r2,re⟩:∃ a b,e = .returned (.tuple #[a,b]):=by rcases hpr with ⟨A0,c0,t0,h,_⟩ | ⟨_,h,_⟩ <;> exact ⟨_,_,h⟩
  subst re;have hbz:Below x2.heap.size x2 x3:=by rcases hpr with ⟨_,_,_,_,_,_,_,_,h⟩ | ⟨_,_,h⟩ <;> exact h
  have hq3:=hq2.trans (hbz.mono hq2.size);clear HS_;have HS_:=cells22 (j1.below hq3) (j2.below hq3);have HPR:=Lib.hid hpr;clear hpr;go_wp2_with fail;refine hK.out _ _ ?_ (fun hHeld=>?_)
  · first | exact HS_ | go_keep
  clear hK K
  try simp only [Act.put,List.getElem_toArray,List.getElem_cons_zero,List.getElem_cons_succ,List.setIfInBounds_toArray,List.set_cons_zero,List.set_cons_succ]
  refine wpAnyH_take (i:=5) (v:=?v5) rfl (by kernel_rfl) (by kernel_rfl) (by kernel_rfl) (fun _ _ _ h=>h) (Or.inl ⟨by rfl,?hy5⟩) (by assumption) ?rest5
  case hy5=>
    intro w hSw
    (try dsimp only at hSw)
    go_simp
    all_goals with_reducible rfl
  simp only [Act.put,List.getElem_toArray,List.getElem_cons_zero,List.getElem_cons_succ,List.setIfInBounds_toArray,List.set_cons_zero,List.set_cons_succ];refine wpAnyH_take (i:=6) (v:=?v6) rfl (by kernel_rfl) (by kernel_rfl) (by kernel_rfl) (fun _ _ _ h=>h) (Or.inl ⟨by rfl,?hy6⟩) (by assumption) ?rest6
  case hy6=>
    intro w hSw
    (try dsimp only at hSw)
    go_simp
    all_goals with_reducible rfl
  simp only [Act.put,List.getElem_toArray,List.getElem_cons_zero,List.getElem_cons_succ,List.setIfInBounds_toArray,List.set_cons_zero,List.set_cons_succ];refine wpAnyH_take (i:=7) (v:=?v7) rfl (by kernel_rfl) (by kernel_rfl) (by kernel_rfl) (fun _ _ _ h=>h) (Or.inl ⟨by rfl,?hy7⟩) (by assumption) ?rest7
  case hy7=>
    intro w hSw
    (try dsimp only at hSw)
    go_simp
    all_goals with_reducible rfl
  simp only [Act.put,List.getElem_toArray,List.getElem_cons_zero,List.getElem_cons_succ,List.setIfInBounds_toArray,List.set_cons_zero,List.set_cons_succ];refine wpAnyH_take (i:=8) (v:=?v8) rfl (by kernel_rfl) (by kernel_rfl) (by kernel_rfl) (fun _ _ _ h=>h) (Or.inl ⟨by rfl,?hy8⟩) (by assumption) ?rest8
  case hy8=>
    intro w hSw
    (try dsimp only at hSw)
    go_simp
    all_goals with_reducible rfl
  simp only [Act.put,List.getElem_toArray,List.getElem_cons_zero,List.getElem_cons_succ,List.setIfInBounds_toArray,List.set_cons_zero,List.set_cons_succ];refine wpAnyH_take (i:=9) (v:=?v9) rfl (by kernel_rfl) (by kernel_rfl) (by kernel_rfl) (fun _ _ _ h=>h) (Or.inl ⟨by rfl,?hy9⟩) (by assumption) ?rest9
  case hy9=>
    intro w hSw
    (try dsimp only at hSw)
    go_simp
    all_goals with_reducible rfl
  simp only [Act.put,List.getElem_toArray,List.getElem_cons_zero,List.getElem_cons_succ,List.setIfInBounds_toArray,List.set_cons_zero,List.set_cons_succ];refine wpAnyH_done (by kernel_rfl) ?_ _;obtain ⟨q0,q1,q2,q3,q4⟩:=(j1.below hq3).facts;have kz3:=j3.below hq3;obtain ⟨y0,y1,y2,y3,y4⟩:=kz3.facts;have HB3:=Lib.hid (HBW.out.trans (hq3.mono HBW.out.size));rcases HPR.out with ⟨Z,zc,zs,he,hzc,hz,hfit,hlen,_⟩ | ⟨hno,he,_⟩
  · injection he with he;injection he with he;have e1:=congrArg (fun a=>a[0]?) he;have e2:=congrArg (fun a=>a[1]?) he;simp at e1 e2;subst e1 e2;have HZ:=Lib.hid hz;have HFL:=Lib.hid (And.intro hfit hlen);have HST:=Lib.hid (pstore_ok n Z zc zs _ _ hz (by rw [hz.hs.1];exact hlen) hnv HWS.out hfit);clear hz hfit hlen he p0 p1 p2 p3 p4 HPR;go_wp2_with fail;refine HST.out.mono ?_;rintro e x4 ⟨C,cc,us,rfl,hcc,hat,hbu⟩;have HAT:=Lib.hid hat;clear hat;have kz4:=kz3.below hbu;obtain ⟨g0,g1,g2,g3,g4⟩:=kz4.facts;go_wp2_with fail;refine bodyPost_ret (v:=.tuple #[.agg #[.int .i64 n,.slice C us.length cc],.int .i64 0]) (by simp [results,Tryz.results14,go_sem,g0,g1]) rfl ?_;exact .inl ⟨HFL.out,C,cc,us,rfl,hcc,HAT.out.put2 kz4.ty (by decide) (by decide) _ _,((HB3.out.trans (hbu.mono HB3.out.size)).setCell (by show w.heap.size≤w.heap.size+1+1;omega) _).setCell (by show w.heap.size≤w.heap.size+1+1;omega) _⟩
  · injection he with he;injection he with he;have e1:=congrArg (fun a=>a[0]?) he;have e2:=congrArg (fun a=>a[1]?) he;simp at e1 e2;subst e1 e2;have HNO:=Lib.hid hno;clear hno he p0 p1 p2 p3 p4 HPR;go_wp2_with fail;refine bodyPost_ret (v:=.tuple #[.agg #[.int .i64 0,.slice none 0 0],.int .i64 2]) (by simp [results,Tryz.results14,go_sem,y0,y1]) rfl ?_;exact .inr ⟨HNO.out,rfl,(HB3.out.setCell (by show w.heap.size≤w.heap.size+1+1;omega) _).setCell (by show w.heap.size≤w.heap.size+1+1;omega) _⟩
end Go.Proofs.YtgekmfcbbjeahaaGreatDoor
