/- (rows).extend. -/
import Derived.Test.YtgekmfcbbjeahaaGreatDoorPpR35
import Derived.Deep.RegionLaw
attribute [local go_sem ↓] Go.wp_at_zero Go.wp_at_succ
namespace Go.Proofs.YtgekmfcbbjeahaaGreatDoor
open Go.RowKit V
theorem OwnG.reset {B:Nat} {w:World} {v:Value} {hp:List Nat} (h:OwnG B w v hp):∃ A0 c0,(∀ W,(Instr.slice 182 v none (some (.int .i64 0)) none).run Tryz.prog W = .ok (.slice A0 0 c0) W)∧OwnG B w (.slice A0 0 c0) []∧(Value.slice A0 0 c0).ownBlock=v.ownBlock:=by
  rcases h.2 with ⟨rfl,h0⟩ | ⟨q,c,cur,rfl,hb,h3,hc,hm,hs,_⟩
  · exact ⟨none,0,fun W=>by kernel_rfl,OwnG.nil_ _ _,rfl⟩
  · refine ⟨some ⟨q,0,none⟩,c,fun W=>?_,h.none_ rfl,rfl⟩;simp [go_sem]
theorem RM.grow {B rb:Nat} {w w':World} {vl vl' vo vw:Value} {R:RF} {K N:Nat→Nat} {ls us:List TM} {L P:PL} {gs hp wt:List Nat} (h:RM B w rb vl vo vw R K N ls L gs hp wt)
    (hown:OwnT B w' vl' (ls ++ us)) (hf:Fr w w' rb vl.ownBlock) (hblk:BlkT 185 w' rb vl' vo vw) (hu:THolds w' us P):RM B w' rb vl' vo vw R K N (ls ++ us) (L ++ P) gs hp wt:=by
  have hoff:Off w w':=hf.off h.blk.ty (by decide) fun q hq=>⟨_,by decide,h.lst.ty q hq⟩
  have hrow:∀ {b:Nat} {t:TypeId},HasT w b t→t≠185→t≠115→w'.heap[b]?=w.heap[b]?:=fun {b t} hbt h1 h2=>by
    refine hf.block b ?_ (fun e=>h1 (by subst e;exact hbt.uniq h.blk.ty)) (fun e=>h2 (hbt.uniq (h.lst.ty b e.symm)));obtain ⟨cs,f,hh⟩:=hbt;exact (Array.getElem?_eq_some_iff.1 hh).1
  refine ⟨hblk,h.rbB,hown,(h.lh.off hoff).app hu,ownsRow_block h.op fun q hq=>hrow (h.op.ty q hq) (by decide) (by decide),ownsRow_block h.wa fun q hq=>hrow (h.wa.ty q hq) (by decide) (by decide),h.sep,fun g hg=>?_,fun g hg=>?_⟩
  · obtain ⟨h1,h2⟩:=h.row g hg;exact ⟨(hrow h1.ty (by decide) (by decide)).trans h1,h2⟩
  · obtain ⟨h1,h2,h3,h4⟩:=h.num g hg;exact ⟨h1,h2,h3.off hoff,h4⟩
theorem RM.clear_ {B rb:Nat} {w:World} {vl vo vw v0:Value} {R:RF} {K N:Nat→Nat} {ls:List TM} {L:PL} {gs hp wt wt':List Nat} (h:RM B w rb vl vo vw R K N ls L gs hp wt)
    (h0:OwnG B w v0 wt') (hv:v0.ownBlock=vw.ownBlock):RM B (w.setCell ⟨rb,2,none⟩ v0) rb vl vo v0 R K N ls L gs hp wt':=by
  have hf:Fr w (w.setCell ⟨rb,2,none⟩ v0) rb none:=(Fr.of_grown (grown_refl _ _)).set_ _ _;have hoff:=hf.off h.blk.ty (by decide) (fun q hq=>by cases hq);have hrow:∀ {b:Nat} {t:TypeId},HasT w b t→t≠185→(w.setCell ⟨rb,2,none⟩ v0).heap[b]?=w.heap[b]?:=fun {b t} hbt h1=>
    Below.heap_setCell w ⟨rb,2,none⟩ v0 b (fun e=>h1 (by subst e;exact hbt.uniq h.blk.ty))
  refine ⟨h.blk.set2 v0,h.rbB,ownsRow_block h.lst fun q hq=>hrow (h.lst.ty q hq) (by decide),h.lh.off hoff,ownsRow_block h.op fun q hq=>hrow (h.op.ty q hq) (by decide),
    ownsRow_block h0 fun q hq=>hrow (h0.ty q hq) (by decide),fun q hq=>hv ▸ h.sep q hq,fun g hg=>?_,fun g hg=>?_⟩
  · obtain ⟨h1,h2⟩:=h.row g hg;exact ⟨(hrow h1.ty (by decide)).trans h1,h2⟩
  · obtain ⟨h1,h2,h3,h4⟩:=h.num g hg;exact ⟨h1,h2,h3.off hoff,h4⟩
theorem trd_news {w:World} {ad:Addr} {us:List TM} (hr:TRd w (some ad) us):(∀ j u,(flat us)[j]?=some u→w.cell? (ad.add j)=some u) ∧ ∀ u ∈ flat us,u.oneCell'=true:=by
  refine ⟨fun j u hu=>?_,fun u hu=>?_⟩
  · have hj:j<us.length*4:=by
      rw [← flat_len];exact (List.getElem?_eq_some_iff.1 hu).1
    obtain ⟨ad',e,_,hc⟩:=hr (by omega);injection e with e;subst e;have hk:j / 4<us.length:=by omega
    have ht:=hc (j / 4) us[j / 4] (List.getElem?_eq_getElem hk);have hf:=flat_get us (j / 4) us[j / 4] (j % 4) (List.getElem?_eq_getElem hk) (by omega);have hj4:j / 4*4+j % 4=j:=by omega
    rw [hj4,hu] at hf;rw [← hj4];exact ht.at_ (by omega) hf.symm
  · obtain ⟨t,_,ht⟩:=List.mem_flatMap.1 hu;simp [TM.cells] at ht;rcases ht with rfl | rfl | rfl | rfl <;> rfl
theorem RM.lrow {B rb q:Nat} {w:World} {vl vo vw:Value} {R:RF} {K N:Nat→Nat} {ls:List TM} {L:PL} {gs hp wt:List Nat} (h:RM B w rb vl vo vw R K N ls L gs hp wt) (hq:vl.ownBlock=some q):q≠rb:=fun e=>by
  subst e;exact absurd (h.blk.ty.uniq (h.lst.ty _ hq)) (by decide)
theorem OwnT.lt' {B:Nat} {w:World} {v:Value} {ts:List TM} (h:OwnT B w v ts):∀ q,v.ownBlock=some q→B≤q:=fun q hq=>(World.ownsRow.lt h q hq).1
structure ExtIn (R:RF) (K N:Nat→Nat) (L:PL) (all hp:List Nat):Prop where
  perm:hp.Perm all
  heap:Heap (key2 (fun g=>(R.f g).1) N) hp
  op:∀ g ∈ hp,∃ u,L[K g]?=some u∧N g=(R.f g).1+u.1
abbrev setN (N:Nat→Nat) (g s:Nat):Nat→Nat:=fun x=>if x=g then s else N x
section
variable {B rb:Nat} {w:World} {vl vo vw:Value} {R:RF} {K N:Nat→Nat} {ls:List TM} {L:PL} {gs hp wt all:List Nat} {g s:Nat}
theorem RM.next (hr:RM B w rb vl vo vw R K N ls L gs hp wt) (hg:g ∈ gs):RM B (w.setCell ⟨g,5,none⟩ (.int .u64 s)) rb vl vo vw R K (setN N g s) ls L gs hp wt:=
  hr.cell hg (fun x hx=>⟨rfl,if_neg hx⟩) (by
    show Blk6 _ g (R.m g) (K g) (if g=g then s else N g);rw [if_pos rfl];exact (hr.row g hg).1.set5 s)
theorem ExtIn.next (h:ExtIn R K N L all hp) (hg:g ∉ hp):ExtIn R K (setN N g s) L all hp:=
  ⟨h.perm,heap_congr h.heap (fun x hx=>by
    unfold key2;show (if x=g then s else N x)*_+_=_;rw [if_neg (show ¬ x=g from fun e=>hg (by rw [← e];exact hx))]),fun x hx=>by
    obtain ⟨u,h1,h2⟩:=h.op x hx;exact ⟨u,h1,by rw [← h2];exact if_neg (show ¬ x=g from fun e=>hg (by rw [← e];exact hx))⟩⟩
theorem ext_push (hr:RM B w rb vl vo vw R K N ls L gs hp wt) (h:ExtIn R K N L all hp) (hg:g ∈ gs) (hs:∀ x ∈ hp,x ∈ gs) (hn:hp.length≤100000) (hB:B≤w.heap.size) {u:Nat × Rat} (hu:L[K g]?=some u) (hN:N g=(R.f g).1+u.1) :
    Calls Tryz.prog 149 #[.iface 198 (.pointer (some ⟨rb,1,none⟩)),.iface 194 (.pointer (some ⟨g,0,none⟩))] w fun e w'=>e = .returned (.tuple #[]) ∧
      ∃ vo' hp',RM B w' rb vl vo' vw R K N ls L gs hp' wt∧ExtIn R K N L (all ++ [g]) hp'∧Below B w w':=by
  have hrow:=(hr.row g hg).1;have hnum:=hr.num g hg;have hk:=hrow.key;rw [hnum.1] at hk;refine (phpush B rb g vl vo vw hp (fun g=>(R.f g).1) N w hr.blk (hr.hm hs) hB hn h.heap hk hnum.2.1 (fun e=>?_) (fun x hx e=>?_)).mono ?_
  · exact absurd (hrow.ty.uniq (hr.op.ty g e)) (by decide)
  · have hxg:x ∈ gs:=by
      rcases List.mem_append.1 hx with hx | hx
      · exact hs x hx
      · rw [List.mem_singleton.1 hx];exact hg
    have:=(hr.row x hxg).1.ty;rw [e] at this;exact absurd (this.uniq hr.blk.ty) (by decide)
  · rintro e w' ⟨rfl,vo',hp',hperm,hheap,hms,hf⟩;refine ⟨rfl,vo',hp',hr.heap hf.fr hf.blk hms.own hf.own,⟨hperm.trans (h.perm.append_right [g]),hheap,fun x hx=>?_⟩,hf.fr.below hr.rbB hB fun q hq=>(hr.op.lt q hq).1⟩;rcases List.mem_append.1 (hperm.mem_iff.1 hx) with hx | hx
    · exact h.op x hx
    · rw [List.mem_singleton.1 hx];exact ⟨u,hu,hN⟩
end
theorem RM.at_ {B rb:Nat} {w:World} {vl vo vw:Value} {R:RF} {K N:Nat→Nat} {ls:List TM} {L:PL} {gs hp wt:List Nat} (hr:RM B w rb vl vo vw R K N ls L gs hp wt) {q n c:Nat} (hv:vl = .slice (some ⟨q,0,none⟩) n c) {k:Nat} {u:Nat × Rat} (hu:L[k]?=some u) :
    ∃ t:TM,t.e=u.1∧t.c.Num w u.2∧t.c.ns.length≤20000∧t.c.ds.length≤20000∧TCell w ⟨q,k*4,none⟩ t∧n=ls.length∧k<ls.length:=by
  obtain ⟨A,c',he,_,ht,_⟩:=hr.lst.form;rw [hv] at he;injection he with e1 e2 e3;subst e1;have hk:k<ls.length:=by
    rw [hr.lh.1];exact (List.getElem?_eq_some_iff.1 hu).1
  obtain ⟨ad,t,e,_,h1,h2⟩:=ht.ask hk;injection e with e;subst e;obtain ⟨m,x,h3,h4,h5,h6,h7⟩:=hr.lh.2 k t h1.out;rw [hu] at h3;injection h3 with h3;subst h3;have e4:(⟨q,0,none⟩:Addr).add (k*4)=⟨q,k*4,none⟩:=by unfold Addr.add;split <;> simp_all
  rw [e4] at h2;exact ⟨t,h4,h5,h6,h7,h2,e2,hk⟩
theorem take_fresh {wt:List Nat} (hn:wt.Nodup) {j g:Nat} (hg:wt[j]?=some g):g ∉ wt.take j:=fun h=>by
  obtain ⟨i,hi,he⟩:=List.mem_iff_getElem.1 h;rw [List.getElem_take] at he;rw [List.length_take] at hi;obtain ⟨hj,e2⟩:=List.getElem?_eq_some_iff.1 hg;have:=(List.getElem_inj hn).1 (he.trans e2.symm);omega
def ExtP (B rb:Nat) (R:RF) (K:Nat→Nat) (ls:List TM) (L:PL) (gs hp:List Nat) (w:World) (e:Ending) (w':World):Prop:=
  e = .returned (.tuple #[]) ∧ ∃ vl vo vw N,RM B w' rb vl vo vw R K N ls L gs hp []∧RowsOk R.f K N L gs hp []∧Heap (key2 (fun g=>(R.f g).1) N) hp∧Below B w w'
set_option maxRecDepth 100000 in
set_option maxHeartbeats 3200000 in
theorem pextend (B rb : Nat) (vl vo vw : Value) (R : RF) (K N : Nat → Nat) (ls us : List TM) (L P : PL) (gs hp wt : List Nat) (A : Option Addr) (c : Nat) (w : World) (hr : RM B w rb vl vo vw R K N ls L gs hp wt) (ho : RowsOk R.f K N L gs hp wt)
    (hh:Heap (key2 (fun g=>(R.f g).1) N) hp) (hx:PRd w A us P) (hA:A=none→c=0) (hu:0<us.length) (hB:B≤w.heap.size) (hls:ls.length+us.length≤10000) (hgs:gs.length≤10000) (hs:∀ g ∈ gs,∀ u ∈ L ++ P,(R.f g).1+u.1<18446744073709551616) :
    Calls Tryz.prog 108 #[.pointer (some ⟨rb,0,none⟩),.slice A us.length c] w fun e w'=>∃ hp',hp'.Perm (hp ++ wt)∧ExtP B rb R K (ls ++ us) (L ++ P) gs hp' w e w':=by
  obtain ⟨k0,k1,k2,k3,k4,k5,k6⟩:=hr.blk.facts;have HR:=Lib.hid hr;have HO:=Lib.hid ho;have HH:=Lib.hid hh;have HX:=Lib.hid hx;have HS:=Lib.hid hs;have HL:=Lib.hid hx.hs.1;obtain ⟨vlA,vlc,hvl,hvlc,_,_,hvlt⟩:=hr.lst.form;have HVL:=Lib.hid hvl;clear hr ho hh hx hs hvl;go_enter Tryz.func108,Tryz.ntmps108;obtain ⟨ad,rfl⟩:∃ ad,A=some ad:=by
    obtain ⟨ad,h,_⟩:=HX.out.rd hu;exact ⟨ad,h⟩
  obtain ⟨i0,hi,hz0,hz1,hz2⟩:=info_parts info_term;have HNW:=Lib.hid (trd_news HX.out.rd);have HNR:=Lib.hid (fun q h=>HR.out.lrow (q:=q) h);go_wp2_with (at_builtin;refine wpList_append_lies _ rfl _ _ 85 rfl B 115 i0 _ 4 64 Tryz.underlying85 hi hz0 hz1 hz2 rfl (by omega) vl ls.length (flat ls) rfl HR.out.lst ad us.length c (flat us) rfl (flat_len us) HNW.out.1 HNW.out.2 hu (by unfold maxLen;omega) (by omega) hB w.heap.size rfl ?_;intro g1 cap w1 hown1 hgrow1 hat1 hlt1;have hb1:=HR.out.blk.grown hgrow1 (fun e=>HNR.out _ e rfl);obtain ⟨m0,m1,m2,m3,m4,m5,m6⟩:=hb1.facts);obtain ⟨vl',hvl'⟩:∃ v,v=Value.slice (some ⟨g1,0,none⟩) (ls.length+us.length) cap:=⟨_,rfl⟩;have hr2:RM B (w1.setCell ⟨rb,0,none⟩ vl') rb vl' vo vw R K N (ls ++ us) (L ++ P) gs hp wt:=by
    have hgr:g1≠rb:=by
      rcases hat1 with h | h
      · exact HNR.out g1 h
      · omega
    have hfr:Fr w (w1.setCell ⟨rb,0,none⟩ vl') rb vl.ownBlock:=(Fr.of_grown hgrow1).set_ _ _;have hown2:OwnT B (w1.setCell ⟨rb,0,none⟩ vl') vl' (ls ++ us):=by
      subst hvl';have h:=ownsRow_set hown1 (b:=rb) (fun x hx=>by simp [Value.ownBlock] at hx;omega) 0 (.slice (some ⟨g1,0,none⟩) (ls.length+us.length) cap);show World.ownsRow _ _ _ _ _ (ls ++ us).length (flat (ls ++ us));rw [flat_append,List.length_append];exact h
    exact HR.out.grow hown2 hfr (hb1.set0 vl') (HX.out.hs.off (hfr.off HR.out.blk.ty (by decide) fun q hq=>⟨_,by decide,HR.out.lst.ty q hq⟩))
  have hbw2:Below B w (w1.setCell ⟨rb,0,none⟩ vl'):=((Fr.of_grown hgrow1).set_ 0 vl':Fr w _ rb vl.ownBlock).below HR.out.rbB hB fun q h=>(HR.out.lst.lt' q h)
  have HR2:=Lib.hid hr2;have HB2:=Lib.hid hbw2;clear hr2 hbw2 hown1 hgrow1 hat1 hb1;obtain ⟨vwA,vwc,hvw,hvwc,hvwm,_⟩:=HR2.out.wa.form;subst hvw;have HVS:=Lib.hid hvl';have hlw:(ls ++ us).length≤10000:=by rw [List.length_append];omega
  have hwl:wt.length≤10000:=by
    have:=HO.out.perm.length_eq;rw [List.length_append] at this;omega
  have HLW:=Lib.hid hlw;have HWL:=Lib.hid hwl;clear hlw hwl hvl';have hL:∀ W,(Builtin.len_ #[182] 3 #[.slice vwA wt.length vwc]).run Tryz.prog W = .ok (.int .i64 wt.length) W:=fun W=>by kernel_rfl
  go_wp2;rw [hL];go_wp2;rw [← HVS.out];clear hL k0 k1 k2 k3 k4 k5 m0 m1 m2 m3 m4 m5 m6 hi hz0 hz1 hz2;go_loopw [5,20] (fun _ si wr=>∃ (j:Nat) (vo':Value) (N':Nat→Nat) (hp':List Nat),si = .int .i64 j∧j≤wt.length∧Hid (RM B wr rb vl' vo' (.slice vwA wt.length vwc) R K N' (ls ++ us) (L ++ P) gs hp' wt) ∧
      Hid (ExtIn R K N' (L ++ P) (hp ++ wt.take j) hp')∧Below B w wr) (fun _ si _=>wt.length - (intOf si).toNat)
  case atStart=>exact ⟨0,vo,N,hp,rfl,by omega,HR2,⟨by rw [List.take_zero,List.append_nil],HH.out,fun g hg=>by
    obtain ⟨u,h1,h2⟩:=HO.out.op g hg;exact ⟨u,by rw [List.getElem?_append_left (List.getElem?_eq_some_iff.1 h1).1];exact h1,h2⟩⟩,HB2.out⟩
  case round=>
    obtain ⟨j,vo1,N1,hp1,rfl,hj,hrm,hin,hbw⟩:=hrel
    by_cases hlt:j<wt.length
    · obtain ⟨q,c',hvq,_⟩:=hrm.out.wa.ask (by omega);injection hvq with hvq1 hvq2 hvq3;subst hvq1;subst hvq3;obtain ⟨g,hg⟩:∃ g,wt[j]?=some g:=⟨_,List.getElem?_eq_getElem hlt⟩;have hgw:g ∈ wt:=List.mem_of_getElem? hg;have hgs2:g ∈ gs:=HO.out.perm.mem_iff.1 (List.mem_append.2 (.inr hgw));have hcell:=hrm.out.wa.cell hg;have hKg:K g=L.length:=HO.out.wa g hgw;have HGW:=Lib.hid hg;obtain ⟨c0,_,_,_,c4,c5,_,f5,_⟩:=(hrm.out.row g hgs2).1.facts;obtain ⟨t0,t1,t2,t3,t4,t5,t6⟩:=hrm.out.blk.facts;obtain ⟨u,hu0⟩:∃ u,(L ++ P)[K g]?=some u:=by
        refine ⟨_,List.getElem?_eq_getElem ?_⟩;rw [List.length_append,hKg,← HL.out];omega
      obtain ⟨t',he',_,_,_,hc',hn',hkl⟩:=hrm.out.at_ HVS.out hu0;have hsum:(R.f g).1+u.1<18446744073709551616:=HS.out g hgs2 u (List.mem_of_getElem? hu0);have hng:g ∉ hp1:=fun h=>by
        have h2:=HO.out.perm.nodup_iff.2 HO.out.nodup;have h3:=hin.out.perm.mem_iff.1 h;rcases List.mem_append.1 h3 with h3 | h3
        · exact (List.nodup_append.1 h2).2.2 g h3 g hgw rfl
        · exact take_fresh (List.nodup_append.1 h2).2.1 hg h3
      have hsub:∀ x ∈ hp1,x ∈ gs:=fun x hx=>by
        refine HO.out.perm.mem_iff.1 ?_;rcases List.mem_append.1 (hin.out.perm.mem_iff.1 hx) with h | h
        · exact List.mem_append.2 (.inl h)
        · exact List.mem_append.2 (.inr (List.mem_of_mem_take h))
      have hlen:hp1.length≤100000:=by
        have h1:=hin.out.perm.length_eq;have h2:=HO.out.perm.length_eq;rw [List.length_append,List.length_take] at h1;rw [List.length_append] at h2;omega
      have he0:(R.m g).e=(R.f g).1:=(hrm.out.num g hgs2).1;obtain ⟨x,hx⟩:∃ x,(R.m g).e=x:=⟨_,rfl⟩;obtain ⟨y,hy⟩:∃ y,t'.e=y:=⟨_,rfl⟩;obtain ⟨s,hs⟩:∃ s,x+y=s:=⟨_,rfl⟩;have hs':(R.f g).1+u.1=s:=by rw [← he0,← he',hx,hy,hs]
      obtain ⟨d0,_,_,_⟩:=hc';have hbs:=hbw.size;have HN:=Lib.hid ((hrm.out.next (s:=s) hgs2).below (Below.refl _ _).drew);have HNB:Hid (Below B w (wr.setCell ⟨g,5,none⟩ (.int .u64 s)).drew):=(hbw.setCell (hrm.out.row g hgs2).2 _).drew;have HTK:=Lib.hid (take_snoc' hg);have HXN:=Lib.hid (hin.out.next (s:=s) hng);have HPU:=Lib.hid (fun W h1 h2 h3=>ext_push (g:=g) (w:=W) (B:=B) (rb:=rb) (vl:=vl') (vo:=vo1) (vw:=.slice (some ⟨q,0,none⟩) wt.length vwc) (R:=R) (K:=K) (N:=setN N1 g s) (ls:=ls ++ us) (L:=L ++ P) (gs:=gs) (hp:=hp1) (wt:=wt) (all:=hp ++ wt.take j) h1 h2 hgs2 hsub hlen h3 hu0 (by rw [hs'];exact if_pos rfl));have HV2:=HVS.out;obtain ⟨k,hk⟩:∃ k,K g=k:=⟨_,rfl⟩;rw [hk] at c4 d0 hkl;rw [hx] at c0;rw [hy] at d0;rw [HV2] at t0;rw [hn'] at t0;have hsi:(x:Int)+(y:Int)=(s:Int):=by omega
      have hsw:IntKind.u64.wrap (s:Int)=s:=IntWalk.u64_in _ (by omega);have hke:k<100000:=by have:=HLW.out;omega
      have hk2:(k:Int)<(ls.length:Int)+(us.length:Int):=by rw [List.length_append] at hkl;omega
      clear hKg hu0 he' hsum hng hsub hlen he0 hx hy hs hs' hn' hk hg hgw HV2;go_upto_region 4 with fail;go_region;obtain ⟨W,hW⟩:∃ W,(wr.setCell ⟨g,5,none⟩ (.int .u64 s)).drew=W:=⟨_,rfl⟩;rw [hW] at HN HNB ⊢;clear hW t0 t1 t2 t3 t4 t5 c0 c4 c5 f5 d0 hcell hsi hsw;go_wp2_with fail;refine (HPU.out W HN.out HXN.out (by have:=HNB.out.size;omega)).mono ?_;rintro e w3 ⟨rfl,vo3,hp3,hr3,hx3,hb3⟩;have HR3:=Lib.hid hr3;have HX3:=Lib.hid hx3;have HB3:=Lib.hid (HNB.out.trans hb3);clear hr3 hx3 hb3;have hwl2:=HWL.out;go_wp2_with fail;go_roundw
      case rel=>exact ⟨j+1,vo3,_,hp3,by go_num,by omega,HR3,(by have h:=HX3.out;rw [List.append_assoc,← HTK.out] at h;exact h),HB3.out⟩
      case measure=>simp [intOf];omega
    · obtain rfl:j=wt.length:=by omega
      have hin':=hin.out;rw [List.take_of_length_le (Nat.le_refl _)] at hin';have HIN:=Lib.hid hin';obtain ⟨A0,c0,hsl,hv0,hvb⟩:=hrm.out.wa.reset;have HCL:=Lib.hid (hrm.out.clear_ hv0 hvb);obtain ⟨t0,t1,t2,t3,t4,t5,t6⟩:=hrm.out.blk.facts;have HBB:=Lib.hid (hbw.setCell (p:=⟨rb,2,none⟩) hrm.out.rbB (.slice A0 0 c0));clear hin' hv0 hvb;go_wp2_with fail;go_end0;refine ⟨hp1,HIN.out.perm,rfl,vl',vo1,_,N1,HCL.out,⟨HO.out.nodup,by rw [List.append_nil];exact HIN.out.perm.trans HO.out.perm,HIN.out.op,fun g h=>by simp at h⟩,HIN.out.heap,HBB.out⟩
end Go.Proofs.YtgekmfcbbjeahaaGreatDoor
/- (rows).isDone, next. -/
attribute [local go_sem ↓] Go.wp_at_zero Go.wp_at_succ
namespace Go.Proofs.YtgekmfcbbjeahaaGreatDoor
open Go.RowKit V
theorem pisdone {B rb:Nat} {vl vo vw:Value} {R:RF} {K N:Nat→Nat} {ls:List TM} {L:PL} {gs hp wt:List Nat} {w:World} (hr:RM B w rb vl vo vw R K N ls L gs hp wt) :
    Calls Tryz.prog 109 #[.pointer (some ⟨rb,0,none⟩)] w fun e w'=>e = .returned (.bool (decide (hp.length=0)))∧w=w':=by
  obtain ⟨A,c,rfl,_,_,_⟩:=hr.op.form;obtain ⟨k0,k1,k2,k3,k4,k5,k6⟩:=hr.blk.facts;clear hr;obtain ⟨b,hb⟩:∃ b,((hp.length:Int) == 0)=b:=⟨_,rfl⟩;have hbd:decide (hp.length=0)=b:=by
    rw [← hb]
    by_cases h:hp.length=0
    · simp [h]
    · rw [decide_eq_false h,beq_eq_false_iff_ne.2 (by omega)]
  rw [hbd];clear hbd;go_enter Tryz.func109,Tryz.ntmps109;go_wp2;go_ret;exact ⟨by rw [← hb];rfl,rfl⟩
theorem pnext {B rb g:Nat} {vl vo vw:Value} {R:RF} {K N:Nat→Nat} {ls:List TM} {L:PL} {gs r wt:List Nat} {w:World} (hr:RM B w rb vl vo vw R K N ls L gs (g :: r) wt) (hg:g ∈ gs) :
    Calls Tryz.prog 150 #[.pointer (some ⟨rb,0,none⟩)] w fun e w'=>e = .returned (.int .u64 (N g))∧w=w':=by
  obtain ⟨q,c,rfl,_,_,_,_⟩:=hr.op.ask (by simp);obtain ⟨k0,k1,k2,k3,k4,k5,k6⟩:=hr.blk.facts;have hcell:=hr.op.cell (j:=0) (g:=g) rfl;obtain ⟨_,_,_,_,_,c5,_,_,_⟩:=(hr.row g hg).1.facts;have h0:0<(g :: r).length:=by simp
  obtain ⟨n,hn⟩:∃ n,(g :: r).length=n:=⟨_,rfl⟩;rw [hn] at k1 h0;clear hr hn;go_enter Tryz.func150,Tryz.ntmps150;go_wp2;go_ret;exact ⟨rfl,rfl⟩
end Go.Proofs.YtgekmfcbbjeahaaGreatDoor
/- take under way: plain facts. -/
namespace Go.Proofs.YtgekmfcbbjeahaaGreatDoor
open Go.RowKit V
theorem mem_rem_of {F:Nat→Nat × Rat} {K:Nat→Nat} {L:PL} {x:Nat × Rat} {g:Nat} (hx:x ∈ (rowL (F g) L).drop (K g)):∀ {gs:List Nat},g ∈ gs→x ∈ remL F K L gs
  | [],h=>by simp at h
  | a :: r, h => by
    rcases List.mem_cons.1 h with rfl | h
    · exact List.mem_append.2 (.inl hx)
    · exact List.mem_append.2 (.inr (mem_rem_of hx h))
theorem rem_len (F : Nat → Nat × Rat) (K : Nat → Nat) {L : PL} {g : Nat} {u : Nat × Rat} (hu : L[K g]? = some u) : ∀ {gs : List Nat}, gs.Nodup → g ∈ gs → (remL F (bump K g) L gs).length + 1 = (remL F K L gs).length
  | [],_,h=>by simp at h
  | a :: r, hn, h => by
    obtain ⟨ha,hr⟩:=List.nodup_cons.1 hn;show (_ ++ _:PL).length+1=(_ ++ _:PL).length
    by_cases e:a=g
    · subst e;rw [bump_self,row_drop hu,rem_congr F (K:=bump K a) (K':=K) L (fun x hx=>bump_ne K (fun e=>ha (e ▸ hx)))];simp only [List.cons_append,List.length_append,List.length_cons]
    · have hg:g ∈ r:=by
        rcases List.mem_cons.1 h with h | h
        · exact absurd h.symm e
        · exact h
      have:=rem_len F K hu hr hg;rw [bump_ne K e,List.length_append,List.length_append];omega
structure TakeIn (F:Nat→Nat × Rat) (K:Nat→Nat) (S:Nat→Rat→Prop) (L:PL) (gs:List Nat) (m j:Nat) (K' N':Nat→Nat) (hp wt:List Nat) (c:Rat):Prop where
  rows:RowsOk F K' N' L gs hp wt
  heap:Heap (key2 (fun g=>(F g).1) N') hp
  tak:Taking F K K' L gs m c
  le:∀ x ∈ hp,N' x≤m
  sum:S j c
  len:(remL F K' L gs).length+j=(remL F K L gs).length
  zero:j=0→K'=K
section
variable {F:Nat→Nat × Rat} {K:Nat→Nat} {S:Nat→Rat→Prop} {L:PL} {gs:List Nat} {m j:Nat} {K' N':Nat→Nat} {hp hs r wt:List Nat} {c:Rat} {g:Nat} {u v:Nat × Rat}
theorem top_le (hr:RowsOk F K' N' L gs (g :: r) wt) (hh:Heap (key2 (fun g=>(F g).1) N') (g :: r)) (hs:∀ x ∈ gs,(F x).1<18446744073709551616):∀ x ∈ g :: r,N' x≤N' g:=fun x hx=>by
  obtain ⟨i,hi,he⟩:=List.mem_iff_getElem.1 hx;have h:=hh.top i hi;rw [keyAt_get (List.getElem?_eq_getElem hi),he,keyAt_get (f:=key2 _ _) (xs:=g :: r) (i:=0) (x:=g) rfl] at h;exact key2_le (E:=fun g=>(F g).1) (N:=N') (hs x (hr.mem hx)) (hs g (hr.mem (List.mem_cons_self ..))) h
theorem TakeIn.start (hr:RowsOk F K N' L gs (g :: r) wt) (hh:Heap (key2 (fun g=>(F g).1) N') (g :: r)) (hs:∀ x ∈ gs,(F x).1<18446744073709551616) (h0:S 0 0):TakeIn F K S L gs (N' g) 0 K N' (g :: r) wt 0:=
  ⟨hr,hh,Taking.start F K L gs _,top_le hr hh hs,h0,rfl,fun _=>rfl⟩
theorem TakeIn.fix (h:TakeIn F K S L gs m j K' N' (g :: r) wt c) (hd:L.Pairwise (fun a b=>b.1<a.1)) (hm:N' g=m) (hu:L[K' g]?=some u) (hv:L[K' g+1]?=some v)
    (hp:hs.Perm (g :: r)) (hh:Heap (key2 (fun g=>(F g).1) (fun x=>if x=g then (F g).1+v.1 else N' x)) hs) (hS:S (j+1) (c+(F g).2*u.2)) :
    TakeIn F K S L gs m (j+1) (bump K' g) (fun x=>if x=g then (F g).1+v.1 else N' x) hs wt (c+(F g).2*u.2):=by
  have hg:g ∈ gs:=h.rows.mem (List.mem_cons_self ..);have hum:(F g).1+u.1=m:=by
    obtain ⟨u',h1,h2⟩:=h.rows.op g (List.mem_cons_self ..);rw [hu] at h1;injection h1 with h1;rw [h1,← h2,hm]
  have:=rem_len F K' hu h.rows.nodup hg;refine ⟨(h.rows.fix (List.mem_cons_self ..) hv).reorder hp,hh,h.tak.step h.rows.nodup hg hu hum,fun x hx=>?_,hS,by have:=h.len;omega,fun e=>by omega⟩
  by_cases e:x=g
  · subst e;show (if x=x then _ else _)≤m;rw [if_pos rfl];have:=next_lt hd hu hv;omega
  · show (if x=g then _ else _)≤m;rw [if_neg e];exact h.le x (hp.mem_iff.1 hx)
theorem TakeIn.pop (h:TakeIn F K S L gs m j K' N' (g :: r) wt c) (hm:N' g=m) (hu:L[K' g]?=some u) (hv:K' g+1=L.length)
    (hp:hs.Perm r) (hh:Heap (key2 (fun g=>(F g).1) N') hs) (hS:S (j+1) (c+(F g).2*u.2)) :
    TakeIn F K S L gs m (j+1) (bump K' g) N' hs (wt ++ [g]) (c+(F g).2*u.2):=by
  have hg:g ∈ gs:=h.rows.mem (List.mem_cons_self ..);have hum:(F g).1+u.1=m:=by
    obtain ⟨u',h1,h2⟩:=h.rows.op g (List.mem_cons_self ..);rw [hu] at h1;injection h1 with h1;rw [h1,← h2,hm]
  have:=rem_len F K' hu h.rows.nodup hg;exact ⟨(h.rows.pop hv).reorder hp,hh,h.tak.step h.rows.nodup hg hu hum,fun x hx=>h.le x (List.mem_cons_of_mem _ (hp.mem_iff.1 hx)),hS,by have:=h.len;omega,fun e=>by omega⟩
structure TakeOut (F:Nat→Nat × Rat) (K:Nat→Nat) (L:PL) (gs:List Nat) (m:Nat) (K' N':Nat→Nat) (hp wt:List Nat) (c:Rat):Prop where
  rows:RowsOk F K' N' L gs hp wt
  heap:Heap (key2 (fun g=>(F g).1) N') hp
  tak:Taken F K K' L gs m c
  len:(remL F K' L gs).length<(remL F K L gs).length
theorem TakeIn.done (h:TakeIn F K S L gs m j K' N' hp wt c) (hd:L.Pairwise (fun a b=>b.1<a.1)) (hs:∀ x ∈ gs,(F x).1<18446744073709551616) (hx:∀ g r,hp=g :: r→N' g≠m) (hh:∃ y ∈ remL F K L gs,y.1=m):TakeOut F K L gs m K' N' hp wt c:=by
  have hlt:∀ x ∈ remL F K' L gs,x.1<m:=by
    cases hp with
    | nil =>
      intro x hx;rw [h.rows.done] at hx;cases hx
    | cons g r =>
      intro x hxx;have h1:=h.rows.le hd (top_le h.rows h.heap hs) x hxx;have h2:=h.le g (List.mem_cons_self ..);have h3:=hx g r rfl;omega
  refine ⟨h.rows,h.heap,h.tak.done hlt hh,?_⟩;have h1:=h.len;rcases Nat.eq_zero_or_pos j with h0 | h0
  · obtain ⟨y,hy,rfl⟩:=hh;rw [h.zero h0] at hlt;exact absurd (hlt y hy) (Nat.lt_irrefl _)
  · omega
theorem has_top (hr:RowsOk F K N' L gs (g :: r) wt):∃ y ∈ remL F K L gs,y.1=N' g:=by
  obtain ⟨u,h1,h2⟩:=hr.op g (List.mem_cons_self ..);refine ⟨((F g).1+u.1,(F g).2*u.2),mem_rem_of ?_ (hr.mem (List.mem_cons_self ..)),h2.symm⟩;rw [row_drop h1];exact List.mem_cons_self ..
end
end Go.Proofs.YtgekmfcbbjeahaaGreatDoor
/- (rows).take: what is kept, memory. -/
attribute [local go_sem ↓] Go.wp_at_zero Go.wp_at_succ
namespace Go.Proofs.YtgekmfcbbjeahaaGreatDoor
open Go.RowKit V
section
variable {B rb:Nat} {w:World} {vl vo vw:Value} {R:RF} {K N:Nat→Nat} {ls:List TM} {L:PL} {gs hp wt:List Nat}
theorem RM.box (h:RM B w rb vl vo vw R K N ls L gs hp wt) {x:Nat} (ht:HasT w x 115) (hne:vl.ownBlock≠some x) (i:Nat) (u:Value):RM B (w.setCell ⟨x,i,none⟩ u) rb vl vo vw R K N ls L gs hp wt:=by
  have hoff:Off w (w.setCell ⟨x,i,none⟩ u):=(Off.refl w).setT ht (by decide) i u;have hrow:∀ {b:Nat} {t:TypeId},HasT w b t→t≠115→(w.setCell ⟨x,i,none⟩ u).heap[b]?=w.heap[b]?:=fun {b t} hb h1=>
    Below.heap_setCell w ⟨x,i,none⟩ u b (fun e=>h1 (by subst e;exact hb.uniq ht))
  refine ⟨(hrow h.blk.ty (by decide)).trans h.blk,h.rbB,ownsRow_block h.lst fun q hq=>Below.heap_setCell w ⟨x,i,none⟩ u q (fun e=>hne (by rw [hq,e])),h.lh.off hoff,ownsRow_block h.op fun q hq=>hrow (h.op.ty q hq) (by decide),
    ownsRow_block h.wa fun q hq=>hrow (h.wa.ty q hq) (by decide),h.sep,fun y hy=>?_,fun y hy=>?_⟩
  · obtain ⟨h1,h2⟩:=h.row y hy;exact ⟨(hrow h1.ty (by decide)).trans h1,h2⟩
  · obtain ⟨h1,h2,h3,h4⟩:=h.num y hy;exact ⟨h1,h2,h3.off hoff,h4⟩
theorem RM.wait {w4:World} {g gg cap:Nat} {o:Obj} (h:RM B w rb vl vo vw R K N ls L gs hp wt) (hB:B≤w.heap.size)
    (hown:w4.ownsRow B 194 1 (.slice (some ⟨gg,0,none⟩) (wt.length+1) cap) (wt.length+1) (wt.map PtrV ++ [.pointer (some ⟨g,0,none⟩)]))
    (hgrow:(w.alloc o).grownBy w4 vw.ownBlock) (hat:vw.ownBlock=some gg∨gg=w.heap.size+1) :
    RM B (w4.setCell ⟨rb,2,none⟩ (.slice (some ⟨gg,0,none⟩) (wt.length+1) cap)) rb vl vo (.slice (some ⟨gg,0,none⟩) (wt.length+1) cap) R K N ls L gs hp (wt ++ [g])∧Below B w (w4.setCell ⟨rb,2,none⟩ (.slice (some ⟨gg,0,none⟩) (wt.length+1) cap))∧Fr w (w4.setCell ⟨rb,2,none⟩ (.slice (some ⟨gg,0,none⟩) (wt.length+1) cap)) rb vw.ownBlock:=by
  have hvl:=h.wa.lt;have hne:∀ q,vw.ownBlock=some q→q≠rb:=fun q e=>ne_own h.blk.ty h.wa e
  have hrb:=h.blk.lt;have hgr:gg≠rb:=by
    rcases hat with e | e
    · exact hne gg e
    · omega
  have hfr:Fr w (w4.setCell ⟨rb,2,none⟩ (.slice (some ⟨gg,0,none⟩) (wt.length+1) cap)) rb vw.ownBlock:=((Fr.of_below ((Below.refl _ _).alloc (Nat.le_refl _) o)).trans (Fr.of_grown hgrow)).set_ _ _;have hoff:=hfr.off h.blk.ty (by decide) fun q hq=>⟨_,by decide,h.wa.ty q hq⟩
  have hrow:∀ {b:Nat} {t:TypeId},HasT w b t→t≠185→t≠194→(w4.setCell ⟨rb,2,none⟩ (.slice (some ⟨gg,0,none⟩) (wt.length+1) cap)).heap[b]?=w.heap[b]?:=fun {b t} hbt h1 h2=>by
    refine hfr.block b ?_ (fun e=>h1 (by subst e;exact hbt.uniq h.blk.ty)) (fun e=>h2 (hbt.uniq (h.wa.ty b e.symm)));obtain ⟨cs,f,hh⟩:=hbt;exact (Array.getElem?_eq_some_iff.1 hh).1
  refine ⟨⟨((h.blk.alloc o).grown hgrow (fun e=>hne _ e rfl)).set2 _,h.rbB,ownsRow_block h.lst fun q hq=>hrow (h.lst.ty q hq) (by decide) (by decide),h.lh.off hoff,ownsRow_block h.op fun q hq=>?_,?_,fun q hq hq2=>?_,fun y hy=>?_,fun y hy=>?_⟩,hfr.below h.rbB hB (fun q hq=>(hvl q hq).1),hfr⟩
  · refine hfr.block q (h.op.lt q hq).2 (ne_own h.blk.ty h.op hq) (fun e=>h.sep q hq e.symm)
  · have hx:=ownsRow_set hown (b:=rb) (fun x hx=>by simp [Value.ownBlock] at hx;omega) 2 (.slice (some ⟨gg,0,none⟩) (wt.length+1) cap);show World.ownsRow _ _ _ _ _ (wt ++ [g]).length ((wt ++ [g]).map PtrV);rw [List.length_append,List.map_append];exact hx
  · have e:gg=q:=by simpa [Value.ownBlock] using hq2
    subst e;rcases hat with e | e
    · exact h.sep gg hq e
    · have:=(h.op.lt gg hq).2;omega
  · obtain ⟨h1,h2⟩:=h.row y hy;exact ⟨(hrow h1.ty (by decide) (by decide)).trans h1,h2⟩
  · obtain ⟨h1,h2,h3,h4⟩:=h.num y hy;exact ⟨h1,h2,h3.off hoff,h4⟩
end
structure KeepT (w w':World):Prop where
  size:w.heap.size≤w'.heap.size
  keep:∀ b t,HasT w b t→(t=115∨Plain_ t=true)→w'.heap[b]?=w.heap[b]?
theorem HasT.lt {w:World} {b:Nat} {t:TypeId} (h:HasT w b t):b<w.heap.size:=by
  obtain ⟨cs,f,h⟩:=h;exact (Array.getElem?_eq_some_iff.1 h).1
theorem HasT.of_eq {w w':World} {b:Nat} {t:TypeId} (h:HasT w b t) (e:w'.heap[b]?=w.heap[b]?):HasT w' b t:=by
  obtain ⟨cs,f,h⟩:=h;exact ⟨cs,f,e.trans h⟩
theorem KeepT.refl (w:World):KeepT w w:=⟨Nat.le_refl _,fun _ _ _ _=>rfl⟩
theorem KeepT.trans {a b c:World} (h:KeepT a b) (k:KeepT b c):KeepT a c:=
  ⟨Nat.le_trans h.size k.size,fun x t hx ht=>(k.keep x t (hx.of_eq (h.keep x t hx ht)) ht).trans (h.keep x t hx ht)⟩
theorem KeepT.of_below {w w':World} (h:Below w.heap.size w w'):KeepT w w':=⟨h.size,fun b _ hb _=>h.block b hb.lt⟩
theorem KeepT.of_fr {w w':World} {rb:Nat} {row:Option Nat} (h:Fr w w' rb row) (hr:HasT w rb 185) (hq:∀ q,row=some q→HasT w q 194):KeepT w w':=
  ⟨h.size,fun b _ hb ht=>h.block b hb.lt (fun e=>by
    subst e;obtain rfl:=hb.uniq hr;rcases ht with ht | ht
    · exact absurd ht (by decide)
    · exact absurd ht (by decide)) (fun e=>by
    obtain rfl:=hb.uniq (hq b e.symm);rcases ht with ht | ht
    · exact absurd ht (by decide)
    · exact absurd ht (by decide))⟩
theorem KeepT.set_ {w w' : World} (h : KeepT w w') {x : Nat} (hx : w.heap.size ≤ x ∨ ∃ t, HasT w' x t ∧ t ≠ 115 ∧ Plain_ t = false) (i : Nat) (u : Value) : KeepT w (w'.setCell ⟨x, i, none⟩ u) :=
  ⟨by simpa [World.setCell] using h.size, fun b t' hb ht => by
    refine (Below.heap_setCell w' ⟨x,i,none⟩ u b (fun e=>?_)).trans (h.keep b t' hb ht);have e:b=x:=e;subst e;rcases hx with hx | ⟨t,hx,hne,hp⟩
    · have:=hb.lt;omega
    · obtain rfl:=hx.uniq (hb.of_eq (h.keep b t' hb ht));rcases ht with ht | ht
      · exact hne ht
      · rw [hp] at ht;cases ht⟩
theorem KeepT.off {w w':World} (h:KeepT w w'):Off w w':=⟨h.size,fun b cs t f ht hb=>h.keep b t ⟨cs,f,hb⟩ (.inr ht)⟩
abbrev putN (w:World) (x:Nat) (r:RL):World:=((w.setCell ⟨x,1,none⟩ (.bool r.s)).setCell ⟨x,2,none⟩ (.slice r.N r.ns.length r.nc)).setCell ⟨x,3,none⟩ (.slice r.D r.ds.length r.dc)
end Go.Proofs.YtgekmfcbbjeahaaGreatDoor
