/- rowHeap.Push and Pop. -/
import Derived.Test.YtgekmfcbbjeahaaGreatDoorPpR34
import Derived.Deep.RegionLaw
attribute [local go_sem ↓] Go.wp_at_zero Go.wp_at_succ
namespace Go.Proofs.YtgekmfcbbjeahaaGreatDoor
open Go.RowKit V
theorem info_ptr:(Tryz.prog.info? 194).map (fun i=>(i.zero,i.size,i.bytes))=some (some (.pointer none),1,8):=by kernel_rfl
theorem ta_row (p:Value) (w:World):(Instr.typeAssert (.iface 194 p) 20 194 false).run Tryz.prog w = .ok p w:=by kernel_rfl
structure FieldP (rb:Nat) (vl vw:Value) (w w':World) (vo vo':Value):Prop where
  blk:BlkT 185 w' rb vl vo' vw
  fr:Fr w w' rb vo.ownBlock
  own:vo'.ownBlock=vo.ownBlock ∨ ∀ q,vo'.ownBlock=some q→w.heap.size≤q
def RPushP (B rb:Nat) (vl vo vw:Value) (hp:List Nat) (g:Nat) (w:World) (e:Ending) (w':World):Prop:=
  e = .returned (.tuple #[]) ∧ ∃ vo',OwnG B w' vo' (hp ++ [g])∧FieldP rb vl vw w w' vo vo'
theorem BlkT.grown {t:TypeId} {w w':World} {g:Nat} {a b c:Value} {row:Option Nat} (h:BlkT t w g a b c) (hg:w.grownBy w' row) (hne:row≠some g):BlkT t w' g a b c:=(hg.block g h.lt (fun e=>hne e.symm)).trans h
theorem push_end {B rb g gg cap:Nat} {vl vo vw:Value} {hp:List Nat} {w w4:World} {o:Obj} (hb:BlkT 185 w rb vl vo vw) (hne:∀ q,vo.ownBlock=some q→q≠rb)
    (hown:w4.ownsRow B 194 1 (.slice (some ⟨gg,0,none⟩) (hp.length+1) cap) (hp.length+1) (hp.map PtrV ++ [.pointer (some ⟨g,0,none⟩)])) (hgrow:(w.alloc o).drew.grownBy w4 vo.ownBlock) (hat:vo.ownBlock=some gg∨gg=w.heap.size+1) :
    RPushP B rb vl vo vw hp g w (.returned (.tuple #[])) (w4.setCell ⟨rb,1,none⟩ (.slice (some ⟨gg,0,none⟩) (hp.length+1) cap)):=by
  have hgr:gg≠rb:=by
    rcases hat with h | h
    · exact hne gg h
    · have:=hb.lt;omega
  refine ⟨rfl,_,?_,(((hb.alloc o).drew).grown hgrow (fun e=>hne _ e rfl)).set1 _,?_,?_⟩
  · have h:=ownsRow_set hown (b:=rb) (fun x hx=>by simp [Value.ownBlock] at hx;omega) 1 (.slice (some ⟨gg,0,none⟩) (hp.length+1) cap);show World.ownsRow _ _ _ _ _ (hp ++ [g]).length ((hp ++ [g]).map PtrV);rw [List.length_append,List.map_append];exact h
  · refine (Fr.trans (Fr.of_below ((Below.refl _ _).alloc (Nat.le_refl _) o).drew) (Fr.of_grown hgrow)).set_ _ _
  · rcases hat with h | h
    · exact .inl h.symm
    · exact .inr fun q hq=>by simp [Value.ownBlock] at hq;omega
set_option maxRecDepth 100000 in
set_option maxHeartbeats 1600000 in
theorem prpush (B rb g:Nat) (vl vo vw:Value) (hp:List Nat) (w:World) (hb:BlkT 185 w rb vl vo vw) (ho:OwnG B w vo hp) (hB:B≤w.heap.size) (hn:hp.length≤1000000) :
    Calls Tryz.prog 273 #[.pointer (some ⟨rb,1,none⟩),.iface 194 (.pointer (some ⟨g,0,none⟩))] w (RPushP B rb vl vo vw hp g w):=by
  obtain ⟨i0,hi,hz0,hz1,hz2⟩:=info_parts info_ptr;have hne:∀ q,vo.ownBlock=some q→q≠rb:=fun q hq e=>by
    subst e;exact absurd (hb.ty.uniq (ho.ty _ hq)) (by decide)
  have HB:=Lib.hid hb;have HO:=Lib.hid ho;have HN:=Lib.hid hne;obtain ⟨k0,k1,k2,k3,k4,k5,k6⟩:=hb.facts;clear hb ho hne;have hta:=ta_row;go_enter Tryz.func273,Tryz.ntmps273;go_region_law (refine step_append_lies _ (by rfl) _ _ _ (by rfl) B 194 i0 _ 1 8 Tryz.underlying183 hi hz0 hz1 hz2 rfl (by omega) vo hp.length (hp.map PtrV) (by rfl) (World.ownsRow.alloc (HO.out) _) ⟨w.heap.size,0,none⟩ 1 1 [.pointer (some ⟨g,0,none⟩)] (by rfl) (by rfl) (World.news_of_block (cs:=#[.pointer (some ⟨g,0,none⟩)]) (t:=194) (fr:=(0,0)) (heap_alloc_new _ _)) (by simp [Value.oneCell']) (by omega) (by unfold maxLen;omega) (by omega) (by simp;omega) (w.heap.size+1) (by simp) ?_;intro gg cap w4 hown4 hgrow hat hlt4;have hb4:=((HB.out.alloc _).drew).grown hgrow (fun e=>HN.out _ e rfl);obtain ⟨j0,j1,j2,j3,j4,j5,j6⟩:=hb4.facts)
  all_goals
    try go_wp2
    go_end0;exact push_end HB.out HN.out hown4 hgrow hat
end Go.Proofs.YtgekmfcbbjeahaaGreatDoor
/- rowHeap.Pop. -/
attribute [local go_sem ↓] Go.wp_at_zero Go.wp_at_succ
namespace Go.Proofs.YtgekmfcbbjeahaaGreatDoor
open Go.RowKit V
def RPopP (B rb:Nat) (vl vo vw:Value) (hp:List Nat) (g:Nat) (w:World) (e:Ending) (w':World):Prop:=
  e = .returned (.iface 194 (.pointer (some ⟨g,0,none⟩))) ∧ ∃ vo',OwnG B w' vo' hp∧vo'.ownBlock=vo.ownBlock∧FieldP rb vl vw w w' vo vo'
set_option maxRecDepth 100000 in
set_option maxHeartbeats 1600000 in
theorem prpop (B rb g:Nat) (vl vo vw:Value) (hp:List Nat) (w:World) (hb:BlkT 185 w rb vl vo vw) (ho:OwnG B w vo (hp ++ [g])) (hn:hp.length≤1000000) :
    Calls Tryz.prog 272 #[.pointer (some ⟨rb,1,none⟩)] w (RPopP B rb vl vo vw hp g w):=by
  obtain ⟨q,c,rfl,hc,hcm,hBq,hqs⟩:=ho.ask (by simp);obtain ⟨n,hnl⟩:∃ n,hp.length=n:=⟨_,rfl⟩;have hl:(hp ++ [g]).length=n+1:=by simp [hnl]
  have hcl:=ho.cell (j:=n) (g:=g) (by rw [List.getElem?_append_right (by omega),hnl,Nat.sub_self];rfl);rw [hl] at ho hc hb ⊢;have hqr:q≠rb:=fun e=>by
    subst e;exact absurd (hb.ty.uniq (ho.ty _ rfl)) (by decide)
  have hpop:OwnG B w (.slice (some ⟨q,0,none⟩) n c) hp:=OwnG.pop ho hnl.symm;have HB:=Lib.hid hb;have HO:=Lib.hid hpop;have HQ:=Lib.hid hqr;obtain ⟨k0,k1,k2,k3,k4,k5,k6⟩:=hb.facts;rw [hnl] at hn;have HC:=Lib.hid hcm;clear hb ho hpop hl hnl hcm;have h1:((n+1:Nat):Int) - 1=(n:Int):=by omega
  have h2:((n:Int)+1) - 1=(n:Int):=by omega
  go_enter Tryz.func272,Tryz.ntmps272;go_wp2_with fail;go_ret;refine ⟨rfl,.slice (some ⟨q,0,none⟩) n c,?_,rfl,HB.out.set1 _,Fr.set_ (Fr.of_grown (grown_refl _ _)) _ _,.inl rfl⟩;exact ownsRow_set HO.out (b:=rb) (fun x hx=>by simp [Value.ownBlock] at hx;have:=HQ.out;omega) 1 _
end Go.Proofs.YtgekmfcbbjeahaaGreatDoor
/- container/heap's Push, Pop and Fix at rowHeap. -/
attribute [local go_sem ↓] Go.wp_at_zero Go.wp_at_succ
namespace Go.Proofs.YtgekmfcbbjeahaaGreatDoor
open Go.RowKit V
def HeapF (B rb:Nat) (vl vo vw:Value) (hp:List Nat) (E N:Nat→Nat) (w w':World):Prop:=
  ∃ vo' hs,hs.Perm hp∧Heap (key2 E N) hs∧HM B w' vo' hs E N∧FieldP rb vl vw w w' vo vo'
section
variable {B rb:Nat} {vl vo vw:Value} {hp:List Nat} {E N:Nat→Nat} {w w' w'':World}
theorem FieldP.blocks {vo':Value} (h:FieldP rb vl vw w w' vo vo') {g e n:Nat} (hk:RKey w g e n) (hr:g≠rb) (hv:vo.ownBlock≠some g):RKey w' g e n∧vo'.ownBlock≠some g:=by
  have hb:=h.fr.block g hk.lt hr (fun e=>hv e.symm);refine ⟨⟨(World.cell?_of_block (w:=w) hb).trans hk.c0,(World.cell?_of_block (w:=w) hb).trans hk.c5,Nat.lt_of_lt_of_le hk.lt h.fr.size⟩,fun e=>?_⟩;rcases h.own with h1 | h1
  · exact hv (h1 ▸ e)
  · have:=h1 g e;have:=hk.lt;omega
theorem FieldP.grown {q:Nat} {vo':Value} (h:FieldP rb vl vw w w' vo vo') (hq:vo'.ownBlock=some q) (hg:w'.grownBy w'' (some q)) (hne:q≠rb):FieldP rb vl vw w w'' vo vo':=
  ⟨h.blk.grown hg (fun e=>hne (by injection e)),h.fr.new (Fr.of_grown hg) (by rw [← hq];exact h.own),h.own⟩
theorem FieldP.refl (hb:BlkT 185 w rb vl vo vw):FieldP rb vl vw w w vo vo:=⟨hb,Fr.of_grown (grown_refl _ _),.inl rfl⟩
theorem FieldP.below {vo':Value} (h:FieldP rb vl vw w w' vo vo') (hb:Below w'.heap.size w' w''):FieldP rb vl vw w w'' vo vo':=⟨h.blk.below hb,h.fr.trans (Fr.of_below hb),h.own⟩
theorem FieldP.trans {vo' vo'':Value} (h:FieldP rb vl vw w w' vo vo') (k:FieldP rb vl vw w' w'' vo' vo''):FieldP rb vl vw w w'' vo vo'':=
  ⟨k.blk,h.fr.new k.fr h.own,by
    rcases k.own with k1 | k1
    · rcases h.own with h1 | h1
      · exact .inl (k1.trans h1)
      · exact .inr fun q hq=>h1 q (k1 ▸ hq)
    · exact .inr fun q hq=>Nat.le_trans h.fr.size (k1 q hq)⟩
theorem blk_ne_own {q:Nat} (hb:BlkT 185 w rb vl vo vw) (ho:OwnG B w vo hp) (hq:vo.ownBlock=some q):q≠rb:=fun e=>by
  subst e;exact absurd (hb.ty.uniq (ho.ty _ hq)) (by decide)
end
set_option maxRecDepth 100000 in
set_option maxHeartbeats 1600000 in
theorem phpush (B rb g : Nat) (vl vo vw : Value) (hp : List Nat) (E N : Nat → Nat) (w : World) (hb : BlkT 185 w rb vl vo vw) (hm : HM B w vo hp E N) (hB : B ≤ w.heap.size) (hn : hp.length ≤ 100000) (hh : Heap (key2 E N) hp)
    (hk:RKey w g (E g) (N g)) (hE:E g<18446744073709551616) (hv:vo.ownBlock≠some g) (hr:∀ x ∈ hp ++ [g],x≠rb) :
    Calls Tryz.prog 149 #[.iface 198 (.pointer (some ⟨rb,1,none⟩)),.iface 194 (.pointer (some ⟨g,0,none⟩))] w fun e w'=>e = .returned (.tuple #[])∧HeapF B rb vl vo vw (hp ++ [g]) E N w w':=by
  have N1:=nil_len;have N2:=nil_swap;have N3:=nil_push;have N4:=nil_pop;have M1:=meth_len;have M2:=meth_swap;have M3:=meth_push;have M4:=meth_pop;have HLEN:=phlen;have HU:=Lib.hid (Heap.snoc hh g);have HB:=Lib.hid hb;have HR:=Lib.hid hr;have HM0:=Lib.hid hm;have HK:=Lib.hid hk;have HV:=Lib.hid hv;have HP:=Lib.hid (prpush B rb g vl vo vw hp w hb hm.own hB (by omega));clear hh hb hr hm hk hv;go_enter Tryz.func149,Tryz.ntmps149;go_wp2_with fail;refine HP.out.mono ?_;rintro e w1 ⟨rfl,vo1,ho1,hf1⟩;obtain ⟨q,c,rfl,hc,hcm,hBq,hqs⟩:=ho1.ask (by simp);have hqr:=blk_ne_own hf1.blk ho1 rfl;obtain ⟨n,hnl⟩:∃ n,(hp ++ [g]).length=n:=⟨_,rfl⟩;rw [hnl] at ho1 hf1 hc;have hnn:n=hp.length+1:=by rw [← hnl];simp
  have hm1:HM B w1 (.slice (some ⟨q,0,none⟩) n c) (hp ++ [g]) E N:=by
    have key:∀ x ∈ hp ++ [g],RKey w x (E x) (N x)∧E x<18446744073709551616∧vo.ownBlock≠some x:=fun x hx=>by
      rcases List.mem_append.1 hx with hx | hx
      · exact ⟨HM0.out.key x hx,HM0.out.small x hx,HM0.out.far x hx⟩
      · rw [List.mem_singleton.1 hx];exact ⟨HK.out,hE,HV.out⟩
    exact ⟨ho1,fun x hx=>(hf1.blocks (key x hx).1 (HR.out x hx) (key x hx).2.2).1,fun x hx=>(key x hx).2.1,fun x hx=>(hf1.blocks (key x hx).1 (HR.out x hx) (key x hx).2.2).2⟩
  have hcell:=hf1.blk.facts.c1;have hrl:=hf1.blk.lt;have HF:=Lib.hid hf1;have HUP:=Lib.hid (phup B rb q n c hp.length (hp ++ [g]) E N w1 hm1 hcell hrl (fun e=>hqr e.symm) hnl (by omega) (by omega) HU.out);have HQR:=Lib.hid hqr;have h1:((n:Nat):Int) - 1=(hp.length:Int):=by omega
  clear hm1 hf1 ho1 hqr hnl hnn;go_wp2_with fail;refine (HLEN _ _ _ _).mono ?_;rintro e w2 ⟨rfl,rfl⟩;go_wp2_with fail;refine HUP.out.mono ?_;rintro e w2 ⟨rfl,hs,hperm,hheap,hms,hgr⟩;have HX:=Lib.hid hheap;go_wp2_with fail;go_end0;rw [List.append_nil] at hms;exact ⟨rfl,_,hs,hperm,HX.out,hms,HF.out.grown rfl hgr HQR.out⟩
end Go.Proofs.YtgekmfcbbjeahaaGreatDoor
/- container/heap's Pop and Fix at rowHeap. -/
attribute [local go_sem ↓] Go.wp_at_zero Go.wp_at_succ
namespace Go.Proofs.YtgekmfcbbjeahaaGreatDoor
open Go.RowKit V
theorem swap_last {α : Type} {f : α → Nat} {g : α} {r : List α} (h : Heap f (g :: r)) : ∃ ys, swp (g :: r) 0 r.length = ys ++ [g] ∧ ys.length = r.length ∧ ys.Perm r ∧ HeapDown f ys 0 := by
  rcases List.eq_nil_or_concat r with rfl | ⟨r0,l,rfl⟩
  · exact ⟨[],rfl,rfl,List.Perm.refl _,fun c _ h1=>by simp at h1,fun c _ h1=>by simp at h1⟩
  · rw [List.concat_eq_append] at h ⊢; have hl : (r0 ++ [l]).length = r0.length + 1 := by simp
    refine ⟨l :: r0,?_,by simp,(List.perm_append_comm (l₁:=[l]) (l₂:=r0)),fun c h0 h1 h2=>?_,fun c _ _ _ h4=>by omega⟩
    · rw [hl,swp_eq (a:=g) (b:=l) rfl (by rw [← List.cons_append,List.getElem?_append_right (by simp)];simp)];show (l :: (r0 ++ [l])).set (r0.length+1) g=_;rw [List.set_cons_succ,List.set_append_right _ _ (Nat.le_refl _),Nat.sub_self];rfl
    · have key:∀ i,0<i→i<r0.length+1→keyAt f (l :: r0) i=keyAt f (g :: (r0 ++ [l])) i:=fun i hi hl=>by
        obtain ⟨i,rfl⟩:∃ k,i=k+1:=⟨i - 1,by omega⟩;unfold keyAt;rw [List.getElem?_cons_succ,List.getElem?_cons_succ,List.getElem?_append_left (by omega)]
      have h1':c<r0.length+1:=by simpa using h1
      rw [key c h0 h1',key _ (by omega) (by omega)];exact h c h0 (by simp;omega)
set_option maxRecDepth 100000 in
set_option maxHeartbeats 1600000 in
theorem phpop (B rb g:Nat) (vl vo vw:Value) (r:List Nat) (E N:Nat→Nat) (w:World) (hb:BlkT 185 w rb vl vo vw) (hm:HM B w vo (g :: r) E N) (hn:r.length≤100000) (hh:Heap (key2 E N) (g :: r)) (hr:∀ x ∈ r,x≠rb) :
    Calls Tryz.prog 151 #[.iface 198 (.pointer (some ⟨rb,1,none⟩))] w fun e w'=>e = .returned (.iface 194 (.pointer (some ⟨g,0,none⟩)))∧HeapF B rb vl vo vw r E N w w':=by
  have N1:=nil_len;have N2:=nil_swap;have N3:=nil_push;have N4:=nil_pop;have M1:=meth_len;have M2:=meth_swap;have M3:=meth_push;have M4:=meth_pop;have HLEN:=phlen;obtain ⟨q,c,rfl,hc,hcm,hBq,hqs⟩:=hm.own.ask (by simp);have hqr:=blk_ne_own hb hm.own rfl;obtain ⟨m,hml⟩:∃ m,r.length=m:=⟨_,rfl⟩;obtain ⟨n,hnl⟩:∃ n,(g :: r).length=n:=⟨_,rfl⟩;have hnm:n=m+1:=by rw [← hnl,← hml];rfl
  rw [hnl] at hm hb hc ⊢;obtain ⟨ys,hsw,hyl,hyp,hyd⟩:=swap_last hh;rw [hml] at hsw hyl;have hcell:=hb.facts.c1;have hrl:=hb.lt;have HB:=Lib.hid hb;have HQR:=Lib.hid hqr;have HS:=Lib.hid (hm_swap hm hnl (show 0<n by omega) (show m<n by omega));have HYD:=Lib.hid hyd;have HSW:=Lib.hid hsw;have HYL:=Lib.hid hyl;have HYP:=Lib.hid hyp;have HR:=Lib.hid hr;have hmn:m≤100000:=by omega
  have HL1:=Lib.hid (show (ys ++ [g]).length=n by simp [hyl,hnm]);have h1:(n:Int) - 1=(m:Int):=by omega
  have HNM:=Lib.hid hnm;clear hh hm hb hqr hyd hsw hyl hyp hr hnl hml hn hnm;go_enter Tryz.func151,Tryz.ntmps151;go_wp2_with fail;refine (HLEN _ _ _ _).mono ?_;rintro e w1 ⟨rfl,rfl⟩;go_wp2_with fail;refine HS.out.mono ?_;rintro e w1 ⟨rfl,hm1,hg1⟩;rw [HSW.out] at hm1;have hb1:=HB.out.grown hg1 (fun e=>HQR.out (by injection e));have hcell1:=hb1.facts.c1;have HD:=Lib.hid (phdown B rb q n c m ys [g] E N w1 hm1 hcell1 hb1.lt (fun e=>HQR.out e.symm) HL1.out HYL.out (by have:=HNM.out;omega) HYD.out);have HB1:=Lib.hid hb1;have HG1:=Lib.hid hg1;clear hm1 hb1 hg1;go_wp2_with fail;refine HD.out.mono ?_;rintro e w2 ⟨b,rfl,hs,hperm,hheap,hms,hg2⟩;have HG2:=Lib.hid (grown_trans HG1.out hg2);have HX:=Lib.hid hheap;have HPM:=Lib.hid (hperm.trans HYP.out);have hb2:=HB1.out.grown hg2 (fun e=>HQR.out (by injection e));have hsl:hs.length=m:=by rw [hperm.length_eq];exact HYL.out
  have HPOP:=Lib.hid (prpop B rb g vl (.slice (some ⟨q,0,none⟩) n c) vw hs w2 hb2 hms.own (by omega));have HMS:=Lib.hid hms;have HB2:=Lib.hid hb2;clear hheap hperm hms hg2 hb2 hsl;go_wp2_with fail;refine HPOP.out.mono ?_;rintro e w3 ⟨rfl,vo3,ho3,hv3,hf3⟩;have HF:=Lib.hid hf3;have HO:=Lib.hid ho3;have HV:=Lib.hid hv3;clear hf3 ho3 hv3;go_wp2_with fail;go_ret;have hfr:FieldP rb vl vw w w2 (.slice (some ⟨q,0,none⟩) n c) (.slice (some ⟨q,0,none⟩) n c):=⟨HB2.out,Fr.of_grown HG2.out,.inl rfl⟩;refine ⟨rfl,vo3,hs,HPM.out,HX.out,⟨HO.out,fun x hx=>?_,fun x hx=>HMS.out.small x (List.mem_append.2 (.inl hx)),fun x hx=>?_⟩,hfr.trans HF.out⟩
  · exact (HF.out.blocks (HMS.out.key x (List.mem_append.2 (.inl hx))) (HR.out x (HPM.out.mem_iff.1 hx)) (HMS.out.far x (List.mem_append.2 (.inl hx)))).1
  · rw [HV.out];exact HMS.out.far x (List.mem_append.2 (.inl hx))
set_option maxRecDepth 100000 in
set_option maxHeartbeats 1600000 in
theorem phfix (B rb:Nat) (vl vo vw:Value) (hp:List Nat) (E N:Nat→Nat) (w:World) (hb:BlkT 185 w rb vl vo vw) (hm:HM B w vo hp E N) (hn:hp.length≤100000) (h0:0<hp.length) (hd:HeapDown (key2 E N) hp 0) :
    Calls Tryz.prog 152 #[.iface 198 (.pointer (some ⟨rb,1,none⟩)),.int .i64 0] w fun e w'=>e = .returned (.tuple #[])∧HeapF B rb vl vo vw hp E N w w':=by
  have N1:=nil_len;have N2:=nil_swap;have N3:=nil_push;have N4:=nil_pop;have M1:=meth_len;have M2:=meth_swap;have M3:=meth_push;have M4:=meth_pop;have HLEN:=phlen;obtain ⟨q,c,rfl,hc,hcm,hBq,hqs⟩:=hm.own.ask h0;have hqr:=blk_ne_own hb hm.own rfl;obtain ⟨n,hnl⟩:∃ n,hp.length=n:=⟨_,rfl⟩;rw [hnl] at hm hb hc hn h0 ⊢;have hcell:=hb.facts.c1;have HB:=Lib.hid hb;have HQR:=Lib.hid hqr;have HNL:=Lib.hid hnl;have HD:=Lib.hid (phdown B rb q n c n hp [] E N w (by rw [List.append_nil];exact hm) hcell hb.lt (fun e=>hqr e.symm) (by rw [List.append_nil];exact hnl) hnl (by omega) hd);clear hb hqr hnl hd hm;go_enter Tryz.func152,Tryz.ntmps152;go_wp2_with fail;refine (HLEN _ _ _ _).mono ?_;rintro e w1 ⟨rfl,rfl⟩;go_wp2_with fail;refine HD.out.mono ?_;rintro e w1 ⟨b,rfl,hs,hperm,hheap,hms,hg1⟩;rw [List.append_nil] at hms;have HG1:=Lib.hid hg1;have HX:=Lib.hid hheap;have HPM:=Lib.hid hperm;have hb1:=HB.out.grown hg1 (fun e=>HQR.out (by injection e));have hcell1:=hb1.facts.c1;have hsl:hs.length=n:=by rw [hperm.length_eq];exact HNL.out
  have HU:=Lib.hid (phup B rb q n c 0 hs E N w1 hms hcell1 hb1.lt (fun e=>HQR.out e.symm) hsl (by omega) h0 ⟨fun i h0 h1 _=>hheap i h0 h1,fun _ _ _ _ h=>by omega⟩);have HMS:=Lib.hid hms;have HB1:=Lib.hid hb1;clear hg1 hheap hperm hb1 hsl hms;cases b with
  | true =>
    go_wp2_with fail;go_end0;exact ⟨rfl,_,hs,HPM.out,HX.out,HMS.out,(FieldP.refl HB.out).grown rfl HG1.out HQR.out⟩
  | false =>
    go_wp2_with fail;refine HU.out.mono ?_;rintro e w2 ⟨rfl,hs2,hperm2,hheap2,hms2,hg2⟩;rw [List.append_nil] at hms2;have HX2:=Lib.hid hheap2;go_wp2_with fail;go_end0;exact ⟨rfl,_,hs2,hperm2.trans HPM.out,HX2.out,hms2,(FieldP.refl HB.out).grown rfl (grown_trans HG1.out hg2) HQR.out⟩
end Go.Proofs.YtgekmfcbbjeahaaGreatDoor
/- poly.newRows. -/
attribute [local go_sem ↓] Go.wp_at_zero Go.wp_at_succ
namespace Go.Proofs.YtgekmfcbbjeahaaGreatDoor
open Go.RowKit V
structure Facs (R:RF) (gs:List Nat) (P:PL):Prop where
  nodup:gs.Nodup
  fac:gs.map R.f=P
def NewP (P:PL) (w:World) (e:Ending) (w':World):Prop:=
  ∃ rb vw R gs,e = .returned (.pointer (some ⟨rb,0,none⟩))∧RM w.heap.size w' rb (.slice none 0 0) (.slice none 0 0) vw R (fun _=>0) (fun _=>0) [] [] gs [] gs∧Facs R gs P∧Below w.heap.size w w'
theorem ne_own {B rb q:Nat} {w:World} {v:Value} {hp:List Nat} (hr:HasT w rb 185) (ho:OwnG B w v hp) (hq:v.ownBlock=some q):q≠rb:=fun e=>by
  subst e;exact absurd (hr.uniq (ho.ty _ hq)) (by decide)
theorem new_at (w:World) (o:Obj) (n:Nat) (h:w.heap.size=n):(w.alloc o).heap[n]?=some o:=by
  subst h;exact heap_alloc_new w o
def RF.put (R:RF) (g:Nat) (t:TM) (f:Nat × Rat):RF:=⟨fun x=>if x=g then t else R.m x,fun x=>if x=g then f else R.f x⟩
abbrev TBox (t:TM):Obj:=.cells #[.int .u64 t.e,.bool t.c.s,.slice t.c.N t.c.ns.length t.c.nc,.slice t.c.D t.c.ds.length t.c.dc] 115
abbrev RBox (t:TM):Obj:=.cells #[.int .u64 t.e,.bool t.c.s,.slice t.c.N t.c.ns.length t.c.nc,.slice t.c.D t.c.ds.length t.c.dc,.int .i64 (0:Nat),.int .u64 (0:Nat)] 196
theorem newr_step {B rb gg cap k : Nat} {vw : Value} {R : RF} {gs : List Nat} {P : PL} {wr w4 : World} {o : Obj} {t : TM} {q : Rat}
    (hr:RM B wr rb (.slice none 0 0) (.slice none 0 0) vw R (fun _=>0) (fun _=>0) [] [] gs [] gs) (hf:Facs R gs (P.take k)) (hB:B≤wr.heap.size) (hk:P[k]?=some (t.e,q)) (hm:t.e<18446744073709551616)
    (hq:t.c.Num wr q) (l1:t.c.ns.length≤20000) (l2:t.c.ds.length≤20000)
    (hown:w4.ownsRow B 194 1 (.slice (some ⟨gg,0,none⟩) (gs.length+1) cap) (gs.length+1) (gs.map PtrV ++ [.pointer (some ⟨wr.heap.size+1,0,none⟩)]))
    (hgrow:(((wr.alloc (TBox t)).alloc (RBox t)).alloc o).drew.grownBy w4 vw.ownBlock) (hat:vw.ownBlock=some gg∨gg=wr.heap.size+3) :
    ∃ (v' : Value) (R' : RF) (gs' : List Nat), v' = .slice (some ⟨gg, 0, none⟩) (gs.length + 1) cap ∧ gs'.length = gs.length + 1 ∧ RM B (w4.setCell ⟨rb, 2, none⟩ (.slice (some ⟨gg, 0, none⟩) (gs.length + 1) cap)) rb (.slice none 0 0) (.slice none 0 0) v' R' (fun _ => 0) (fun _ => 0) [] [] gs' [] gs' ∧
      Facs R' gs' (P.take (k+1))∧Below B wr (w4.setCell ⟨rb,2,none⟩ (.slice (some ⟨gg,0,none⟩) (gs.length+1) cap)):=by
  have hvl:=hr.wa.lt;have hne:∀ q,vw.ownBlock=some q→q≠rb:=fun q h=>ne_own hr.blk.ty hr.wa h
  have hrb:=hr.blk.lt;have hgr:gg≠rb:=by
    rcases hat with h | h
    · exact hne gg h
    · omega
  have hb3:Below wr.heap.size wr (((wr.alloc (TBox t)).alloc (RBox t)).alloc o).drew:=(((Below.refl _ wr).alloc (Nat.le_refl _) _).alloc (by simp) _).alloc (by simp;omega) _ |>.drew
  have hfr:Fr wr (w4.setCell ⟨rb,2,none⟩ (.slice (some ⟨gg,0,none⟩) (gs.length+1) cap)) rb vw.ownBlock:=((Fr.of_below hb3).trans (Fr.of_grown hgrow)).set_ _ _;have hoff:=hfr.off hr.blk.ty (by decide) fun q hq=>⟨_,by decide,hr.wa.ty q hq⟩
  have hlt:∀ x ∈ gs,x<wr.heap.size:=fun x hx=>(hr.row x hx).1.lt
  have hnew:Blk6 (w4.setCell ⟨rb,2,none⟩ (.slice (some ⟨gg,0,none⟩) (gs.length+1) cap)) (wr.heap.size+1) t 0 0:=by
    have h1:Blk6 ((wr.alloc (TBox t)).alloc (RBox t)) (wr.heap.size+1) t 0 0:=by
      have:=Blk6.new (wr.alloc (TBox t)) t 0 0;rwa [show (wr.alloc (TBox t)).heap.size=wr.heap.size+1 by simp] at this
    have h2:Blk6 (((wr.alloc (TBox t)).alloc (RBox t)).alloc o).drew (wr.heap.size+1) t 0 0:=(Below.heap_alloc _ o _ h1.lt).trans h1;have h3:Blk6 w4 (wr.heap.size+1) t 0 0:=(hgrow.block _ h2.lt (fun e=>by have:=(hvl _ e.symm).2;omega)).trans h2;exact h3.far (by omega) _
  refine ⟨_,R.put (wr.heap.size+1) t (t.e,q),gs ++ [wr.heap.size+1],rfl,by simp,⟨?_,hr.rbB,OwnT.nil_ _ _,⟨rfl,fun j u h=>by simp at h⟩,OwnG.nil_ _ _,?_,fun q h=>(by cases h),?_,?_⟩,⟨?_,?_⟩,?_⟩
  · exact ((((hr.blk.alloc _).alloc _).alloc o).drew.grown hgrow (fun e=>hne _ e rfl)).set2 _
  · have h:=ownsRow_set hown (b:=rb) (fun x hx=>by simp [Value.ownBlock] at hx;omega) 2 (.slice (some ⟨gg,0,none⟩) (gs.length+1) cap);show World.ownsRow _ _ _ _ _ (gs ++ [_]).length ((gs ++ [_]).map PtrV);rw [List.length_append,List.map_append];exact h
  · intro x hx
    by_cases e:x=wr.heap.size+1
    · subst e;exact ⟨by show Blk6 _ _ (if _=_ then t else _) 0 0;rw [if_pos rfl];exact hnew,by omega⟩
    · have hx:x ∈ gs:=by
        rcases List.mem_append.1 hx with h | h
        · exact h
        · exact absurd (List.mem_singleton.1 h) e
      obtain ⟨h1,h2⟩:=hr.row x hx;refine ⟨?_,h2⟩;show Blk6 _ _ (if _=_ then t else _) 0 0;rw [if_neg e];exact h1.fr hfr (fun e=>absurd (h1.ty.uniq (by rw [e];exact hr.blk.ty)) (by decide)) (fun e=>absurd (h1.ty.uniq (hr.wa.ty x e.symm)) (by decide))
  · intro x hx
    by_cases e:x=wr.heap.size+1
    · subst e;show (if _=_ then t else _).e=(if _=_ then (t.e,q) else _).1∧(if _=_ then (t.e,q) else _).1<_∧(if _=_ then t else _).c.Num _ (if _=_ then (t.e,q) else _).2∧(if _=_ then t else _).c.ns.length≤_∧(if _=_ then t else _).c.ds.length≤_;rw [if_pos rfl,if_pos rfl];exact ⟨rfl,hm,hq.off hoff,l1,l2⟩
    · have hx:x ∈ gs:=by
        rcases List.mem_append.1 hx with h | h
        · exact h
        · exact absurd (List.mem_singleton.1 h) e
      obtain ⟨h1,h2,h3,h4⟩:=hr.num x hx;show (if _=_ then t else _).e=(if _=_ then (t.e,q) else _).1∧(if _=_ then (t.e,q) else _).1<_∧(if _=_ then t else _).c.Num _ (if _=_ then (t.e,q) else _).2∧(if _=_ then t else _).c.ns.length≤_∧(if _=_ then t else _).c.ds.length≤_;rw [if_neg e,if_neg e];exact ⟨h1,h2,h3.off hoff,h4⟩
  · refine List.nodup_append.2 ⟨hf.nodup,by simp,fun x hx y hy e=>?_⟩;have:=hlt x hx;rw [e,List.mem_singleton.1 hy] at this;omega
  · rw [List.map_append,take_snoc' hk];congr 1
    · rw [← hf.fac];exact List.map_congr_left fun x hx=>if_neg (by have:=hlt x hx;omega)
    · show [if _=_ then _ else _]=_;rw [if_pos rfl]
  · exact hfr.below hr.rbB hB fun q h=>(hvl q h).1
theorem rows_start (w:World) (R:RF):RM w.heap.size (w.alloc (.cells #[.slice none 0 0,.slice none 0 0,.slice none 0 0] 185)) w.heap.size (.slice none 0 0) (.slice none 0 0) (.slice none 0 0) R (fun _=>0) (fun _=>0) [] [] [] [] []:=
  ⟨BlkT.new _ w _ _ _,Nat.le_refl _,OwnT.nil_ _ _,⟨rfl,fun j u h=>by simp at h⟩,OwnG.nil_ _ _,OwnG.nil_ _ _,fun q h=>(by cases h),fun g h=>by simp at h,fun g h=>by simp at h⟩
set_option maxRecDepth 100000 in
set_option maxHeartbeats 1600000 in
theorem pnewrows (A : Option Addr) (c : Nat) (ts : List TM) (P : PL) (w : World) (hx : PRd w A ts P) (bx : ts.length ≤ 4000) (hw : Words P) :
    Calls Tryz.prog 107 #[.slice A ts.length c] w (NewP P w):=by
  obtain ⟨i0,hi,hz0,hz1,hz2⟩:=info_parts info_ptr;have HX:=Lib.hid hx;have HW:=Lib.hid hw;have HL:=Lib.hid hx.hs.1;clear hx hw;go_enter Tryz.func107,Tryz.ntmps107;go_wp2;go_loopw [5,9] (fun _ i wr=>∃ (k:Nat) (vw:Value) (R:RF) (gs:List Nat),k≤ts.length∧gs.length=k∧i = .int .i64 k∧Hid (RM w.heap.size wr w.heap.size (.slice none 0 0) (.slice none 0 0) vw R (fun _=>0) (fun _=>0) [] [] gs [] gs)∧Hid (Facs R gs (P.take k))∧Below w.heap.size w wr) (fun _ i _=>ts.length - (intOf i).toNat)
  case atStart=>
    exact ⟨0,.slice none 0 0,⟨fun _=>TM0,fun _=>(0,0)⟩,[],by omega,rfl,rfl,rows_start w _,⟨List.nodup_nil,rfl⟩,(Below.refl _ _).alloc (Nat.le_refl _) _⟩
  case round=>
    obtain ⟨k,vw,R,gs,hk,hgl,rfl,hrm,hfa,hbw⟩:=hrel
    by_cases hlt:k<ts.length
    · obtain ⟨ad,t,rfl,hbl,ht,hc⟩:=(HX.out.below hbw).rd.ask hlt;obtain ⟨m,q,hp,he,hr3⟩:=(HX.out.below hbw).hs.2 k t ht.out;obtain ⟨c0,c1,c2,c3⟩:=hc;obtain ⟨k0,k1,k2,k3,k4,k5,k6⟩:=hrm.out.blk.facts;have hml:m<18446744073709551616:=HW.out _ (getD_mem hp);obtain ⟨hnum,hl1,hl2⟩:=hr3;have HST:=Lib.hid (fun (gg cap:Nat) (w4:World) (o:Obj)=>newr_step (gg:=gg) (cap:=cap) (w4:=w4) (o:=o) (t:=t) (q:=q) hrm.out hfa.out (by have:=hbw.size;omega) (by rw [he];exact hp) (by rw [he];exact hml) hnum hl1 hl2);have HWA:=Lib.hid hrm.out.wa;have HNE:=Lib.hid (fun q h=>ne_own hrm.out.blk.ty hrm.out.wa (q:=q) h);have HB:=Lib.hid hrm.out.blk;have HGL:=Lib.hid hgl;have HBW:=hbw.size;clear he hp hml hnum hl1 hl2 hgl;have hgn:gs.length≤4000:=by rw [HGL.out];omega
      have n1:¬ w.heap.size=wr.heap.size:=by omega
      have n2:¬ w.heap.size=wr.heap.size+1:=by omega
      have n3:¬ w.heap.size=wr.heap.size+1+1:=by omega
      have l1:w.heap.size<wr.heap.size+1:=by omega
      have l2:w.heap.size<wr.heap.size+1+1:=by omega
      go_upto_region 5 with fail;go_region_law (refine step_append_lies _ (by rfl) _ _ _ (by rfl) w.heap.size 194 i0 _ 1 8 Tryz.underlying182 hi hz0 hz1 hz2 rfl (by omega) vw gs.length (gs.map PtrV) (by rfl) (World.ownsRow.alloc (World.ownsRow.alloc (World.ownsRow.alloc HWA.out _) _) _) ⟨wr.heap.size+1+1,0,none⟩ 1 1 [.pointer (some ⟨wr.heap.size+1,0,none⟩)] (by rfl) (by rfl) (World.news_of_block (cs:=#[.pointer (some ⟨wr.heap.size+1,0,none⟩)]) (t:=194) (fr:=(0,0)) (new_at _ _ _ (by simp))) (by simp [Value.oneCell']) (by omega) (by unfold maxLen;omega) (by omega) (by simp;omega) (wr.heap.size+3) (by simp) ?_;intro gg cap w4 hown4 hgrow hat hlt4;have hb4:=((((HB.out.alloc _).alloc _).alloc _).drew).grown hgrow (fun e=>HNE.out _ e rfl);obtain ⟨j0,j1,j2,j3,j4,j5,j6⟩:=hb4.facts)
      all_goals
        obtain ⟨v',R',gs',hv',hgl',hrm',hfa',hbw'⟩:=HST.out _ _ _ _ hown4 hgrow hat;have HR1:=Lib.hid hrm';have HF1:=Lib.hid hfa';have HG1:=Lib.hid hgl';have HB1:=Lib.hid (hbw.trans hbw');clear hrm' hfa' hgl' hbw' hv' hown4 hgrow hat hb4 j0 j1 j2 j3 j4 j5 HST HWA HNE HB n1 n2 n3 l1 l2;go_wp2_with fail;go_roundw
        case rel=>exact ⟨k+1,v',R',gs',by omega,by rw [HG1.out,HGL.out],by go_num,HR1,HF1,HB1.out⟩
        case measure=>simp [intOf];omega
    · obtain rfl:k=ts.length:=by omega
      go_wp2;go_ret;have hfa':=hfa.out;rw [List.take_of_length_le (by rw [HL.out];exact Nat.le_refl _)] at hfa';exact ⟨_,vw,R,gs,rfl,hrm.out,hfa',hbw⟩
end Go.Proofs.YtgekmfcbbjeahaaGreatDoor
