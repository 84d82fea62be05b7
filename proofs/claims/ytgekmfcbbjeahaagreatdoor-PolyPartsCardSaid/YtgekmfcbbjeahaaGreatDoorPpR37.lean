/- (rows).take. -/
import Derived.Test.YtgekmfcbbjeahaaGreatDoorPpR36
import Derived.Deep.CutBlock
attribute [local go_sem ↓] Go.wp_at_zero Go.wp_at_succ
namespace Go.Proofs.YtgekmfcbbjeahaaGreatDoor
open Go.RowKit V
theorem quiet_n {f:FuncId} {args:Array Value} {w:World} (n:Nat) {v:Value} (h:Calls Tryz.prog f args (w.drewN n) fun e w'=>e = .returned v∧w.drewN n=w') :
    Calls Tryz.prog f args (w.drewN n) fun e w''=>e = .returned v ∧ ∃ m,w''=w.drewN m:=
  h.mono fun _ _ ⟨he,hm⟩=>⟨he,n,hm.symm⟩
structure SumOk (R:RF) (S:Nat→Rat→Prop) (T:Nat) (L:PL) (gs:List Nat):Prop where
  mul:∀ g ∈ gs,∀ u ∈ L,MulOk (R.f g).2 u.2
  add:∀ j x,j<T→S j x → ∀ g ∈ gs,∀ u ∈ L,AddOk x ((R.f g).2*u.2)∧S (j+1) (x+(R.f g).2*u.2)
  zero:S 0 0
  word:∀ g ∈ gs,∀ u ∈ L,(R.f g).1+u.1<18446744073709551616
structure TakeM (B rb tb rB:Nat) (vl:Value) (R:RF) (K:Nat→Nat) (S:Nat→Rat→Prop) (ls:List TM) (L:PL) (gs:List Nat) (m j:Nat) (K' N':Nat→Nat) (vo' vw':Value) (hp' wt':List Nat) (a:RL) (c:Rat) (w0 wr:World):Prop where
  rm:RM B wr rb vl vo' vw' R K' N' ls L gs hp' wt'
  tin:TakeIn R.f K S L gs m j K' N' hp' wt' c
  box:Blk4 115 wr tb (.int .u64 m) (.bool a.s) (.slice a.N a.ns.length a.nc) (.slice a.D a.ds.length a.dc)
  res:Blk4 115 wr rB (.int .u64 0) (.bool false) (.slice none 0 0) (.slice none 0 0)
  num:a.Num wr c
  l1:a.ns.length≤20000
  l2:a.ds.length≤20000
  kt:KeepT w0 wr
def TakeW (B rb : Nat) (vl : Value) (R : RF) (K : Nat → Nat) (ls : List TM) (L : PL) (gs : List Nat) (w : World) (e : Ending) (w' : World) : Prop :=
  ∃ (t : TM) (c : Rat) (K' N' : Nat → Nat) (vo' vw' : Value) (hp' wt' : List Nat), e = .returned (.agg #[.int .u64 t.e, .bool t.c.s, .slice t.c.N t.c.ns.length t.c.nc, .slice t.c.D t.c.ds.length t.c.dc]) ∧ t.c.Num w' c ∧ t.c.ns.length ≤ 20000 ∧ t.c.ds.length ≤ 20000 ∧
    RM B w' rb vl vo' vw' R K' N' ls L gs hp' wt'∧TakeOut R.f K L gs t.e K' N' hp' wt' c∧Below B w w'∧KeepT w w'
def TkC (W:World) (rb g lq tb k:Nat) (vl:Value) (f t a:RL):Prop:=
  W.cell? ⟨rb,0,none⟩=some vl∧W.cell? ⟨g,1,none⟩=some (.bool f.s)∧W.cell? ⟨g,2,none⟩=some (.slice f.N f.ns.length f.nc)∧W.cell? ⟨g,3,none⟩=some (.slice f.D f.ds.length f.dc)∧W.cell? ⟨g,4,none⟩=some (.int .i64 k) ∧
  W.cell? ⟨lq,k*4+1,none⟩=some (.bool t.s)∧W.cell? ⟨lq,k*4+2,none⟩=some (.slice t.N t.ns.length t.nc)∧W.cell? ⟨lq,k*4+3,none⟩=some (.slice t.D t.ds.length t.dc) ∧
  W.cell? ⟨tb,1,none⟩=some (.bool a.s)∧W.cell? ⟨tb,2,none⟩=some (.slice a.N a.ns.length a.nc)∧W.cell? ⟨tb,3,none⟩=some (.slice a.D a.ds.length a.dc)
theorem TkC.below {W W':World} {rb g lq tb k:Nat} {vl:Value} {f t a:RL} (h:TkC W rb g lq tb k vl f t a) (hb:Below W.heap.size W W'):TkC W' rb g lq tb k vl f t a:=by
  have key:∀ {p:Addr} {v:Value},W.cell? p=some v→W'.cell? p=some v:=fun {p v} e=>(hb.cell (World.block_lt_of_cell? W p e)).trans e
  obtain ⟨h1,h2,h3,h4,h5,h6,h7,h8,h9,h10,h11⟩:=h;exact ⟨key h1,key h2,key h3,key h4,key h5,key h6,key h7,key h8,key h9,key h10,key h11⟩
theorem TakeM.below {B rb tb rB:Nat} {vl:Value} {R:RF} {K:Nat→Nat} {S:Nat→Rat→Prop} {ls:List TM} {L:PL} {gs:List Nat} {m j:Nat} {K' N':Nat→Nat} {vo' vw':Value} {hp' wt':List Nat} {a:RL} {c:Rat} {w0 w wr:World}
    (hM:TakeM B rb tb rB vl R K S ls L gs m j K' N' vo' vw' hp' wt' a c w0 w) (hb:Below w.heap.size w wr):TakeM B rb tb rB vl R K S ls L gs m j K' N' vo' vw' hp' wt' a c w0 wr:=
  ⟨hM.rm.below hb,hM.tin,hM.box.below hb,hM.res.below hb,hM.num.below hb,hM.l1,hM.l2,hM.kt.trans (KeepT.of_below hb)⟩
theorem OwnT.ask_ {B:Nat} {w:World} {v:Value} {ts:List TM} (h:OwnT B w v ts) (hn:0<ts.length):∃ q c,v = .slice (some ⟨q,0,none⟩) ts.length c∧q<w.heap.size:=by
  rcases h.2 with ⟨_,h0⟩ | ⟨g,cap,cur,rfl,hb,h3,hc,hm,_⟩
  · omega
  · exact ⟨g,cap,rfl,(World.ownsRow.lt h g rfl).2⟩
theorem tk_cells {B rb tb rB lq n lc:Nat} {R:RF} {K:Nat→Nat} {S:Nat→Rat→Prop} {ls:List TM} {L:PL} {gs:List Nat} {m j:Nat} {K' N':Nat→Nat} {vo' vw':Value} {hp' wt':List Nat} {a:RL} {c:Rat} {w0 w:World} {g:Nat} {u:Nat × Rat}
    (hM:TakeM B rb tb rB (.slice (some ⟨lq,0,none⟩) n lc) R K S ls L gs m j K' N' vo' vw' hp' wt' a c w0 w) (hg:g ∈ gs) (hu:L[K' g]?=some u) :
    ∃ t:TM,t.c.Num w u.2∧TkC w rb g lq tb (K' g) (.slice (some ⟨lq,0,none⟩) n lc) (R.m g).c t.c a:=by
  obtain ⟨t,h1,h2,h3,h4,h5,_,_⟩:=hM.rm.at_ rfl hu;obtain ⟨c0,c1,c2,c3,c4,c5,_,_,_⟩:=(hM.rm.row g hg).1.facts;have b:=hM.box.facts;exact ⟨t,h2,hM.rm.blk.facts.c0,c1,c2,c3,c4,h5.c1,h5.c2,h5.c3,b.c1,b.c2,b.c3⟩
theorem Blk4.fr {t:TypeId} {w w':World} {g rb:Nat} {row:Option Nat} {a b c d:Value} (h:Blk4 t w g a b c d) (hf:Fr w w' rb row) (h1:g≠rb) (h2:row≠some g):Blk4 t w' g a b c d:=(hf.block g h.lt h1 (fun e=>h2 e.symm)).trans h
theorem Blk4.far_ {t:TypeId} {w:World} {g x i:Nat} {a b c d:Value} (h:Blk4 t w g a b c d) (hp:g≠x) (u:Value):Blk4 t (w.setCell ⟨x,i,none⟩ u) g a b c d:=(Below.heap_setCell w ⟨x,i,none⟩ u g hp).trans h
structure TkMid (B rb tb rB:Nat) (vl vo vw:Value) (R:RF) (K N:Nat→Nat) (ls:List TM) (L:PL) (gs hp wt:List Nat) (m:Nat) (s:RL) (c:Rat) (w0 w:World):Prop where
  rm:RM B w rb vl vo vw R K N ls L gs hp wt
  box:Blk4 115 w tb (.int .u64 m) (.bool s.s) (.slice s.N s.ns.length s.nc) (.slice s.D s.ds.length s.dc)
  res:Blk4 115 w rB (.int .u64 0) (.bool false) (.slice none 0 0) (.slice none 0 0)
  num:s.Num w c
  kt:KeepT w0 w
section
variable {B rb tb rB:Nat} {vl vo vw:Value} {R:RF} {K N:Nat→Nat} {ls:List TM} {L:PL} {gs hp wt:List Nat} {m:Nat} {s:RL} {c:Rat} {w0 w w':World}
theorem TkMid.fr (h:TkMid B rb tb rB vl vo vw R K N ls L gs hp wt m s c w0 w) {row:Option Nat} (hf:Fr w w' rb row) (hrow:∀ q,row=some q→HasT w q 194) {vo' vw':Value} {K' N':Nat→Nat} {hp' wt':List Nat} (hr:RM B w' rb vl vo' vw' R K' N' ls L gs hp' wt'):TkMid B rb tb rB vl vo' vw' R K' N' ls L gs hp' wt' m s c w0 w':=by
  have hoff:=hf.off h.rm.blk.ty (by decide) fun q hq=>⟨_,by decide,hrow q hq⟩
  have h1:∀ {x:Nat},HasT w x 115→x≠rb:=fun {x} ht e=>by
    subst e;exact absurd (ht.uniq h.rm.blk.ty) (by decide)
  have h2:∀ {x:Nat},HasT w x 115→row≠some x:=fun {x} ht e=>absurd (ht.uniq (hrow x e)) (by decide)
  exact ⟨hr,h.box.fr hf (h1 h.box.ty) (h2 h.box.ty),h.res.fr hf (h1 h.res.ty) (h2 h.res.ty),h.num.off hoff,h.kt.trans (KeepT.of_fr hf h.rm.blk.ty hrow)⟩
theorem TkMid.below (h:TkMid B rb tb rB vl vo vw R K N ls L gs hp wt m s c w0 w) (hb:Below w.heap.size w w'):TkMid B rb tb rB vl vo vw R K N ls L gs hp wt m s c w0 w':=⟨h.rm.below hb,h.box.below hb,h.res.below hb,h.num.below hb,h.kt.trans (KeepT.of_below hb)⟩
theorem TkMid.cell (h:TkMid B rb tb rB vl vo vw R K N ls L gs hp wt m s c w0 w) {g i:Nat} {u:Value} (hg:g ∈ gs) {K' N':Nat→Nat} (hr:RM B (w.setCell ⟨g,i,none⟩ u) rb vl vo vw R K' N' ls L gs hp wt):TkMid B rb tb rB vl vo vw R K' N' ls L gs hp wt m s c w0 (w.setCell ⟨g,i,none⟩ u):=by
  have ht:=(h.rm.row g hg).1.ty;have h1:∀ {x:Nat},HasT w x 115→x≠g:=fun {x} hx e=>by
    subst e;exact absurd (hx.uniq ht) (by decide)
  exact ⟨hr,h.box.far_ (h1 h.box.ty) u,h.res.far_ (h1 h.res.ty) u,h.num.off ((Off.refl w).setT ht (by decide) i u),h.kt.set_ (.inr ⟨_,ht,by decide,by decide⟩) i u⟩
end
theorem tk_put {B rb tb rB:Nat} {vl:Value} {R:RF} {K:Nat→Nat} {S:Nat→Rat→Prop} {ls:List TM} {L:PL} {gs:List Nat} {m j:Nat} {K' N':Nat→Nat} {vo' vw':Value} {hp' wt':List Nat} {a s:RL} {c c':Rat} {w0 w:World}
    (hM:TakeM B rb tb rB vl R K S ls L gs m j K' N' vo' vw' hp' wt' a c w0 w) (hv:vl.ownBlock≠some tb) (hne:rB≠tb) (h0:w0.heap.size≤tb) (hs:s.Num w c'):TkMid B rb tb rB vl vo' vw' R K' N' ls L gs hp' wt' m s c' w0 (putN w tb s):=by
  have ht:=hM.box.ty;refine ⟨((hM.rm.box ht hv _ _).box (ht.set_ _ _ _) hv _ _).box ((ht.set_ _ _ _).set_ _ _ _) hv _ _,?_,((hM.res.far_ hne _).far_ hne _).far_ hne _,hs.off ((((Off.refl w).setT ht (by decide) _ _).setT (ht.set_ _ _ _) (by decide) _ _).setT ((ht.set_ _ _ _).set_ _ _ _) (by decide) _ _),((hM.kt.set_ (.inl h0) _ _).set_ (.inl h0) _ _).set_ (.inl h0) _ _⟩;have hb:=hM.box;unfold Blk4 at hb ⊢;simp [putN,World.setCell,Array.getElem?_modify,hb]
theorem RM.inc {B rb:Nat} {w:World} {vl vo vw:Value} {R:RF} {K N:Nat→Nat} {ls:List TM} {L:PL} {gs hp wt:List Nat} (hr:RM B w rb vl vo vw R K N ls L gs hp wt) {g:Nat} (hg:g ∈ gs) {k:Nat} (hk:K g=k) :
    RM B (w.setCell ⟨g,4,none⟩ (.int .i64 ((k:Int)+1))) rb vl vo vw R (bump K g) N ls L gs hp wt:=
  hr.cell hg (fun x hx=>⟨bump_ne K hx,rfl⟩) (by
    have h:=(hr.row g hg).1.set4 (k+1);rw [bump_self,hk];have e:((k+1:Nat):Int)=(k:Int)+1:=by omega
    rw [e] at h;exact h)
theorem below_putN {B x:Nat} {a w:World} (h:Below B a w) (hx:B≤x) (r:RL):Below B a (putN w x r):=((h.setCell (p:=⟨x,1,none⟩) hx _).setCell (p:=⟨x,2,none⟩) hx _).setCell (p:=⟨x,3,none⟩) hx _
theorem put4o_blk {w:World} {g m:Nat} {r:RL} {a b c d:Value} (h:Blk4 115 w g a b c d):Blk4 115 (put4o w g m r) g (.int .u64 m) (.bool r.s) (.slice r.N r.ns.length r.nc) (.slice r.D r.ds.length r.dc):=by
  unfold Blk4 at h ⊢;simp [put4o,World.setCell,Array.getElem?_modify,h]
theorem RM.box4 {B rb:Nat} {w:World} {vl vo vw:Value} {R:RF} {K N:Nat→Nat} {ls:List TM} {L:PL} {gs hp wt:List Nat} (h:RM B w rb vl vo vw R K N ls L gs hp wt) {x:Nat} (ht:HasT w x 115) (hne:vl.ownBlock≠some x) (m:Nat) (r:RL):RM B (put4o w x m r) rb vl vo vw R K N ls L gs hp wt:=
  (((h.box ht hne _ _).box (ht.set_ _ _ _) hne _ _).box ((ht.set_ _ _ _).set_ _ _ _) hne _ _).box (((ht.set_ _ _ _).set_ _ _ _).set_ _ _ _) hne _ _
theorem tk_end {B rb tb rB:Nat} {vl:Value} {R:RF} {K:Nat→Nat} {S:Nat→Rat→Prop} {ls:List TM} {L:PL} {gs:List Nat} {m j:Nat} {K' N':Nat→Nat} {vo' vw':Value} {hp' wt':List Nat} {a:RL} {c:Rat} {w wr:World}
    (hM:TakeM B rb tb rB vl R K S ls L gs m j K' N' vo' vw' hp' wt' a c w wr) (ho:TakeOut R.f K L gs m K' N' hp' wt' c) (hb:Below B w wr) (hv:vl.ownBlock≠some rB) (hB:B≤rB) (h0:w.heap.size≤rB) (n:Nat) :
    Blk4 115 (put4o (wr.drewN n) rB m a) rB (.int .u64 m) (.bool a.s) (.slice a.N a.ns.length a.nc) (.slice a.D a.ds.length a.dc) ∧
    TakeW B rb vl R K ls L gs w (.returned (.agg #[.int .u64 m,.bool a.s,.slice a.N a.ns.length a.nc,.slice a.D a.ds.length a.dc])) (put4o (wr.drewN n) rB m a):=by
  have hd:Below wr.heap.size wr (wr.drewN n):=below_drew_ (Below.refl _ _) n;have hr:=hM.res.below hd;exact ⟨put4o_blk hr,⟨m,a⟩,c,K',N',vo',vw',hp',wt',rfl,(hM.num.below hd).off (off_put4o hr.ty),hM.l1,hM.l2,(hM.rm.below hd).box4 hr.ty hv m a,ho,below_put4o (below_drew_ hb n) hB m a,((((hM.kt.trans (KeepT.of_below hd)).set_ (.inl h0) _ _).set_ (.inl h0) _ _).set_ (.inl h0) _ _).set_ (.inl h0) _ _⟩
set_option maxRecDepth 100000 in
set_option maxHeartbeats 6400000 in
theorem ptake (B rb g0 : Nat) (vl vo vw : Value) (R : RF) (K N : Nat → Nat) (ls : List TM) (L : PL) (gs r0 wt : List Nat) (S : Nat → Rat → Prop) (T : Nat) (w : World) (hr : RM B w rb vl vo vw R K N ls L gs (g0 :: r0) wt) (ho : RowsOk R.f K N L gs (g0 :: r0) wt)
    (hh:Heap (key2 (fun g=>(R.f g).1) N) (g0 :: r0)) (hd:L.Pairwise (fun a b=>b.1<a.1)) (hS:SumOk R S T L gs) (hT:(remL R.f K L gs).length≤T) (hB:B≤w.heap.size) (bg:gs.length≤10000) (bl:ls.length≤10000) :
    Calls Tryz.prog 110 #[.pointer (some ⟨rb,0,none⟩)] w (TakeW B rb vl R K ls L gs w):=by
  have hg0:g0 ∈ gs:=ho.mem (List.mem_cons_self ..);have hword:∀ x ∈ gs,(R.f x).1<18446744073709551616:=fun x hx=>(hr.num x hx).2.1
  have HHAS:=Lib.hid (has_top ho);have HHAS_:=ho;obtain ⟨m,hm⟩:∃ m,N g0=m:=⟨_,rfl⟩;have hTI:=TakeIn.start ho hh hword hS.zero;rw [hm] at hTI HHAS;have HR:=Lib.hid (hr.below ((Below.refl _ _).alloc (Nat.le_refl _) (.cells #[.int .u64 0,.bool false,.slice none 0 0,.slice none 0 0] 115)));have HN:=Lib.hid (pnext HR.out hg0);rw [hm] at HN;have HR0:=Lib.hid hr;have HTI:=Lib.hid hTI;have HS:=Lib.hid hS;have HD:=Lib.hid hd;have HT:=Lib.hid hT;have HW:=Lib.hid hword;have hlen:0<ls.length:=by
    obtain ⟨u,h1,_⟩:=HHAS_.op g0 (List.mem_cons_self ..);have:=(List.getElem?_eq_some_iff.1 h1).1;have:=hr.lh.1;omega
  obtain ⟨lq,lc,hvle,hlq⟩:=hr.lst.ask_ hlen;have hvl:∀ q,vl.ownBlock=some q→q<w.heap.size:=fun q h=>(World.ownsRow.lt hr.lst q h).2
  have HVL:=Lib.hid hvl;have hrl:=hr.blk.lt;clear hr ho hh hd hS hT hTI hword hm hg0 hvl HHAS_;subst hvle;go_enter Tryz.func110,Tryz.ntmps110;go_wp2_with fail;refine HN.out.mono ?_;rintro e w1 ⟨rfl,hw1⟩;subst hw1;go_wp2_with fail;go_loopg [4] ((remL R.f K L gs).length) (fun gh _ wr=>∃ (j:Nat) (K' N':Nat→Nat) (vo' vw':Value) (hp' wt':List Nat) (a:RL) (c:Rat),(remL R.f K' L gs).length=gh∧Hid (TakeM B rb (w.heap.size+1) w.heap.size (.slice (some ⟨lq,0,none⟩) ls.length lc) R K S ls L gs m j K' N' vo' vw' hp' wt' a c w wr)∧Below B w wr)
  case atStart=>
    refine ⟨0,K,N,vo,vw,_,wt,⟨false,none,0,[],none,0,[]⟩,0,rfl,⟨HR.out.below ((Below.refl _ _).alloc (Nat.le_refl _) _),HTI.out,?_,(Blk4.new _ w _ _ _ _).alloc _,⟨Rw.nil_,Rw.nil_,⟨fun _ h=>by simp at h,fun h=>by simp at h⟩,⟨fun _ h=>by simp at h,fun h=>by simp at h⟩,Nat.le_refl _,Nat.le_refl _,.inl ⟨rfl,rfl,rfl,rfl⟩⟩,by simp,by simp,KeepT.of_below (((Below.refl _ _).alloc (Nat.le_refl _) _).alloc (by simp) _)⟩,((Below.refl _ _).alloc hB _).alloc (by simp;omega) _⟩;have:=Blk4.new 115 (w.alloc (.cells #[.int .u64 0,.bool false,.slice none 0 0,.slice none 0 0] 115)) (.int .u64 m) (.bool false) (.slice none 0 0) (.slice none 0 0);rwa [show (w.alloc (.cells #[.int .u64 0,.bool false,.slice none 0 0,.slice none 0 0] 115)).heap.size=w.heap.size+1 by simp] at this
  case round=>
    obtain ⟨j,K1,N1,vo1,vw1,hp1,wt1,a,c,hgh,hM,hbw⟩:=hrel;have HG:=Lib.hid hgh;clear hgh;cases hp1 with
    | nil =>
      have HI:=Lib.hid (fun n=>quiet_n n (pisdone (hM.out.rm.below (below_drew_ (Below.refl _ wr) n))));have hnil:decide (([]:List Nat).length=0)=true:=rfl;rw [hnil] at HI;clear hnil;go_upto_region 2 with fail;go_quiet ((go_at_call 109;exact HI.out _));have HE:=Lib.hid (tk_end hM.out (hM.out.tin.done HD.out HW.out (fun g' r' e=>by cases e) HHAS.out) hbw (fun e=>Nat.lt_irrefl _ (HVL.out _ e)) hB (Nat.le_refl _) nq);obtain ⟨b0,b1,b2,b3,b4,b5,b6,b7,b8⟩:=hM.out.box.facts;obtain ⟨z0,z1,z2,z3,z4,z5,z6,z7,z8⟩:=hM.out.res.facts;go_wp2_with fail;exact bodyPost_ret (v:=.agg #[.int .u64 m,.bool a.s,.slice a.N a.ns.length a.nc,.slice a.D a.ds.length a.dc]) (results_cell_row (fn:=Tryz.f110) rfl _ _ _ 115 _ (0,0) _ rfl HE.out.1 Tryz.underlying115 rfl (by kernel_rfl)) rfl HE.out.2
    | cons g r =>
      have hg:g ∈ gs:=hM.out.tin.rows.mem (List.mem_cons_self ..);have HI:=Lib.hid (fun n=>quiet_n n (pisdone (hM.out.rm.below (below_drew_ (Below.refl _ wr) n))));have HX:=Lib.hid (fun n=>quiet_n n (pnext (hM.out.rm.below (below_drew_ (Below.refl _ wr) n)) hg));obtain ⟨b0,b1,b2,b3,b4⟩:=hM.out.box.facts;obtain ⟨x,hx⟩:∃ x,N1 g=x:=⟨_,rfl⟩;rw [hx] at HX;have HNX:=Lib.hid hx;clear hx;have hnil:decide ((g :: r).length=0)=false:=rfl;rw [hnil] at HI;clear hnil
      by_cases hxm:x=m
      · subst hxm; have hxe : ((x : Int) == (x : Int)) = true := by simp
        obtain ⟨u,hu,hNu⟩:=hM.out.tin.rows.op g (List.mem_cons_self ..);obtain ⟨q,vc,hvo,_,_,_,_⟩:=hM.out.rm.op.ask (by simp);subst hvo;have hcell:=hM.out.rm.op.cell (j:=0) (g:=g) rfl;obtain ⟨t0,t1,t2,t3,t4,t5,t6⟩:=hM.out.rm.blk.facts;obtain ⟨n,hn⟩:∃ n,(g :: r).length=n:=⟨_,rfl⟩;have hn0:0<n:=by rw [← hn];simp
        rw [hn] at t1;go_upto_region 2 with fail;go_quiet (first
          | (go_at_call 109;exact HI.out _)
          | (go_at_call 150;exact HX.out _))
        go_upto_region 4 with fail;have hbd:Below wr.heap.size wr (wr.drewN nq):=below_drew_ (Below.refl _ _) nq;have hM0:=Lib.hid (hM.out.below hbd);have hbw0:=below_drew_ hbw nq;obtain ⟨w0,hw0⟩:∃ x,wr.drewN nq=x:=⟨_,rfl⟩;rw [hw0] at hM0 hbw0 ⊢;clear hbd hw0 t0 t1 t2 t3 t4 t5 b0 b1 b2 b3 b4 hcell HI HX hxe;obtain ⟨t,hnu,hcs⟩:=tk_cells hM0.out hg hu;have hkl:K1 g<ls.length:=(hM0.out.rm.at_ rfl hu).choose_spec.2.2.2.2.2.2;have HMUL:=Lib.hid (HS.out.mul g hg u (List.mem_of_getElem? hu));have HADD:=Lib.hid (HS.out.add j c (by
          have h1:=hM.out.tin.len;have h2:=rem_len R.f K1 hu hM.out.tin.rows.nodup hg;have h3:=HT.out;omega) hM.out.tin.sum g hg u (List.mem_of_getElem? hu))
        have hnf:=(hM0.out.rm.num g hg).2.2.1;have hna:=hM0.out.num;have HCS:=Lib.hid hcs;have HKB:=Lib.hid (show K1 g<100000 by omega);obtain ⟨k,hk⟩:∃ k,K1 g=k:=⟨_,rfl⟩;rw [hk] at HCS hkl HKB;have HK:=Lib.hid hk;have HU:=Lib.hid hu;have HNU:=Lib.hid hNu;have HN2:=Lib.hid hn;clear hcs hk hu hNu hn;refine wp_region_last 21 (S:=fun w'=>w'.cell? ⟨rb,0,none⟩=some (.slice (some ⟨lq,0,none⟩) ls.length lc)∧w'.cell? ⟨g,1,none⟩=some (.bool (R.m g).c.s)∧w'.cell? ⟨g,2,none⟩=some (.slice (R.m g).c.N (R.m g).c.ns.length (R.m g).c.nc)∧w'.cell? ⟨g,3,none⟩=some (.slice (R.m g).c.D (R.m g).c.ds.length (R.m g).c.dc)∧w'.cell? ⟨g,4,none⟩=some (.int .i64 k)∧w'.cell? ⟨lq,k*4+1,none⟩=some (.bool t.c.s)∧w'.cell? ⟨lq,k*4+2,none⟩=some (.slice t.c.N t.c.ns.length t.c.nc)∧w'.cell? ⟨lq,k*4+3,none⟩=some (.slice t.c.D t.c.ds.length t.c.dc)∧w'.cell? ⟨w.heap.size+1,1,none⟩=some (.bool a.s)∧w'.cell? ⟨w.heap.size+1,2,none⟩=some (.slice a.N a.ns.length a.nc)∧w'.cell? ⟨w.heap.size+1,3,none⟩=some (.slice a.D a.ds.length a.dc)) (by kernel_rfl) ?_ (fun hHeld=>?_)
        · exact HCS.out
        refine wpAnyL_take (i:=0) (v:=?v0L1) rfl (by kernel_rfl) (by kernel_rfl) (by kernel_rfl) (fun _ _ _ h=>h) (by kernel_rfl) (by kernel_rfl) (Or.inl ⟨by rfl,?hy0L1⟩) (by assumption) ?rest0L1
        case hy0L1=>
          intro w hSw
          (try dsimp only at hSw)
          go_simp
          all_goals with_reducible rfl
        simp only [Act.put,List.getElem_toArray,List.getElem_cons_zero,List.setIfInBounds_toArray,List.set_cons_zero,List.set_cons_succ];refine wpAnyL_take (i:=1) (v:=?v1L1) rfl (by kernel_rfl) (by kernel_rfl) (by kernel_rfl) (fun _ _ _ h=>h) (by kernel_rfl) (by kernel_rfl) (Or.inl ⟨by rfl,?hy1L1⟩) (by assumption) ?rest1L1
        case hy1L1=>
          intro w hSw
          (try dsimp only at hSw)
          go_simp
          all_goals with_reducible rfl
        simp only [Act.put,List.getElem_toArray,List.getElem_cons_zero,List.getElem_cons_succ,List.setIfInBounds_toArray,List.set_cons_zero,List.set_cons_succ];refine wpAnyL_take (i:=2) (v:=?v2L1) rfl (by kernel_rfl) (by kernel_rfl) (by kernel_rfl) (fun _ _ _ h=>h) (by kernel_rfl) (by kernel_rfl) (Or.inl ⟨by rfl,?hy2L1⟩) (by assumption) ?rest2L1
        case hy2L1=>
          intro w hSw
          (try dsimp only at hSw)
          go_simp
          all_goals with_reducible rfl
        simp only [Act.put,List.getElem_toArray,List.getElem_cons_zero,List.getElem_cons_succ,List.setIfInBounds_toArray,List.set_cons_zero,List.set_cons_succ];refine wpAnyL_take (i:=3) (v:=?v3L1) rfl (by kernel_rfl) (by kernel_rfl) (by kernel_rfl) (fun _ _ _ h=>h) (by kernel_rfl) (by kernel_rfl) (Or.inl ⟨by rfl,?hy3L1⟩) (by assumption) ?rest3L1
        case hy3L1=>
          intro w hSw
          (try dsimp only at hSw)
          go_simp
          all_goals with_reducible rfl
        simp only [Act.put,List.getElem_toArray,List.getElem_cons_zero,List.getElem_cons_succ,List.setIfInBounds_toArray,List.set_cons_zero,List.set_cons_succ];refine wpAnyL_take (i:=4) (v:=?v4L1) rfl (by kernel_rfl) (by kernel_rfl) (by kernel_rfl) (fun _ _ _ h=>h) (by kernel_rfl) (by kernel_rfl) (Or.inl ⟨by rfl,?hy4L1⟩) (by assumption) ?rest4L1
        case hy4L1=>
          intro w hSw
          (try dsimp only at hSw)
          go_simp
          all_goals with_reducible rfl
        simp only [Act.put,List.getElem_toArray,List.getElem_cons_zero,List.getElem_cons_succ,List.setIfInBounds_toArray,List.set_cons_zero,List.set_cons_succ];refine wpAnyL_take (i:=5) (v:=?v5L1) rfl (by kernel_rfl) (by kernel_rfl) (by kernel_rfl) (fun _ _ _ h=>h) (by kernel_rfl) (by kernel_rfl) (Or.inl ⟨by rfl,?hy5L1⟩) (by assumption) ?rest5L1
        case hy5L1=>
          intro w hSw
          (try dsimp only at hSw)
          go_simp
          all_goals with_reducible rfl
        simp only [Act.put,List.getElem_toArray,List.getElem_cons_zero,List.getElem_cons_succ,List.setIfInBounds_toArray,List.set_cons_zero,List.set_cons_succ];refine wpAnyL_take (i:=6) (v:=?v6L1) rfl (by kernel_rfl) (by kernel_rfl) (by kernel_rfl) (fun _ _ _ h=>h) (by kernel_rfl) (by kernel_rfl) (Or.inl ⟨by rfl,?hy6L1⟩) (by assumption) ?rest6L1
        case hy6L1=>
          intro w hSw
          (try dsimp only at hSw)
          go_simp
          all_goals with_reducible rfl
        simp only [Act.put,List.getElem_toArray,List.getElem_cons_zero,List.getElem_cons_succ,List.setIfInBounds_toArray,List.set_cons_zero,List.set_cons_succ];refine wpAnyL_take (i:=7) (v:=?v7L1) rfl (by kernel_rfl) (by kernel_rfl) (by kernel_rfl) (fun _ _ _ h=>h) (by kernel_rfl) (by kernel_rfl) (Or.inl ⟨by rfl,?hy7L1⟩) (by assumption) ?rest7L1
        case hy7L1=>
          intro w hSw
          (try dsimp only at hSw)
          go_simp
          all_goals with_reducible rfl
        simp only [Act.put,List.getElem_toArray,List.getElem_cons_zero,List.getElem_cons_succ,List.setIfInBounds_toArray,List.set_cons_zero,List.set_cons_succ];refine wpAnyL_take (i:=8) (v:=?v8L1) rfl (by kernel_rfl) (by kernel_rfl) (by kernel_rfl) (fun _ _ _ h=>h) (by kernel_rfl) (by kernel_rfl) (Or.inl ⟨by rfl,?hy8L1⟩) (by assumption) ?rest8L1
        case hy8L1=>
          intro w hSw
          (try dsimp only at hSw)
          go_simp
          all_goals with_reducible rfl
        simp only [Act.put,List.getElem_toArray,List.getElem_cons_zero,List.getElem_cons_succ,List.setIfInBounds_toArray,List.set_cons_zero,List.set_cons_succ];refine wpAnyL_take (i:=9) (v:=?v9L1) rfl (by kernel_rfl) (by kernel_rfl) (by kernel_rfl) (fun _ _ _ h=>h) (by kernel_rfl) (by kernel_rfl) (Or.inl ⟨by rfl,?hy9L1⟩) (by assumption) ?rest9L1
        case hy9L1=>
          intro w hSw
          (try dsimp only at hSw)
          go_simp
          all_goals with_reducible rfl
        simp only [Act.put,List.getElem_toArray,List.getElem_cons_zero,List.getElem_cons_succ,List.setIfInBounds_toArray,List.set_cons_zero,List.set_cons_succ];refine wpAnyL_take (i:=10) (v:=?v10L1) rfl (by kernel_rfl) (by kernel_rfl) (by kernel_rfl) (fun _ _ _ h=>h) (by kernel_rfl) (by kernel_rfl) (Or.inl ⟨by rfl,?hy10L1⟩) (by assumption) ?rest10L1
        case hy10L1=>
          intro w hSw
          (try dsimp only at hSw)
          go_simp
          all_goals with_reducible rfl
        simp only [Act.put,List.getElem_toArray,List.getElem_cons_zero,List.getElem_cons_succ,List.setIfInBounds_toArray,List.set_cons_zero,List.set_cons_succ];refine wpAnyL_take (i:=11) (v:=?v11L1) rfl (by kernel_rfl) (by kernel_rfl) (by kernel_rfl) (fun _ _ _ h=>h) (by kernel_rfl) (by kernel_rfl) (Or.inl ⟨by rfl,?hy11L1⟩) (by assumption) ?rest11L1
        case hy11L1=>
          intro w hSw
          (try dsimp only at hSw)
          go_simp
          all_goals with_reducible rfl
        simp only [Act.put,List.getElem_toArray,List.getElem_cons_zero,List.getElem_cons_succ,List.setIfInBounds_toArray,List.set_cons_zero,List.set_cons_succ];refine wpAnyL_take (i:=12) (v:=?v12L1) rfl (by kernel_rfl) (by kernel_rfl) (by kernel_rfl) (fun _ _ _ h=>h) (by kernel_rfl) (by kernel_rfl) (Or.inl ⟨by rfl,?hy12L1⟩) (by assumption) ?rest12L1
        case hy12L1=>
          intro w hSw
          (try dsimp only at hSw)
          go_simp
          all_goals with_reducible rfl
        simp only [Act.put,List.getElem_toArray,List.getElem_cons_zero,List.getElem_cons_succ,List.setIfInBounds_toArray,List.set_cons_zero,List.set_cons_succ];refine wpAnyL_take (i:=13) (v:=?v13L1) rfl (by kernel_rfl) (by kernel_rfl) (by kernel_rfl) (fun _ _ _ h=>h) (by kernel_rfl) (by kernel_rfl) (Or.inl ⟨by rfl,?hy13L1⟩) (by assumption) ?rest13L1
        case hy13L1=>
          intro w hSw
          (try dsimp only at hSw)
          go_simp
          all_goals with_reducible rfl
        simp only [Act.put,List.getElem_toArray,List.getElem_cons_zero,List.getElem_cons_succ,List.setIfInBounds_toArray,List.set_cons_zero,List.set_cons_succ];refine wpAnyL_take (i:=14) (v:=?v14L1) rfl (by kernel_rfl) (by kernel_rfl) (by kernel_rfl) (fun _ _ _ h=>h) (by kernel_rfl) (by kernel_rfl) (Or.inl ⟨by rfl,?hy14L1⟩) (by assumption) ?rest14L1
        case hy14L1=>
          intro w hSw
          (try dsimp only at hSw)
          go_simp
          all_goals with_reducible rfl
        simp only [Act.put,List.getElem_toArray,List.getElem_cons_zero,List.getElem_cons_succ,List.setIfInBounds_toArray,List.set_cons_zero,List.set_cons_succ];refine wpAnyL_take (i:=15) (v:=?v15L1) rfl (by kernel_rfl) (by kernel_rfl) (by kernel_rfl) (fun _ _ _ h=>h) (by kernel_rfl) (by kernel_rfl) (Or.inl ⟨by rfl,?hy15L1⟩) (by assumption) ?rest15L1
        case hy15L1=>
          intro w hSw
          (try dsimp only at hSw)
          go_simp
          all_goals with_reducible rfl
        simp only [Act.put,List.getElem_toArray,List.getElem_cons_zero,List.getElem_cons_succ,List.setIfInBounds_toArray,List.set_cons_zero,List.set_cons_succ];refine wpAnyL_take (i:=16) (v:=?v16L1) rfl (by kernel_rfl) (by kernel_rfl) (by kernel_rfl) (fun _ _ _ h=>h) (by kernel_rfl) (by kernel_rfl) (Or.inl ⟨by rfl,?hy16L1⟩) (by assumption) ?rest16L1
        case hy16L1=>
          intro w hSw
          (try dsimp only at hSw)
          go_simp
          all_goals with_reducible rfl
        simp only [Act.put,List.getElem_toArray,List.getElem_cons_zero,List.getElem_cons_succ,List.setIfInBounds_toArray,List.set_cons_zero,List.set_cons_succ];refine wpAnyL_take (i:=17) (v:=?v17L1) rfl (by kernel_rfl) (by kernel_rfl) (by kernel_rfl) (fun _ _ _ h=>h) (by kernel_rfl) (by kernel_rfl) (Or.inl ⟨by rfl,?hy17L1⟩) (by assumption) ?rest17L1
        case hy17L1=>
          intro w hSw
          (try dsimp only at hSw)
          go_simp
          all_goals with_reducible rfl
        simp only [Act.put,List.getElem_toArray,List.getElem_cons_zero,List.getElem_cons_succ,List.setIfInBounds_toArray,List.set_cons_zero,List.set_cons_succ];refine wpAnyL_next 18 (by kernel_rfl) rfl (fun K hK=>?_);clear hHeld;go_simp;refine (HMUL.out (R.m g).c t.c _ (by first | exact hnf | exact hnf.drew) (by first | exact hnu | exact hnu.drew)).mono ?_;rintro e wx ⟨p,rfl,hp,hpl1,hpl2,hbx⟩;have hbxq:Below w0.heap.size w0 wx:=by first | exact below_of_drew hbx (Nat.le_refl _) | exact hbx
        have HP:=Lib.hid hp;clear hp;go_wp2_with fail;refine hK.out _ _ ?_ (fun hHeld=>?_)
        · exact HCS.out.below hbxq
        clear hK K
        try simp only [Act.put,List.getElem_toArray,List.getElem_cons_zero,List.getElem_cons_succ,List.setIfInBounds_toArray,List.set_cons_zero,List.set_cons_succ]
        refine wpAnyL_next 19 (by kernel_rfl) rfl (fun K hK=>?_);clear hHeld;go_simp;refine (HADD.out.1 a p _ (hna.below hbxq) HP.out).mono ?_;rintro e wy ⟨s,rfl,hs,hsl1,hsl2,hby⟩;have hbz:=hbxq.trans (hby.mono hbxq.size);have HSN:=Lib.hid hs;clear hs;go_wp2_with fail;refine hK.out _ _ ?_ (fun hHeld=>?_)
        · exact HCS.out.below hbz
        clear hK K
        try simp only [Act.put,List.getElem_toArray,List.getElem_cons_zero,List.getElem_cons_succ,List.setIfInBounds_toArray,List.set_cons_zero,List.set_cons_succ]
        refine wpAnyL_take (i:=20) (v:=?v20L1) rfl (by kernel_rfl) (by kernel_rfl) (by kernel_rfl) (fun _ _ _ h=>h) (by kernel_rfl) (by kernel_rfl) (Or.inl ⟨by rfl,?hy20L1⟩) (by assumption) ?rest20L1
        case hy20L1=>
          intro w hSw
          (try dsimp only at hSw)
          go_simp
          all_goals with_reducible rfl
        simp only [Act.put,List.getElem_toArray,List.getElem_cons_zero,List.getElem_cons_succ,List.setIfInBounds_toArray,List.set_cons_zero,List.set_cons_succ];refine wpAnyL_last (by kernel_rfl) (by kernel_rfl) (by kernel_rfl) rfl (fun K hK=>?_);clear hHeld;go_simp;obtain ⟨v0,v1,v2,v3,v4,v5,v6,v7,v8⟩:=(hM0.out.box.below hbz).facts;go_simp;refine hK.out _ _ ?_;clear hK K
        try simp only [Act.put,List.getElem_toArray,List.getElem_cons_zero,List.getElem_cons_succ,List.setIfInBounds_toArray,List.set_cons_zero,List.set_cons_succ]
        have HTP:=Lib.hid (tk_put (hM0.out.below hbz) (fun e=>by have:=HVL.out _ e;omega) (by omega) (by omega) HSN.out);have HBP:Hid (Below B w (putN wy (w.heap.size+1) s)):=below_putN (hbw0.trans (hbz.mono (by have:=hbw0.size;omega))) (by omega) s;obtain ⟨w1,hw1⟩:∃ x,putN wy (w.heap.size+1) s=x:=⟨_,rfl⟩;rw [hw1] at HTP HBP;change Exit.then _ _ _ _ (putN wy (w.heap.size+1) s);rw [hw1];obtain ⟨c0,c1,c2,c3,c4,c5,f4,f5,gl⟩:=(HTP.out.rm.row g hg).1.facts;rw [HK.out] at c4;have HMI:=Lib.hid (HTP.out.cell hg (HTP.out.rm.inc hg HK.out));have HBI:Hid (Below B w (w1.setCell ⟨g,4,none⟩ (.int .i64 ((k:Int)+1)))):=HBP.out.setCell (HTP.out.rm.row g hg).2 _;clear hw1;go_upto_region 6 with fail;obtain ⟨w2,hw2⟩:∃ x,w1.setCell ⟨g,4,none⟩ (.int .i64 ((k:Int)+1))=x:=⟨_,rfl⟩;rw [hw2] at HMI HBI ⊢;clear c0 c1 c2 c3 c4 c5 f4 f5 gl hw2 HTP HBP HCS;obtain ⟨c0,c1,c2,c3,c4,c5,f4,f5,gl⟩:=(HMI.out.rm.row g hg).1.facts;rw [bump_self,HK.out,show ((k+1:Nat):Int)=(k:Int)+1 by omega] at c4;obtain ⟨t0,t1,t2,t3,t4,t5,t6⟩:=HMI.out.rm.blk.facts;have hsub:∀ y ∈ g :: r,y ∈ gs:=fun y hy=>hM.out.tin.rows.mem hy
        have hrl1:(g :: r).length≤10000:=by
          have:=hM.out.tin.rows.perm.length_eq;rw [List.length_append] at this;omega
        have HSUB:=Lib.hid hsub;have HRL:=Lib.hid hrl1;have HPRE:=Lib.hid (hM.out.tin);have HL1:=Lib.hid (hM.out.rm.lh.1);have HLEN:=Lib.hid (rem_len R.f K1 HU.out hM.out.tin.rows.nodup hg);have HSN2:=Lib.hid HADD.out.2;clear hsub hrl1 hM
        by_cases hfin:k+1=ls.length
        · have hfe:(((k:Int)+1) == (ls.length:Int))=true:=by rw [beq_iff_eq];omega
          go_region;have HD3:=Lib.hid (HMI.out.below (Below.refl _ _).drew);have HB3:=Lib.hid (HBI.out.drew);obtain ⟨w3,hw3⟩:∃ y,w2.drew=y:=⟨_,rfl⟩;rw [hw3] at HD3 HB3 ⊢;clear hw3 c0 c1 c2 c3 c4 c5 f4 f5 gl t0 t1 t2 t3 t4 t5 t6 HMI HBI hfe;have hrbn:∀ y ∈ gs,y≠rb:=fun y hy e=>by
            have:=(HD3.out.rm.row y hy).1.ty;rw [e] at this;exact absurd (this.uniq HD3.out.rm.blk.ty) (by decide)
          have HPOP:=Lib.hid (phpop B rb g (.slice (some ⟨lq,0,none⟩) ls.length lc) _ vw1 r (fun g=>(R.f g).1) N1 w3 HD3.out.rm.blk (HD3.out.rm.hm HSUB.out) (by have:=HRL.out;rw [List.length_cons] at this;omega) HPRE.out.heap (fun y hy=>hrbn y (HSUB.out y (List.mem_cons_of_mem _ hy))));clear hrbn;obtain ⟨i0,hi,hz0,hz1,hz2⟩:=info_parts info_ptr;go_wp2_with fail;refine HPOP.out.mono ?_;rintro e w4 ⟨rfl,vo4,hs,hperm,hheap,hms,hf⟩;have HR4:=Lib.hid (HD3.out.fr hf.fr (fun q hq=>HD3.out.rm.op.ty q hq) (HD3.out.rm.heap hf.fr hf.blk hms.own hf.own));have HB4:=Lib.hid (HB3.out.trans (hf.fr.below HD3.out.rm.rbB (by have:=HB3.out.size;omega) fun q hq=>(HD3.out.rm.op.lt q hq).1));have HPM:=Lib.hid hperm;have HHP:=Lib.hid hheap;clear hperm hheap hms hf HPOP;obtain ⟨t0,t1,t2,t3,t4,t5,t6⟩:=HR4.out.rm.blk.facts;have HNE:=Lib.hid (fun q h=>ne_own HR4.out.rm.blk.ty HR4.out.rm.wa (q:=q) h);have hwl:wt1.length≤10000:=by
            have:=HPRE.out.rows.perm.length_eq;rw [List.length_append] at this;omega
          have hb4s:=HB4.out.size;go_wp2_with (at_builtin;refine wpList_append_lies _ rfl _ _ 182 rfl B 194 i0 _ 1 8 Tryz.underlying182 hi hz0 hz1 hz2 rfl (by omega) vw1 wt1.length (wt1.map PtrV) rfl (World.ownsRow.alloc HR4.out.rm.wa _) ⟨w4.heap.size,0,none⟩ 1 1 [.pointer (some ⟨g,0,none⟩)] rfl rfl (World.news_of_block (cs:=#[.pointer (some ⟨g,0,none⟩)]) (t:=194) (fr:=(0,0)) (heap_alloc_new _ _)) (by simp [Value.oneCell']) (by omega) (by unfold maxLen;omega) (by omega) (by simp;omega) (w4.heap.size+1) (by simp) ?_;intro gg cap w5 hown5 hgrow5 hat5 hlt5;have hb5:=(HR4.out.rm.blk.alloc _).grown hgrow5 (fun e=>HNE.out _ e rfl);obtain ⟨y0,y1,y2,y3,y4,y5,y6⟩:=hb5.facts);obtain ⟨hr6,hb6,hf6⟩:=HR4.out.rm.wait (by omega) hown5 hgrow5 hat5;have hT6:=HR4.out.fr hf6 (fun q h=>HR4.out.rm.wa.ty q h) hr6;go_roundg ((remL R.f (bump K1 g) L gs).length)
          case rel=>exact ⟨j+1,bump K1 g,N1,vo4,_,hs,wt1 ++ [g],s,_,rfl,⟨hT6.rm,HPRE.out.pop HNX.out HU.out (by rw [HK.out,← HL1.out];exact hfin) HPM.out HHP.out HSN2.out,hT6.box,hT6.res,hT6.num,hsl1,hsl2,hT6.kt⟩,HB4.out.trans hb6⟩
          case measure=>rw [← HG.out];have:=HLEN.out;omega
        · have hfe:(((k:Int)+1) == (ls.length:Int))=false:=by rw [beq_eq_false_iff_ne];omega
          go_region;have HD3:=Lib.hid (HMI.out.below (Below.refl _ _).drew);have HB3:=Lib.hid (HBI.out.drew);obtain ⟨w3,hw3⟩:∃ y,w2.drew=y:=⟨_,rfl⟩;rw [hw3] at HD3 HB3 ⊢;clear hw3 c0 c1 c2 c3 c4 c5 f4 f5 gl t0 t1 t2 t3 t4 t5 t6 HMI HBI hfe;obtain ⟨v,hv⟩:∃ v,L[K1 g+1]?=some v:=⟨_,List.getElem?_eq_getElem (by
            have h1:=(List.getElem?_eq_some_iff.1 HU.out).1;have h2:=HL1.out;have h3:=HK.out;omega)⟩
          have hvm:v ∈ L:=List.mem_of_getElem? hv;obtain ⟨t',he',_,_,_,hc',_,_⟩:=HD3.out.rm.at_ rfl hv;obtain ⟨d0,_,_,_⟩:=hc';have hsum:(R.f g).1+v.1<18446744073709551616:=HS.out.word g hg v hvm;obtain ⟨c0,c1,c2,c3,c4,c5,f4,f5,gl⟩:=(HD3.out.rm.row g hg).1.facts;obtain ⟨t0,t1,t2,t3,t4,t5,t6⟩:=HD3.out.rm.blk.facts;rw [(HD3.out.rm.num g hg).1] at c0;rw [he',HK.out] at d0;rw [bump_self,HK.out] at c4;obtain ⟨fx,hfx⟩:∃ y,(R.f g).1=y:=⟨_,rfl⟩;obtain ⟨vx,hvx⟩:∃ y,v.1=y:=⟨_,rfl⟩;obtain ⟨y,hy⟩:∃ y,fx+vx=y:=⟨_,rfl⟩;rw [hfx,hvx,hy] at hsum;rw [hfx] at c0;rw [hvx] at d0;have hsi:(fx:Int)+(vx:Int)=(y:Int):=by omega
          have hsw:IntKind.u64.wrap (y:Int)=y:=IntWalk.u64_in _ (by omega);obtain ⟨k2,hke⟩:∃ k2,k+1=k2:=⟨_,rfl⟩;rw [hke] at c4 d0;have hk3:k2<ls.length:=by omega
          have hk4:k2<100001:=by have:=HKB.out;omega
          have HY:=Lib.hid (show (R.f g).1+v.1=y by rw [hfx,hvx,hy]);have HV:=Lib.hid hv;have HNX5:=Lib.hid ((HD3.out.cell hg (HD3.out.rm.next (s:=y) hg)).below (Below.refl _ _).drew);have HB5:Hid (Below B w (w3.setCell ⟨g,5,none⟩ (.int .u64 y)).drew):=(HB3.out.setCell (HD3.out.rm.row g hg).2 _).drew;clear hv hvm he' hsum hfx hvx hy hke;go_upto_region 9 with fail;go_region;obtain ⟨w5,hw5⟩:∃ z,(w3.setCell ⟨g,5,none⟩ (.int .u64 y)).drew=z:=⟨_,rfl⟩;rw [hw5] at HNX5 HB5 ⊢;clear hw5 c0 c1 c2 c3 c4 c5 f4 f5 gl t0 t1 t2 t3 t4 t5 t6 d0 hsi hsw hk3 hk4 HD3 HB3;have hdn:HeapDown (key2 (fun g=>(R.f g).1) (setN N1 g y)) (g :: r) 0:=HPRE.out.heap.top_less (fun i z h0 hz=>by
            have hne:z≠g:=fun e=>by
              obtain ⟨i,rfl⟩:∃ i',i=i'+1:=⟨i - 1,by omega⟩;rw [List.getElem?_cons_succ] at hz;have:=(List.nodup_cons.1 HPRE.out.rows.nodup_hp).1;exact this (e ▸ List.mem_of_getElem? hz)
            unfold key2;show (if z=g then y else N1 z)*_+_=_;rw [if_neg hne])
          have HFIX:=Lib.hid (phfix B rb (.slice (some ⟨lq,0,none⟩) ls.length lc) _ vw1 (g :: r) (fun g=>(R.f g).1) (setN N1 g y) w5 HNX5.out.rm.blk (HNX5.out.rm.hm HSUB.out) (by have:=HRL.out;omega) (by simp) hdn);clear hdn;go_wp2_with fail;refine HFIX.out.mono ?_;rintro e w6 ⟨rfl,vo6,hs,hperm,hheap,hms,hf⟩;have HR6:=Lib.hid (HNX5.out.fr hf.fr (fun q hq=>HNX5.out.rm.op.ty q hq) (HNX5.out.rm.heap hf.fr hf.blk hms.own hf.own));have HB6:=Lib.hid (HB5.out.trans (hf.fr.below HNX5.out.rm.rbB (by have:=HB5.out.size;omega) fun q hq=>(HNX5.out.rm.op.lt q hq).1));have HPM:=Lib.hid hperm;have HHP:=Lib.hid hheap;clear hperm hheap hms hf HFIX;go_wp2_with fail;go_roundg ((remL R.f (bump K1 g) L gs).length)
          case rel=>
            have hfx:=HPRE.out.fix HD.out HNX.out HU.out HV.out HPM.out (by rw [HY.out];exact HHP.out) HSN2.out;rw [HY.out] at hfx;exact ⟨j+1,bump K1 g,setN N1 g y,vo6,_,hs,wt1,s,_,rfl,⟨HR6.out.rm,hfx,HR6.out.box,HR6.out.res,HR6.out.num,hsl1,hsl2,HR6.out.kt⟩,HB6.out⟩
          case measure=>rw [← HG.out];have:=HLEN.out;omega
      · have hxe:((x:Int) == (m:Int))=false:=by rw [beq_eq_false_iff_ne];omega
        go_upto_region 2 with fail;go_quiet (first
          | (go_at_call 109;exact HI.out _)
          | (go_at_call 150;exact HX.out _))
        have HE:=Lib.hid (tk_end hM.out (hM.out.tin.done HD.out HW.out (fun g' r' e=>by injection e with e1 e2;subst e1;rw [HNX.out];exact hxm) HHAS.out) hbw (fun e=>Nat.lt_irrefl _ (HVL.out _ e)) hB (Nat.le_refl _) nq);obtain ⟨b0,b1,b2,b3,b4,b5,b6,b7,b8⟩:=hM.out.box.facts;obtain ⟨z0,z1,z2,z3,z4,z5,z6,z7,z8⟩:=hM.out.res.facts;clear HI HNX;go_wp2_with fail;exact bodyPost_ret (v:=.agg #[.int .u64 m,.bool a.s,.slice a.N a.ns.length a.nc,.slice a.D a.ds.length a.dc]) (results_cell_row (fn:=Tryz.f110) rfl _ _ _ 115 _ (0,0) _ rfl HE.out.1 Tryz.underlying115 rfl (by kernel_rfl)) rfl HE.out.2
end Go.Proofs.YtgekmfcbbjeahaaGreatDoor
