/- poly.load. -/
import Derived.Test.YtgekmfcbbjeahaaGreatDoorPpR22
import Derived.Deep.DrawnRows
attribute [local go_sem ↓] Go.wp_at_zero Go.wp_at_succ
namespace Go.Proofs.YtgekmfcbbjeahaaGreatDoor
open Go.RowKit V
set_option maxRecDepth 100000 in
set_option maxHeartbeats 1600000 in
theorem pload (N : Int) (A : Option Addr) (c n : Nat) (ms : List MM) (p : AL) (w : World) (hx : ARd w A ms p) (bx : ms.length ≤ 100000) (he : EOk n p) :
    Calls Tryz.prog 54 #[.agg #[.int .i64 N,.slice A ms.length c]] w (PolyT (pk p) w):=by
  have HE:=Lib.hid he;have HL:=Lib.hid hx.hs.1;have hmk:=fun W=>make_terms ms.length (ms.length:Int) rfl (by omega) W
  clear he;go_enter Tryz.func54,Tryz.ntmps54;go_wp2;clear hmk;go_loopw [4,5,13] (fun _ _ i wr=>∃ ts:List TM,ts.length≤ms.length∧i = .int .i64 ts.length∧TRow wr (w.heap.size+1) (ts ++ List.replicate (ms.length - ts.length) TM0)∧THolds wr ts ((pk p).take ts.length)∧Below w.heap.size w wr) (fun _ _ i _=>ms.length - (intOf i).toNat)
  case atStart=>
    refine ⟨[],Nat.zero_le _,rfl,?_,THolds.nil _,((Below.refl _ _).alloc (Nat.le_refl _) _).alloc (by simp) _⟩;have:=TRow.new (w.alloc (.cells #[.int .i64 N,.slice A ms.length c] 24)) (List.replicate ms.length TM0);simpa using this
  case round=>
    obtain ⟨ts,hk,rfl,hrow,hth,hbw⟩:=hrel
    by_cases hlt:ts.length<ms.length
    · obtain ⟨ad,m,rfl,hb,hm,hc⟩:=(hx.below hbw).rd.ask hlt;obtain ⟨es,q,hp,hr,hn,hnc,hci,hcl1,hcl2⟩:=(hx.below hbw).hs.2 _ m hm.out;obtain ⟨c0,c1,c2,c3⟩:=hc;have kb:=Blk4.new 79 wr (.slice m.X es.length m.xc) (.bool m.c.s) (.slice m.c.N m.c.ns.length m.c.nc) (.slice m.c.D m.c.ds.length m.c.dc);have hb1:Below wr.heap.size wr (wr.alloc (.cells #[.slice m.X es.length m.xc,.bool m.c.s,.slice m.c.N m.c.ns.length m.c.nc,.slice m.c.D m.c.ds.length m.c.dc] 79)):=(Below.refl _ _).alloc (Nat.le_refl _) _;have hes:es.length≤8 ∧ ∀ x ∈ es,x<256:=HE.out.small (getD_mem hp);have HES:=Lib.hid hes.2;have hel:=hes.1;have HP:Hid ((pk p)[ts.length]?=some (packL es,q)):=by show _=_;simp [pk,hp]
      clear hes hp;go_wp2_with fail;obtain ⟨w1,hwe⟩:∃ x,wr.alloc (.cells #[.slice m.X es.length m.xc,.bool m.c.s,.slice m.c.N m.c.ns.length m.c.nc,.slice m.c.D m.c.ds.length m.c.dc] 79)=x:=⟨_,rfl⟩;rw [hwe] at kb hb1 ⊢;have hr1:=hr.below hb1;have hci1:=hci.below hb1;have hrow1:=hrow.keep hb1;have hlt0:=hrow.lt;have hne1:¬ wr.heap.size=w.heap.size+1:=by omega
      have hne2:¬ w.heap.size+1=wr.heap.size:=by omega
      have hw1:=hbw.trans (hb1.mono hbw.size);have hth1:=hth.below hb1;have hwz:=hw1.size;have hrl:=hrow1.lt;have hgr:=kb.lt;clear hwe hr hci hrow hbw hth c0 c1 c2 c3 hb1 hb;obtain ⟨a0,a1,a2,a3,a4,a5,a6,a7,a8⟩:=kb.facts;have hk0:(0:Int)≤(ts.length:Int):=Int.natCast_nonneg _;have hk1:(ts.length:Int)<(ms.length:Int):=by omega
      have hget:(ts ++ List.replicate (ms.length - ts.length) TM0)[ts.length]?=some TM0:=by
        rw [List.getElem?_append_right (Nat.le_refl _),Nat.sub_self,List.getElem?_replicate,if_pos (by omega)]
      go_region_held3 (fun w'=>w'.cell? ⟨wr.heap.size,0,none⟩=some (.slice m.X es.length m.xc)∧w'.cell? ⟨wr.heap.size,1,none⟩=some (.bool m.c.s)∧w'.cell? ⟨wr.heap.size,2,none⟩=some (.slice m.c.N m.c.ns.length m.c.nc)∧w'.cell? ⟨wr.heap.size,3,none⟩=some (.slice m.c.D m.c.ds.length m.c.dc)) (first | (with_reducible exact ⟨‹_›,‹_›,‹_›,‹_›⟩) | go_keep)
        (first
        | (go_at_call 106
           refine (ppack m.X m.xc es _ (by first | exact hr1 | exact hr1.drew | exact hr1.below hbx | exact (hr1.below hbx).drew) hel HES.out).mono ?_;rintro e wp ⟨rfl,rfl⟩)
        | (go_at_call 59
           refine (wOf m.c q _ (by first | exact hci1 | exact hci1.below (below_drew_ (Below.refl _ _) 1)) (by omega) (by omega)).mono ?_;rintro e wx_ ⟨r,rfl,hrn,hl1,hl2,hbx⟩;have hbq:Below w1.heap.size w1 wx_:=by first | exact below_of_drew hbx (Nat.le_refl _) | exact hbx
           obtain ⟨b0,b1,b2,b3,b4,b5,b6,b7,b8⟩:=(kb.below hbq).facts;have hrow2:=hrow1.keep hbq;obtain ⟨r0,r1,r2,r3⟩:=hrow2.tcell hget;have f0:=hrow2.frozen (ts.length*4);have f1:=hrow2.frozen (ts.length*4+1);have f2:=hrow2.frozen (ts.length*4+2);have f3:=hrow2.frozen (ts.length*4+3)))
      all_goals
        go_wp2;go_roundw
        case rel=>
          exact fill_step wx_ w (w.heap.size+1) ts ms.length (packL es) r q (pk p) hlt hrow2 (hth1.below hbq) HP.out hrn (Nat.le_trans hl1 (by omega)) (Nat.le_trans hl2 (by omega)) (hw1.trans (hbq.mono hw1.size)) (Nat.le_succ _)
        case measure=>simp [intOf];omega
    · obtain he:ts.length=ms.length:=by omega
      have HE2:=Lib.hid he;clear he;go_wp2;go_ret;have e1:ts.length=ms.length:=HE2.out;rw [e1,Nat.sub_self,List.replicate_zero,List.append_nil] at hrow;rw [e1,List.take_of_length_le (by simp [pk,← HL.out])] at hth;exact ⟨some ⟨w.heap.size+1,0,none⟩,ms.length,ts,by rw [e1];rfl,by omega,⟨hrow.rd,hth⟩,hbw⟩
end Go.Proofs.YtgekmfcbbjeahaaGreatDoor
/- A slice of an api.Poly's terms that the call itself made, and what it holds. -/
namespace Go.Proofs.YtgekmfcbbjeahaaGreatDoor
open Go.RowKit V
def MM.cells (m:MM):List Value:=[.slice m.X m.n m.xc,.bool m.c.s,.slice m.c.N m.c.ns.length m.c.nc,.slice m.c.D m.c.ds.length m.c.dc]
def flatM (ms:List MM):List Value:=ms.flatMap MM.cells
theorem flatM_snoc (a:List MM) (m:MM):flatM (a ++ [m])=flatM a ++ m.cells:=by simp [flatM]
theorem flatM_get:∀ (ts:List MM) (k:Nat) (t:MM) (i:Nat),ts[k]?=some t→i<4→(flatM ts)[k*4+i]?=t.cells[i]?
  | [],k,t,i,h,_=>by simp at h
  | a :: r, 0, t, i, h, hi => by
    simp at h;subst h;show (a.cells ++ flatM r)[0*4+i]?=_;rw [List.getElem?_append_left (by simp [MM.cells];omega)];congr 1;omega
  | a :: r, k + 1, t, i, h, hi => by
    have ih:=flatM_get r k t i (by simpa using h) hi;show (a.cells ++ flatM r)[(k+1)*4+i]?=_;rw [List.getElem?_append_right (by simp [MM.cells];omega),← ih];congr 1;simp [MM.cells];omega
def OwnM (B:Nat) (w:World) (v:Value) (ms:List MM):Prop:=w.ownsRow B 79 4 v ms.length (flatM ms)
theorem ownsRow_below {w w':World} {B:Nat} {e:TypeId} {z n:Nat} {v:Value} {xs:List Value} (h:w.ownsRow B e z v n xs) (hb:Below w.heap.size w w'):w'.ownsRow B e z v n xs:=by
  refine ⟨h.1,?_⟩;rcases h.2 with h2 | ⟨g,cap,cur,h1,h2,h3,h4⟩
  · exact .inl h2
  · exact .inr ⟨g,cap,cur,h1,h2,by rw [hb.block g (Array.getElem?_eq_some_iff.1 h3).1];exact h3,h4⟩
theorem OwnM.below {B:Nat} {w w':World} {v:Value} {ms:List MM} (h:OwnM B w v ms) (hb:Below w.heap.size w w'):OwnM B w' v ms:=ownsRow_below h hb
theorem OwnM.nil_ (B:Nat) (w:World):OwnM B w (.slice none 0 0) []:=World.ownsRow_nil _ _ _ _
theorem ownsRow_type {w:World} {B:Nat} {e:TypeId} {z n:Nat} {v:Value} {xs:List Value} (h:w.ownsRow B e z v n xs):∀ g,v.ownBlock=some g→HasT w g e:=by
  intro g hg;rcases h.2 with ⟨rfl,_⟩ | ⟨g',cap,cur,rfl,_,h3,_⟩
  · cases hg
  · simp [Value.ownBlock] at hg;subst hg;exact ⟨cur,(0,0),h3⟩
theorem OwnM.form {B:Nat} {w:World} {v:Value} {ms:List MM} (h:OwnM B w v ms):∃ A c,v = .slice A ms.length c∧ms.length≤c∧MRd w A ms∧(∀ g,v.ownBlock=some g→B≤g∧g<w.heap.size):=by
  have hlt:=World.ownsRow.lt h;rcases h.2 with ⟨rfl,h0⟩ | ⟨g,cap,cur,rfl,_,h3,hc,_⟩
  · have:ms=[]:=List.eq_nil_of_length_eq_zero h0;subst this;exact ⟨none,0,rfl,Nat.le_refl _,MRd.nil_,hlt⟩
  · refine ⟨_,cap,rfl,hc,fun hn=>⟨_,rfl,(hlt g rfl).2,fun j m hm=>?_⟩,hlt⟩;have hj:j<ms.length:=(List.getElem?_eq_some_iff.1 hm).1;have e:(⟨g,0,none⟩:Addr).add (j*4)=⟨g,j*4,none⟩:=by unfold Addr.add;split <;> simp_all
    have key:∀ i,i<4→w.cell? ⟨g,j*4+i,none⟩=m.cells[i]?:=fun i hi=>by
      rw [World.ownsRow.cellAt h (j*4+i) (by omega)];exact flatM_get ms j m i hm hi
    rw [e];exact ⟨key 0 (by omega),key 1 (by omega),key 2 (by omega),key 3 (by omega)⟩
def MHT (w:World) (ms:List MM) (p:AL):Prop:=ms.length=p.length ∧ ∀ (j:Nat) (m:MM),ms[j]?=some m → ∃ es q,p[j]?=some (es,q)∧RT .i64 3 w m.X es∧m.n=es.length∧m.n≤m.xc∧m.c.Is w q∧m.c.Ty w∧m.c.ns.length≤200∧m.c.ds.length≤200
theorem MHT.off {w w':World} {ms:List MM} {p:AL} (h:MHT w ms p) (ho:Off w w'):MHT w' ms p:=
  ⟨h.1,fun j m hm=>by obtain ⟨es,q,h1,h2,h3,h3',h4,h4',h5⟩:=h.2 j m hm;exact ⟨es,q,h1,h2.off_ (by decide) ho,h3,h3',h4.off h4' ho,h4'.off ho,h5⟩⟩
theorem MHT.holds {w:World} {ms:List MM} {p:AL} (h:MHT w ms p):MHolds w ms p:=
  ⟨h.1,fun j m hm=>by obtain ⟨es,q,h1,h2,h3,h3',h4,h4',h5⟩:=h.2 j m hm;exact ⟨es,q,h1,h2.rd,h3,h3',h4,h5⟩⟩
theorem MHT.nil (w:World):MHT w [] []:=⟨rfl,fun j t h=>by simp at h⟩
theorem MHT.snoc {w:World} {ms:List MM} {p:AL} (h:MHT w ms p) {m:MM} {es:List Nat} {q:Rat} (h2:RT .i64 3 w m.X es) (h3:m.n=es.length) (h3':m.n≤m.xc) (h4:m.c.Is w q) (h4':m.c.Ty w) (l1:m.c.ns.length≤200) (l2:m.c.ds.length≤200):MHT w (ms ++ [m]) (p ++ [(es,q)]):=by
  refine ⟨by simp [h.1],fun j u hu=>?_⟩;rcases Nat.lt_or_ge j ms.length with hj | hj
  · rw [List.getElem?_append_left hj] at hu;obtain ⟨es',q',h1,hr⟩:=h.2 j u hu;exact ⟨es',q',by rw [List.getElem?_append_left (by rw [← h.1];exact hj)];exact h1,hr⟩
  · rw [List.getElem?_append_right hj] at hu;have h0:j - ms.length=0:=by
      rcases Nat.eq_zero_or_pos (j - ms.length) with h1 | h1
      · exact h1
      · rw [List.getElem?_eq_none (by simp;omega)] at hu;cases hu
    rw [h0] at hu;simp at hu;subst hu;exact ⟨es,q,by rw [List.getElem?_append_right (by rw [← h.1];exact hj),← h.1,h0];rfl,h2,h3,h3',h4,h4',l1,l2⟩
theorem info_mono:(Tryz.prog.info? 79).map (fun i=>(i.zero,i.size,i.bytes))=some (some (.agg #[.slice none 0 0,.bool false,.slice none 0 0,.slice none 0 0]),4,80):=by kernel_rfl
def up (n:Nat) (p:List (Nat × Rat)):AL:=p.map fun t=>(exL t.1 n,t.2)
structure AT (w:World) (A:Option Addr) (ms:List MM) (p:AL):Prop where
  rd:MRd w A ms
  ty:∀ ad,A=some ad→HasT w ad.block 79
  hs:MHT w ms p
theorem AT.ard {w:World} {A:Option Addr} {ms:List MM} {p:AL} (h:AT w A ms p):ARd w A ms p:=⟨h.rd,h.hs.holds⟩
theorem HasT.below {w w':World} {g:Nat} {t:TypeId} (h:HasT w g t) (hb:Below w.heap.size w w'):HasT w' g t:=by
  obtain ⟨cs,f,h⟩:=h;exact ⟨cs,f,(hb.block g (Array.getElem?_eq_some_iff.1 h).1).trans h⟩
theorem HasT.uniq {w:World} {g:Nat} {t u:TypeId} (h:HasT w g t) (k:HasT w g u):t=u:=by
  obtain ⟨cs,f,h⟩:=h;obtain ⟨ds,f',k⟩:=k;rw [h] at k;cases k;rfl
theorem AT.below {w w':World} {A:Option Addr} {ms:List MM} {p:AL} (h:AT w A ms p) (hb:Below w.heap.size w w'):AT w' A ms p:=⟨h.rd.below hb,fun ad e=>(h.ty ad e).below hb,h.hs.off (Off.of_below hb)⟩
def StoreOk (n:Nat) (p:List (Nat × Rat)) (w:World) (e:Ending) (w':World):Prop:=
  ∃ A c ms,e = .returned (.tuple #[.agg #[.int .i64 n,.slice A (ms:List MM).length c],.int .i64 0])∧ms.length≤c∧AT w' A ms (up n p)∧Below w.heap.size w w'
def PolyErr (k:Int) (w:World) (e:Ending) (w':World):Prop:=e = .returned (.tuple #[.agg #[.int .i64 0,.slice none 0 0],.int .i64 k])∧Below w.heap.size w w'
def Blk2c (t:TypeId) (w:World) (g:Nat) (a b:Value):Prop:=w.heap[g]?=some (.cells #[a,b] t (0,0))
structure Cells2 (w:World) (g:Nat) (a b:Value):Prop where
  c0:w.cell? ⟨g,0,none⟩=some a
  c1:w.cell? ⟨g,1,none⟩=some b
  f0:w.frozen? ⟨g,0,none⟩=false
  f1:w.frozen? ⟨g,1,none⟩=false
  lt:g<w.heap.size
section
variable {t:TypeId} {w w':World} {g:Nat} {a b:Value}
theorem Blk2c.lt (h:Blk2c t w g a b):g<w.heap.size:=by
  rcases Nat.lt_or_ge g w.heap.size with hlt | hge
  · exact hlt
  · unfold Blk2c at h;rw [Array.getElem?_eq_none hge] at h;cases h
theorem Blk2c.facts (h:Blk2c t w g a b):Cells2 w g a b:=by
  have hf:∀ i,w.frozen? ⟨g,i,none⟩=false:=fun i=>by unfold Blk2c at h;simp [World.frozen?,h]
  exact ⟨cell_of_row _ _ 0 _ _ _ h,cell_of_row _ _ 1 _ _ _ h,hf 0,hf 1,h.lt⟩
theorem Blk2c.below (h:Blk2c t w g a b) (hb:Below w.heap.size w w'):Blk2c t w' g a b:=(hb.block g h.lt).trans h
theorem Blk2c.new (t:TypeId) (w:World) (a b:Value):Blk2c t (w.alloc (.cells #[a,b] t)) w.heap.size a b:=heap_alloc_new w _
theorem Blk2c.alloc (h:Blk2c t w g a b) (o:Obj):Blk2c t (w.alloc o) g a b:=(Below.heap_alloc w o g h.lt).trans h
theorem Blk2c.set0 (h:Blk2c t w g a b) (u:Value):Blk2c t (w.setCell ⟨g,0,none⟩ u) g u b:=by
  unfold Blk2c at h ⊢;simp [World.setCell,Array.getElem?_modify,h]
theorem Blk2c.set1 (h:Blk2c t w g a b) (u:Value):Blk2c t (w.setCell ⟨g,1,none⟩ u) g a u:=by
  unfold Blk2c at h ⊢;simp [World.setCell,Array.getElem?_modify,h]
theorem Blk2c.far (h:Blk2c t w g a b) {x i:Nat} (hp:g≠x) (u:Value):Blk2c t (w.setCell ⟨x,i,none⟩ u) g a b:=(Below.heap_setCell w ⟨x,i,none⟩ u g hp).trans h
theorem Blk2c.grown {v:Value} (h:Blk2c t w g a b) (hg:w.grownBy w' v.ownBlock) (hne:v.ownBlock≠some g):Blk2c t w' g a b:=(hg.block g h.lt (fun e=>hne e.symm)).trans h
theorem Blk2c.ty (h:Blk2c t w g a b):HasT w g t:=⟨_,_,h⟩
theorem Blk4.grown {t:TypeId} {c d:Value} {v:Value} (h:Blk4 t w g a b c d) (hg:w.grownBy w' v.ownBlock) (hne:v.ownBlock≠some g):Blk4 t w' g a b c d:=(hg.block g h.lt (fun e=>hne e.symm)).trans h
theorem Blk4.ty {t:TypeId} {c d:Value} (h:Blk4 t w g a b c d):HasT w g t:=⟨_,_,h⟩
end
theorem ownsRow_set {w:World} {B:Nat} {e:TypeId} {z n:Nat} {v:Value} {xs:List Value} (h:w.ownsRow B e z v n xs) {b:Nat} (hne:∀ g,v.ownBlock=some g→g≠b) (i:Nat) (u:Value):(w.setCell ⟨b,i,none⟩ u).ownsRow B e z v n xs:=by
  refine ⟨h.1,?_⟩;rcases h.2 with h2 | ⟨g,cap,cur,rfl,h2,h3,h4⟩
  · exact .inl h2
  · exact .inr ⟨g,cap,cur,rfl,h2,(Below.heap_setCell w ⟨b,i,none⟩ u g (hne g rfl)).trans h3,h4⟩
theorem fits_len {w:World} {r:RL} {q:Rat} (h:r.Is w q) (hf:WFits q 200):r.ns.length≤200∧r.ds.length≤200:=by
  have h1:V32 r.ns<4294967296 ^ 200:=by rw [h.q.2.1];exact hf.1
  have h2:V32 r.ds<4294967296 ^ 200:=by
    rw [h.q.2.2];rcases hf.2 with h0 | h0
    · rw [h0];exact Nat.one_lt_pow (by omega) (by omega)
    · exact h0
  exact ⟨len_of_lt (B:=4294967296) (by omega) h.mn.2 h1,len_of_lt (B:=4294967296) (by omega) h.md.2 h2⟩
theorem store_step (w wy w1:World) (v:Value) (ms:List MM) (n g gg cap:Nat) (r:RL) (q:Rat) (m:Nat) (P:AL) (N:Nat) (hlt:ms.length<N)
    (hr:Blk2c 24 wy w.heap.size (.int .i64 0) (.slice none 0 0)) (hp:Blk2c 24 wy (w.heap.size+1) (.int .i64 n) v)
    (hown:OwnM (w.heap.size+2) wy v ms) (hmh:MHT wy ms (P.take ms.length)) (hb:Below w.heap.size w wy) (hP:P[ms.length]?=some (exL m n,q))
    (hx:RT .i64 3 wy (some ⟨g,0,none⟩) (exL m n)) (hi:r.Is wy q) (ht:r.Ty wy) (hf:WFits q 200) (ho:Obj)
    (hown4:w1.ownsRow (w.heap.size+2) 79 4 (.slice (some ⟨gg,0,none⟩) (ms.length+1) cap) (ms.length+1) (flatM ms ++ [.slice (some ⟨g,0,none⟩) n n,.bool r.s,.slice r.N r.ns.length r.nc,.slice r.D r.ds.length r.dc]))
    (hgrow:(wy.alloc ho).grownBy w1 v.ownBlock) :
    ∃ (v' : Value) (us : List MM), us.length ≤ N ∧ Value.int .i64 ((ms.length : Int) + 1) = Value.int .i64 us.length ∧
      Blk2c 24 (w1.setCell ⟨w.heap.size+1,1,none⟩ (.slice (some ⟨gg,0,none⟩) (ms.length+1) cap)) w.heap.size (.int .i64 0) (.slice none 0 0) ∧
      Blk2c 24 (w1.setCell ⟨w.heap.size+1,1,none⟩ (.slice (some ⟨gg,0,none⟩) (ms.length+1) cap)) (w.heap.size+1) (.int .i64 n) v' ∧
      OwnM (w.heap.size+2) (w1.setCell ⟨w.heap.size+1,1,none⟩ (.slice (some ⟨gg,0,none⟩) (ms.length+1) cap)) v' us ∧
      MHT (w1.setCell ⟨w.heap.size+1,1,none⟩ (.slice (some ⟨gg,0,none⟩) (ms.length+1) cap)) us (P.take us.length) ∧
      Below w.heap.size w (w1.setCell ⟨w.heap.size+1,1,none⟩ (.slice (some ⟨gg,0,none⟩) (ms.length+1) cap)):=by
  have hvl:=World.ownsRow.lt hown;have hgl:=World.ownsRow.lt hown4;have hv0:v.ownBlock≠some w.heap.size:=fun e=>by have:=(hvl _ e).1;omega
  have hv1:v.ownBlock≠some (w.heap.size+1):=fun e=>by have:=(hvl _ e).1;omega
  have hg1:w.heap.size+2≤gg:=(hgl gg rfl).1;have hr1:=(hr.alloc ho).grown hgrow hv0;have hp1:=(hp.alloc ho).grown hgrow hv1;have ho1:Off wy w1:=((Off.refl wy).alloc ho).grown hgrow (fun x hx=>⟨79,by decide,ownsRow_type (World.ownsRow.alloc hown ho) x hx⟩);have ho2:Off wy (w1.setCell ⟨w.heap.size+1,1,none⟩ (.slice (some ⟨gg,0,none⟩) (ms.length+1) cap)):=ho1.setT hp1.ty (by decide) _ _;obtain ⟨l1,l2⟩:=fits_len hi hf;refine ⟨_,ms ++ [⟨some ⟨g,0,none⟩,n,n,r⟩],by simp;omega,by simp,hr1.far (by omega) _,hp1.set1 _,?_,?_,?_⟩
  · have h:=ownsRow_set hown4 (b:=w.heap.size+1) (fun x hx=>by simp [Value.ownBlock] at hx;omega) 1 (.slice (some ⟨gg,0,none⟩) (ms.length+1) cap);show World.ownsRow _ _ _ _ _ (ms ++ [_]).length (flatM (ms ++ [_]));rw [flatM_snoc,List.length_append];exact h
  · rw [List.length_append,List.length_singleton,take_snoc' hP];exact (hmh.off ho2).snoc (hx.off_ (by decide) ho2) (exL_len m n).symm (Nat.le_refl _) (hi.off ht ho2) (ht.off ho2) l1 l2
  · exact ((hb.alloc hb.size ho).grown hgrow (by have:=hb.size;simp;omega) (fun x hx=>by have:=(hvl x hx).1;omega)).setCell (by simp) _
theorem MRd.far {w:World} {A:Option Addr} {ms:List MM} (h:MRd w A ms) {g:Nat} (hne:∀ ad,A=some ad→ad.block≠g) (i:Nat) (u:Value):MRd (w.setCell ⟨g,i,none⟩ u) A ms:=fun hn=>by
  obtain ⟨ad,e,hb,hc⟩:=h hn;refine ⟨ad,e,by simpa [World.setCell] using hb,fun j t ht=>(hc j t ht).keep fun q hq=>?_⟩;exact World.cell?_of_block (w:=w) (Below.heap_setCell w ⟨g,i,none⟩ u q.block (fun e2=>hne ad e (by rw [hq,block_of_add] at e2;exact e2)))
theorem store_end (w wr:World) (VA:Option Addr) (vc:Nat) (ms:List MM) (n:Nat) (P:AL) (hr:Blk2c 24 wr w.heap.size (.int .i64 0) (.slice none 0 0))
    (hown:OwnM (w.heap.size+2) wr (.slice VA ms.length vc) ms) (hmh:MHT wr ms P) (hb:Below w.heap.size w wr) (hvc:ms.length≤vc) (hvr:MRd wr VA ms) :
    ∃ A c us, Ending.returned (.tuple #[.agg #[.int .i64 n, .slice VA ms.length vc], .int .i64 0]) = .returned (.tuple #[.agg #[.int .i64 n, .slice A (us : List MM).length c], .int .i64 0]) ∧ us.length ≤ c ∧
      AT ((wr.setCell ⟨w.heap.size,0,none⟩ (.int .i64 n)).setCell ⟨w.heap.size,1,none⟩ (.slice VA ms.length vc)) A us P∧Below w.heap.size w ((wr.setCell ⟨w.heap.size,0,none⟩ (.int .i64 n)).setCell ⟨w.heap.size,1,none⟩ (.slice VA ms.length vc)):=by
  have hlt:=World.ownsRow.lt hown;have hne:∀ ad,VA=some ad→ad.block≠w.heap.size:=fun ad e h=>by
    have:=(hlt ad.block (by rw [e];rfl)).1;omega
  have ho:Off wr ((wr.setCell ⟨w.heap.size,0,none⟩ (.int .i64 n)).setCell ⟨w.heap.size,1,none⟩ (.slice VA ms.length vc)):=((Off.refl wr).setT hr.ty (by decide) _ _).setT (hr.ty.set_ _ _ _) (by decide) _ _;exact ⟨VA,vc,ms,rfl,hvc,⟨(hvr.far hne _ _).far hne _ _,fun ad e=>((ownsRow_type hown ad.block (by rw [e];rfl)).set_ _ _ _).set_ _ _ _,hmh.off ho⟩,(hb.setCell (Nat.le_refl _) _).setCell (Nat.le_refl _) _⟩
theorem AT.put2 {w:World} {A:Option Addr} {ms:List MM} {p:AL} {g:Nat} {t:TypeId} (h:AT w A ms p) (hg:HasT w g t) (ht:Plain_ t=false) (hn:t≠79) (x y:Value):AT ((w.setCell ⟨g,0,none⟩ x).setCell ⟨g,1,none⟩ y) A ms p:=by
  have hne:∀ ad,A=some ad→ad.block≠g:=fun ad e h2=>hn ((by rw [← h2] at hg;exact hg.uniq (h.ty ad e)))
  have ho:Off w ((w.setCell ⟨g,0,none⟩ x).setCell ⟨g,1,none⟩ y):=((Off.refl w).setT hg ht _ _).setT (hg.set_ _ _ _) ht _ _;exact ⟨(h.rd.far hne _ _).far hne _ _,fun ad e=>((h.ty ad e).set_ _ _ _).set_ _ _ _,h.hs.off ho⟩
end Go.Proofs.YtgekmfcbbjeahaaGreatDoor
/- poly.store. -/
attribute [local go_sem ↓] Go.wp_at_zero Go.wp_at_succ
namespace Go.Proofs.YtgekmfcbbjeahaaGreatDoor
open Go.RowKit V
set_option maxRecDepth 100000 in
set_option maxHeartbeats 3200000 in
theorem pstore_ok (n : Nat) (A : Option Addr) (c : Nat) (ts : List TM) (p : List (Nat × Rat)) (w : World) (hx : PRd w A ts p) (bx : ts.length ≤ 4000) (hn : n ≤ 8) (hm : Words p) (hf : ∀ t ∈ p, TFits t.1 t.2) :
    Calls Tryz.prog 52 #[.int .i64 n,.slice A ts.length c] w (StoreOk n p w):=by
  have HM:=Lib.hid hm;have HF:=Lib.hid hf;have HL:=Lib.hid hx.hs.1;have hb1:decide ((4000:Int)<(ts.length:Int))=false:=by simp;omega
  clear hm hf;go_enter Tryz.func52,Tryz.ntmps52;go_wp2;go_loopw [8,17] (fun _ i wr=>∃ v:Value,∃ ms:List MM,ms.length≤ts.length∧i = .int .i64 ms.length∧Blk2c 24 wr w.heap.size (.int .i64 0) (.slice none 0 0)∧Blk2c 24 wr (w.heap.size+1) (.int .i64 n) v ∧
      OwnM (w.heap.size+2) wr v ms∧MHT wr ms ((up n p).take ms.length)∧Below w.heap.size w wr) (fun _ i _=>ts.length - (intOf i).toNat)
  case atStart=>
    refine ⟨.slice none 0 0,[],Nat.zero_le _,rfl,(Blk2c.new _ w _ _).alloc _,?_,OwnM.nil_ _ _,MHT.nil _,((Below.refl _ _).alloc (Nat.le_refl _) _).alloc (by simp) _⟩;have:=Blk2c.new 24 (w.alloc (.cells #[.int .i64 0,.slice none 0 0] 24)) (.int .i64 n) (.slice none 0 0);simpa using this
  case round=>
    obtain ⟨v,ms,hk,rfl,hr0,hp0,hown,hmh,hbw⟩:=hrel
    by_cases hlt:ms.length<ts.length
    · obtain ⟨ad,t,rfl,hb,ht,hc⟩:=(hx.below hbw).rd.ask hlt;obtain ⟨m,q,hp,he,hnum,hcl1,hcl2⟩:=(hx.below hbw).hs.2 _ t ht.out;obtain ⟨c0,c1,c2,c3⟩:=hc;have hml:t.e<18446744073709551616:=by rw [he];exact HM.out (m,q) (getD_mem hp)
      have hfit:TFits t.e q:=by rw [he];exact HF.out (m,q) (getD_mem hp)
      have HFIT:=Lib.hid hfit;have HP:Hid ((up n p)[ms.length]?=some (exL t.e n,q)):=by show _=_;simp [up,hp,he]
      have kb:=Blk4.new 115 wr (.int .u64 t.e) (.bool t.c.s) (.slice t.c.N t.c.ns.length t.c.nc) (.slice t.c.D t.c.ds.length t.c.dc);have hb1:Below wr.heap.size wr (wr.alloc (.cells #[.int .u64 t.e,.bool t.c.s,.slice t.c.N t.c.ns.length t.c.nc,.slice t.c.D t.c.ds.length t.c.dc] 115)):=(Below.refl _ _).alloc (Nat.le_refl _) _;clear hfit hp he;go_wp2_with fail;obtain ⟨w1,hwe⟩:∃ x,wr.alloc (.cells #[.int .u64 t.e,.bool t.c.s,.slice t.c.N t.c.ns.length t.c.nc,.slice t.c.D t.c.ds.length t.c.dc] 115)=x:=⟨_,rfl⟩;rw [hwe] at kb hb1 ⊢;clear hwe c0 c1 c2 c3;obtain ⟨a0,a1,a2,a3,a4,a5,a6,a7,a8⟩:=kb.facts;refine (pfits t q _ (hnum.below hb1) hml (by omega) (by omega)).mono ?_;rintro e w2 ⟨b,rfl,hbf,hb2⟩;obtain rfl:b=true:=hbf.2 HFIT.out;clear hbf;have kb2:=kb.below hb2;have hb12:=hb1.trans (hb2.mono hb1.size);have hnum2:=hnum.below hb12;have hr2:=hr0.below hb12;have hp2:=hp0.below hb12;have hown2:=hown.below hb12;have hmh2:=hmh.off (Off.of_below hb12);have hw2:=hbw.trans (hb12.mono hbw.size);have hplt:=hp0.lt;have hvl0:∀ g,v.ownBlock=some g→g<wr.heap.size:=fun g e=>(World.ownsRow.lt hown g e).2
      clear hb1 hb2 kb hnum hr0 hp0 hmh hbw a0 a1 a2 a3 a4 a5 a6 a7 a8;obtain ⟨a0,a1,a2,a3,a4,a5,a6,a7,a8⟩:=kb2.facts;obtain ⟨p0,p1,p2,p3,p4⟩:=hp2.facts;have HKW:Hid (WFits q 200):=HFIT.out.2;have hne1:¬ wr.heap.size=w.heap.size+1:=by omega
      have hne2:¬ w.heap.size+1=wr.heap.size:=by omega
      have hvo:=(OwnM.form hown2);obtain ⟨VA,vc,hve,hvc,hvr,hvlt⟩:=hvo;have hv1:v.ownBlock≠some (w.heap.size+1):=fun e=>by have:=(hvlt _ e).1;omega
      obtain ⟨i0,hi,hz0,hz1,hz2⟩:=info_parts info_mono;have hmsb:ms.length≤4000:=by omega
      have hv2:v.ownBlock≠some wr.heap.size:=fun e=>by have:=hvl0 _ e;omega
      have HOWN:=Lib.hid hown2;have HMH:=Lib.hid hmh2;have HR2:=Lib.hid hr2;clear hown hown2 hmh2 hr2 hvr hve;have hw0:=hw2.size;go_upto_region 9 with fail;refine wp_region_last 13 (S:=fun w'=>w'.cell? ⟨w.heap.size+1,1,none⟩=some (v)∧w'.cell? ⟨wr.heap.size,0,none⟩=some (.int .u64 t.e)∧w'.cell? ⟨wr.heap.size,1,none⟩=some (.bool t.c.s)∧w'.cell? ⟨wr.heap.size,2,none⟩=some (.slice t.c.N t.c.ns.length t.c.nc)∧w'.cell? ⟨wr.heap.size,3,none⟩=some (.slice t.c.D t.c.ds.length t.c.dc)) (by kernel_rfl) ?_ (fun hHeld=>?_)
      · exact ⟨hp2.facts.c1,kb2.facts.c0,kb2.facts.c1,kb2.facts.c2,kb2.facts.c3⟩
      refine wpAnyL_take (i:=0) (v:=?v0L1) rfl (by kernel_rfl) (by kernel_rfl) (by kernel_rfl) (fun _ _ _ h=>h) (by kernel_rfl) (by kernel_rfl) (Or.inl ⟨by rfl,?hy0L1⟩) (by assumption) ?rest0L1
      case hy0L1=>
        intro w hSw
        (try dsimp only at hSw)
        go_simp
        all_goals with_reducible rfl
      simp only [Act.put,List.getElem_toArray,List.getElem_cons_zero,List.setIfInBounds_toArray,List.set_cons_zero,List.set_cons_succ];refine wpAnyL_take (i:=1) (v:=?v1L1) rfl (by kernel_rfl) (by kernel_rfl) (by kernel_rfl) (fun _ _ _ h=>h) (by kernel_rfl) (by kernel_rfl) (Or.inl ⟨by rfl,?hy1L1⟩) (by assumption) ?rest1L1
      case hy1L1=>
        intro w hSw
        (try dsimp only at hSw)
        go_simp
        all_goals with_reducible rfl
      simp only [Act.put,List.getElem_toArray,List.getElem_cons_zero,List.getElem_cons_succ,List.setIfInBounds_toArray,List.set_cons_zero,List.set_cons_succ];refine wpAnyL_take (i:=2) (v:=?v2L1) rfl (by kernel_rfl) (by kernel_rfl) (by kernel_rfl) (fun _ _ _ h=>h) (by kernel_rfl) (by kernel_rfl) (Or.inl ⟨by rfl,?hy2L1⟩) (by assumption) ?rest2L1
      case hy2L1=>
        intro w hSw
        (try dsimp only at hSw)
        go_simp
        all_goals with_reducible rfl
      simp only [Act.put,List.getElem_toArray,List.getElem_cons_zero,List.getElem_cons_succ,List.setIfInBounds_toArray,List.set_cons_zero,List.set_cons_succ];refine wpAnyL_take (i:=3) (v:=?v3L1) rfl (by kernel_rfl) (by kernel_rfl) (by kernel_rfl) (fun _ _ _ h=>h) (by kernel_rfl) (by kernel_rfl) (Or.inl ⟨by rfl,?hy3L1⟩) (by assumption) ?rest3L1
      case hy3L1=>
        intro w hSw
        (try dsimp only at hSw)
        go_simp
        all_goals with_reducible rfl
      simp only [Act.put,List.getElem_toArray,List.getElem_cons_zero,List.getElem_cons_succ,List.setIfInBounds_toArray,List.set_cons_zero,List.set_cons_succ];refine wpAnyL_take (i:=4) (v:=?v4L1) rfl (by kernel_rfl) (by kernel_rfl) (by kernel_rfl) (fun _ _ _ h=>h) (by kernel_rfl) (by kernel_rfl) (Or.inl ⟨by rfl,?hy4L1⟩) (by assumption) ?rest4L1
      case hy4L1=>
        intro w hSw
        (try dsimp only at hSw)
        go_simp
        all_goals with_reducible rfl
      simp only [Act.put,List.getElem_toArray,List.getElem_cons_zero,List.getElem_cons_succ,List.setIfInBounds_toArray,List.set_cons_zero,List.set_cons_succ];refine wpAnyL_take (i:=6) (v:=?v6L1) rfl (by kernel_rfl) (by kernel_rfl) (by kernel_rfl) (fun _ _ _ h=>h) (by kernel_rfl) (by kernel_rfl) (Or.inl ⟨by rfl,?hy6L1⟩) (by assumption) ?rest6L1
      case hy6L1=>
        intro w hSw
        (try dsimp only at hSw)
        go_simp
        all_goals with_reducible rfl
      simp only [Act.put,List.getElem_toArray,List.getElem_cons_zero,List.getElem_cons_succ,List.setIfInBounds_toArray,List.set_cons_zero,List.set_cons_succ];refine wpAnyL_take (i:=7) (v:=?v7L1) rfl (by kernel_rfl) (by kernel_rfl) (by kernel_rfl) (fun _ _ _ h=>h) (by kernel_rfl) (by kernel_rfl) (Or.inl ⟨by rfl,?hy7L1⟩) (by assumption) ?rest7L1
      case hy7L1=>
        intro w hSw
        (try dsimp only at hSw)
        go_simp
        all_goals with_reducible rfl
      simp only [Act.put,List.getElem_toArray,List.getElem_cons_zero,List.getElem_cons_succ,List.setIfInBounds_toArray,List.set_cons_zero,List.set_cons_succ];refine wpAnyL_next 5 (by kernel_rfl) rfl (fun K hK=>?_);clear hHeld;go_simp;refine (punpack t.e n _ hn hml).mono ?_;rintro e wx_ ⟨g,rfl,hxr,hgx,hbx⟩;have hbxq:Below w2.heap.size w2 wx_:=by first | exact below_of_drew hbx (Nat.le_refl _) | exact hbx
      have kbx:=kb2.below hbxq;have hpx:=hp2.below hbxq;go_wp2_with fail;refine hK.out _ _ ?_ (fun hHeld=>?_)
      · exact ⟨hpx.facts.c1,kbx.facts.c0,kbx.facts.c1,kbx.facts.c2,kbx.facts.c3⟩
      clear hK K
      try simp only [Act.put,List.getElem_toArray,List.getElem_cons_zero,List.getElem_cons_succ,List.setIfInBounds_toArray,List.set_cons_zero,List.set_cons_succ]
      refine wpAnyL_next 8 (by kernel_rfl) rfl (fun K hK=>?_);clear hHeld;go_simp;refine (wRat t.c q _ (hnum2.below hbxq) (by omega) (by omega)).mono ?_;rintro e wy_ ⟨r,rfl,hri,hrt,hby⟩;have kby:=kbx.below hby;have hpy:=hpx.below hby;have hbz:=hbxq.trans (hby.mono hbxq.size);have hrny:=hxr.rt.below hby;have hys:=hbz.size;go_wp2_with fail;refine hK.out _ _ ?_ (fun hHeld=>?_)
      · exact ⟨hpy.facts.c1,kby.facts.c0,kby.facts.c1,kby.facts.c2,kby.facts.c3⟩
      clear hK K
      try simp only [Act.put,List.getElem_toArray,List.getElem_cons_zero,List.getElem_cons_succ,List.setIfInBounds_toArray,List.set_cons_zero,List.set_cons_succ]
      refine wpAnyL_take (i:=9) (v:=?v9L1) rfl (by kernel_rfl) (by kernel_rfl) (by kernel_rfl) (fun _ _ _ h=>h) (by kernel_rfl) (by kernel_rfl) (Or.inl ⟨by rfl,?hy9L1⟩) (by assumption) ?rest9L1
      case hy9L1=>
        intro w hSw
        (try dsimp only at hSw)
        go_simp
        all_goals with_reducible rfl
      simp only [Act.put,List.getElem_toArray,List.getElem_cons_zero,List.getElem_cons_succ,List.setIfInBounds_toArray,List.set_cons_zero,List.set_cons_succ];refine wpAnyL_next 10 (by kernel_rfl) rfl (fun K hK=>?_);clear hHeld;go_simp;refine hK.out _ _ ?_ (fun hHeld=>?_)
      · exact ⟨(hpy.alloc _).facts.c1,(kby.alloc _).facts.c0,(kby.alloc _).facts.c1,(kby.alloc _).facts.c2,(kby.alloc _).facts.c3⟩
      clear hK K
      try simp only [Act.put,List.getElem_toArray,List.getElem_cons_zero,List.getElem_cons_succ,List.setIfInBounds_toArray,List.set_cons_zero,List.set_cons_succ]
      refine wpAnyL_next 11 (by kernel_rfl) rfl (fun K hK=>?_);clear hHeld;refine step_append_lies _ (by rfl) _ _ _ (by rfl) (w.heap.size+2) 79 i0 _ 4 80 Tryz.underlying22 hi hz0 hz1 hz2 rfl (by omega) v ms.length (flatM ms) (by rfl) (World.ownsRow.alloc (HOWN.out.below hbz) _)
        ⟨wy_.heap.size,0,none⟩ 1 1 [.slice (some ⟨g,0,none⟩) n n,.bool r.s,.slice r.N r.ns.length r.nc,.slice r.D r.ds.length r.dc] (by rfl) (by rfl) (World.news_of_block (cs:=#[.slice (some ⟨g,0,none⟩) n n,.bool r.s,.slice r.N r.ns.length r.nc,.slice r.D r.ds.length r.dc]) (t:=79) (fr:=(0,0)) (heap_alloc_new _ _)) (by simp [Value.oneCell'])
        (by omega) (by unfold maxLen;omega) (by omega) (by simp;omega) (wy_.heap.size+1) (by simp) ?_
      intro gg cap w4 hown4 hgrow hat hlt4;have kb4:=(kby.alloc _).grown hgrow hv2;have hp4:=(hpy.alloc _).grown hgrow hv1;refine hK.out _ _ ?_ (fun hHeld=>?_)
      · exact ⟨hp4.facts.c1,kb4.facts.c0,kb4.facts.c1,kb4.facts.c2,kb4.facts.c3⟩
      clear hK K
      try simp only [Act.put,List.getElem_toArray,List.getElem_cons_zero,List.getElem_cons_succ,List.setIfInBounds_toArray,List.set_cons_zero,List.set_cons_succ]
      refine wpAnyL_take (i:=12) (v:=?v12L1) rfl (by kernel_rfl) (by kernel_rfl) (by kernel_rfl) (fun _ _ _ h=>h) (by kernel_rfl) (by kernel_rfl) (Or.inl ⟨by rfl,?hy12L1⟩) (by assumption) ?rest12L1
      case hy12L1=>
        intro w hSw
        (try dsimp only at hSw)
        go_simp
        all_goals with_reducible rfl
      simp only [Act.put,List.getElem_toArray,List.getElem_cons_zero,List.getElem_cons_succ,List.setIfInBounds_toArray,List.set_cons_zero,List.set_cons_succ];refine wpAnyL_last (by kernel_rfl) (by kernel_rfl) (by kernel_rfl) rfl (fun K hK=>?_);clear hHeld;go_simp;obtain ⟨u0,u1,u2,u3,u4⟩:=hp4.facts;go_simp;refine hK.out _ _ ?_;clear hK K
      try simp only [Act.put,List.getElem_toArray,List.getElem_cons_zero,List.getElem_cons_succ,List.setIfInBounds_toArray,List.set_cons_zero,List.set_cons_succ]
      go_wp2;go_roundw
      case rel=>exact store_step w wy_ w4 v ms n g gg cap r q t.e (up n p) ts.length hlt (HR2.out.below hbz) hpy (HOWN.out.below hbz) (HMH.out.off (Off.of_below hbz)) (hw2.trans (hbz.mono hw2.size)) HP.out hrny hri hrt HKW.out _ hown4 hgrow
      case measure=>simp [intOf];omega
    · have he:ms.length=ts.length:=by omega
      have HE2:=Lib.hid he;obtain ⟨p0,p1,p2,p3,p4⟩:=hp0.facts;obtain ⟨r0,r1,r2,r3,r4⟩:=hr0.facts;obtain ⟨VA,vc,rfl,hvc,hvr,hvlt⟩:=hown.form;have HP0:=Lib.hid hp0;have HR0:=Lib.hid hr0;have HMT:=Lib.hid hmh;clear hmh;have hne:¬ w.heap.size=w.heap.size+1:=by omega
      clear he;go_wp2_with fail;refine bodyPost_ret (v:=.tuple #[.agg #[.int .i64 n,.slice VA ms.length vc],.int .i64 0]) (by simp [results,Tryz.results52,go_sem,r0,r1]) rfl ?_;have hle:ms.length=ts.length:=HE2.out;have hfull:(up n p).take ms.length=up n p:=List.take_of_length_le (by simp [up];rw [hle,HL.out];exact Nat.le_refl _);rw [hfull] at HMT;exact store_end w wr VA vc ms n (up n p) HR0.out hown HMT.out hbw hvc hvr
end Go.Proofs.YtgekmfcbbjeahaaGreatDoor
