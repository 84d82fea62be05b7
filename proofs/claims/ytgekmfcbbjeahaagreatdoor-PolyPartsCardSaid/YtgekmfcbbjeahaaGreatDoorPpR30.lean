/- The reference's polynomials: slices of terms of eleven cells. -/
import Derived.Test.YtgekmfcbbjeahaaGreatDoorPpR29
namespace Go.Proofs.YtgekmfcbbjeahaaGreatDoor
open Go.RowKit V
structure TR where
  m:Nat
  c:RL
def TR.cells (t:TR):List Value:=[.int .i64 (ex t.m 0:Nat),.int .i64 (ex t.m 1:Nat),.int .i64 (ex t.m 2:Nat),.int .i64 (ex t.m 3:Nat),.int .i64 (ex t.m 4:Nat),.int .i64 (ex t.m 5:Nat),.int .i64 (ex t.m 6:Nat),.int .i64 (ex t.m 7:Nat),.bool t.c.s,.slice t.c.N t.c.ns.length t.c.nc,.slice t.c.D t.c.ds.length t.c.dc]
theorem TR.cells_len (t:TR):t.cells.length=11:=rfl
structure RCell (w:World) (p:Addr) (t:TR):Prop where
  c0:w.cell? p=some (.int .i64 (ex t.m 0:Nat))
  c1:w.cell? ⟨p.block,p.off+1,none⟩=some (.int .i64 (ex t.m 1:Nat))
  c2:w.cell? ⟨p.block,p.off+2,none⟩=some (.int .i64 (ex t.m 2:Nat))
  c3:w.cell? ⟨p.block,p.off+3,none⟩=some (.int .i64 (ex t.m 3:Nat))
  c4:w.cell? ⟨p.block,p.off+4,none⟩=some (.int .i64 (ex t.m 4:Nat))
  c5:w.cell? ⟨p.block,p.off+5,none⟩=some (.int .i64 (ex t.m 5:Nat))
  c6:w.cell? ⟨p.block,p.off+6,none⟩=some (.int .i64 (ex t.m 6:Nat))
  c7:w.cell? ⟨p.block,p.off+7,none⟩=some (.int .i64 (ex t.m 7:Nat))
  c8:w.cell? ⟨p.block,p.off+8,none⟩=some (.bool t.c.s)
  c9:w.cell? ⟨p.block,p.off+9,none⟩=some (.slice t.c.N t.c.ns.length t.c.nc)
  c10:w.cell? ⟨p.block,p.off+10,none⟩=some (.slice t.c.D t.c.ds.length t.c.dc)
theorem RCell.keep {w w':World} {p:Addr} {t:TR} (h:RCell w p t) (hk:∀ q:Addr,q.block=p.block→w'.cell? q=w.cell? q):RCell w' p t:=
  ⟨(hk p rfl).trans h.c0,(hk ⟨p.block,p.off+1,none⟩ rfl).trans h.c1,(hk ⟨p.block,p.off+2,none⟩ rfl).trans h.c2,(hk ⟨p.block,p.off+3,none⟩ rfl).trans h.c3,(hk ⟨p.block,p.off+4,none⟩ rfl).trans h.c4,(hk ⟨p.block,p.off+5,none⟩ rfl).trans h.c5,(hk ⟨p.block,p.off+6,none⟩ rfl).trans h.c6,(hk ⟨p.block,p.off+7,none⟩ rfl).trans h.c7,(hk ⟨p.block,p.off+8,none⟩ rfl).trans h.c8,(hk ⟨p.block,p.off+9,none⟩ rfl).trans h.c9,(hk ⟨p.block,p.off+10,none⟩ rfl).trans h.c10⟩
def QRd (w:World) (A:Option Addr) (ts:List TR):Prop:=
  0<ts.length → ∃ ad,A=some ad∧ad.block<w.heap.size ∧ ∀ j t,ts[j]?=some t→RCell w (ad.add (j*11)) t
theorem QRd.nil_ {w:World} {A:Option Addr}:QRd w A []:=fun h=>by simp at h
theorem QRd.below {w w':World} {A:Option Addr} {ts:List TR} (h:QRd w A ts) (hb:Below w.heap.size w w'):QRd w' A ts:=fun hn=>by
  obtain ⟨ad,e,hl,hc⟩:=h hn;exact ⟨ad,e,Nat.lt_of_lt_of_le hl hb.size,fun j t ht=>(hc j t ht).keep fun q hq=>hb.cell (by rw [hq,block_of_add];exact hl)⟩
theorem QRd.ask {w:World} {A:Option Addr} {ts:List TR} (h:QRd w A ts) {k:Nat} (hk:k<ts.length) :
    ∃ ad t,A=some ad∧ad.block<w.heap.size∧Hid (ts[k]?=some t)∧RCell w (ad.add (k*11)) t:=by
  obtain ⟨ad,e,hl,hc⟩:=h (by omega);exact ⟨ad,ts[k],e,hl,List.getElem?_eq_getElem hk,hc k _ (List.getElem?_eq_getElem hk)⟩
def QHolds (L:Nat) (w:World) (ts:List TR) (p:PL):Prop:=ts.length=p.length ∧ ∀ (j:Nat) (t:TR),ts[j]?=some t → ∃ q,p[j]?=some (t.m,q)∧t.c.Ref w q∧t.c.TyI w∧t.c.ns.length≤L∧t.c.ds.length≤L
theorem QHolds.below {L:Nat} {w w':World} {ts:List TR} {p:PL} (h:QHolds L w ts p) (hb:Below w.heap.size w w'):QHolds L w' ts p:=
  ⟨h.1,fun j t ht=>by obtain ⟨q,h1,h2,h2',h3⟩:=h.2 j t ht;exact ⟨q,h1,h2.below hb,h2'.below hb,h3⟩⟩
theorem QHolds.off {L:Nat} {w w':World} {ts:List TR} {p:PL} (h:QHolds L w ts p) (ho:Off w w'):QHolds L w' ts p:=
  ⟨h.1,fun j t ht=>by obtain ⟨q,h1,h2,h2',h3⟩:=h.2 j t ht;exact ⟨q,h1,h2.off h2' ho,h2'.off ho,h3⟩⟩
theorem QHolds.mons {L:Nat} {w:World} {ts:List TR} {p:PL} (h:QHolds L w ts p):ts.map TR.m=p.map Prod.fst:=by
  refine List.ext_getElem (by rw [List.length_map,List.length_map,h.1]) fun i h1 h2=>?_
  rw [List.length_map] at h1 h2;obtain ⟨q,e,_⟩:=h.2 i ts[i] (List.getElem?_eq_getElem h1);rw [List.getElem?_eq_getElem h2] at e;rw [List.getElem_map,List.getElem_map,Option.some.inj e]
theorem QHolds.nil_ (L:Nat) (w:World):QHolds L w [] []:=⟨rfl,fun j t h=>by simp at h⟩
theorem QHolds.le {L M:Nat} {w:World} {ts:List TR} {p:PL} (h:QHolds L w ts p) (hl:L≤M):QHolds M w ts p:=
  ⟨h.1,fun j t ht=>by obtain ⟨q,h1,h2,h2',h3,h4⟩:=h.2 j t ht;exact ⟨q,h1,h2,h2',Nat.le_trans h3 hl,Nat.le_trans h4 hl⟩⟩
theorem QHolds.snoc {L:Nat} {w:World} {ts:List TR} {p:PL} (h:QHolds L w ts p) {t:TR} {q:Rat} (hc:t.c.Ref w q) (hty:t.c.TyI w) (l1:t.c.ns.length≤L) (l2:t.c.ds.length≤L):QHolds L w (ts ++ [t]) (p ++ [(t.m,q)]):=by
  refine ⟨by simp [h.1],fun j u hu=>?_⟩;rcases Nat.lt_or_ge j ts.length with hj | hj
  · rw [List.getElem?_append_left hj] at hu;obtain ⟨q',h1,h2⟩:=h.2 j u hu;exact ⟨q',by rw [List.getElem?_append_left (by rw [← h.1];exact hj)];exact h1,h2⟩
  · rw [List.getElem?_append_right hj] at hu;have hz:j - ts.length=0:=by
      have:=(List.getElem?_eq_some_iff.1 hu).1;simp at this;omega
    rw [hz] at hu;injection hu with hu;subst hu;exact ⟨q,by rw [List.getElem?_append_right (by rw [← h.1];exact hj),← h.1,hz];rfl,hc,hty,l1,l2⟩
structure QPR (L:Nat) (w:World) (A:Option Addr) (ts:List TR) (p:PL):Prop where
  rd:QRd w A ts
  hs:QHolds L w ts p
theorem QPR.below {L:Nat} {w w':World} {A:Option Addr} {ts:List TR} {p:PL} (h:QPR L w A ts p) (hb:Below w.heap.size w w'):QPR L w' A ts p:=⟨h.rd.below hb,h.hs.below hb⟩
def QP (L:Nat) (p:PL) (w:World) (e:Ending) (w':World):Prop:=
  ∃ A c ts,e = .returned (.slice A (ts:List TR).length c)∧ts.length≤c∧QPR L w' A ts p∧Below w.heap.size w w'
def flatR (ts:List TR):List Value:=ts.flatMap TR.cells
theorem flatR_snoc (a:List TR) (m:TR):flatR (a ++ [m])=flatR a ++ m.cells:=by simp [flatR]
theorem flatR_get:∀ (ts:List TR) (k:Nat) (t:TR) (i:Nat),ts[k]?=some t→i<11→(flatR ts)[k*11+i]?=t.cells[i]?
  | [],k,t,i,h,_=>by simp at h
  | a :: r, 0, t, i, h, hi => by
    simp at h;subst h;show (a.cells ++ flatR r)[0*11+i]?=_;rw [List.getElem?_append_left (by rw [TR.cells_len];omega)];congr 1;omega
  | a :: r, k + 1, t, i, h, hi => by
    have ih:=flatR_get r k t i (by simpa using h) hi;show (a.cells ++ flatR r)[(k+1)*11+i]?=_;rw [List.getElem?_append_right (by rw [TR.cells_len];omega),← ih];congr 1;rw [TR.cells_len];omega
def OwnR (B:Nat) (w:World) (v:Value) (ts:List TR):Prop:=w.ownsRow B 82 11 v ts.length (flatR ts)
theorem OwnR.below {B:Nat} {w w':World} {v:Value} {ts:List TR} (h:OwnR B w v ts) (hb:Below w.heap.size w w'):OwnR B w' v ts:=ownsRow_below h hb
theorem OwnR.nil_ (B:Nat) (w:World):OwnR B w (.slice none 0 0) []:=World.ownsRow_nil _ _ _ _
theorem OwnR.form {B:Nat} {w:World} {v:Value} {ts:List TR} (h:OwnR B w v ts):∃ A c,v = .slice A ts.length c∧ts.length≤c∧QRd w A ts∧(A=none→ts.length=0∧c=0)∧(∀ g,v.ownBlock=some g→B≤g∧g<w.heap.size):=by
  have hlt:=World.ownsRow.lt h;rcases h.2 with ⟨rfl,h0⟩ | ⟨g,cap,cur,rfl,_,h3,hc,_⟩
  · have:ts=[]:=List.eq_nil_of_length_eq_zero h0;subst this;exact ⟨none,0,rfl,Nat.le_refl _,QRd.nil_,fun _=>⟨rfl,rfl⟩,hlt⟩
  · refine ⟨_,cap,rfl,hc,fun hn=>⟨_,rfl,(hlt g rfl).2,fun j m hm=>?_⟩,(fun h=>by cases h),hlt⟩;have hj:j<ts.length:=(List.getElem?_eq_some_iff.1 hm).1;have e:(⟨g,0,none⟩:Addr).add (j*11)=⟨g,j*11,none⟩:=by unfold Addr.add;split <;> simp_all
    have key:∀ i,i<11→w.cell? ⟨g,j*11+i,none⟩=m.cells[i]?:=fun i hi=>by
      rw [World.ownsRow.cellAt h (j*11+i) (by omega)];exact flatR_get ts j m i hm hi
    rw [e];exact ⟨key 0 (by omega),key 1 (by omega),key 2 (by omega),key 3 (by omega),key 4 (by omega),key 5 (by omega),key 6 (by omega),key 7 (by omega),key 8 (by omega),key 9 (by omega),key 10 (by omega)⟩
theorem info_rterm:(Tryz.prog.info? 82).map (fun i=>(i.zero,i.size,i.bytes))=some (some (.agg #[.int .i64 0,.int .i64 0,.int .i64 0,.int .i64 0,.int .i64 0,.int .i64 0,.int .i64 0,.int .i64 0,.bool false,.slice none 0 0,.slice none 0 0]),11,120):=by kernel_rfl
theorem wpList_appR {ops:Array Oper} {rest:List Oper} {o:Oper} {a:Act} {Q:Exit→Act→World→Prop} {w:World} (hgd:o.guard=none) (s x:Operand) (st:TypeId)
    (ho:o.op = .call { callee:=.builtin .append,args:=#[s,x],argTypes:=#[st,st] }) (ht:Tryz.prog.underlying st=some (.slice 82))
    (B:Nat) (v:Value) (ts:List TR) (t:TR) (hs:a.eval s=v) (hown:OwnR B w v ts)
    (hx:a.eval x = .slice (some ⟨w.heap.size,0,none⟩) 1 1) (hB:B≤w.heap.size) (hlen:ts.length≤100000)
    (h:∀ v' w',OwnR B w' v' (ts ++ [t])→Below B w w'→Off w w'→wpList Tryz.prog ops Q rest (a.put o.dst v') w') :
    wpList Tryz.prog ops Q (o :: rest) a (w.alloc (.cells #[.int .i64 (ex t.m 0:Nat),.int .i64 (ex t.m 1:Nat),.int .i64 (ex t.m 2:Nat),.int .i64 (ex t.m 3:Nat),.int .i64 (ex t.m 4:Nat),.int .i64 (ex t.m 5:Nat),.int .i64 (ex t.m 6:Nat),.int .i64 (ex t.m 7:Nat),.bool t.c.s,.slice t.c.N t.c.ns.length t.c.nc,.slice t.c.D t.c.ds.length t.c.dc] 82)):=by
  obtain ⟨i0,hi,hz0,hz1,hz2⟩:=info_parts info_rterm;refine wpList_append_own _ hgd s x st ho B 82 i0 _ 11 120 ht hi hz0 hz1 hz2 rfl (by decide) v ts.length (flatR ts) hs (World.ownsRow.alloc hown _) ⟨w.heap.size,0,none⟩ 1 1 t.cells hx rfl
    (World.news_of_block (cs:=#[.int .i64 (ex t.m 0:Nat),.int .i64 (ex t.m 1:Nat),.int .i64 (ex t.m 2:Nat),.int .i64 (ex t.m 3:Nat),.int .i64 (ex t.m 4:Nat),.int .i64 (ex t.m 5:Nat),.int .i64 (ex t.m 6:Nat),.int .i64 (ex t.m 7:Nat),.bool t.c.s,.slice t.c.N t.c.ns.length t.c.nc,.slice t.c.D t.c.ds.length t.c.dc]) (heap_alloc_new _ _)) (by intro u hu;simp only [TR.cells,List.mem_cons,List.not_mem_nil,or_false] at hu;rcases hu with rfl | rfl | rfl | rfl | rfl | rfl | rfl | rfl | rfl | rfl | rfl <;> rfl) (by unfold maxLen;omega) (by omega) (by simp;omega) ?_
  intro v' w' hown' hg _;have hlt:=World.ownsRow.lt hown;refine h v' w' ?_ ?_ ?_
  · show w'.ownsRow B _ 11 v' (ts ++ [t]).length (flatR (ts ++ [t]));rw [flatR_snoc,List.length_append];exact hown'
  · exact ((Below.refl _ _).alloc hB _).grown hg (by simp;omega) fun g hg=>(hlt g hg).1
  · exact ((Off.refl w).alloc _).grown hg (fun g hg=>⟨82,by decide,ownsRow_type (World.ownsRow.alloc hown _) g hg⟩)
end Go.Proofs.YtgekmfcbbjeahaaGreatDoor
/- isochroneref03.None of nothing, isochronelaw03.long, region 5's kin. -/
attribute [local go_sem ↓] Go.wp_at_zero Go.wp_at_succ
namespace Go.Proofs.YtgekmfcbbjeahaaGreatDoor
open Go.RowKit V
theorem PRaw.drew {w:World} {A:Option Addr} {ms:List MM} {es:List (List Int)} (h:PRaw w A ms es):PRaw w.drew A ms es:=h.below (below_drew_ (Below.refl _ _) 1)
theorem PRaw.alloc {w:World} {A:Option Addr} {ms:List MM} {es:List (List Int)} (h:PRaw w A ms es) (o:Obj):PRaw (w.alloc o) A ms es:=h.below ((Below.refl _ _).alloc (Nat.le_refl _) o)
set_option maxRecDepth 100000 in
set_option maxHeartbeats 800000 in
theorem pnone0 (w:World):Calls Tryz.prog 32 #[.agg #[.int .i64 0,.slice none 0 0]] w (Yes w):=by
  have hb0:Below w.heap.size w (w.alloc (.cells #[.int .i64 0,.slice none 0 0] 24)):=(Below.refl _ _).alloc (Nat.le_refl _) _;go_enter Tryz.func32,Tryz.ntmps32;go_wp2;go_ret;exact ⟨rfl,hb0⟩
end Go.Proofs.YtgekmfcbbjeahaaGreatDoor
/- isochroneref03.Of: the exponents of the terms that it makes. -/
attribute [local go_sem ↓] Go.wp_at_zero Go.wp_at_succ
namespace Go.Proofs.YtgekmfcbbjeahaaGreatDoor
open Go.RowKit V
def ExP (l:List Nat) (w:World) (e:Ending) (w':World):Prop:=
  ∃ A c ts,e = .returned (.slice A (ts:List TR).length c)∧ts.length≤c∧QRd w' A ts∧ts.map TR.m=l∧Below w.heap.size w w'
theorem pad_ex {n:Nat} {e:List Int} (h:EV n e) (hn:n≤8):pad e=exI (packL (e.map Int.toNat)) 8:=by
  obtain ⟨e1,e2,e3⟩:=h.toNat;have hl:(e.map Int.toNat).length=n:=by omega
  have hx:∀ x ∈ e.map Int.toNat,x<256:=fun x hx=>by have:=le_sum hx;omega
  have hel:e.length=n:=by have:=h.1;omega
  have h1:=exL_packL (xs:=e.map Int.toNat) (by omega) hx;have ho:=on_packL (xs:=e.map Int.toNat) (by omega);rw [hl] at h1 ho;refine List.ext_getElem (by rw [pad,fillI_len (Nat.le_refl _) (by omega),exI_len]) fun i i1 i2=>?_
  have i8:i<8:=by rw [exI_len] at i2;exact i2
  have g1:(exI (packL (e.map Int.toNat)) 8)[i]?=some ((ex (packL (e.map Int.toNat)) i:Nat):Int):=exI_get _ 8 i i8;have g2:(pad e)[i]?=some ((ex (packL (e.map Int.toNat)) i:Nat):Int):=by
    unfold pad fillI;rw [List.take_length];rcases Nat.lt_or_ge i n with hi | hi
    · have e4:e[i]?=((e.map Int.toNat).map (fun (x:Nat)=>(x:Int)))[i]?:=congrArg (fun l:List Int=>l[i]?) e1;rw [List.getElem?_append_left (by omega),e4,List.getElem?_map];have h2:=exL_get (packL (e.map Int.toNat)) n i hi;rw [h1] at h2;rw [← h2,List.getD_eq_getElem?_getD,List.getElem?_eq_getElem (by omega)];rfl
    · rw [List.getElem?_append_right (by omega),List.getElem?_replicate,if_pos (by omega),ex_on ho hi i8];rfl
  rw [List.getElem?_eq_getElem i1] at g2;rw [List.getElem?_eq_getElem i2] at g1;exact Option.some.inj (g2.trans g1.symm)
theorem IRow.grown {w w':World} {g:Nat} {xs:List Int} {row:Option Nat} (h:IRow w g xs) (hg:w.grownBy w' row) (hne:row≠some g):IRow w' g xs:=(hg.block g h.lt (fun e=>hne e.symm)).trans h
theorem IRow.ex8 {w:World} {g M:Nat} (h:IRow w g (exI M 8)):∀ i,i<8→w.cell? ⟨g,i,none⟩=some (.int .i64 ((ex M i:Nat):Int)):=fun i hi=>h.cell (exI_get M 8 i hi)
theorem of_step {L B k gg cap:Nat} {w4:World} {ts:List TR} {M:Nat} {r:RL} {P:PL} {q:Rat} (hts:QHolds L w4 ts (P.take k)) (hr:r.Ref w4 q) (hrt:r.TyI w4) (hr1:r.ns.length≤L) (hr2:r.ds.length≤L) (hk:ts.length=k) (hP:P[k]?=some (M,q))
    (hown4:w4.ownsRow B 82 11 (.slice (some ⟨gg,0,none⟩) (ts.length+1) cap) (ts.length+1) (flatR ts ++ TR.cells ⟨M,r⟩)) :
    OwnR B w4 (.slice (some ⟨gg,0,none⟩) (ts.length+1) cap) (ts ++ [(⟨M,r⟩:TR)])∧QHolds L w4 (ts ++ [(⟨M,r⟩:TR)]) (P.take (k+1))∧(ts ++ [(⟨M,r⟩:TR)]).length=k+1:=by
  refine ⟨?_,?_,by rw [List.length_append,hk];rfl⟩
  · unfold OwnR;rw [flatR_snoc,List.length_append];exact hown4
  · rw [take_snoc' hP];exact hts.snoc hr hrt hr1 hr2
theorem info_int1:(Tryz.prog.info? 3).map (·.size)=some 1:=by kernel_rfl
theorem copy_exps {W : World} {g : Nat} {X : Option Addr} {xc : Nat} {e : List Int} (hI : IRow W g [0, 0, 0, 0, 0, 0, 0, 0]) (hr : RdI W X e) (hn : e.length ≤ 8) :
    ∃ W',(∀ ty,(Builtin.copy_ #[43,43] ty #[.slice (some ⟨g,0,none⟩) 8 8,.slice X e.length xc]).run Tryz.prog W = .ok (.int .i64 e.length) W')∧IRow W' g (pad e)∧Below g W W':=by
  by_cases h0:e.length=0
  · refine ⟨W,fun ty=>?_,?_,Below.refl _ _⟩
    · rw [run_copy_none (P:=Tryz.prog) W 43 43 ty 3 (some ⟨g,0,none⟩) X 8 8 e.length xc Tryz.underlying43 info_int1 (by rw [h0];rfl),h0];rfl
    · rw [List.eq_nil_of_length_eq_zero h0];exact hI
  · obtain ⟨ad,rfl,hb,hc⟩:=hr (by omega);refine ⟨W.setRow g ((arrV [0,0,0,0,0,0,0,0]).toList.take 0 ++ e.map (Value.int .i64) ++ (arrV [0,0,0,0,0,0,0,0]).toList.drop (0+(e.map (Value.int .i64)).length)).toArray,fun ty=>?_,?_,?_⟩
    · rw [run_copy_row (P := Tryz.prog) W 43 43 ty 3 g 0 8 8 ad e.length xc (arrV [0, 0, 0, 0, 0, 0, 0, 0]) 80 (e.map (Value.int .i64)) Tryz.underlying43 info_int1 hI (by rw [List.length_map]; show _ = min _ _; omega) ?_ (by rw [List.length_map]; show 0 + e.length ≤ 8; omega) ?_, List.length_map]
      · rfl
      · intro j v hj;rw [List.getElem?_map] at hj;cases hx:e[j]? with
        | none=>rw [hx] at hj;cases hj
        | some x =>
          rw [hx] at hj;injection hj with hj;rw [← hj];exact hc j x hx
      · intro v hv;obtain ⟨x,_,rfl⟩:=List.mem_map.1 hv;rfl
    · unfold IRow;rw [setRow_heap W g (arrV [0,0,0,0,0,0,0,0]) _ 80 (0,0) hI];congr 2;unfold pad fillI;rw [List.take_length];simp only [List.take_zero,List.nil_append,List.length_map,Nat.zero_add,arrV,List.map_append,List.map_replicate];congr 2;have:∀ k,k≤8→([0,0,0,0,0,0,0,0]:List Int).drop k=List.replicate (8 - k) 0:=by decide
      rw [← List.map_drop,this _ hn,List.map_replicate]
    · exact below_setRow (Below.refl _ _) (Nat.le_refl _) _
set_option maxRecDepth 100000 in
set_option maxHeartbeats 6400000 in
theorem pof (n : Int) (A : Option Addr) (c : Nat) (ms : List MM) (es : List (List Int)) (w : World) (h : PRaw w A ms es) (hv : PVal n ms es) (L : Nat) (hL : ∀ m ∈ ms, 4 * m.c.ns.length ≤ L ∧ 4 * m.c.ds.length ≤ L) :
    Calls Tryz.prog 11 #[.agg #[.int .i64 n,.slice A ms.length c]] w (QP L (polyOf ms es) w):=by
  have HH:=Lib.hid h;have HV:=Lib.hid hv;have h4000:=hv.len;have hn8:=hv.hi;have hn0:=hv.lo;have HL:=Lib.hid hL;clear hv h hL;have hb0:Below w.heap.size w (w.alloc (.cells #[.int .i64 n,.slice A ms.length c] 24)):=(Below.refl _ _).alloc (Nat.le_refl _) _;go_enter Tryz.func11,Tryz.ntmps11;go_wp2;go_loopw [3,10] (fun v si wr=>∃ (ts:List TR),ts.length≤ms.length∧si = .int .i64 ts.length∧OwnR (w.heap.size+1) wr v ts∧QHolds L wr ts ((polyOf ms es).take ts.length)∧Below w.heap.size w wr∧w.heap.size+1≤wr.heap.size) (fun _ si _=>ms.length - (intOf si).toNat)
  case atStart=>exact ⟨[],by simp,rfl,OwnR.nil_ _ _,QHolds.nil_ _ _,hb0,by simp⟩
  case round=>
    obtain ⟨ts,hk,rfl,hown,hts,hbw,hsz⟩:=hrel;clear hb0;have HTS:=Lib.hid hts;clear hts
    by_cases hlt:ts.length<ms.length
    · obtain ⟨ad,m,rfl,hb,hm,hc⟩:=(HH.out.below hbw).rd.ask hlt;obtain ⟨e,he,hre,hme,hmc,hraw⟩:=(HH.out.below hbw).hs.2 _ m hm.out;obtain ⟨g1,g2⟩:=HV.out.all.good ts.length e m hlt he hm.out;have hel:e.length≤8:=by have:=g1.1;omega
      obtain ⟨hp1,hcl1,hcl2,hval⟩:=g2;obtain ⟨hL1,hL2⟩:=HL.out m (List.mem_of_getElem? hm.out);have HIS:=Lib.hid (hraw.is hval);have HPAD:Hid (pad e=exI (packL (e.map Int.toNat)) 8):=by
        obtain ⟨N,rfl⟩:=Int.eq_ofNat_of_zero_le hn0;exact pad_ex g1 (by omega)
      have HGET:=Lib.hid (polyOf_get hm.out he);obtain ⟨c0,c1,c2,c3⟩:=hc;rw [hme] at c0;have hkt:=Blk4.new 79 wr (.slice m.X e.length m.xc) (.bool m.c.s) (.slice m.c.N m.c.ns.length m.c.nc) (.slice m.c.D m.c.ds.length m.c.dc);have hbt:Below wr.heap.size wr (wr.alloc (.cells #[.slice m.X e.length m.xc,.bool m.c.s,.slice m.c.N m.c.ns.length m.c.nc,.slice m.c.D m.c.ds.length m.c.dc] 79)):=(Below.refl _ _).alloc (Nat.le_refl _) _;go_upto_region 6 with fail;clear g1 hmc hme he hp1 hval c0 c1 c2 c3;obtain ⟨w1,hwe⟩:∃ x,wr.alloc (.cells #[.slice m.X e.length m.xc,.bool m.c.s,.slice m.c.N m.c.ns.length m.c.nc,.slice m.c.D m.c.ds.length m.c.dc] 79)=x:=⟨_,rfl⟩;have hwl:w1.heap.size=wr.heap.size+1:=by rw [← hwe];simp
      rw [hwe] at hkt hbt
      try rw [hwe]
      obtain ⟨w2,hw2⟩:∃ x,w1.alloc (.cells #[.int .i64 0,.int .i64 0,.int .i64 0,.int .i64 0,.int .i64 0,.int .i64 0,.int .i64 0,.int .i64 0] 80)=x:=⟨_,rfl⟩;have hI:IRow w2 (wr.heap.size+1) [0,0,0,0,0,0,0,0]:=by rw [← hw2,← hwl];exact IRow.new w1 [0,0,0,0,0,0,0,0]
      have hbi:Below w1.heap.size w1 w2:=by rw [← hw2];exact (Below.refl _ _).alloc (Nat.le_refl _) _
      rw [hw2];clear hw2 hwe;have hkt2:=hkt.below hbi;have hq2:Below wr.heap.size wr w2:=hbt.trans (hbi.mono hbt.size);obtain ⟨w3,hcp,hI3,hb3⟩:=copy_exps (xc:=m.xc) (W:=w2.drew) hI (hre.below hq2).drew hel;have HQ3:Hid (Below wr.heap.size wr w3):=hq2.trans (((Below.refl _ w2).drew).trans (hb3.mono (by omega)));have hkt3:Blk4 79 w3 wr.heap.size (.slice m.X e.length m.xc) (.bool m.c.s) (.slice m.c.N m.c.ns.length m.c.nc) (.slice m.c.D m.c.ds.length m.c.dc):=(hb3.block wr.heap.size (by omega)).trans hkt2;rw [HPAD.out] at hI3;have HRE:=Lib.hid hre;have HOWN:=Lib.hid hown;have hovl:u3.ownBlock≠some wr.heap.size:=fun e=>by have:=(World.ownsRow.lt hown _ e).2;omega
      have hovr:u3.ownBlock≠some (wr.heap.size+1):=fun e=>by have:=(World.ownsRow.lt hown _ e).2;omega
      clear hre hown hkt hbt hbi hI hq2 hb3;obtain ⟨M,hM⟩:∃ M,packL (e.map Int.toNat)=M:=⟨_,rfl⟩;rw [hM] at hI3 HGET;clear hM HPAD
      refine wp_region_held_drew (S:=fun w'=>w'.cell? ⟨wr.heap.size,0,none⟩=some (.slice m.X e.length m.xc)) (by kernel_rfl) ?_ (fun hHeld=>?_)
      · exact hkt2.facts.c0
      refine wpAnyH_take (i:=0) (v:=?v0) rfl (by kernel_rfl) (by kernel_rfl) (by kernel_rfl) (fun _ _ _ h=>h) (Or.inl ⟨by rfl,?hy0⟩) (by assumption) ?rest0
      case hy0=>
        intro w hSw
        (try dsimp only at hSw)
        go_simp
        all_goals with_reducible rfl
      simp only [Act.put,List.getElem_toArray,List.getElem_cons_zero,List.setIfInBounds_toArray,List.set_cons_zero,List.set_cons_succ];refine wpAnyH_take (i:=1) (v:=?v1) rfl (by kernel_rfl) (by kernel_rfl) (by kernel_rfl) (fun _ _ _ h=>h) (Or.inl ⟨by rfl,?hy1⟩) (by assumption) ?rest1
      case hy1=>
        intro w hSw
        (try dsimp only at hSw)
        go_simp
        all_goals with_reducible rfl
      simp only [Act.put,List.getElem_toArray,List.getElem_cons_zero,List.getElem_cons_succ,List.setIfInBounds_toArray,List.set_cons_zero,List.set_cons_succ];refine wpAnyH_take (i:=2) (v:=?v2) rfl (by kernel_rfl) (by kernel_rfl) (by kernel_rfl) (fun _ _ _ h=>h) (Or.inl ⟨by rfl,?hy2⟩) (by assumption) ?rest2
      case hy2=>
        intro w hSw
        (try dsimp only at hSw)
        go_simp
        all_goals with_reducible rfl
      simp only [Act.put,List.getElem_toArray,List.getElem_cons_zero,List.getElem_cons_succ,List.setIfInBounds_toArray,List.set_cons_zero,List.set_cons_succ];refine wpAnyH_ready (rs:=[3]) (by kernel_rfl) (by simp) ?_;refine AllReadyH.cons (o:=_) rfl (fun K hK=>?_) AllReadyH.nil;go_simp;refine hK.out _ _ ?_ (fun hHeld=>?_)
      · exact hkt3.facts.c0
      clear hK K
      try simp only [Act.put,List.getElem_toArray,List.getElem_cons_zero,List.getElem_cons_succ,List.setIfInBounds_toArray,List.set_cons_zero,List.set_cons_succ]
      refine wpAnyH_done (by kernel_rfl) ?_ _;go_upto_region 7 with fail;obtain ⟨i0,hi,hz0,hz1,hz2⟩:=info_parts info_rterm;clear hcp HRE;refine wp_region_last 8 (S:=fun w'=>w'.cell? ⟨wr.heap.size+1,0,none⟩=some (.int .i64 (ex M 0:Nat))∧w'.cell? ⟨wr.heap.size+1,1,none⟩=some (.int .i64 (ex M 1:Nat))∧w'.cell? ⟨wr.heap.size+1,2,none⟩=some (.int .i64 (ex M 2:Nat))∧w'.cell? ⟨wr.heap.size+1,3,none⟩=some (.int .i64 (ex M 3:Nat))∧w'.cell? ⟨wr.heap.size+1,4,none⟩=some (.int .i64 (ex M 4:Nat))∧w'.cell? ⟨wr.heap.size+1,5,none⟩=some (.int .i64 (ex M 5:Nat))∧w'.cell? ⟨wr.heap.size+1,6,none⟩=some (.int .i64 (ex M 6:Nat))∧w'.cell? ⟨wr.heap.size+1,7,none⟩=some (.int .i64 (ex M 7:Nat))∧w'.cell? ⟨wr.heap.size,1,none⟩=some (.bool m.c.s)∧w'.cell? ⟨wr.heap.size,2,none⟩=some (.slice m.c.N m.c.ns.length m.c.nc)∧w'.cell? ⟨wr.heap.size,3,none⟩=some (.slice m.c.D m.c.ds.length m.c.dc)) (by kernel_rfl) ?_ (fun hHeld=>?_)
      · exact ⟨hI3.ex8 0 (by omega),hI3.ex8 1 (by omega),hI3.ex8 2 (by omega),hI3.ex8 3 (by omega),hI3.ex8 4 (by omega),hI3.ex8 5 (by omega),hI3.ex8 6 (by omega),hI3.ex8 7 (by omega),hkt3.facts.c1,hkt3.facts.c2,hkt3.facts.c3⟩
      refine wpAnyL_take (i:=0) (v:=?v0L1) rfl (by kernel_rfl) (by kernel_rfl) (by kernel_rfl) (fun _ _ _ h=>h) (by kernel_rfl) (by kernel_rfl) (Or.inl ⟨by rfl,?hy0L1⟩) (by assumption) ?rest0L1
      case hy0L1=>
        intro w hSw
        (try dsimp only at hSw)
        go_simp
        all_goals with_reducible rfl
      simp only [Act.put,List.getElem_toArray,List.getElem_cons_zero,List.setIfInBounds_toArray,List.set_cons_zero,List.set_cons_succ];refine wpAnyL_take (i:=1) (v:=?v1L1) rfl (by kernel_rfl) (by kernel_rfl) (by kernel_rfl) (fun _ _ _ h=>h) (by kernel_rfl) (by kernel_rfl) (Or.inl ⟨by rfl,?hy1L1⟩) (by assumption) ?rest1L1
      case hy1L1=>
        intro w hSw
        (try dsimp only at hSw)
        go_simp
        all_goals with_reducible rfl
      simp only [Act.put,List.getElem_toArray,List.getElem_cons_zero,List.getElem_cons_succ,List.setIfInBounds_toArray,List.set_cons_zero,List.set_cons_succ];refine wpAnyL_take (i:=2) (v:=?v2L1) rfl (by kernel_rfl) (by kernel_rfl) (by kernel_rfl) (fun _ _ _ h=>h) (by kernel_rfl) (by kernel_rfl) (Or.inl ⟨by rfl,?hy2L1⟩) (by assumption) ?rest2L1
      case hy2L1=>
        intro w hSw
        (try dsimp only at hSw)
        go_simp
        all_goals with_reducible rfl
      simp only [Act.put,List.getElem_toArray,List.getElem_cons_zero,List.getElem_cons_succ,List.setIfInBounds_toArray,List.set_cons_zero,List.set_cons_succ];refine wpAnyL_take (i:=3) (v:=?v3L1) rfl (by kernel_rfl) (by kernel_rfl) (by kernel_rfl) (fun _ _ _ h=>h) (by kernel_rfl) (by kernel_rfl) (Or.inl ⟨by rfl,?hy3L1⟩) (by assumption) ?rest3L1
      case hy3L1=>
        intro w hSw
        (try dsimp only at hSw)
        go_simp
        all_goals with_reducible rfl
      simp only [Act.put,List.getElem_toArray,List.getElem_cons_zero,List.getElem_cons_succ,List.setIfInBounds_toArray,List.set_cons_zero,List.set_cons_succ];refine wpAnyL_next 4 (by kernel_rfl) rfl (fun K hK=>?_);clear hHeld;go_simp;refine (qofT m.c _ _ (HIS.out.below (HQ3.out.drew)) (by omega) (by omega)).mono ?_;rintro e' wx ⟨r,rfl,hr,hrt,hrl1,hrl2,hbx⟩;have hbx3:Below w3.heap.size w3 wx:=by first | exact below_of_drew hbx (Nat.le_refl _) | exact hbx
      have HQX:=Lib.hid (HQ3.out.trans (hbx3.mono HQ3.out.size));have hktx:=hkt3.below hbx3;have hIx:=hI3.below hbx3;have hxs:=HQX.out.size;have hIxl:=hIx.lt;have hktl:=hktx.lt;go_wp2_with fail;refine hK.out _ _ ?_ (fun hHeld=>?_)
      · exact ⟨hIx.ex8 0 (by omega),hIx.ex8 1 (by omega),hIx.ex8 2 (by omega),hIx.ex8 3 (by omega),hIx.ex8 4 (by omega),hIx.ex8 5 (by omega),hIx.ex8 6 (by omega),hIx.ex8 7 (by omega),hktx.facts.c1,hktx.facts.c2,hktx.facts.c3⟩
      clear hK K
      try simp only [Act.put,List.getElem_toArray,List.getElem_cons_zero,List.getElem_cons_succ,List.setIfInBounds_toArray,List.set_cons_zero,List.set_cons_succ]
      refine wpAnyL_take (i:=5) (v:=?v5L1) rfl (by kernel_rfl) (by kernel_rfl) (by kernel_rfl) (fun _ _ _ h=>h) (by kernel_rfl) (by kernel_rfl) (Or.inl ⟨by rfl,?hy5L1⟩) (by assumption) ?rest5L1
      case hy5L1=>
        intro w hSw
        (try dsimp only at hSw)
        go_simp
        all_goals with_reducible rfl
      simp only [Act.put,List.getElem_toArray,List.getElem_cons_zero,List.getElem_cons_succ,List.setIfInBounds_toArray,List.set_cons_zero,List.set_cons_succ];refine wpAnyL_next 6 (by kernel_rfl) rfl (fun K hK=>?_);clear hHeld;go_simp;refine hK.out _ _ ?_ (fun hHeld=>?_)
      · exact ⟨(hIx.alloc _).ex8 0 (by omega),(hIx.alloc _).ex8 1 (by omega),(hIx.alloc _).ex8 2 (by omega),(hIx.alloc _).ex8 3 (by omega),(hIx.alloc _).ex8 4 (by omega),(hIx.alloc _).ex8 5 (by omega),(hIx.alloc _).ex8 6 (by omega),(hIx.alloc _).ex8 7 (by omega),(hktx.alloc _).facts.c1,(hktx.alloc _).facts.c2,(hktx.alloc _).facts.c3⟩
      clear hK K
      try simp only [Act.put,List.getElem_toArray,List.getElem_cons_zero,List.getElem_cons_succ,List.setIfInBounds_toArray,List.set_cons_zero,List.set_cons_succ]
      refine wpAnyL_next 7 (by kernel_rfl) rfl (fun K hK=>?_);clear hHeld;refine step_append_lies _ rfl _ _ _ rfl (w.heap.size+1) 82 i0 _ 11 120 Tryz.underlying31 hi hz0 hz1 hz2 rfl (by omega) u3 ts.length (flatR ts) rfl (World.ownsRow.alloc (HOWN.out.below HQX.out) _)
        ⟨wx.heap.size,0,none⟩ 1 1 [.int .i64 (ex M 0:Nat),.int .i64 (ex M 1:Nat),.int .i64 (ex M 2:Nat),.int .i64 (ex M 3:Nat),.int .i64 (ex M 4:Nat),.int .i64 (ex M 5:Nat),.int .i64 (ex M 6:Nat),.int .i64 (ex M 7:Nat),.bool r.s,.slice r.N r.ns.length r.nc,.slice r.D r.ds.length r.dc] rfl rfl (World.news_of_block (cs:=#[.int .i64 (ex M 0:Nat),.int .i64 (ex M 1:Nat),.int .i64 (ex M 2:Nat),.int .i64 (ex M 3:Nat),.int .i64 (ex M 4:Nat),.int .i64 (ex M 5:Nat),.int .i64 (ex M 6:Nat),.int .i64 (ex M 7:Nat),.bool r.s,.slice r.N r.ns.length r.nc,.slice r.D r.ds.length r.dc]) (t:=82) (fr:=(0,0)) (heap_alloc_new _ _)) (by simp [Value.oneCell'])
        (by omega) (by unfold maxLen;omega) (by omega) (by simp;omega) (wx.heap.size+1) (by simp) ?_
      intro gg cap w4 hown4 hgrow hat hlt4;have hkt4:=(hktx.alloc _).grown hgrow hovl;have hI4:=(hIx.alloc _).grown hgrow hovr;refine hK.out _ _ ?_ (fun hHeld=>?_)
      · exact ⟨hI4.ex8 0 (by omega),hI4.ex8 1 (by omega),hI4.ex8 2 (by omega),hI4.ex8 3 (by omega),hI4.ex8 4 (by omega),hI4.ex8 5 (by omega),hI4.ex8 6 (by omega),hI4.ex8 7 (by omega),hkt4.facts.c1,hkt4.facts.c2,hkt4.facts.c3⟩
      clear hK K
      try simp only [Act.put,List.getElem_toArray,List.getElem_cons_zero,List.getElem_cons_succ,List.setIfInBounds_toArray,List.set_cons_zero,List.set_cons_succ]
      refine wpAnyL_last (by kernel_rfl) (by kernel_rfl) (by kernel_rfl) rfl (fun K hK=>?_);clear hHeld;go_simp;refine hK.out _ _ ?_;clear hK K
      try simp only [Act.put,List.getElem_toArray,List.getElem_cons_zero,List.getElem_cons_succ,List.setIfInBounds_toArray,List.set_cons_zero,List.set_cons_succ]
      have hoff:Off wx w4:=((Off.refl wx).alloc _).grown hgrow (fun g hg=>⟨82,by decide,ownsRow_type (World.ownsRow.alloc (HOWN.out.below HQX.out) _) g hg⟩);obtain ⟨o1,o2,o3⟩:=of_step ((HTS.out.off (Off.of_below HQX.out)).off hoff) (hr.off hrt hoff) (hrt.off hoff) (by omega) (by omega) rfl HGET.out hown4;clear hoff hr hrt;have HO1:=Lib.hid o1;have HO2:=Lib.hid o2;clear o1 o2 hkt4 hI4 hIx hktx hI3 hkt3 hkt2;go_wp2_with fail;go_roundw
      case rel=>
        have hqx:=HQX.out;have hbt:Below w.heap.size w w4:=hbw.trans ((hqx.mono hbw.size).trans (((Below.refl _ _).alloc (by omega) _).grown hgrow (by simp;omega) fun g hg=>by have:=(World.ownsRow.lt HOWN.out g hg).1;omega));refine ⟨ts ++ [(⟨M,r⟩:TR)],?_,?_,HO1.out,?_,hbt,?_⟩
        · rw [o3];omega
        · rw [o3];go_num
        · rw [o3];exact HO2.out
        · have h1:=(hqx.mono hbw.size).size;have h2:=hgrow.size;simp at h2;omega
      case measure=>simp [intOf];omega
    · have hke:ts.length=ms.length:=by omega
      obtain ⟨VA,vc,rfl,hvc,hvr,hvn,hvlt⟩:=hown.form;have hpl:(polyOf ms es).take ms.length=polyOf ms es:=List.take_of_length_le (by rw [polyOf,List.length_zipWith];omega);have HTE:Hid (QHolds L wr ts (polyOf ms es)):=by have:=HTS.out;rw [hke,hpl] at this;exact this
      clear hpl hke;go_wp2;go_ret;exact ⟨VA,vc,ts,rfl,hvc,⟨hvr,HTE.out⟩,hbw⟩
theorem pofE (n:Int) (A:Option Addr) (c:Nat) (ms:List MM) (es:List (List Int)) (w:World) (h:PRaw w A ms es) (hv:PVal n ms es) :
    Calls Tryz.prog 11 #[.agg #[.int .i64 n,.slice A ms.length c]] w (ExP ((polyOf ms es).map Prod.fst) w):=by
  refine (pof n A c ms es w h hv 800 fun m hm=>?_).mono ?_
  · obtain ⟨j,hj⟩:=List.getElem?_of_mem hm;obtain ⟨e,he,_⟩:=h.hs.2 j m hj;obtain ⟨_,_,l1,l2,_⟩:=hv.all.good j e m (List.getElem?_eq_some_iff.1 hj).1 he hj;omega
  · rintro e w' ⟨Q,qc,ts,rfl,hqc,hq,hb⟩;exact ⟨Q,qc,ts,rfl,hqc,hq.rd,hq.hs.mons,hb⟩
end Go.Proofs.YtgekmfcbbjeahaaGreatDoor
