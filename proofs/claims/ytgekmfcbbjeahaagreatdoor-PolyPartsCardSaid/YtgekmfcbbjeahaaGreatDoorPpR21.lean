/- Blocks of terms, known whole; make of a slice of terms; term.fits. -/
import Derived.Test.YtgekmfcbbjeahaaGreatDoorPpR20
namespace Go.Proofs.YtgekmfcbbjeahaaGreatDoor
open Go.RowKit V
def flat (ts:List TM):List Value:=ts.flatMap TM.cells
theorem flat_len (ts:List TM):(flat ts).length=ts.length*4:=by
  induction ts with
  | nil=>rfl
  | cons t r ih=>simp only [flat,List.flatMap_cons,List.length_append] at ih ⊢;rw [ih];simp [TM.cells];omega
theorem flat_append (a b:List TM):flat (a ++ b)=flat a ++ flat b:=by simp [flat]
theorem flat_get:∀ (ts:List TM) (k:Nat) (t:TM) (i:Nat),ts[k]?=some t→i<4→(flat ts)[k*4+i]?=t.cells[i]?
  | [],k,t,i,h,_=>by simp at h
  | a :: r, 0, t, i, h, hi => by
    simp at h;subst h;show (a.cells ++ flat r)[0*4+i]?=_;rw [List.getElem?_append_left (by simp [TM.cells];omega)];congr 1;omega
  | a :: r, k + 1, t, i, h, hi => by
    have ih:=flat_get r k t i (by simpa using h) hi;show (a.cells ++ flat r)[(k+1)*4+i]?=_;rw [List.getElem?_append_right (by simp [TM.cells];omega),← ih];congr 1;simp [TM.cells];omega
theorem flat_set:∀ (ts:List TM) (k:Nat) (t:TM),k<ts.length →
    ((((flat ts).set (k*4) (.int .u64 t.e)).set (k*4+1) (.bool t.c.s)).set (k*4+2) (.slice t.c.N t.c.ns.length t.c.nc)).set (k*4+3) (.slice t.c.D t.c.ds.length t.c.dc)=flat (ts.set k t)
  | [],k,t,h=>by simp at h
  | a :: r,0,t,_=>by simp [flat,TM.cells]
  | a :: r, k + 1, t, h => by
    have ih:=flat_set r k t (by simpa using h);show ((((a.cells ++ flat r).set ((k+1)*4) _).set ((k+1)*4+1) _).set ((k+1)*4+2) _).set ((k+1)*4+3) _=a.cells ++ flat (r.set k t);rw [← ih];have e:∀ (l:List Value) (i:Nat) (v:Value),(a.cells ++ l).set (4+i) v=a.cells ++ l.set i v:=fun l i v=>by
      rw [List.set_append_right _ _ (by simp [TM.cells])];simp [TM.cells]
    rw [show (k+1)*4=4+k*4 by omega,show 4+k*4+1=4+(k*4+1) by omega,show 4+k*4+2=4+(k*4+2) by omega,show 4+k*4+3=4+(k*4+3) by omega,e,e,e,e]
def TRow (w:World) (g:Nat) (ts:List TM):Prop:=w.heap[g]?=some (.cells (flat ts).toArray 115 (0,0))
section
variable {w w':World} {g:Nat} {ts:List TM}
theorem TRow.lt (h:TRow w g ts):g<w.heap.size:=by
  rcases Nat.lt_or_ge g w.heap.size with hlt | hge
  · exact hlt
  · unfold TRow at h;rw [Array.getElem?_eq_none hge] at h;cases h
theorem TRow.cell (h:TRow w g ts) {k:Nat} {t:TM} (ht:ts[k]?=some t) {i:Nat} (hi:i<4):w.cell? ⟨g,k*4+i,none⟩=t.cells[i]?:=by
  rw [cell_of_row w g _ _ _ (0,0) h,List.getElem?_toArray];exact flat_get ts k t i ht hi
theorem TRow.frozen (h:TRow w g ts) (i:Nat):w.frozen? ⟨g,i,none⟩=false:=by
  unfold TRow at h;simp [World.frozen?,h]
theorem TRow.below {B:Nat} (h:TRow w g ts) (hb:Below B w w') (hg:g<B):TRow w' g ts:=(hb.block g hg).trans h
theorem TRow.keep (h:TRow w g ts) (hb:Below w.heap.size w w'):TRow w' g ts:=(hb.block g h.lt).trans h
theorem TRow.far (h:TRow w g ts) {p:Addr} (hp:g≠p.block) (u:Value):TRow (w.setCell p u) g ts:=(Below.heap_setCell w p u g hp).trans h
theorem TRow.new (w:World) (ts:List TM):TRow (w.alloc (.cells (flat ts).toArray 115)) w.heap.size ts:=heap_alloc_new w _
abbrev put4 (w:World) (g k:Nat) (t:TM):World:=(((w.setCell ⟨g,k*4,none⟩ (.int .u64 t.e)).setCell ⟨g,k*4+1,none⟩ (.bool t.c.s)).setCell ⟨g,k*4+2,none⟩ (.slice t.c.N t.c.ns.length t.c.nc)).setCell ⟨g,k*4+3,none⟩ (.slice t.c.D t.c.ds.length t.c.dc)
theorem TRow.set_ (h:TRow w g ts) {k:Nat} (t:TM) (hk:k<ts.length):TRow (put4 w g k t) g (ts.set k t):=by
  unfold TRow at h ⊢;rw [← flat_set ts k t hk];simp [put4,World.setCell,Array.getElem?_modify,h]
theorem TRow.tcell (h:TRow w g ts) {k:Nat} {t:TM} (ht:ts[k]?=some t):TCell w ⟨g,k*4,none⟩ t:=
  ⟨by have:=h.cell ht (i:=0) (by omega);simpa [TM.cells] using this,by have:=h.cell ht (i:=1) (by omega);simpa [TM.cells] using this,by have:=h.cell ht (i:=2) (by omega);simpa [TM.cells] using this,by have:=h.cell ht (i:=3) (by omega);simpa [TM.cells] using this⟩
theorem TRow.rd (h:TRow w g ts):TRd w (some ⟨g,0,none⟩) ts:=fun _=>⟨_,rfl,h.lt,fun j t ht=>by
  have e:(⟨g,0,none⟩:Addr).add (j*4)=⟨g,j*4,none⟩:=by unfold Addr.add;split <;> simp_all
  rw [e];exact h.tcell ht⟩
end
theorem below_put4 {B g:Nat} {a w:World} (h:Below B a w) (hg:B≤g) (k:Nat) (t:TM):Below B a (put4 w g k t):=(((h.setCell hg _).setCell hg _).setCell hg _).setCell hg _
theorem TRow.ty {w:World} {g:Nat} {ts:List TM} (h:TRow w g ts):HasT w g 115:=⟨_,_,h⟩
theorem Off.put4 {a w:World} (h:Off a w) {g:Nat} {t:TypeId} (hg:HasT w g t) (ht:Plain_ t=false) (k:Nat) (u:TM):Off a (put4 w g k u):=
  (((h.setT hg ht _ _).setT (hg.set_ _ _ _) ht _ _).setT ((hg.set_ _ _ _).set_ _ _ _) ht _ _).setT (((hg.set_ _ _ _).set_ _ _ _).set_ _ _ _) ht _ _
def TM0:TM:=⟨0,⟨false,none,0,[],none,0,[]⟩⟩
theorem info_term:(Tryz.prog.info? 115).map (fun i=>(i.zero,i.size,i.bytes))=some (some (.agg #[.int .u64 0,.bool false,.slice none 0 0,.slice none 0 0]),4,64):=by kernel_rfl
theorem made_terms (n : Nat) : madeCells (Value.cells (.agg #[.int .u64 0, .bool false, .slice none 0 0, .slice none 0 0])) (n * 4) = (flat (List.replicate n TM0)).toArray := by
  apply Array.toList_inj.1;have key:∀ n:Nat,(madeCells #[.int .u64 0,.bool false,.slice none 0 0,.slice none 0 0] (n*4)).toList=flat (List.replicate n TM0):=fun n=>by
    induction n with
    | zero=>simp [madeCells,flat]
    | succ n ih =>
      rw [List.replicate_succ',flat_append,← ih];unfold madeCells;rw [show (n+1)*4=n*4+1+1+1+1 by omega];simp only [Array.toList_map,Array.toList_range,List.range_succ,List.map_append,List.map_cons,List.map_nil,List.append_assoc,List.cons_append,List.nil_append];congr 1;have e:∀ i,i<4→(n*4+i) % (#[Value.int .u64 0,.bool false,.slice none 0 0,.slice none 0 0]:Array Value).size=i:=fun i hi=>by
        show (n*4+i) % 4=i;omega
      have e0:=e 0 (by omega);have e1:=e 1 (by omega);have e2:=e 2 (by omega);have e3:=e 3 (by omega);simp only [Nat.add_zero] at e0;rw [e0,e1,show n*4+1+1=n*4+2 by omega,show n*4+2+1=n*4+3 by omega,e2,e3];rfl
  exact key n
theorem make_terms (n:Nat) (N:Int) (hN:N=n) (hn:n≤1000000) (w:World) :
    (Instr.makeSlice 85 (.int .i64 N) (.int .i64 N)).run Tryz.prog w = .ok (.slice (some ⟨w.heap.size,0,none⟩) n n) (w.alloc (.cells (flat (List.replicate n TM0)).toArray 115)):=by
  subst hN;obtain ⟨i0,hi,hz0,hz1,hz2⟩:=info_parts info_term;have hr:=run_make (P:=Tryz.prog) w 85 115 i0 _ Tryz.underlying85 hi hz0 .i64 .i64 n n (by omega) (by omega) (by rw [hz2];omega) (by omega);rw [hr,Int.toNat_natCast,hz1,made_terms]
end Go.Proofs.YtgekmfcbbjeahaaGreatDoor
/- Polynomials of package api in memory. -/
namespace Go.Proofs.YtgekmfcbbjeahaaGreatDoor
open Go.RowKit V
structure MM where
  X:Option Addr
  n:Nat
  xc:Nat
  c:RL
structure MCell (w:World) (p:Addr) (t:MM):Prop where
  c0:w.cell? p=some (.slice t.X t.n t.xc)
  c1:w.cell? ⟨p.block,p.off+1,none⟩=some (.bool t.c.s)
  c2:w.cell? ⟨p.block,p.off+2,none⟩=some (.slice t.c.N t.c.ns.length t.c.nc)
  c3:w.cell? ⟨p.block,p.off+3,none⟩=some (.slice t.c.D t.c.ds.length t.c.dc)
theorem MCell.keep {w w':World} {p:Addr} {t:MM} (h:MCell w p t) (hk:∀ q:Addr,q.block=p.block→w'.cell? q=w.cell? q):MCell w' p t:=
  ⟨(hk p rfl).trans h.c0,(hk ⟨p.block,p.off+1,none⟩ rfl).trans h.c1,(hk ⟨p.block,p.off+2,none⟩ rfl).trans h.c2,(hk ⟨p.block,p.off+3,none⟩ rfl).trans h.c3⟩
def MRd (w:World) (A:Option Addr) (ts:List MM):Prop:=
  0<ts.length → ∃ ad,A=some ad∧ad.block<w.heap.size ∧ ∀ j t,ts[j]?=some t→MCell w (ad.add (j*4)) t
theorem MRd.nil_ {w:World} {A:Option Addr}:MRd w A []:=fun h=>by simp at h
theorem MRd.below {w w':World} {A:Option Addr} {ts:List MM} (h:MRd w A ts) (hb:Below w.heap.size w w'):MRd w' A ts:=fun hn=>by
  obtain ⟨ad,e,hl,hc⟩:=h hn;exact ⟨ad,e,Nat.lt_of_lt_of_le hl hb.size,fun j t ht=>(hc j t ht).keep fun q hq=>hb.cell (by rw [hq,block_of_add];exact hl)⟩
theorem MRd.ask {w:World} {A:Option Addr} {ts:List MM} (h:MRd w A ts) {k:Nat} (hk:k<ts.length) :
    ∃ ad t,A=some ad∧ad.block<w.heap.size∧Hid (ts[k]?=some t)∧MCell w (ad.add (k*4)) t:=by
  obtain ⟨ad,e,hl,hc⟩:=h (by omega);exact ⟨ad,ts[k],e,hl,List.getElem?_eq_getElem hk,hc k _ (List.getElem?_eq_getElem hk)⟩
theorem MRd.first {w:World} {A:Option Addr} {t:MM} {ts:List MM} (h:MRd w A (t :: ts)):∃ ad,A=some ad∧ad.block<w.heap.size∧MCell w ad t:=by
  obtain ⟨ad,e,hl,hc⟩:=h (by simp);have:=hc 0 t rfl;rw [Nat.zero_mul,add_zero_] at this;exact ⟨ad,e,hl,this⟩
theorem MRd.drop {w:World} {A:Option Addr} {ts:List MM} (h:MRd w A ts) {m:Nat} {ad:Addr} (hA:A=some ad):MRd w (some (ad.add (m*4))) (ts.drop m):=fun hn=>by
  rw [List.length_drop] at hn;obtain ⟨ad',e,hb,hc⟩:=h (by omega);rw [hA] at e;injection e with e;subst e;refine ⟨_,rfl,by rw [block_of_add];exact hb,fun j t ht=>?_⟩;rw [List.getElem?_drop] at ht;have:=hc _ t ht;rw [add_of_add];rwa [Nat.add_mul] at this
abbrev AL:=List (List Nat × Rat)
def MHolds (w:World) (ms:List MM) (p:AL):Prop:=ms.length=p.length ∧ ∀ (j:Nat) (m:MM),ms[j]?=some m → ∃ es q,p[j]?=some (es,q)∧Rd .i64 w m.X es∧m.n=es.length∧m.n≤m.xc∧m.c.Is w q∧m.c.ns.length≤200∧m.c.ds.length≤200
theorem MHolds.below {w w':World} {ms:List MM} {p:AL} (h:MHolds w ms p) (hb:Below w.heap.size w w'):MHolds w' ms p:=
  ⟨h.1,fun j m hm=>by obtain ⟨es,q,h1,h2,h3,h3',h4,h5⟩:=h.2 j m hm;exact ⟨es,q,h1,h2.below hb,h3,h3',h4.below hb,h5⟩⟩
structure ARd (w:World) (A:Option Addr) (ms:List MM) (p:AL):Prop where
  rd:MRd w A ms
  hs:MHolds w ms p
theorem ARd.below {w w':World} {A:Option Addr} {ms:List MM} {p:AL} (h:ARd w A ms p) (hb:Below w.heap.size w w'):ARd w' A ms p:=⟨h.rd.below hb,h.hs.below hb⟩
def pk (p:AL):List (Nat × Rat):=p.map fun t=>(packL t.1,t.2)
def EOk (n:Nat) (p:AL):Prop:=n≤8 ∧ ∀ t ∈ p,t.1.length=n∧t.1.sum≤40
theorem EOk.small {n:Nat} {p:AL} (h:EOk n p) {t:List Nat × Rat} (ht:t ∈ p):t.1.length≤8 ∧ ∀ x ∈ t.1,x<256:=
  ⟨by rw [(h.2 t ht).1];exact h.1,fun x hx=>by have:=le_sum hx;have:=(h.2 t ht).2;omega⟩
def PolyT (p:List (Nat × Rat)) (w:World) (e:Ending) (w':World):Prop:=
  ∃ A c ts,e = .returned (.slice A (ts:List TM).length c)∧ts.length≤c∧PRd w' A ts p∧Below w.heap.size w w'
theorem THolds.snoc {w:World} {ts:List TM} {p:List (Nat × Rat)} (h:THolds w ts p) {t:TM} {m:Nat} {q:Rat} (he:t.e=m) (hc:t.c.Num w q) (l1:t.c.ns.length≤20000) (l2:t.c.ds.length≤20000):THolds w (ts ++ [t]) (p ++ [(m,q)]):=by
  refine ⟨by simp [h.1],fun j u hu=>?_⟩;rcases Nat.lt_or_ge j ts.length with hj | hj
  · rw [List.getElem?_append_left hj] at hu;obtain ⟨m',q',h1,h2⟩:=h.2 j u hu;exact ⟨m',q',by rw [List.getElem?_append_left (by rw [← h.1];exact hj)];exact h1,h2⟩
  · rw [List.getElem?_append_right hj] at hu;have h0:j - ts.length=0:=by
      rcases Nat.eq_zero_or_pos (j - ts.length) with h1 | h1
      · exact h1
      · rw [List.getElem?_eq_none (by simp;omega)] at hu;cases hu
    rw [h0] at hu;simp at hu;subst hu;exact ⟨m,q,by rw [List.getElem?_append_right (by rw [← h.1];exact hj),← h.1,h0];rfl,he,hc,l1,l2⟩
def Blk4 (t:TypeId) (w:World) (g:Nat) (a b c d:Value):Prop:=w.heap[g]?=some (.cells #[a,b,c,d] t (0,0))
structure Cells4 (w:World) (g:Nat) (a b c d:Value):Prop where
  c0:w.cell? ⟨g,0,none⟩=some a
  c1:w.cell? ⟨g,1,none⟩=some b
  c2:w.cell? ⟨g,2,none⟩=some c
  c3:w.cell? ⟨g,3,none⟩=some d
  f0:w.frozen? ⟨g,0,none⟩=false
  f1:w.frozen? ⟨g,1,none⟩=false
  f2:w.frozen? ⟨g,2,none⟩=false
  f3:w.frozen? ⟨g,3,none⟩=false
  lt:g<w.heap.size
section
variable {t:TypeId} {w w':World} {g:Nat} {a b c d:Value}
theorem Blk4.lt (h:Blk4 t w g a b c d):g<w.heap.size:=by
  rcases Nat.lt_or_ge g w.heap.size with hlt | hge
  · exact hlt
  · unfold Blk4 at h;rw [Array.getElem?_eq_none hge] at h;cases h
theorem Blk4.facts (h:Blk4 t w g a b c d):Cells4 w g a b c d:=by
  have hf:∀ i,w.frozen? ⟨g,i,none⟩=false:=fun i=>by unfold Blk4 at h;simp [World.frozen?,h]
  exact ⟨cell_of_row _ _ 0 _ _ _ h,cell_of_row _ _ 1 _ _ _ h,cell_of_row _ _ 2 _ _ _ h,cell_of_row _ _ 3 _ _ _ h,hf 0,hf 1,hf 2,hf 3,h.lt⟩
theorem Blk4.below (h:Blk4 t w g a b c d) (hb:Below w.heap.size w w'):Blk4 t w' g a b c d:=(hb.block g h.lt).trans h
theorem Blk4.new (t:TypeId) (w:World) (a b c d:Value):Blk4 t (w.alloc (.cells #[a,b,c,d] t)) w.heap.size a b c d:=heap_alloc_new w _
theorem Blk4.alloc (h:Blk4 t w g a b c d) (o:Obj):Blk4 t (w.alloc o) g a b c d:=(Below.heap_alloc w o g h.lt).trans h
theorem Blk4.drew (h:Blk4 t w g a b c d):Blk4 t w.drew g a b c d:=h
end
theorem set_fill (ts:List TM) (n:Nat) (t:TM) (h:ts.length<n):(ts ++ List.replicate (n - ts.length) TM0).set ts.length t=(ts ++ [t]) ++ List.replicate (n - (ts ++ [t]).length) TM0:=by
  rw [List.set_append_right _ _ (Nat.le_refl _),Nat.sub_self,show n - ts.length=(n - (ts ++ [t]).length)+1 by simp;omega,List.replicate_succ,List.set_cons_zero,List.append_assoc];rfl
theorem take_snoc' {α:Type} {l:List α} {k:Nat} {x:α} (h:l[k]?=some x):l.take (k+1)=l.take k ++ [x]:=by
  rw [List.take_add_one,h];rfl
theorem fill_step (wx w:World) (g:Nat) (ts:List TM) (n m:Nat) (r:RL) (q:Rat) (P:List (Nat × Rat)) (hlt:ts.length<n) (hrow:TRow wx g (ts ++ List.replicate (n - ts.length) TM0)) (hth:THolds wx ts (P.take ts.length))
    (hp:P[ts.length]?=some (m,q)) (hr:r.Num wx q) (l1:r.ns.length≤20000) (l2:r.ds.length≤20000) (hb:Below w.heap.size w wx) (hg:w.heap.size≤g) :
    ∃ us : List TM, us.length ≤ n ∧ Value.int .i64 ((ts.length : Int) + 1) = Value.int .i64 us.length ∧ TRow (put4 wx g ts.length ⟨m, r⟩) g (us ++ List.replicate (n - us.length) TM0) ∧
      THolds (put4 wx g ts.length ⟨m,r⟩) us (P.take us.length)∧Below w.heap.size w (put4 wx g ts.length ⟨m,r⟩):=by
  refine ⟨ts ++ [⟨m,r⟩],by simp;omega,by simp,?_,?_,below_put4 hb hg _ _⟩
  · rw [← set_fill ts n ⟨m,r⟩ hlt];exact hrow.set_ ⟨m,r⟩ (by simp;omega)
  · have ho:Off wx (put4 wx g ts.length ⟨m,r⟩):=(Off.refl _).put4 hrow.ty (by decide) _ _;rw [List.length_append,List.length_singleton,take_snoc' hp];exact (hth.snoc rfl hr l1 l2).off ho
theorem THolds.nil (w:World):THolds w [] []:=⟨rfl,fun j t h=>by simp at h⟩
end Go.Proofs.YtgekmfcbbjeahaaGreatDoor
/- wide.Of and Num.Rat: to and from api.Rat. -/
namespace Go.Proofs.YtgekmfcbbjeahaaGreatDoor
open Go.RowKit V
theorem mag_pairs {xs:List Nat} (h:Mag xs):Mag64 (pairs xs):=⟨dig_pairs h.1,nrm_pairs h.2⟩
theorem V64_pairs (xs:List Nat):V64 (pairs xs)=V32 xs:=val_pairs xs
theorem wq_pairs {s:Bool} {ns ds:List Nat} {q:Rat} (hz:0<ns.length) (h:QOf s (V32 ns) (V32 ds) q):WQ s (pairs ns) (pairs ds) q:=
  .inr ⟨by rw [pairs_len];omega,by rw [V64_pairs,V64_pairs];exact h⟩
def RatW (q:Rat) (w:World) (e:Ending) (w':World):Prop:=
  ∃ r:RL,e = .returned (.agg #[.bool r.s,.slice r.N r.ns.length r.nc,.slice r.D r.ds.length r.dc])∧r.Is w' q∧r.Ty w'∧Below w.heap.size w w'
theorem RatW.put {t:TypeId} {w w':World} {q:Rat} {g n c d e:Nat} {p:Bool} {N D:Option Addr} (r:RL) (hi:r.Is w' q) (ht:r.Ty w') (hb:BlkT t w' g (.bool p) (.slice N n c) (.slice D d e)) (hg:w.heap.size≤g) (hw:Below w.heap.size w w') :
    RatW q w (.returned (.agg #[.bool r.s,.slice r.N r.ns.length r.nc,.slice r.D r.ds.length r.dc])) (Go.Proofs.YtgekmfcbbjeahaaGreatDoor.put3 w' g (.bool r.s) (.slice r.N r.ns.length r.nc) (.slice r.D r.ds.length r.dc)):=
  ⟨r,rfl,hi.put3 hb _ _ _,ht.put3 hb _ _ _,below_put3 hw hg _ _ _⟩
set_option maxRecDepth 100000 in
set_option maxHeartbeats 1600000 in
theorem wOf_nz (a:RL) (q:Rat) (w:World) (ha:a.Is w q) (l1:a.ns.length≤100000) (l2:a.ds.length≤100000) (hz:0<a.ns.length) :
    Calls Tryz.prog 59 #[.agg #[.bool a.s,.slice a.N a.ns.length a.nc,.slice a.D a.ds.length a.dc]] w (NumL q (max ((a.ns.length+1) / 2) ((a.ds.length+1) / 2)) w):=by
  have hne:((a.ns.length:Int) == 0)=false:=beq_eq_false_iff_ne.2 (by omega);go_enter Tryz.func59,Tryz.ntmps59;go_wp2_with fail;have hbox:=boxes2 27 91 w (.bool a.s) (.slice a.N a.ns.length a.nc) (.slice a.D a.ds.length a.dc) (.bool false) (.slice none 0 0) (.slice none 0 0);obtain ⟨w1,hwe⟩:∃ x,(w.alloc (.cells #[.bool a.s,.slice a.N a.ns.length a.nc,.slice a.D a.ds.length a.dc] 27)).alloc (.cells #[.bool false,.slice none 0 0,.slice none 0 0] 91)=x:=⟨_,rfl⟩;rw [hwe] at hbox ⊢;obtain ⟨ka1,kr1,hb1⟩:=hbox;have HWE:=Lib.hid hwe;clear hwe HWE;have ha1:=ha.below hb1;have hw1:=hb1;clear ha hb1;obtain ⟨a0,a1,a2,a3,a4,a5,a6⟩:=ka1.facts;go_upto_region 3 with fail;go_region_held3 (fun w'=>w'.cell? ⟨w.heap.size,0,none⟩=some (.bool a.s)∧w'.cell? ⟨w.heap.size,1,none⟩=some (.slice a.N a.ns.length a.nc)∧w'.cell? ⟨w.heap.size,2,none⟩=some (.slice a.D a.ds.length a.dc)) (first | exact ⟨‹_›,‹_›,‹_›⟩ | go_keep)
    (first
    | (go_at_call_of 114 (Value.slice a.N a.ns.length a.nc)
       refine (wfromShort a.N a.nc a.ns _ (by first | exact ha1.rn | exact ha1.rn.drew | exact (ha1.rn.below hbyq) | exact (ha1.rn.below hbyq).drew) l1 ha1.mn.1).mono ?_;rintro e wx_ ⟨X,xc,xs,rfl,hxc,hX,hbx,hvx⟩;have HVX:=Lib.hid hvx;clear hvx;have hbxq:Below w1.heap.size w1 wx_:=by first | exact below_of_drew hbx (Nat.le_refl _) | exact hbx | exact hbyq.trans (hbx.mono hbyq.size) | exact hbyq.trans (below_of_drew hbx hbyq.size)
       obtain ⟨c0wx_,c1wx_,c2wx_,c3wx_,c4wx_,c5wx_,c6wx_⟩:=(ka1.below hbxq).facts;obtain ⟨d0wx_,d1wx_,d2wx_,d3wx_,d4wx_,d5wx_,d6wx_⟩:=(kr1.below hbxq).facts)
    | (go_at_call_of 114 (Value.slice a.D a.ds.length a.dc)
       refine (wfromShort a.D a.dc a.ds _ (by first | exact ha1.rd | exact ha1.rd.drew | exact (ha1.rd.below hbxq) | exact (ha1.rd.below hbxq).drew) l2 ha1.md.1).mono ?_;rintro e wy_ ⟨Y,yc,ys,rfl,hyc,hY,hby,hvy⟩;have HVY:=Lib.hid hvy;clear hvy;have hbyq:Below w1.heap.size w1 wy_:=by first | exact below_of_drew hby (Nat.le_refl _) | exact hby | exact hbxq.trans (hby.mono hbxq.size) | exact hbxq.trans (below_of_drew hby hbxq.size)
       obtain ⟨c0wy_,c1wy_,c2wy_,c3wy_,c4wy_,c5wy_,c6wy_⟩:=(ka1.below hbyq).facts;obtain ⟨d0wy_,d1wy_,d2wy_,d3wy_,d4wy_,d5wy_,d6wy_⟩:=(kr1.below hbyq).facts))
  all_goals
    go_wp2_with fail
    first
      | (refine bodyPost_ret (v := .agg #[.bool a.s, .slice X xs.length xc, .slice Y ys.length yc]) (by simp [results, Tryz.results59, go_sem, d0wy_, d1wy_, d2wy_]) rfl ?_
         exact NumL.put ⟨a.s,X,xc,xs,Y,yc,ys⟩ ⟨(hX.below hby),hY,by rw [HVX.out];exact mag_pairs ha1.mn,by rw [HVY.out];exact mag_pairs ha1.md,hxc,hyc,by rw [HVX.out,HVY.out];exact wq_pairs hz ha1.q⟩ (kr1.below hbyq) (by omega) (hw1.trans (hbyq.mono hw1.size)) (by rw [HVX.out,pairs_len];exact Nat.le_max_left _ _) (by rw [HVY.out,pairs_len];exact Nat.le_max_right _ _))
      | (refine bodyPost_ret (v := .agg #[.bool a.s, .slice X xs.length xc, .slice Y ys.length yc]) (by simp [results, Tryz.results59, go_sem, d0wx_, d1wx_, d2wx_]) rfl ?_
         exact NumL.put ⟨a.s,X,xc,xs,Y,yc,ys⟩ ⟨hX,(hY.below hbx),by rw [HVX.out];exact mag_pairs ha1.mn,by rw [HVY.out];exact mag_pairs ha1.md,hxc,hyc,by rw [HVX.out,HVY.out];exact wq_pairs hz ha1.q⟩ (kr1.below hbxq) (by omega) (hw1.trans (hbxq.mono hw1.size)) (by rw [HVX.out,pairs_len];exact Nat.le_max_left _ _) (by rw [HVY.out,pairs_len];exact Nat.le_max_right _ _))
set_option maxRecDepth 100000 in
set_option maxHeartbeats 1600000 in
theorem wRat_nz (a:RL) (q:Rat) (w:World) (ha:a.Num w q) (l1:a.ns.length≤100000) (l2:a.ds.length≤100000) (hz:0<a.ns.length) :
    Calls Tryz.prog 99 #[.agg #[.bool a.s,.slice a.N a.ns.length a.nc,.slice a.D a.ds.length a.dc]] w (RatW q w):=by
  have hne:decide (a.ns.length=0)=false:=decide_eq_false (by omega);go_enter Tryz.func99,Tryz.ntmps99;go_wp2_with fail;have hbox:=boxes2 91 27 w (.bool a.s) (.slice a.N a.ns.length a.nc) (.slice a.D a.ds.length a.dc) (.bool false) (.slice none 0 0) (.slice none 0 0);obtain ⟨w1,hwe⟩:∃ x,(w.alloc (.cells #[.bool a.s,.slice a.N a.ns.length a.nc,.slice a.D a.ds.length a.dc] 91)).alloc (.cells #[.bool false,.slice none 0 0,.slice none 0 0] 27)=x:=⟨_,rfl⟩;rw [hwe] at hbox ⊢;obtain ⟨ka1,kr1,hb1⟩:=hbox;have HWE:=Lib.hid hwe;clear hwe HWE;have ha1:=ha.below hb1;have hw1:=hb1;clear ha hb1;obtain ⟨a0,a1,a2,a3,a4,a5,a6⟩:=ka1.facts;go_wp2_with fail;refine (wisZero a.s a.N a.D a.ns.length a.nc a.ds.length a.dc _).mono ?_;rintro e w2 ⟨he,hb2⟩;rw [hne] at he;subst he;have ha2:=ha1.below hb2;have ka2:=ka1.below hb2;have kr2:=kr1.below hb2;have hw2:=hw1.trans (hb2.mono hw1.size);clear ha1 ka1 kr1 hw1 hb2 a0 a1 a2 a3 a4 a5 a6 hne;obtain ⟨w1,rfl⟩:∃ x,x=w2:=⟨_,rfl⟩;have ha1:=ha2;have ka1:=ka2;have kr1:=kr2;have hw1:=hw2;clear ha2 ka2 kr2 hw2;obtain ⟨a0,a1,a2,a3,a4,a5,a6⟩:=ka1.facts;go_upto_region 3 with fail;go_region_held3 (fun w'=>w'.cell? ⟨w.heap.size,0,none⟩=some (.bool a.s)∧w'.cell? ⟨w.heap.size,1,none⟩=some (.slice a.N a.ns.length a.nc)∧w'.cell? ⟨w.heap.size,2,none⟩=some (.slice a.D a.ds.length a.dc)) (first | exact ⟨‹_›,‹_›,‹_›⟩ | go_keep)
    (first
    | (go_at_call_of 146 (Value.slice a.N a.ns.length a.nc)
       refine (wtoShort a.N a.nc a.ns _ (by first | exact ha1.rn.rd | exact ha1.rn.rd.drew | exact (ha1.rn.rd.below hbyq) | exact (ha1.rn.rd.below hbyq).drew) l1 ha1.mn).mono ?_;rintro e wx_ ⟨X,xc,xs,rfl,hxc,hX,hbx,hvx,hmx⟩;have HVX:=Lib.hid hvx;clear hvx;have hbxq:Below w1.heap.size w1 wx_:=by first | exact below_of_drew hbx (Nat.le_refl _) | exact hbx | exact hbyq.trans (hbx.mono hbyq.size) | exact hbyq.trans (below_of_drew hbx hbyq.size)
       obtain ⟨c0wx_,c1wx_,c2wx_,c3wx_,c4wx_,c5wx_,c6wx_⟩:=(ka1.below hbxq).facts;obtain ⟨d0wx_,d1wx_,d2wx_,d3wx_,d4wx_,d5wx_,d6wx_⟩:=(kr1.below hbxq).facts)
    | (go_at_call_of 146 (Value.slice a.D a.ds.length a.dc)
       refine (wtoShort a.D a.dc a.ds _ (by first | exact ha1.rd.rd | exact ha1.rd.rd.drew | exact (ha1.rd.rd.below hbxq) | exact (ha1.rd.rd.below hbxq).drew) l2 ha1.md).mono ?_;rintro e wy_ ⟨Y,yc,ys,rfl,hyc,hY,hby,hvy,hmy⟩;have HVY:=Lib.hid hvy;clear hvy;have hbyq:Below w1.heap.size w1 wy_:=by first | exact below_of_drew hby (Nat.le_refl _) | exact hby | exact hbxq.trans (hby.mono hbxq.size) | exact hbxq.trans (below_of_drew hby hbxq.size)
       obtain ⟨c0wy_,c1wy_,c2wy_,c3wy_,c4wy_,c5wy_,c6wy_⟩:=(ka1.below hbyq).facts;obtain ⟨d0wy_,d1wy_,d2wy_,d3wy_,d4wy_,d5wy_,d6wy_⟩:=(kr1.below hbyq).facts))
  all_goals
    go_wp2_with fail
    first
      | (refine bodyPost_ret (v := .agg #[.bool a.s, .slice X xs.length xc, .slice Y ys.length yc]) (by simp [results, Tryz.results99, go_sem, d0wy_, d1wy_, d2wy_]) rfl ?_
         exact RatW.put ⟨a.s,X,xc,xs,Y,yc,ys⟩ ⟨(hX.below hby).rd,hY.rd,hmx,hmy,hxc,hyc,by dsimp only;rw [HVX.out,HVY.out];exact ((ha1.q.resolve_left (fun h=>by rw [h.1] at hz;simp at hz))).2⟩ ⟨(hX.below hby),hY⟩ (kr1.below hbyq) (by omega) (hw1.trans (hbyq.mono hw1.size)))
      | (refine bodyPost_ret (v := .agg #[.bool a.s, .slice X xs.length xc, .slice Y ys.length yc]) (by simp [results, Tryz.results99, go_sem, d0wx_, d1wx_, d2wx_]) rfl ?_
         exact RatW.put ⟨a.s,X,xc,xs,Y,yc,ys⟩ ⟨hX.rd,(hY.below hbx).rd,hmx,hmy,hxc,hyc,by dsimp only;rw [HVX.out,HVY.out];exact ((ha1.q.resolve_left (fun h=>by rw [h.1] at hz;simp at hz))).2⟩ ⟨hX,(hY.below hbx)⟩ (kr1.below hbxq) (by omega) (hw1.trans (hbxq.mono hw1.size)))
end Go.Proofs.YtgekmfcbbjeahaaGreatDoor
/- wide.Of and Num.Rat at every number. -/
namespace Go.Proofs.YtgekmfcbbjeahaaGreatDoor
open Go.RowKit V
set_option maxRecDepth 100000 in
set_option maxHeartbeats 800000 in
theorem wOf_zero (a:RL) (w:World) (hz:a.ns.length=0) :
    Calls Tryz.prog 59 #[.agg #[.bool a.s,.slice a.N a.ns.length a.nc,.slice a.D a.ds.length a.dc]] w (NumL 0 0 w):=by
  rw [hz];go_enter Tryz.func59,Tryz.ntmps59;go_wp2;refine bodyPost_ret (v:=.agg #[.bool false,.slice none 0 0,.slice none 0 0]) (by simp [results,Tryz.results59,go_sem]) rfl ?_;exact ⟨⟨false,none,0,[],none,0,[]⟩,rfl,num_zero _,Nat.le_refl _,Nat.le_refl _,((Below.refl _ _).alloc (Nat.le_refl _) _).alloc (by simp) _⟩
theorem wOf (a:RL) (q:Rat) (w:World) (ha:a.Is w q) (l1:a.ns.length≤100000) (l2:a.ds.length≤100000) :
    Calls Tryz.prog 59 #[.agg #[.bool a.s,.slice a.N a.ns.length a.nc,.slice a.D a.ds.length a.dc]] w (NumL q (a.ns.length+a.ds.length) w):=by
  rcases Nat.eq_zero_or_pos a.ns.length with h0 | h0
  · have hq:q=0:=by
      have:=ha.q.2.1;rw [List.eq_nil_of_length_eq_zero h0] at this;have h1:q.num=0:=by simp [V32,val] at this;omega
      exact Rat.num_eq_zero.1 h1
    subst hq;exact (wOf_zero a w h0).mono fun e w' ⟨r,h1,h2,h3,h4,h5⟩=>⟨r,h1,h2,by omega,by omega,h5⟩
  · exact (wOf_nz a q w ha l1 l2 h0).mono fun e w' ⟨r,h1,h2,h3,h4,h5⟩=>⟨r,h1,h2,Nat.le_trans h3 (Nat.max_le.2 ⟨by omega,by omega⟩),Nat.le_trans h4 (Nat.max_le.2 ⟨by omega,by omega⟩),h5⟩
set_option maxRecDepth 100000 in
set_option maxHeartbeats 800000 in
theorem wRat_zero (a:RL) (w:World) (hz:a.ns.length=0) :
    Calls Tryz.prog 99 #[.agg #[.bool a.s,.slice a.N a.ns.length a.nc,.slice a.D a.ds.length a.dc]] w (RatW 0 w):=by
  rw [hz];go_enter Tryz.func99,Tryz.ntmps99;go_wp2_with fail;refine (wisZero a.s a.N a.D 0 a.nc a.ds.length a.dc _).mono ?_;rintro e w2 ⟨he,hb2⟩;simp only [decide_true] at he;subst he;have hbox:=boxes2 91 27 w (.bool a.s) (.slice a.N 0 a.nc) (.slice a.D a.ds.length a.dc) (.bool false) (.slice none 0 0) (.slice none 0 0);obtain ⟨ka,kr,hb⟩:=hbox;have hw:=hb.trans (hb2.mono hb.size);have kr2:=kr.below hb2;have lt:=kr2.lt;obtain ⟨d0,d1,d2,d3,d4,d5,d6⟩:=kr2.facts;clear ka kr hb hb2;obtain ⟨w3,hw3⟩:∃ x,put3 w2 (w.heap.size+1) (.bool false) (.slice none 0 0) (.slice (some ⟨w2.heap.size,0,none⟩) 1 1)=x:=⟨_,rfl⟩;have hs3:w3.heap.size=w2.heap.size:=by rw [← hw3];simp
  have hb3:Below w.heap.size w w3:=by rw [← hw3];exact below_put3 hw (by omega) _ _ _
  have hl:=(Row.new (k:=.u32) (t:=140) w3 [1]).rt;rw [hs3] at hl;have hI:RL.Is (lit w3 [1]) ⟨false,none,0,[],some ⟨w2.heap.size,0,none⟩,1,[1]⟩ 0:=⟨Rd.nil_,hl.rd,mag_nil,mag_one 1 (by omega) (by omega),Nat.le_refl _,Nat.le_refl _,by
    show QOf false (V32 []) (V32 [1]) 0;rw [V32_one];exact ⟨by simp,by simp [V32,val],by simp⟩⟩
  have hwl:Below w.heap.size w (lit w3 [1]):=hb3.alloc hb3.size _;have HI:=Lib.hid hI;have HTY:Hid (RL.Ty (lit w3 [1]) ⟨false,none,0,[],some ⟨w2.heap.size,0,none⟩,1,[1]⟩):=⟨RT.nil_,hl⟩;have HW:=Lib.hid hwl;have HE:=Lib.hid hw3;clear hI hwl hl hs3 hw3;go_wp2_with fail;refine bodyPost_ret (v:=.agg #[.bool false,.slice none 0 0,.slice (some ⟨w2.heap.size,0,none⟩) 1 1]) (by simp [results,Tryz.results99,go_sem,d0,d1,d2,lt]) rfl ?_;have e:=HE.out;unfold put3 at e;rw [e];exact ⟨⟨false,none,0,[],some ⟨w2.heap.size,0,none⟩,1,[1]⟩,rfl,HI.out,HTY.out,HW.out⟩
theorem wRat (a:RL) (q:Rat) (w:World) (ha:a.Num w q) (l1:a.ns.length≤100000) (l2:a.ds.length≤100000) :
    Calls Tryz.prog 99 #[.agg #[.bool a.s,.slice a.N a.ns.length a.nc,.slice a.D a.ds.length a.dc]] w (RatW q w):=by
  rcases Nat.eq_zero_or_pos a.ns.length with h0 | h0
  · obtain rfl:q=0:=ha.zero_iff.1 h0;exact wRat_zero a w h0
  · exact wRat_nz a q w ha l1 l2 h0
end Go.Proofs.YtgekmfcbbjeahaaGreatDoor
/- term.fits. -/
namespace Go.Proofs.YtgekmfcbbjeahaaGreatDoor
open Go.RowKit V
def TFits (m:Nat) (q:Rat):Prop:=deg m≤40∧WFits q 200
def TFitsP (m:Nat) (q:Rat) (w:World) (e:Ending) (w':World):Prop:=∃ b:Bool,e = .returned (.bool b)∧(b=true↔TFits m q)∧Below w.heap.size w w'
abbrev TM.v (t:TM):Value:=.agg #[.int .u64 t.e,.bool t.c.s,.slice t.c.N t.c.ns.length t.c.nc,.slice t.c.D t.c.ds.length t.c.dc]
set_option maxRecDepth 100000 in
set_option maxHeartbeats 800000 in
theorem pfits (t:TM) (q:Rat) (w:World) (hc:t.c.Num w q) (hm:t.e<18446744073709551616) (bn:t.c.ns.length≤100000) (bd:t.c.ds.length≤100000) :
    Calls Tryz.prog 97 #[.agg #[.int .u64 t.e,.bool t.c.s,.slice t.c.N t.c.ns.length t.c.nc,.slice t.c.D t.c.ds.length t.c.dc]] w (TFitsP t.e q w):=by
  have hdl:=deg_le t.e;have hb0:Below w.heap.size w (w.alloc (.cells #[.int .u64 t.e,.bool t.c.s,.slice t.c.N t.c.ns.length t.c.nc,.slice t.c.D t.c.ds.length t.c.dc] 115)):=(Below.refl _ _).alloc (Nat.le_refl _) _
  by_cases hd:deg t.e≤40
  · go_enter Tryz.func97,Tryz.ntmps97;go_wp2_with fail;refine (pdegree t.e _ hm).mono ?_;rintro e w2 ⟨rfl,rfl⟩;go_wp2_with fail;refine (wfits t.c q 200 _ (hc.alloc _) bn bd).mono ?_;rintro e w2 ⟨b,rfl,hbq,hb2⟩;have HBQ:=Lib.hid hbq;clear hbq;go_wp2;go_ret;exact ⟨b,rfl,⟨fun h=>⟨hd,HBQ.out.1 h⟩,fun h=>HBQ.out.2 h.2⟩,hb0.trans (hb2.mono (by simp))⟩
  · go_enter Tryz.func97,Tryz.ntmps97;go_wp2_with fail;refine (pdegree t.e _ hm).mono ?_;rintro e w2 ⟨rfl,rfl⟩;go_wp2;go_ret;exact ⟨false,rfl,⟨fun h=>by simp at h,fun h=>absurd h.1 hd⟩,hb0⟩
end Go.Proofs.YtgekmfcbbjeahaaGreatDoor
/- wide.signedSum. -/
namespace Go.Proofs.YtgekmfcbbjeahaaGreatDoor
open Go.RowKit V
def SSumW (s1 s2:Bool) (xs ys:List Nat) (w:World) (e:Ending) (w':World):Prop:=
  ∃ m Z zc zs,e = .returned (.tuple #[.bool m,.slice Z (zs:List Nat).length zc])∧zs.length≤zc∧Rw w' Z zs∧Mag64 zs∧Hid (sgn m (V64 zs)=sgn s1 (V64 xs)+sgn s2 (V64 ys))∧zs.length≤max xs.length ys.length+1∧Below w.heap.size w w'
set_option maxRecDepth 20000 in
set_option maxHeartbeats 1600000 in
theorem wss_ff (A B:Option Addr) (ca cb:Nat) (xs ys:List Nat) (w:World) (hx:Rw w A xs) (hy:Rw w B ys) (bx:xs.length≤100000) (_by:ys.length≤100000) (mx:Mag64 xs) (my:Mag64 ys) :
    Calls Tryz.prog 148 #[.bool false,.slice A xs.length ca,.bool false,.slice B ys.length cb] w (SSumW false false xs ys w):=by
  go_enter Tryz.func148,Tryz.ntmps148;go_wp2_with fail;refine (wplus_any A B ca cb xs ys _ hx.rd hy.rd (by omega) (by omega) mx.1 my.1).mono ?_;rintro e w1 ⟨Z,zc,zs,rfl,hzc,hz1,hb1,hv,nz,dz,hl⟩;have hx1:=hx.below hb1;have hy1:=hy.below hb1;have hw1:=hb1;clear hx hy hb1;have HV:=Lib.hid hv;clear hv;go_wp2_with fail;go_ret2;exact ⟨_,Z,zc,zs,rfl,hzc,hz1,⟨dz,nz⟩,by show _=_;unfold V64;rw [HV.out];simp [sgn];try omega,hl,hw1⟩
set_option maxRecDepth 20000 in
set_option maxHeartbeats 1600000 in
theorem wss_tt (A B:Option Addr) (ca cb:Nat) (xs ys:List Nat) (w:World) (hx:Rw w A xs) (hy:Rw w B ys) (bx:xs.length≤100000) (_by:ys.length≤100000) (mx:Mag64 xs) (my:Mag64 ys) :
    Calls Tryz.prog 148 #[.bool true,.slice A xs.length ca,.bool true,.slice B ys.length cb] w (SSumW true true xs ys w):=by
  go_enter Tryz.func148,Tryz.ntmps148;go_wp2_with fail;refine (wplus_any A B ca cb xs ys _ hx.rd hy.rd (by omega) (by omega) mx.1 my.1).mono ?_;rintro e w1 ⟨Z,zc,zs,rfl,hzc,hz1,hb1,hv,nz,dz,hl⟩;have hx1:=hx.below hb1;have hy1:=hy.below hb1;have hw1:=hb1;clear hx hy hb1;have HV:=Lib.hid hv;clear hv;go_wp2_with fail;go_ret2;exact ⟨_,Z,zc,zs,rfl,hzc,hz1,⟨dz,nz⟩,by show _=_;unfold V64;rw [HV.out];simp [sgn];try omega,hl,hw1⟩
set_option maxRecDepth 20000 in
set_option maxHeartbeats 1600000 in
theorem wss_fg (A B:Option Addr) (ca cb:Nat) (xs ys:List Nat) (w:World) (hx:Rw w A xs) (hy:Rw w B ys) (bx:xs.length≤100000) (_by:ys.length≤100000) (mx:Mag64 xs) (my:Mag64 ys) (hc:V64 ys≤V64 xs) :
    Calls Tryz.prog 148 #[.bool false,.slice A xs.length ca,.bool true,.slice B ys.length cb] w (SSumW false true xs ys w):=by
  obtain ⟨g,hg,hgs⟩:∃ g,Hid (cmpOf (V64 xs) (V64 ys)=g)∧0≤g:=⟨_,Lib.hid rfl,by unfold cmpOf;split;omega;split <;> omega⟩;have HC:=Lib.hid hc;have hle:ys.length≤xs.length:=by
    rcases Nat.lt_or_ge xs.length ys.length with h | h
    · have:=val_lt_of_len (B:=18446744073709551616) (by omega) mx.1 my.2 h;unfold V64 at hc;omega
    · exact h
  clear hc;go_enter Tryz.func148,Tryz.ntmps148;go_wp2_with fail;refine (wcompare_any A B ca cb xs ys _ hx.rd hy.rd (by omega) mx.1 my.1 mx.2 my.2).mono ?_;rintro e w1 ⟨he,n1,hwe⟩;have hb1:Below w.heap.size w w1:=by rw [hwe];exact below_drew_ (Below.refl _ _) n1
  clear hwe;have hx1:=hx.below hb1;have hy1:=hy.below hb1;have hw1:=hb1;clear hx hy hb1;change e = .returned (.int .i64 (cmpOf (V64 xs) (V64 ys))) at he;rw [hg.out] at he;subst he;go_wp2_with fail;refine (wminus_any A B ca cb xs ys _ hx1.rd hy1.rd (by omega) hle mx.1 my.1 HC.out).mono ?_;rintro e w2 ⟨Z,zc,zs,rfl,hzc,hz2,hb2,hv,nz,dz,hl⟩;have hx2:=hx1.below hb2;have hy2:=hy1.below hb2;have hw2:=hw1.trans (hb2.mono hw1.size);clear hx1 hy1 hw1 hb2;have HV:=Lib.hid hv;clear hv;go_wp2_with fail;go_ret2;exact ⟨_,Z,zc,zs,rfl,hzc,hz2,⟨dz,nz⟩,by show _=_;have:=HV.out;have:=HC.out;unfold V64 at *;simp [sgn];omega,by omega,hw2⟩
set_option maxRecDepth 20000 in
set_option maxHeartbeats 1600000 in
theorem wss_fl (A B:Option Addr) (ca cb:Nat) (xs ys:List Nat) (w:World) (hx:Rw w A xs) (hy:Rw w B ys) (bx:xs.length≤100000) (_by:ys.length≤100000) (mx:Mag64 xs) (my:Mag64 ys) (hc:V64 xs<V64 ys) :
    Calls Tryz.prog 148 #[.bool false,.slice A xs.length ca,.bool true,.slice B ys.length cb] w (SSumW false true xs ys w):=by
  obtain ⟨g,hg,hgs⟩:∃ g,Hid (cmpOf (V64 xs) (V64 ys)=g)∧g<0:=⟨_,Lib.hid rfl,by unfold cmpOf;rw [if_pos (by omega)];omega⟩;have HC:=Lib.hid hc;have hle:xs.length≤ys.length:=by
    rcases Nat.lt_or_ge ys.length xs.length with h | h
    · have:=val_lt_of_len (B:=18446744073709551616) (by omega) my.1 mx.2 h;unfold V64 at hc;omega
    · exact h
  clear hc;go_enter Tryz.func148,Tryz.ntmps148;go_wp2_with fail;refine (wcompare_any A B ca cb xs ys _ hx.rd hy.rd (by omega) mx.1 my.1 mx.2 my.2).mono ?_;rintro e w1 ⟨he,n1,hwe⟩;have hb1:Below w.heap.size w w1:=by rw [hwe];exact below_drew_ (Below.refl _ _) n1
  clear hwe;have hx1:=hx.below hb1;have hy1:=hy.below hb1;have hw1:=hb1;clear hx hy hb1;change e = .returned (.int .i64 (cmpOf (V64 xs) (V64 ys))) at he;rw [hg.out] at he;subst he;go_wp2_with fail;refine (wminus_any B A cb ca ys xs _ hy1.rd hx1.rd (by omega) hle my.1 mx.1 (by have:=HC.out;unfold V64 at this;omega)).mono ?_;rintro e w2 ⟨Z,zc,zs,rfl,hzc,hz2,hb2,hv,nz,dz,hl⟩;have hx2:=hx1.below hb2;have hy2:=hy1.below hb2;have hw2:=hw1.trans (hb2.mono hw1.size);clear hx1 hy1 hw1 hb2;have HV:=Lib.hid hv;clear hv;go_wp2_with fail;go_ret2;exact ⟨_,Z,zc,zs,rfl,hzc,hz2,⟨dz,nz⟩,by show _=_;have:=HV.out;have:=HC.out;unfold V64 at *;simp [sgn];omega,by omega,hw2⟩
set_option maxRecDepth 20000 in
set_option maxHeartbeats 1600000 in
theorem wss_tg (A B:Option Addr) (ca cb:Nat) (xs ys:List Nat) (w:World) (hx:Rw w A xs) (hy:Rw w B ys) (bx:xs.length≤100000) (_by:ys.length≤100000) (mx:Mag64 xs) (my:Mag64 ys) (hc:V64 ys≤V64 xs) :
    Calls Tryz.prog 148 #[.bool true,.slice A xs.length ca,.bool false,.slice B ys.length cb] w (SSumW true false xs ys w):=by
  obtain ⟨g,hg,hgs⟩:∃ g,Hid (cmpOf (V64 xs) (V64 ys)=g)∧0≤g:=⟨_,Lib.hid rfl,by unfold cmpOf;split;omega;split <;> omega⟩;have HC:=Lib.hid hc;have hle:ys.length≤xs.length:=by
    rcases Nat.lt_or_ge xs.length ys.length with h | h
    · have:=val_lt_of_len (B:=18446744073709551616) (by omega) mx.1 my.2 h;unfold V64 at hc;omega
    · exact h
  clear hc;go_enter Tryz.func148,Tryz.ntmps148;go_wp2_with fail;refine (wcompare_any A B ca cb xs ys _ hx.rd hy.rd (by omega) mx.1 my.1 mx.2 my.2).mono ?_;rintro e w1 ⟨he,n1,hwe⟩;have hb1:Below w.heap.size w w1:=by rw [hwe];exact below_drew_ (Below.refl _ _) n1
  clear hwe;have hx1:=hx.below hb1;have hy1:=hy.below hb1;have hw1:=hb1;clear hx hy hb1;change e = .returned (.int .i64 (cmpOf (V64 xs) (V64 ys))) at he;rw [hg.out] at he;subst he;go_wp2_with fail;refine (wminus_any A B ca cb xs ys _ hx1.rd hy1.rd (by omega) hle mx.1 my.1 HC.out).mono ?_;rintro e w2 ⟨Z,zc,zs,rfl,hzc,hz2,hb2,hv,nz,dz,hl⟩;have hx2:=hx1.below hb2;have hy2:=hy1.below hb2;have hw2:=hw1.trans (hb2.mono hw1.size);clear hx1 hy1 hw1 hb2;have HV:=Lib.hid hv;clear hv;go_wp2_with fail;go_ret2;exact ⟨_,Z,zc,zs,rfl,hzc,hz2,⟨dz,nz⟩,by show _=_;have:=HV.out;have:=HC.out;unfold V64 at *;simp [sgn];omega,by omega,hw2⟩
set_option maxRecDepth 20000 in
set_option maxHeartbeats 1600000 in
theorem wss_tl (A B:Option Addr) (ca cb:Nat) (xs ys:List Nat) (w:World) (hx:Rw w A xs) (hy:Rw w B ys) (bx:xs.length≤100000) (_by:ys.length≤100000) (mx:Mag64 xs) (my:Mag64 ys) (hc:V64 xs<V64 ys) :
    Calls Tryz.prog 148 #[.bool true,.slice A xs.length ca,.bool false,.slice B ys.length cb] w (SSumW true false xs ys w):=by
  obtain ⟨g,hg,hgs⟩:∃ g,Hid (cmpOf (V64 xs) (V64 ys)=g)∧g<0:=⟨_,Lib.hid rfl,by unfold cmpOf;rw [if_pos (by omega)];omega⟩;have HC:=Lib.hid hc;have hle:xs.length≤ys.length:=by
    rcases Nat.lt_or_ge ys.length xs.length with h | h
    · have:=val_lt_of_len (B:=18446744073709551616) (by omega) my.1 mx.2 h;unfold V64 at hc;omega
    · exact h
  clear hc;go_enter Tryz.func148,Tryz.ntmps148;go_wp2_with fail;refine (wcompare_any A B ca cb xs ys _ hx.rd hy.rd (by omega) mx.1 my.1 mx.2 my.2).mono ?_;rintro e w1 ⟨he,n1,hwe⟩;have hb1:Below w.heap.size w w1:=by rw [hwe];exact below_drew_ (Below.refl _ _) n1
  clear hwe;have hx1:=hx.below hb1;have hy1:=hy.below hb1;have hw1:=hb1;clear hx hy hb1;change e = .returned (.int .i64 (cmpOf (V64 xs) (V64 ys))) at he;rw [hg.out] at he;subst he;go_wp2_with fail;refine (wminus_any B A cb ca ys xs _ hy1.rd hx1.rd (by omega) hle my.1 mx.1 (by have:=HC.out;unfold V64 at this;omega)).mono ?_;rintro e w2 ⟨Z,zc,zs,rfl,hzc,hz2,hb2,hv,nz,dz,hl⟩;have hx2:=hx1.below hb2;have hy2:=hy1.below hb2;have hw2:=hw1.trans (hb2.mono hw1.size);clear hx1 hy1 hw1 hb2;have HV:=Lib.hid hv;clear hv;go_wp2_with fail;go_ret2;exact ⟨_,Z,zc,zs,rfl,hzc,hz2,⟨dz,nz⟩,by show _=_;have:=HV.out;have:=HC.out;unfold V64 at *;simp [sgn];omega,by omega,hw2⟩
theorem wss_any (s1 s2:Bool) (A B:Option Addr) (ca cb:Nat) (xs ys:List Nat) (w:World) (hx:Rw w A xs) (hy:Rw w B ys) (bx:xs.length≤100000) (_by:ys.length≤100000) (mx:Mag64 xs) (my:Mag64 ys) :
    Calls Tryz.prog 148 #[.bool s1,.slice A xs.length ca,.bool s2,.slice B ys.length cb] w (SSumW s1 s2 xs ys w):=by
  cases s1 <;> cases s2
  · exact wss_ff A B ca cb xs ys w hx hy bx _by mx my
  · rcases Nat.lt_or_ge (V64 xs) (V64 ys) with h | h
    · exact wss_fl A B ca cb xs ys w hx hy bx _by mx my h
    · exact wss_fg A B ca cb xs ys w hx hy bx _by mx my h
  · rcases Nat.lt_or_ge (V64 xs) (V64 ys) with h | h
    · exact wss_tl A B ca cb xs ys w hx hy bx _by mx my h
    · exact wss_tg A B ca cb xs ys w hx hy bx _by mx my h
  · exact wss_tt A B ca cb xs ys w hx hy bx _by mx my
end Go.Proofs.YtgekmfcbbjeahaaGreatDoor
