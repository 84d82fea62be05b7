/- rowHeap: Len, Less, Swap, Push, Pop; how they are found behind heap.Interface. -/
import Derived.Test.YtgekmfcbbjeahaaGreatDoorPpR31
import Derived.Deep.DrawnRows
attribute [local go_sem ↓] Go.wp_at_zero Go.wp_at_succ
namespace Go.Proofs.YtgekmfcbbjeahaaGreatDoor
open Go.RowKit V
theorem meth_val {t e u:TypeId} {name:String} {f:FuncId} (hi:(Tryz.prog.info? t).map (fun i=>(i.methods.find? (·.name == name)).map fun m=>(m.path.toList,m.func))=some (some ([],some (f,false))))
    (hu:Tryz.prog.underlying t=some (.pointer e)) (hu2:Tryz.prog.underlying e=some (.slice u)) (n:Nat) (a:Addr) (v:Value) (w:World) (hv:w.cell? a=some v) :
    (method (n+1) t (.pointer (some a)) name).run Tryz.prog w = .ok (f,v) w:=by
  cases h:Tryz.prog.info? t with
  | none=>rw [h] at hi;cases hi
  | some i =>
    rw [h] at hi;simp only [Option.map_some,Option.some.injEq] at hi;cases hm:i.methods.find? (·.name == name) with
    | none=>rw [hm] at hi;cases hi
    | some m =>
      rw [hm] at hi;simp only [Option.map_some,Option.some.injEq,Prod.mk.injEq] at hi;obtain ⟨h1,h2⟩:=hi;have hp:m.path = #[]:=by simpa using h1
      have hc:∀ (ts:Array TypeId) (t:TypeId) (x y:ByteArray),(Builtin.ssaWrapNilChk_ ts t #[.pointer (some a),.string x,.string y])=pure (.pointer (some a)):=fun _ _ _ _=>rfl
      unfold method;simp [Sem.run_bind,typeInfo,h,hm,h2,follow,receiverAt,run_underlying hu,Place.get,asAddr,hp,hc,strVal,loadVar,isAgg,run_underlying hu2,hv]
theorem meth_less (n : Nat) (a : Addr) (v : Value) (w : World) (hv : w.cell? a = some v) : (method (n + 1) 198 (.pointer (some a)) "Less").run Tryz.prog w = .ok (270, v) w :=
  meth_val (e:=183) (u:=194) (by kernel_rfl) (by kernel_rfl) (by kernel_rfl) n a v w hv
theorem meth_swap (n : Nat) (a : Addr) (v : Value) (w : World) (hv : w.cell? a = some v) : (method (n + 1) 198 (.pointer (some a)) "Swap").run Tryz.prog w = .ok (271, v) w :=
  meth_val (e:=183) (u:=194) (by kernel_rfl) (by kernel_rfl) (by kernel_rfl) n a v w hv
theorem meth_len (n : Nat) (a : Addr) (v : Value) (w : World) (hv : w.cell? a = some v) : (method (n + 1) 198 (.pointer (some a)) "Len").run Tryz.prog w = .ok (269, v) w :=
  meth_val (e:=183) (u:=194) (by kernel_rfl) (by kernel_rfl) (by kernel_rfl) n a v w hv
theorem meth_push (n : Nat) (a : Addr) (w : World) : (method (n + 1) 198 (.pointer (some a)) "Push").run Tryz.prog w = .ok (273, .pointer (some a)) w := by kernel_rfl
theorem meth_pop (n : Nat) (a : Addr) (w : World) : (method (n + 1) 198 (.pointer (some a)) "Pop").run Tryz.prog w = .ok (272, .pointer (some a)) w := by kernel_rfl
theorem nil_less (n : Nat) (a : Addr) (w : World) : (nilAhead (n + 1) 198 (.pointer (some a)) "Less").run Tryz.prog w = .ok (some false) w := by kernel_rfl
theorem nil_swap (n : Nat) (a : Addr) (w : World) : (nilAhead (n + 1) 198 (.pointer (some a)) "Swap").run Tryz.prog w = .ok (some false) w := by kernel_rfl
theorem nil_len (n : Nat) (a : Addr) (w : World) : (nilAhead (n + 1) 198 (.pointer (some a)) "Len").run Tryz.prog w = .ok (some false) w := by kernel_rfl
theorem nil_push (n : Nat) (a : Addr) (w : World) : (nilAhead (n + 1) 198 (.pointer (some a)) "Push").run Tryz.prog w = .ok (some false) w := by kernel_rfl
theorem nil_pop (n : Nat) (a : Addr) (w : World) : (nilAhead (n + 1) 198 (.pointer (some a)) "Pop").run Tryz.prog w = .ok (some false) w := by kernel_rfl
theorem phlen (A:Option Addr) (n c:Nat) (w:World) :
    Calls Tryz.prog 269 #[.slice A n c] w fun e w'=>e = .returned (.int .i64 n)∧w=w':=by
  go_enter Tryz.func269,Tryz.ntmps269;go_wp2;go_ret;exact ⟨rfl,rfl⟩
set_option maxRecDepth 100000 in
set_option maxHeartbeats 800000 in
theorem phless (q n c i j a b ea na eb nb:Nat) (w:World) (hi:i<n) (hj:j<n)
    (ci:w.cell? ⟨q,i,none⟩=some (.pointer (some ⟨a,0,none⟩))) (cj:w.cell? ⟨q,j,none⟩=some (.pointer (some ⟨b,0,none⟩))) (ka:RKey w a ea na) (kb:RKey w b eb nb) :
    Calls Tryz.prog 270 #[.slice (some ⟨q,0,none⟩) n c,.int .i64 i,.int .i64 j] w fun e w'=>e = .returned (.bool (decide (nb<na∨nb=na∧eb<ea)))∧Below w.heap.size w w':=by
  obtain ⟨a0,a5,_⟩:=ka;obtain ⟨b0,b5,_⟩:=kb
  by_cases h:na=nb
  · subst h
    by_cases h2:eb<ea
    · rw [decide_eq_true (.inr ⟨rfl,h2⟩)];go_enter Tryz.func270,Tryz.ntmps270;go_wp2;go_region;go_wp2;go_region;go_wp2;go_ret;exact ⟨rfl,(Below.refl _ _).drew.drew⟩
    · rw [decide_eq_false (by omega)];go_enter Tryz.func270,Tryz.ntmps270;go_wp2;go_region;go_wp2;go_region;go_wp2;go_ret;exact ⟨rfl,(Below.refl _ _).drew.drew⟩
  · by_cases h2:nb<na
    · rw [decide_eq_true (.inl h2)];go_enter Tryz.func270,Tryz.ntmps270;go_wp2;go_region;go_wp2;go_region;go_wp2;go_ret;exact ⟨rfl,(Below.refl _ _).drew.drew⟩
    · rw [decide_eq_false (by omega)];go_enter Tryz.func270,Tryz.ntmps270;go_wp2;go_region;go_wp2;go_region;go_wp2;go_ret;exact ⟨rfl,(Below.refl _ _).drew.drew⟩
end Go.Proofs.YtgekmfcbbjeahaaGreatDoor
/- The struct of rows in memory: its list, its heap, the rows that wait, the rows' blocks. -/
namespace Go.Proofs.YtgekmfcbbjeahaaGreatDoor
open Go.RowKit V
structure Fr (w w':World) (rb:Nat) (row:Option Nat):Prop where
  os:w'.os=w.os
  tape:w'.tape=w.tape
  output:w'.output=w.output
  size:w.heap.size≤w'.heap.size
  block:∀ k,k<w.heap.size→k≠rb→some k≠row→w'.heap[k]?=w.heap[k]?
section
variable {w w' w'':World} {rb:Nat} {row:Option Nat}
theorem Fr.of_grown (h:w.grownBy w' row):Fr w w' rb row:=⟨h.os,h.tape,h.output,h.size,fun k hk _ hn=>h.block k hk hn⟩
theorem Fr.of_below (h:Below w.heap.size w w'):Fr w w' rb row:=Fr.of_grown (grown_of_below h row)
theorem Fr.trans (h:Fr w w' rb row) (k:Fr w' w'' rb row):Fr w w'' rb row:=
  ⟨k.os.trans h.os,k.tape.trans h.tape,k.output.trans h.output,Nat.le_trans h.size k.size,fun i hi hn hm=>(k.block i (Nat.lt_of_lt_of_le hi h.size) hn hm).trans (h.block i hi hn hm)⟩
theorem Fr.set_ (h:Fr w w' rb row) (i:Nat) (u:Value):Fr w (w'.setCell ⟨rb,i,none⟩ u) rb row:=
  h.trans ⟨rfl,rfl,rfl,by simp [World.setCell],fun k _ hk _=>Below.heap_setCell w' ⟨rb,i,none⟩ u k hk⟩
theorem Fr.new (h:Fr w w' rb row) {row':Option Nat} (k:Fr w' w'' rb row') (hn:row'=row ∨ ∀ q,row'=some q→w.heap.size≤q):Fr w w'' rb row:=
  ⟨k.os.trans h.os,k.tape.trans h.tape,k.output.trans h.output,Nat.le_trans h.size k.size,fun i hi hne hm=>by
    refine (k.block i (Nat.lt_of_lt_of_le hi h.size) hne (fun e=>?_)).trans (h.block i hi hne hm);rcases hn with hn | hn
    · exact hm (by rw [e,hn])
    · have:=hn i e.symm;omega⟩
theorem Fr.below {B:Nat} (h:Fr w w' rb row) (hb:B≤rb) (hB:B≤w.heap.size) (hr:∀ q,row=some q→B≤q):Below B w w':=
  ⟨h.os,h.tape,h.output,h.size,fun k hk=>h.block k (by omega) (by omega) (fun e=>by have:=hr k e.symm;omega)⟩
theorem Fr.off (h:Fr w w' rb row) {t:TypeId} (hr:HasT w rb t) (ht:Plain_ t=false) (hq:∀ q,row=some q → ∃ u,Plain_ u=false∧HasT w q u):Off w w':=
  ⟨h.size,fun b cs t' f ht' hb=>h.block b (Array.getElem?_eq_some_iff.1 hb).1 (fun e=>by
    subst e;have:=hr.uniq ⟨cs,f,hb⟩;rw [this,ht'] at ht;cases ht) (fun e=>by
    obtain ⟨u,hu,hh⟩:=hq b e.symm;have:=hh.uniq ⟨cs,f,hb⟩;rw [this,ht'] at hu;cases hu)⟩
end
def Blk6 (w:World) (g:Nat) (t:TM) (k n:Nat):Prop:=
  w.heap[g]?=some (.cells #[.int .u64 t.e,.bool t.c.s,.slice t.c.N t.c.ns.length t.c.nc,.slice t.c.D t.c.ds.length t.c.dc,.int .i64 k,.int .u64 n] 196 (0,0))
structure Cells6 (w:World) (g:Nat) (t:TM) (k n:Nat):Prop where
  c0:w.cell? ⟨g,0,none⟩=some (.int .u64 t.e)
  c1:w.cell? ⟨g,1,none⟩=some (.bool t.c.s)
  c2:w.cell? ⟨g,2,none⟩=some (.slice t.c.N t.c.ns.length t.c.nc)
  c3:w.cell? ⟨g,3,none⟩=some (.slice t.c.D t.c.ds.length t.c.dc)
  c4:w.cell? ⟨g,4,none⟩=some (.int .i64 k)
  c5:w.cell? ⟨g,5,none⟩=some (.int .u64 n)
  f4:w.frozen? ⟨g,4,none⟩=false
  f5:w.frozen? ⟨g,5,none⟩=false
  lt:g<w.heap.size
section
variable {w w':World} {g k n:Nat} {t:TM}
theorem Blk6.lt (h:Blk6 w g t k n):g<w.heap.size:=by
  rcases Nat.lt_or_ge g w.heap.size with hlt | hge
  · exact hlt
  · unfold Blk6 at h;rw [Array.getElem?_eq_none hge] at h;cases h
theorem Blk6.facts (h:Blk6 w g t k n):Cells6 w g t k n:=by
  have hf:∀ i,w.frozen? ⟨g,i,none⟩=false:=fun i=>by unfold Blk6 at h;simp [World.frozen?,h]
  exact ⟨cell_of_row _ _ 0 _ _ _ h,cell_of_row _ _ 1 _ _ _ h,cell_of_row _ _ 2 _ _ _ h,cell_of_row _ _ 3 _ _ _ h,cell_of_row _ _ 4 _ _ _ h,cell_of_row _ _ 5 _ _ _ h,hf 4,hf 5,h.lt⟩
theorem Blk6.ty (h:Blk6 w g t k n):HasT w g 196:=⟨_,_,h⟩
theorem Blk6.key (h:Blk6 w g t k n):RKey w g t.e n:=⟨h.facts.c0,h.facts.c5,h.lt⟩
theorem Blk6.below (h:Blk6 w g t k n) (hb:Below w.heap.size w w'):Blk6 w' g t k n:=(hb.block g h.lt).trans h
theorem Blk6.fr {rb:Nat} {row:Option Nat} (h:Blk6 w g t k n) (hf:Fr w w' rb row) (h1:g≠rb) (h2:some g≠row):Blk6 w' g t k n:=(hf.block g h.lt h1 h2).trans h
theorem Blk6.new (w:World) (t:TM) (k n:Nat):Blk6 (w.alloc (.cells #[.int .u64 t.e,.bool t.c.s,.slice t.c.N t.c.ns.length t.c.nc,.slice t.c.D t.c.ds.length t.c.dc,.int .i64 k,.int .u64 n] 196)) w.heap.size t k n:=heap_alloc_new w _
theorem Blk6.far (h:Blk6 w g t k n) {x i:Nat} (hp:g≠x) (u:Value):Blk6 (w.setCell ⟨x,i,none⟩ u) g t k n:=(Below.heap_setCell w ⟨x,i,none⟩ u g hp).trans h
theorem Blk6.set4 (h:Blk6 w g t k n) (k':Nat):Blk6 (w.setCell ⟨g,4,none⟩ (.int .i64 k')) g t k' n:=by
  unfold Blk6 at h ⊢;simp [World.setCell,Array.getElem?_modify,h]
theorem Blk6.set5 (h:Blk6 w g t k n) (n':Nat):Blk6 (w.setCell ⟨g,5,none⟩ (.int .u64 n')) g t k n':=by
  unfold Blk6 at h ⊢;simp [World.setCell,Array.getElem?_modify,h]
end
theorem BlkT.ty {t:TypeId} {w:World} {g:Nat} {a b c:Value} (h:BlkT t w g a b c):HasT w g t:=⟨_,_,h⟩
theorem OwnT.ty {B:Nat} {w:World} {v:Value} {ts:List TM} (h:OwnT B w v ts):∀ q,v.ownBlock=some q→HasT w q 115:=ownsRow_type h
theorem ownsRow_block {w w':World} {B:Nat} {e:TypeId} {z n:Nat} {v:Value} {xs:List Value} (h:w.ownsRow B e z v n xs) (hb:∀ q,v.ownBlock=some q→w'.heap[q]?=w.heap[q]?):w'.ownsRow B e z v n xs:=by
  refine ⟨h.1,?_⟩;rcases h.2 with h2 | ⟨g,cap,cur,rfl,h2,h3,h4⟩
  · exact .inl h2
  · exact .inr ⟨g,cap,cur,rfl,h2,(hb g rfl).trans h3,h4⟩
structure RF where
  m:Nat→TM
  f:Nat→Nat × Rat
structure RM (B:Nat) (w:World) (rb:Nat) (vl vo vw:Value) (R:RF) (K N:Nat→Nat) (ls:List TM) (L:PL) (gs hp wt:List Nat):Prop where
  blk:BlkT 185 w rb vl vo vw
  rbB:B≤rb
  lst:OwnT B w vl ls
  lh:THolds w ls L
  op:OwnG B w vo hp
  wa:OwnG B w vw wt
  sep:∀ q,vo.ownBlock=some q→vw.ownBlock≠some q
  row:∀ g ∈ gs,Blk6 w g (R.m g) (K g) (N g)∧B≤g
  num:∀ g ∈ gs,(R.m g).e=(R.f g).1∧(R.f g).1<18446744073709551616∧(R.m g).c.Num w (R.f g).2∧(R.m g).c.ns.length≤20000∧(R.m g).c.ds.length≤20000
section
variable {B:Nat} {w w':World} {rb:Nat} {vl vo vw:Value} {R:RF} {K N:Nat→Nat} {ls:List TM} {L:PL} {gs hp wt:List Nat}
theorem RM.off (h:RM B w rb vl vo vw R K N ls L gs hp wt) (hf:Fr w w' rb vo.ownBlock):Off w w':=
  hf.off h.blk.ty (by decide) fun q hq=>⟨_,by decide,h.op.ty q hq⟩
theorem RM.heap (h:RM B w rb vl vo vw R K N ls L gs hp wt) (hf:Fr w w' rb vo.ownBlock) {vo':Value} {hp':List Nat} (hb:BlkT 185 w' rb vl vo' vw) (ho:OwnG B w' vo' hp') (hs:vo'.ownBlock=vo.ownBlock ∨ ∀ q,vo'.ownBlock=some q→w.heap.size≤q) :
    RM B w' rb vl vo' vw R K N ls L gs hp' wt:=by
  have hoff:=h.off hf;have hrow:∀ {b:Nat} {t:TypeId},HasT w b t→t≠185→t≠194→w'.heap[b]?=w.heap[b]?:=fun {b t} hbt h1 h2=>by
    refine hf.block b ?_ (fun e=>h1 (by subst e;exact hbt.uniq h.blk.ty)) (fun e=>h2 (hbt.uniq (h.op.ty b e.symm)));obtain ⟨cs,f,hh⟩:=hbt;exact (Array.getElem?_eq_some_iff.1 hh).1
  refine ⟨hb,h.rbB,ownsRow_block h.lst fun q hq=>hrow (h.lst.ty q hq) (by decide) (by decide),h.lh.off hoff,ho,ownsRow_block h.wa fun q hq=>?_,fun q hq hq2=>?_,fun g hg=>?_,fun g hg=>?_⟩
  · refine hf.block q (h.wa.lt q hq).2 (fun e=>?_) (fun e=>h.sep q e.symm hq);subst e;exact absurd (h.blk.ty.uniq (h.wa.ty _ hq)) (by decide)
  · rcases hs with hs | hs
    · exact h.sep q (hs ▸ hq) hq2
    · have:=hs q hq;have:=(h.wa.lt q hq2).2;omega
  · obtain ⟨h1,h2⟩:=h.row g hg;exact ⟨(hrow h1.ty (by decide) (by decide)).trans h1,h2⟩
  · obtain ⟨h1,h2,h3,h4⟩:=h.num g hg;exact ⟨h1,h2,h3.off hoff,h4⟩
theorem RM.below (h:RM B w rb vl vo vw R K N ls L gs hp wt) (hb:Below w.heap.size w w'):RM B w' rb vl vo vw R K N ls L gs hp wt:=
  h.heap (Fr.of_below hb) (h.blk.below hb) (h.op.below hb) (.inl rfl)
theorem RM.hm (h:RM B w rb vl vo vw R K N ls L gs hp wt) (hs:∀ g ∈ hp,g ∈ gs):HM B w vo hp (fun g=>(R.f g).1) N:=
  ⟨h.op,fun g hg=>by
    have h1:=(h.row g (hs g hg)).1.key;rw [(h.num g (hs g hg)).1] at h1;exact h1,fun g hg=>(h.num g (hs g hg)).2.1,fun g hg e=>by
    exact absurd ((h.row g (hs g hg)).1.ty.uniq (h.op.ty g e)) (by decide)⟩
theorem RM.cell (h:RM B w rb vl vo vw R K N ls L gs hp wt) {g i:Nat} {u:Value} (hg:g ∈ gs) {K' N':Nat→Nat} (hk:∀ x,x≠g→K' x=K x∧N' x=N x) (hr:Blk6 (w.setCell ⟨g,i,none⟩ u) g (R.m g) (K' g) (N' g)) :
    RM B (w.setCell ⟨g,i,none⟩ u) rb vl vo vw R K' N' ls L gs hp wt:=by
  have ht:=(h.row g hg).1.ty;have hoff:Off w (w.setCell ⟨g,i,none⟩ u):=(Off.refl w).setT ht (by decide) i u;have hrow:∀ {b:Nat} {t:TypeId},HasT w b t→t≠196→(w.setCell ⟨g,i,none⟩ u).heap[b]?=w.heap[b]?:=fun {b t} hb h1=>
    Below.heap_setCell w ⟨g,i,none⟩ u b (fun e=>h1 (by subst e;exact hb.uniq ht))
  refine ⟨(hrow h.blk.ty (by decide)).trans h.blk,h.rbB,ownsRow_block h.lst fun q hq=>hrow (h.lst.ty q hq) (by decide),h.lh.off hoff,ownsRow_block h.op fun q hq=>hrow (h.op.ty q hq) (by decide),
    ownsRow_block h.wa fun q hq=>hrow (h.wa.ty q hq) (by decide),h.sep,fun x hx=>?_,fun x hx=>?_⟩
  · by_cases e:x=g
    · subst e;exact ⟨hr,(h.row x hx).2⟩
    · obtain ⟨h1,h2⟩:=h.row x hx;obtain ⟨e1,e2⟩:=hk x e;rw [e1,e2];exact ⟨h1.far e u,h2⟩
  · obtain ⟨h1,h2,h3,h4⟩:=h.num x hx;exact ⟨h1,h2,h3.off hoff,h4⟩
end
end Go.Proofs.YtgekmfcbbjeahaaGreatDoor
/- container/heap.up and down at rowHeap. -/
attribute [local go_sem ↓] Go.wp_at_zero Go.wp_at_succ
namespace Go.Proofs.YtgekmfcbbjeahaaGreatDoor
open Go.RowKit V
def LessP (E N:Nat→Nat) (a b:Nat) (w:World) (e:Ending) (w':World):Prop:=e = .returned (.bool (decide (key2 E N b<key2 E N a)))∧Below w.heap.size w w'
theorem hm_less {B q n c:Nat} {hp:List Nat} {E N:Nat→Nat} {w:World} (hm:HM B w (.slice (some ⟨q,0,none⟩) n c) hp E N) (hl:hp.length=n) {i j a b:Nat} (hi:hp[i]?=some a) (hj:hp[j]?=some b) :
    Calls Tryz.prog 270 #[(.slice (some ⟨q,0,none⟩) n c),.int .i64 i,.int .i64 j] w (LessP E N a b w):=by
  subst hl;have h:=phless q hp.length c i j a b (E a) (N a) (E b) (N b) w (List.getElem?_eq_some_iff.1 hi).1 (List.getElem?_eq_some_iff.1 hj).1 (hm.own.cell hi) (hm.own.cell hj) (hm.key a (List.mem_of_getElem? hi)) (hm.key b (List.mem_of_getElem? hj));refine h.mono ?_;rintro e w' ⟨rfl,hb⟩;refine ⟨?_,hb⟩;congr 2;exact decide_eq_decide.2 (key2_lt (hm.small b (List.mem_of_getElem? hj)) (hm.small a (List.mem_of_getElem? hi))).symm
def SwapP (B q n c:Nat) (hp:List Nat) (i j:Nat) (E N:Nat→Nat) (w:World) (e:Ending) (w':World):Prop:=e = .returned (.tuple #[])∧HM B w' (.slice (some ⟨q,0,none⟩) n c) (swp hp i j) E N∧w.grownBy w' (some q)
set_option maxRecDepth 100000 in
theorem hm_swap {B q n c:Nat} {hp:List Nat} {E N:Nat→Nat} {w:World} (hm:HM B w (.slice (some ⟨q,0,none⟩) n c) hp E N) (hl:hp.length=n) {i j:Nat} (hi:i<n) (hj:j<n) :
    Calls Tryz.prog 271 #[(.slice (some ⟨q,0,none⟩) n c),.int .i64 i,.int .i64 j] w (SwapP B q n c hp i j E N w):=by
  subst hl;have ei:hp[i]?=some hp[i]:=List.getElem?_eq_getElem hi;have ej:hp[j]?=some hp[j]:=List.getElem?_eq_getElem hj;have ci:=hm.own.cell ei;have cj:=hm.own.cell ej;have fi:=hm.own.frozen rfl i;have fj:=hm.own.frozen rfl j;have HW:=Lib.hid (fun (w':World) (hb:Below w.heap.size w w')=>(hm.below hb).swap ei ej);have hlt:=(hm.own.lt q rfl).2;clear hm ei ej
  by_cases hij:i=j
  · subst hij;go_enter Tryz.func271,Tryz.ntmps271;go_region;go_wp2;go_end0;exact ⟨rfl,HW.out w.drew (Below.refl _ _).drew,grown_set (grown_set (grown_of_below (Below.refl _ _).drew _) _ _) _ _⟩
  · have hji:¬ j=i:=fun h=>hij h.symm
    go_enter Tryz.func271,Tryz.ntmps271;go_region;go_wp2;go_end0;exact ⟨rfl,HW.out w.drew (Below.refl _ _).drew,grown_set (grown_set (grown_of_below (Below.refl _ _).drew _) _ _) _ _⟩
end Go.Proofs.YtgekmfcbbjeahaaGreatDoor
/- container/heap.up and down at rowHeap. -/
attribute [local go_sem ↓] Go.wp_at_zero Go.wp_at_succ
namespace Go.Proofs.YtgekmfcbbjeahaaGreatDoor
open Go.RowKit V
def HeapP (B q n c:Nat) (hp zs:List Nat) (E N:Nat→Nat) (w w':World):Prop:=
  ∃ hs,hs.Perm hp∧Heap (key2 E N) hs∧HM B w' (.slice (some ⟨q,0,none⟩) n c) (hs ++ zs) E N∧w.grownBy w' (some q)
theorem swp_app {α:Type} (xs zs:List α) {i j:Nat} (hi:i<xs.length) (hj:j<xs.length):swp (xs ++ zs) i j=swp xs i j ++ zs:=by
  rw [swp_eq (xs:=xs ++ zs) (by rw [List.getElem?_append_left hi];exact List.getElem?_eq_getElem hi) (by rw [List.getElem?_append_left hj];exact List.getElem?_eq_getElem hj),swp_eq (List.getElem?_eq_getElem hi) (List.getElem?_eq_getElem hj),
    List.set_append_left _ _ hi,List.set_append_left _ _ (by simpa using hj)]
theorem keyAt_get {α:Type} {f:α→Nat} {xs:List α} {i:Nat} {x:α} (h:xs[i]?=some x):keyAt f xs i=f x:=by
  unfold keyAt;rw [h]
set_option maxRecDepth 100000 in
set_option maxHeartbeats 1600000 in
theorem phup (B rb q n c j : Nat) (hp : List Nat) (E N : Nat → Nat) (w : World) (hm : HM B w (.slice (some ⟨q, 0, none⟩) n c) hp E N) (hrb : w.cell? ⟨rb, 1, none⟩ = some (.slice (some ⟨q, 0, none⟩) n c)) (hlt : rb < w.heap.size) (hne : rb ≠ q) (hl : hp.length = n) (hn : n ≤ 1000000) (hj : j < n) (hu : HeapUp (key2 E N) hp j) :
    Calls Tryz.prog 188 #[.iface 198 (.pointer (some ⟨rb,1,none⟩)),.int .i64 j] w fun e w'=>e = .returned (.tuple #[])∧HeapP B q n c hp [] E N w w':=by
  have N1:=nil_less;have N2:=nil_swap;have M1:=meth_less;have M2:=meth_swap;have HU:=Lib.hid hu;have HM0:=Lib.hid hm;clear hu hm;go_enter Tryz.func188,Tryz.ntmps188;go_wp2;go_loopw [1,4] (fun sj _ wr=>∃ (k:Nat) (hs:List Nat),sj = .int .i64 k∧k<n∧hs.length=n∧hs.Perm hp∧Hid (HeapUp (key2 E N) hs k)∧Hid (HM B wr (.slice (some ⟨q,0,none⟩) n c) hs E N)∧w.grownBy wr (some q)) (fun sj _ _=>(intOf sj).toNat)
  case atStart=>exact ⟨j,hp,rfl,hj,hl,List.Perm.refl _,HU,HM0,grown_refl _ _⟩
  case round=>
    obtain ⟨k,hs,rfl,hk,hsl,hperm,hup,hms,hgr⟩:=hrel;have hcell:wr.cell? ⟨rb,1,none⟩=some (.slice (some ⟨q,0,none⟩) n c):=(World.cell?_of_block (w:=w) (hgr.block rb hlt (fun e=>hne (by injection e)))).trans hrb;rcases Nat.eq_zero_or_pos k with h0 | h0
    · subst h0;have HE:=Lib.hid (HeapUp.stop hup.out (.inl rfl));go_wp2_with fail;go_end0;exact ⟨rfl,hs,hperm,HE.out,by rw [List.append_nil];exact hms.out,hgr⟩
    · obtain ⟨m,hkm⟩:∃ m,k=m+1:=⟨k - 1,by omega⟩;obtain ⟨p,hp⟩:∃ p,m / 2=p:=⟨_,rfl⟩;have h1:((k:Int) - 1)=(m:Int):=by omega
      have h2:(m:Int).tdiv 2=(p:Int):=by rw [← hp];exact (Int.ofNat_tdiv m 2).symm
      have h3:(m:Int) / 2=(p:Int):=by omega
      have h4:¬ (p:Int)=(k:Int):=by omega
      have h5:p<n:=by omega
      have h6:IntKind.i64.wrap (p:Int)=p:=IntWalk.i64_in _ (by omega);have HP:=Lib.hid (show (k - 1) / 2=p by omega);have HPK:=Lib.hid (show p<k by omega);have HKM:=Lib.hid (show (m:Int)≤1000000 by omega);clear hp hkm;obtain ⟨a,ha⟩:∃ a,hs[k]?=some a:=⟨_,List.getElem?_eq_getElem (by omega)⟩;obtain ⟨b,hb⟩:∃ b,hs[p]?=some b:=⟨_,List.getElem?_eq_getElem (by omega)⟩;have HL:=Lib.hid (fun W (h:HM B W (.slice (some ⟨q,0,none⟩) n c) hs E N)=>hm_less h hsl ha hb);have HKA:=Lib.hid (keyAt_get (f:=key2 E N) ha);have HKB:=Lib.hid (keyAt_get (f:=key2 E N) hb);clear ha hb;have h7:(-1:Int)≤m:=by omega
      have h8:(m:Int)≤1000000:=HKM.out;go_wp2_with fail;refine (HL.out _ hms.out).mono ?_;rintro e w1 ⟨rfl,hb1⟩;have hcell1:=(hb1.cell (p:=⟨rb,1,none⟩) (Nat.lt_of_lt_of_le hlt hgr.size)).trans hcell;have hms1:=Lib.hid (hms.out.below hb1);have hgr1:=grown_trans hgr (grown_of_below hb1 (some q))
      by_cases hless:key2 E N b<key2 E N a
      · rw [decide_eq_true hless];have HLE:=Lib.hid hless;clear hless;go_wp2_with fail;refine (hm_swap hms1.out hsl h5 hk).mono ?_;rintro e w2 ⟨rfl,hm2,hg2⟩;have HM2:=Lib.hid hm2;clear hm2;go_wp2_with fail;go_roundw
        case rel=>
          refine ⟨p,swp hs p k,rfl,h5,by rw [swp_len];exact hsl,(swp_perm (by omega) (by omega)).trans hperm,?_,HM2,grown_trans hgr1 hg2⟩;have:=HeapUp.step hup.out h0 (by omega) (by rw [HP.out,HKA.out,HKB.out];exact HLE.out);rw [HP.out] at this;exact this
        case measure=>simp [intOf];exact HPK.out
      · rw [decide_eq_false hless];have HLE:=Lib.hid hless;clear hless;go_wp2_with fail;go_end0;refine ⟨rfl,hs,hperm,HeapUp.stop hup.out (.inr ?_),by rw [List.append_nil];exact hms1.out,hgr1⟩;rw [HP.out,HKA.out,HKB.out];exact Nat.le_of_not_lt HLE.out
end Go.Proofs.YtgekmfcbbjeahaaGreatDoor
/- container/heap.down at rowHeap, from the top. -/
attribute [local go_sem ↓] Go.wp_at_zero Go.wp_at_succ
namespace Go.Proofs.YtgekmfcbbjeahaaGreatDoor
open Go.RowKit V
theorem app_get {α:Type} {xs:List α} (zs:List α) {i:Nat} {x:α} (h:xs[i]?=some x):(xs ++ zs)[i]?=some x:=by
  rw [List.getElem?_append_left (List.getElem?_eq_some_iff.1 h).1];exact h
set_option maxRecDepth 100000 in
set_option maxHeartbeats 3200000 in
theorem phdown (B rb q n c m : Nat) (ys zs : List Nat) (E N : Nat → Nat) (w : World) (hm : HM B w (.slice (some ⟨q, 0, none⟩) n c) (ys ++ zs) E N) (hrb : w.cell? ⟨rb, 1, none⟩ = some (.slice (some ⟨q, 0, none⟩) n c)) (hlt : rb < w.heap.size) (hne : rb ≠ q) (hl : (ys ++ zs).length = n) (hy : ys.length = m) (hn : n ≤ 1000000) (hd : HeapDown (key2 E N) ys 0) :
    Calls Tryz.prog 189 #[.iface 198 (.pointer (some ⟨rb,1,none⟩)),.int .i64 0,.int .i64 m] w fun e w'=>∃ b,e = .returned (.bool b)∧HeapP B q n c ys zs E N w w':=by
  have N1:=nil_less;have N2:=nil_swap;have M1:=meth_less;have M2:=meth_swap;have HD:=Lib.hid hd;have HM0:=Lib.hid hm;have hmn:m≤n:=by rw [← hl,← hy,List.length_append];omega
  have HZ:=Lib.hid (show ∀ hs:List Nat,hs.length=m→(hs ++ zs).length=n from fun hs h=>by rw [← hl,List.length_append,List.length_append,h,hy]);clear hd hm hl;go_enter Tryz.func189,Tryz.ntmps189;go_wp2;go_loopw [7,8,9,10] (fun si _ _ _ wr=>∃ (k:Nat) (hs:List Nat),si = .int .i64 k∧k≤m∧hs.length=m∧hs.Perm ys∧Hid (HeapDown (key2 E N) hs k)∧Hid (HM B wr (.slice (some ⟨q,0,none⟩) n c) (hs ++ zs) E N)∧w.grownBy wr (some q)) (fun si _ _ _ _=>m - (intOf si).toNat)
  case atStart=>exact ⟨0,ys,rfl,by omega,hy,List.Perm.refl _,HD,HM0,grown_refl _ _⟩
  case round=>
    obtain ⟨k,hs,rfl,hk,hsl,hperm,hdn,hms,hgr⟩:=hrel;have hcell:wr.cell? ⟨rb,1,none⟩=some (.slice (some ⟨q,0,none⟩) n c):=(World.cell?_of_block (w:=w) (hgr.block rb hlt (fun e=>hne (by injection e)))).trans hrb;have HLN:=Lib.hid (HZ.out hs hsl);obtain ⟨x1,hx1,hx1'⟩:∃ x1,x1≤2*k+1∧2*k+1≤x1:=⟨_,Nat.le_refl _,Nat.le_refl _⟩;have e1:2*(k:Int)+1=(x1:Int):=by omega
    have e1w:IntKind.i64.wrap (x1:Int)=x1:=IntWalk.i64_in _ (by omega)
    by_cases h1:x1<m
    · obtain ⟨x2, hx2, hx2'⟩ : ∃ x2, x2 ≤ x1 + 1 ∧ x1 + 1 ≤ x2 := ⟨_, Nat.le_refl _, Nat.le_refl _⟩; have e2 : (x1 : Int) + 1 = (x2 : Int) := by omega
      have e2w:IntKind.i64.wrap (x2:Int)=x2:=IntWalk.i64_in _ (by omega);have g1:¬ (m:Int)≤(x1:Int):=by omega
      have g2:¬ (x1:Int)<0:=by omega
      by_cases h2:x2<m
      · obtain ⟨a2, ha2⟩ : ∃ a, hs[x2]? = some a := ⟨_, List.getElem?_eq_getElem (by omega)⟩; obtain ⟨a1, ha1⟩ : ∃ a, hs[x1]? = some a := ⟨_, List.getElem?_eq_getElem (by omega)⟩; have HL0 := Lib.hid (fun W (h : HM B W (.slice (some ⟨q, 0, none⟩) n c) (hs ++ zs) E N) => hm_less h HLN.out (app_get zs ha2) (app_get zs ha1)); have HK1 := Lib.hid (keyAt_get (f := key2 E N) ha1); have HK2 := Lib.hid (keyAt_get (f := key2 E N) ha2); clear ha1 ha2; go_wp2_with fail; refine (HL0.out _ hms.out).mono ?_; rintro e ws ⟨rfl, hbs⟩; have hcells := (hbs.cell (p := ⟨rb, 1, none⟩) (Nat.lt_of_lt_of_le hlt hgr.size)).trans hcell; have hmss := Lib.hid (hms.out.below hbs); have hgrs := grown_trans hgr (grown_of_below hbs (some q))
        by_cases hle:key2 E N a1<key2 E N a2
        · rw [decide_eq_true hle]; have HBIG : Hid (∀ x, 0 < x → x < hs.length → (x - 1) / 2 = k → keyAt (key2 E N) hs x ≤ keyAt (key2 E N) hs x2) := fun x h0 _ h3 => by
            have:x=x1∨x=x2:=by omega
            rcases this with e | e
            · rw [e,HK1.out,HK2.out];exact Nat.le_of_lt hle
            · rw [e];exact Nat.le_refl _
          clear hle;obtain ⟨a,ha⟩:∃ a,hs[x2]?=some a:=⟨_,List.getElem?_eq_getElem (by omega)⟩;obtain ⟨b,hb⟩:∃ b,hs[k]?=some b:=⟨_,List.getElem?_eq_getElem (by omega)⟩;have HL:=Lib.hid (fun W (h:HM B W (.slice (some ⟨q,0,none⟩) n c) (hs ++ zs) E N)=>hm_less h HLN.out (app_get zs ha) (app_get zs hb));have HKA:=Lib.hid (keyAt_get (f:=key2 E N) ha);have HKB:=Lib.hid (keyAt_get (f:=key2 E N) hb);clear ha hb;go_wp2_with fail;refine (HL.out _ hmss.out).mono ?_;rintro e wt ⟨rfl,hbt⟩;have hcellt:=(hbt.cell (p:=⟨rb,1,none⟩) (Nat.lt_of_lt_of_le hlt hgrs.size)).trans hcells;have hmst:=Lib.hid (hmss.out.below hbt);have hgrt:=grown_trans hgrs (grown_of_below hbt (some q))
          by_cases hless:key2 E N b<key2 E N a
          · rw [decide_eq_true hless]; have HLE := Lib.hid hless; clear hless; go_wp2_with fail; refine (hm_swap hmst.out HLN.out (show k < n by omega) (show x2 < n by omega)).mono ?_; rintro e w2 ⟨rfl, hm2, hg2⟩; have HM2 := Lib.hid hm2; clear hm2; go_wp2_with fail; go_roundw
            case rel=>
              refine ⟨x2,swp hs k x2,rfl,by omega,by rw [swp_len];exact hsl,(swp_perm (by omega) (by omega)).trans hperm,?_,?_,grown_trans hgrt hg2⟩
              · exact HeapDown.step hdn.out (by omega) (by omega) (by omega) (by omega) HBIG.out (by rw [HKA.out,HKB.out];exact HLE.out)
              · rw [swp_app hs zs (by omega) (by omega)] at HM2;exact HM2
            case measure=>simp [intOf];omega
          · rw [decide_eq_false hless];have HLE:=Lib.hid hless;clear hless;go_wp2_with fail;go_ret;refine ⟨_,rfl,hs,hperm,HeapDown.stop hdn.out (fun x h0 h1 h2=>Nat.le_trans (HBIG.out x h0 h1 h2) ?_),hmst.out,hgrt⟩;rw [HKA.out,HKB.out];exact Nat.le_of_not_lt HLE.out
        · rw [decide_eq_false hle]; have HBIG : Hid (∀ x, 0 < x → x < hs.length → (x - 1) / 2 = k → keyAt (key2 E N) hs x ≤ keyAt (key2 E N) hs x1) := fun x h0 _ h3 => by
            have:x=x1∨x=x2:=by omega
            rcases this with e | e
            · rw [e];exact Nat.le_refl _
            · rw [e,HK1.out,HK2.out];exact Nat.le_of_not_lt hle
          clear hle;obtain ⟨a,ha⟩:∃ a,hs[x1]?=some a:=⟨_,List.getElem?_eq_getElem (by omega)⟩;obtain ⟨b,hb⟩:∃ b,hs[k]?=some b:=⟨_,List.getElem?_eq_getElem (by omega)⟩;have HL:=Lib.hid (fun W (h:HM B W (.slice (some ⟨q,0,none⟩) n c) (hs ++ zs) E N)=>hm_less h HLN.out (app_get zs ha) (app_get zs hb));have HKA:=Lib.hid (keyAt_get (f:=key2 E N) ha);have HKB:=Lib.hid (keyAt_get (f:=key2 E N) hb);clear ha hb;go_wp2_with fail;refine (HL.out _ hmss.out).mono ?_;rintro e wt ⟨rfl,hbt⟩;have hcellt:=(hbt.cell (p:=⟨rb,1,none⟩) (Nat.lt_of_lt_of_le hlt hgrs.size)).trans hcells;have hmst:=Lib.hid (hmss.out.below hbt);have hgrt:=grown_trans hgrs (grown_of_below hbt (some q))
          by_cases hless:key2 E N b<key2 E N a
          · rw [decide_eq_true hless]; have HLE := Lib.hid hless; clear hless; go_wp2_with fail; refine (hm_swap hmst.out HLN.out (show k < n by omega) (show x1 < n by omega)).mono ?_; rintro e w2 ⟨rfl, hm2, hg2⟩; have HM2 := Lib.hid hm2; clear hm2; go_wp2_with fail; go_roundw
            case rel=>
              refine ⟨x1,swp hs k x1,rfl,by omega,by rw [swp_len];exact hsl,(swp_perm (by omega) (by omega)).trans hperm,?_,?_,grown_trans hgrt hg2⟩
              · exact HeapDown.step hdn.out (by omega) (by omega) (by omega) (by omega) HBIG.out (by rw [HKA.out,HKB.out];exact HLE.out)
              · rw [swp_app hs zs (by omega) (by omega)] at HM2;exact HM2
            case measure=>simp [intOf];omega
          · rw [decide_eq_false hless];have HLE:=Lib.hid hless;clear hless;go_wp2_with fail;go_ret;refine ⟨_,rfl,hs,hperm,HeapDown.stop hdn.out (fun x h0 h1 h2=>Nat.le_trans (HBIG.out x h0 h1 h2) ?_),hmst.out,hgrt⟩;rw [HKA.out,HKB.out];exact Nat.le_of_not_lt HLE.out
      · have HBIG:Hid (∀ x,0<x→x<hs.length→(x - 1) / 2=k→keyAt (key2 E N) hs x≤keyAt (key2 E N) hs x1):=fun x h0 h1 h3=>by
          have:x=x1:=by omega
          rw [this];exact Nat.le_refl _
        obtain ⟨a,ha⟩:∃ a,hs[x1]?=some a:=⟨_,List.getElem?_eq_getElem (by omega)⟩;obtain ⟨b,hb⟩:∃ b,hs[k]?=some b:=⟨_,List.getElem?_eq_getElem (by omega)⟩;have HL:=Lib.hid (fun W (h:HM B W (.slice (some ⟨q,0,none⟩) n c) (hs ++ zs) E N)=>hm_less h HLN.out (app_get zs ha) (app_get zs hb));have HKA:=Lib.hid (keyAt_get (f:=key2 E N) ha);have HKB:=Lib.hid (keyAt_get (f:=key2 E N) hb);clear ha hb;go_wp2_with fail;refine (HL.out _ hms.out).mono ?_;rintro e wt ⟨rfl,hbt⟩;have hcellt:=(hbt.cell (p:=⟨rb,1,none⟩) (Nat.lt_of_lt_of_le hlt hgr.size)).trans hcell;have hmst:=Lib.hid (hms.out.below hbt);have hgrt:=grown_trans hgr (grown_of_below hbt (some q))
        by_cases hless:key2 E N b<key2 E N a
        · rw [decide_eq_true hless]; have HLE := Lib.hid hless; clear hless; go_wp2_with fail; refine (hm_swap hmst.out HLN.out (show k < n by omega) (show x1 < n by omega)).mono ?_; rintro e w2 ⟨rfl, hm2, hg2⟩; have HM2 := Lib.hid hm2; clear hm2; go_wp2_with fail; go_roundw
          case rel=>
            refine ⟨x1,swp hs k x1,rfl,by omega,by rw [swp_len];exact hsl,(swp_perm (by omega) (by omega)).trans hperm,?_,?_,grown_trans hgrt hg2⟩
            · exact HeapDown.step hdn.out (by omega) (by omega) (by omega) (by omega) HBIG.out (by rw [HKA.out,HKB.out];exact HLE.out)
            · rw [swp_app hs zs (by omega) (by omega)] at HM2;exact HM2
          case measure=>simp [intOf];omega
        · rw [decide_eq_false hless];have HLE:=Lib.hid hless;clear hless;go_wp2_with fail;go_ret;refine ⟨_,rfl,hs,hperm,HeapDown.stop hdn.out (fun x h0 h1 h2=>Nat.le_trans (HBIG.out x h0 h1 h2) ?_),hmst.out,hgrt⟩;rw [HKA.out,HKB.out];exact Nat.le_of_not_lt HLE.out
    · have HS:Hid (Heap (key2 E N) hs):=HeapDown.stop hdn.out (fun x h0 h1 h2=>by omega);have g1:(m:Int)≤(x1:Int):=by omega
      go_wp2_with fail;go_ret;exact ⟨_,rfl,hs,hperm,HS.out,hms.out,hgr⟩
end Go.Proofs.YtgekmfcbbjeahaaGreatDoor
/- poly.Const. -/
attribute [local go_sem ↓] Go.wp_at_zero Go.wp_at_succ
namespace Go.Proofs.YtgekmfcbbjeahaaGreatDoor
open Go.RowKit V
theorem const_mem (q:Rat) (t:Nat × Rat) (h:t ∈ scaleL [(0,1)] q):t=(0,q):=by
  unfold scaleL at h;split at h
  · cases h
  · have:=List.mem_singleton.1 h;rw [this];exact congrArg (Prod.mk 0) (Rat.one_mul q)
theorem const_fits (q:Rat) (hf:TFits 0 q):∀ t ∈ scaleL [(0,1)] q,TFits t.1 t.2:=fun t ht=>by
  obtain rfl:=const_mem q t ht;exact hf
theorem const_words (q:Rat):Words (scaleL [(0,1)] q):=fun t ht=>by
  obtain rfl:=const_mem q t ht;show 0<18446744073709551616;omega
theorem const_len (q:Rat):(scaleL [(0,1)] q).length≤1:=by
  unfold scaleL;split <;> simp
end Go.Proofs.YtgekmfcbbjeahaaGreatDoor
