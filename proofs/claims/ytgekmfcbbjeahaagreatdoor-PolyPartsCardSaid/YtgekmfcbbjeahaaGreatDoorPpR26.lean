/- poly.sum's closures, and slices of terms without the first one. -/
import Derived.Test.YtgekmfcbbjeahaaGreatDoorPpR25
import Derived.Deep.DrawnRows
attribute [local go_sem ↓] Go.wp_at_zero Go.wp_at_succ
namespace Go.Proofs.YtgekmfcbbjeahaaGreatDoor
open Go.RowKit V
def AddOk (x y : Rat) : Prop := ∀ (a b : RL) (w : World), a.Num w x → b.Num w y →
    Calls Tryz.prog 103 #[.agg #[.bool a.s,.slice a.N a.ns.length a.nc,.slice a.D a.ds.length a.dc],.agg #[.bool b.s,.slice b.N b.ns.length b.nc,.slice b.D b.ds.length b.dc]] w (NumL (x+y) 20000 w)
def MulOk (x y : Rat) : Prop := ∀ (a b : RL) (w : World), a.Num w x → b.Num w y →
    Calls Tryz.prog 77 #[.agg #[.bool a.s,.slice a.N a.ns.length a.nc,.slice a.D a.ds.length a.dc],.agg #[.bool b.s,.slice b.N b.ns.length b.nc,.slice b.D b.ds.length b.dc]] w (NumL (x*y) 20000 w)
theorem box3t (w:World) (a b c d a2 b2 c2 d2 r s t u:Value) :
    Blk4 115 (((w.alloc (.cells #[a,b,c,d] 115)).alloc (.cells #[a2,b2,c2,d2] 115)).alloc (.cells #[r,s,t,u] 115)) w.heap.size a b c d ∧
    Blk4 115 (((w.alloc (.cells #[a,b,c,d] 115)).alloc (.cells #[a2,b2,c2,d2] 115)).alloc (.cells #[r,s,t,u] 115)) (w.heap.size+1) a2 b2 c2 d2 ∧
    Blk4 115 (((w.alloc (.cells #[a,b,c,d] 115)).alloc (.cells #[a2,b2,c2,d2] 115)).alloc (.cells #[r,s,t,u] 115)) (w.heap.size+1+1) r s t u ∧
    Below w.heap.size w (((w.alloc (.cells #[a,b,c,d] 115)).alloc (.cells #[a2,b2,c2,d2] 115)).alloc (.cells #[r,s,t,u] 115)):=by
  refine ⟨((Blk4.new _ w a b c d).alloc _).alloc _,?_,?_,(((Below.refl _ _).alloc (Nat.le_refl _) _).alloc (by simp) _).alloc (by simp;omega) _⟩
  · have:=(Blk4.new 115 (w.alloc (.cells #[a,b,c,d] 115)) a2 b2 c2 d2).alloc (.cells #[r,s,t,u] 115);rwa [show (w.alloc (.cells #[a,b,c,d] 115)).heap.size=w.heap.size+1 by simp] at this
  · have:=Blk4.new 115 ((w.alloc (.cells #[a,b,c,d] 115)).alloc (.cells #[a2,b2,c2,d2] 115)) r s t u;rwa [show ((w.alloc (.cells #[a,b,c,d] 115)).alloc (.cells #[a2,b2,c2,d2] 115)).heap.size=w.heap.size+1+1 by simp] at this
abbrev put4o (w:World) (g m:Nat) (r:RL):World:=(((w.setCell ⟨g,0,none⟩ (.int .u64 m)).setCell ⟨g,1,none⟩ (.bool r.s)).setCell ⟨g,2,none⟩ (.slice r.N r.ns.length r.nc)).setCell ⟨g,3,none⟩ (.slice r.D r.ds.length r.dc)
theorem off_put4o {w:World} {g m:Nat} {r:RL} (hg:HasT w g 115):Off w (put4o w g m r):=
  ((((Off.refl w).setT hg (by decide) _ _).setT (hg.set_ _ _ _) (by decide) _ _).setT ((hg.set_ _ _ _).set_ _ _ _) (by decide) _ _).setT (((hg.set_ _ _ _).set_ _ _ _).set_ _ _ _) (by decide) _ _
theorem below_put4o {B g:Nat} {a w:World} (h:Below B a w) (hg:B≤g) (m:Nat) (r:RL):Below B a (put4o w g m r):=(((h.setCell hg _).setCell hg _).setCell hg _).setCell hg _
theorem cmpmono (x y:Nat) (w:World) :
    Calls Tryz.prog 101 #[.int .u64 x,.int .u64 y] w fun e w'=>e = .returned (.int .i64 (cmpOf x y))∧w=w':=by
  go_enter Tryz.func101,Tryz.ntmps101;go_wp2
  · go_ret;exact ⟨by rw [cmpOf,if_pos (by omega)];rfl,rfl⟩
  · go_ret;exact ⟨by rw [cmpOf,if_neg (by omega),if_pos (by omega)];rfl,rfl⟩
  · go_ret;exact ⟨by rw [cmpOf,if_neg (by omega),if_neg (by omega)];rfl,rfl⟩
set_option maxRecDepth 100000 in
set_option maxHeartbeats 800000 in
theorem porder (s t:TM) (w:World) :
    Calls Tryz.prog 100 #[.agg #[.int .u64 s.e,.bool s.c.s,.slice s.c.N s.c.ns.length s.c.nc,.slice s.c.D s.c.ds.length s.c.dc],.agg #[.int .u64 t.e,.bool t.c.s,.slice t.c.N t.c.ns.length t.c.nc,.slice t.c.D t.c.ds.length t.c.dc]] w (Gives (.int .i64 (cmpOf t.e s.e)) w):=by
  go_enter Tryz.func100,Tryz.ntmps100;go_wp2_with fail;refine (cmpmono t.e s.e _).mono ?_;rintro e w' ⟨rfl,rfl⟩;go_wp2;go_ret;exact ⟨rfl,((Below.refl _ _).alloc (Nat.le_refl _) _).alloc (by simp) _⟩
def JoinP (m:Nat) (q:Rat) (w:World) (e:Ending) (w':World):Prop:=
  ∃ r:RL,∃ b:Bool,e = .returned (.tuple #[.agg #[.int .u64 m,.bool r.s,.slice r.N r.ns.length r.nc,.slice r.D r.ds.length r.dc],.bool b])∧r.Num w' q∧(b=true↔q≠0)∧r.ns.length≤20000∧r.ds.length≤20000∧Below w.heap.size w w'
set_option maxRecDepth 100000 in
set_option maxHeartbeats 1600000 in
theorem pjoin (s t:TM) (x y:Rat) (w:World) (hs:s.c.Num w x) (ht:t.c.Num w y) (ha:AddOk x y) :
    Calls Tryz.prog 102 #[.agg #[.int .u64 s.e,.bool s.c.s,.slice s.c.N s.c.ns.length s.c.nc,.slice s.c.D s.c.ds.length s.c.dc],.agg #[.int .u64 t.e,.bool t.c.s,.slice t.c.N t.c.ns.length t.c.nc,.slice t.c.D t.c.ds.length t.c.dc]] w (JoinP s.e (x+y) w):=by
  have HA:=Lib.hid ha;clear ha;obtain ⟨k1,k2,k3,hb⟩:=box3t w (.int .u64 s.e) (.bool s.c.s) (.slice s.c.N s.c.ns.length s.c.nc) (.slice s.c.D s.c.ds.length s.c.dc) (.int .u64 t.e) (.bool t.c.s) (.slice t.c.N t.c.ns.length t.c.nc) (.slice t.c.D t.c.ds.length t.c.dc) (.int .u64 0) (.bool false) (.slice none 0 0) (.slice none 0 0);go_enter Tryz.func102,Tryz.ntmps102;go_wp2_with fail;obtain ⟨w1,hwe⟩:∃ x,(((w.alloc (.cells #[.int .u64 s.e,.bool s.c.s,.slice s.c.N s.c.ns.length s.c.nc,.slice s.c.D s.c.ds.length s.c.dc] 115)).alloc (.cells #[.int .u64 t.e,.bool t.c.s,.slice t.c.N t.c.ns.length t.c.nc,.slice t.c.D t.c.ds.length t.c.dc] 115)).alloc (.cells #[.int .u64 0,.bool false,.slice none 0 0,.slice none 0 0] 115))=x:=⟨_,rfl⟩;rw [hwe] at k1 k2 k3 hb ⊢;clear hwe;obtain ⟨a0,a1,a2,a3,a4,a5,a6,a7,a8⟩:=k1.facts;obtain ⟨b0,b1,b2,b3,b4,b5,b6,b7,b8⟩:=k2.facts;refine (HA.out s.c t.c _ (hs.below hb) (ht.below hb)).mono ?_;rintro e w2 ⟨r,rfl,hr,l1,l2,hb2⟩;have k12:=k1.below hb2;have k32:=k3.below hb2;have hw2:=hb.trans (hb2.mono hb.size);have kc:=BlkT.new 91 w2 (.bool r.s) (.slice r.N r.ns.length r.nc) (.slice r.D r.ds.length r.dc);have hb3:Below w2.heap.size w2 (w2.alloc (.cells #[.bool r.s,.slice r.N r.ns.length r.nc,.slice r.D r.ds.length r.dc] 91)):=(Below.refl _ _).alloc (Nat.le_refl _) _;have hlt1:=k12.lt;have hlt3:=k32.lt;clear hs ht k1 k2 k3 hb hb2 a0 a1 a2 a3 a4 a5 a6 a7 a8 b0 b1 b2 b3 b4 b5 b6 b7 b8;go_upto_region 2 with fail;obtain ⟨w3,hwe⟩:∃ x,w2.alloc (.cells #[.bool r.s,.slice r.N r.ns.length r.nc,.slice r.D r.ds.length r.dc] 91)=x:=⟨_,rfl⟩;rw [hwe] at kc hb3 ⊢;clear hwe;have k13:=k12.below hb3;have k33:=k32.below hb3;have hr3:=hr.below hb3;have hw3:=hw2.trans (hb3.mono hw2.size);obtain ⟨a0,a1,a2,a3,a4,a5,a6,a7,a8⟩:=k13.facts;obtain ⟨c0,c1,c2,c3,c4,c5,c6⟩:=kc.facts;have e1:¬ w.heap.size=w.heap.size+1+1:=by omega
  have e2:¬ w2.heap.size=w.heap.size+1+1:=by omega
  have e3:¬ w.heap.size+1+1=w2.heap.size:=by omega
  have e4:¬ w.heap.size+1+1=w.heap.size:=by omega
  obtain ⟨z,hz⟩:∃ z,decide (r.ns.length=0)=z:=⟨_,rfl⟩;have hzq:(!z)=true↔x+y≠0:=by
    rw [← hz];have h:=hr.zero_iff
    by_cases h0:r.ns.length=0
    · simp [h0,h.1 h0]
    · have h2:¬ x+y=0:=fun e=>h0 (h.2 e)
      simp [h0,h2]
  have HZQ:=Lib.hid hzq;have HZ:=Lib.hid hz;clear hzq hz;go_region_held3 (fun w'=>w'.cell? ⟨w.heap.size,0,none⟩=some (.int .u64 s.e)∧w'.cell? ⟨w2.heap.size,0,none⟩=some (.bool r.s)∧w'.cell? ⟨w2.heap.size,1,none⟩=some (.slice r.N r.ns.length r.nc)∧w'.cell? ⟨w2.heap.size,2,none⟩=some (.slice r.D r.ds.length r.dc)) (first | (with_reducible exact ⟨‹_›,‹_›,‹_›,‹_›⟩) | go_keep)
    ((go_at_call 104
      refine (wisZero r.s r.N r.D r.ns.length r.nc r.ds.length r.dc _).mono ?_;rintro e wz_ ⟨he,hbz⟩;rw [HZ.out] at he;subst he;have hbq:Below w3.heap.size w3 wz_:=by first | exact below_of_drew hbz (Nat.le_refl _) | exact hbz
      have k34:=k33.below hbq;obtain ⟨d0,d1,d2,d3,d4,d5,d6,d7,d8⟩:=k34.facts;obtain ⟨f0,f1,f2,f3,f4,f5,f6,f7,f8⟩:=(k13.below hbq).facts;obtain ⟨g0,g1,g2,g3,g4,g5,g6⟩:=(kc.below hbq).facts))
  all_goals
    go_wp2_with fail;refine bodyPost_ret (v:=.tuple #[.agg #[.int .u64 s.e,.bool r.s,.slice r.N r.ns.length r.nc,.slice r.D r.ds.length r.dc],.bool (!z)]) (by simp [results,Tryz.results102,go_sem,d0,d1,d2,d3]) rfl ?_;have ho:Off wz_ (put4o wz_ (w.heap.size+1+1) s.e r):=off_put4o k34.ty;exact ⟨r,!z,rfl,(hr3.below hbq).off ho,HZQ.out,l1,l2,below_put4o (hw3.trans (hbq.mono hw3.size)) (by omega) _ _⟩
end Go.Proofs.YtgekmfcbbjeahaaGreatDoor
/- slices.Compare of two slices of signed words. -/
namespace Go.Proofs.YtgekmfcbbjeahaaGreatDoor
open Go.RowKit V
def lexI:List Int→List Int→Int
  | [],[]=>0
  | [],_ :: _=>-1
  | _ :: _,[]=>1
  | a :: x,b :: y=>if a<b then -1 else if b<a then 1 else lexI x y
theorem drop_some {α:Type} {l:List α} {k:Nat} {x:α} (h:l[k]?=some x):l.drop k=x :: l.drop (k+1):=by
  obtain ⟨hk,rfl⟩:=List.getElem?_eq_some_iff.1 h;exact List.drop_eq_getElem_cons hk
theorem lexI_step {xs ys:List Int} {k:Nat} {a b:Int} (h1:xs[k]?=some a) (h2:ys[k]?=some b):lexI (xs.drop k) (ys.drop k)=if a<b then -1 else if b<a then 1 else lexI (xs.drop (k+1)) (ys.drop (k+1)):=by
  rw [drop_some h1,drop_some h2,lexI]
theorem lexI_long {xs ys:List Int} {k:Nat} (h1:k<xs.length) (h2:ys.length≤k):lexI (xs.drop k) (ys.drop k)=1:=by
  rw [drop_some (List.getElem?_eq_getElem h1),List.drop_eq_nil_of_le h2,lexI]
theorem lexI_short {xs ys:List Int} (h2:xs.length≤ys.length):lexI (xs.drop xs.length) (ys.drop xs.length)=if xs.length<ys.length then -1 else 0:=by
  rw [List.drop_length];split
  · next h=>rw [drop_some (List.getElem?_eq_getElem h),lexI]
  · rw [List.drop_eq_nil_of_le (by omega),lexI]
theorem cmpint (x y:Int) (w:World) :
    Calls Tryz.prog 132 #[.int .i64 x,.int .i64 y] w fun e w'=>e = .returned (.int .i64 (cmpOf x y))∧w=w':=by
  go_enter Tryz.func132,Tryz.ntmps132;go_wp2
  · go_ret;exact ⟨by rw [cmpOf,if_pos (by omega)];rfl,rfl⟩
  · go_ret;exact ⟨by rw [cmpOf,if_neg (by omega),if_pos (by omega)];rfl,rfl⟩
  · go_ret;exact ⟨by rw [cmpOf,if_neg (by omega),if_neg (by omega)];rfl,rfl⟩
set_option maxRecDepth 100000 in
set_option maxHeartbeats 800000 in
theorem pcompare (A B : Option Addr) (c d : Nat) (xs ys : List Int) (w : World) (hx : RdI w A xs) (hy : RdI w B ys) (bx : xs.length ≤ 1000000) (by_ : ys.length ≤ 1000000) :
    Calls Tryz.prog 86 #[.slice A xs.length c,.slice B ys.length d] w fun e w'=>e = .returned (.int .i64 (lexI xs ys))∧w=w':=by
  go_enter Tryz.func86,Tryz.ntmps86;go_wp2;go_loop [5,6,7,8,11] (fun _ _ _ _ i=>∃ k:Nat,k≤xs.length∧k≤ys.length∧i = .int .i64 k∧Hid (lexI (xs.drop k) (ys.drop k)=lexI xs ys)) (fun _ _ _ _ i=>xs.length - (intOf i).toNat)
  case atStart=>exact ⟨0,by omega,by omega,rfl,rfl⟩
  case round=>
    obtain ⟨k,hk,hky,rfl,HL⟩:=hrel
    by_cases hlt:k<xs.length
    · by_cases hly:k<ys.length
      · obtain ⟨ad,x,rfl,hbx,ex_,cx⟩:=hx.ask hlt;obtain ⟨bd,y,rfl,hby,ey_,cy⟩:=hy.ask hly;have HST:=Lib.hid ((lexI_step ex_.out ey_.out).symm.trans HL.out);have HC:=Lib.hid (cmpint x y);rcases Int.lt_trichotomy x y with h | h | h
        · have e1:cmpOf x y = -1:=by rw [cmpOf,if_pos h]
          rw [e1] at HC;have HR:Hid (lexI xs ys = -1):=by have:=HST.out;rw [if_pos h] at this;exact this.symm
          clear e1 h;go_wp2_with (go_at_call 132;refine (HC.out _).mono ?_;rintro e w' ⟨rfl,rfl⟩);go_ret;exact ⟨by rw [HR.out];rfl,rfl⟩
        · have e1:cmpOf x y=0:=by rw [cmpOf,if_neg (by omega),if_neg (by omega)]
          rw [e1] at HC;have HR:Hid (lexI (xs.drop (k+1)) (ys.drop (k+1))=lexI xs ys):=by have:=HST.out;rw [if_neg (by omega),if_neg (by omega)] at this;exact this
          clear e1 h;go_wp2_with (go_at_call 132;refine (HC.out _).mono ?_;rintro e w' ⟨rfl,rfl⟩);go_round
          case rel=>exact ⟨k+1,by omega,by omega,by go_num,HR⟩
          case measure=>simp [intOf];omega
        · have e1:cmpOf x y=1:=by rw [cmpOf,if_neg (by omega),if_pos h]
          rw [e1] at HC;have HR:Hid (lexI xs ys=1):=by have:=HST.out;rw [if_neg (by omega),if_pos h] at this;exact this.symm
          clear e1 h;go_wp2_with (go_at_call 132;refine (HC.out _).mono ?_;rintro e w' ⟨rfl,rfl⟩);go_ret;exact ⟨by rw [HR.out];rfl,rfl⟩
      · obtain ⟨ad,x,rfl,hbx,ex_,cx⟩:=hx.ask hlt;have HR:Hid (lexI xs ys=1):=HL.out.symm.trans (lexI_long hlt (by omega));go_wp2;go_ret;exact ⟨by rw [HR.out];rfl,rfl⟩
    · obtain rfl:k=xs.length:=by omega
      have HR:=Lib.hid (HL.out.symm.trans (lexI_short hky))
      by_cases hly:xs.length<ys.length
      · have HR2:Hid (lexI xs ys = -1):=by have:=HR.out;rw [if_pos hly] at this;exact this
        go_wp2;go_ret;exact ⟨by rw [HR2.out];rfl,rfl⟩
      · have HR2:Hid (lexI xs ys=0):=by have:=HR.out;rw [if_neg hly] at this;exact this
        go_wp2;go_ret;exact ⟨by rw [HR2.out];rfl,rfl⟩
end Go.Proofs.YtgekmfcbbjeahaaGreatDoor
/- Slices of terms that a call owns: append of one term, and of a slice of terms; a slice without its first term. -/
namespace Go.Proofs.YtgekmfcbbjeahaaGreatDoor
open Go.RowKit V
def OwnT (B:Nat) (w:World) (v:Value) (ts:List TM):Prop:=w.ownsRow B 115 4 v ts.length (flat ts)
theorem OwnT.below {B:Nat} {w w':World} {v:Value} {ts:List TM} (h:OwnT B w v ts) (hb:Below w.heap.size w w'):OwnT B w' v ts:=ownsRow_below h hb
theorem OwnT.nil_ (B:Nat) (w:World):OwnT B w (.slice none 0 0) []:=World.ownsRow_nil _ _ _ _
theorem OwnT.form {B:Nat} {w:World} {v:Value} {ts:List TM} (h:OwnT B w v ts):∃ A c,v = .slice A ts.length c∧ts.length≤c∧TRd w A ts∧(A=none→ts.length=0∧c=0)∧(∀ g,v.ownBlock=some g→B≤g∧g<w.heap.size):=by
  have hlt:=World.ownsRow.lt h;rcases h.2 with ⟨rfl,h0⟩ | ⟨g,cap,cur,rfl,_,h3,hc,_⟩
  · have:ts=[]:=List.eq_nil_of_length_eq_zero h0;subst this;exact ⟨none,0,rfl,Nat.le_refl _,TRd.nil_,fun _=>⟨rfl,rfl⟩,hlt⟩
  · refine ⟨_,cap,rfl,hc,fun hn=>⟨_,rfl,(hlt g rfl).2,fun j m hm=>?_⟩,(fun h=>by cases h),hlt⟩;have hj:j<ts.length:=(List.getElem?_eq_some_iff.1 hm).1;have e:(⟨g,0,none⟩:Addr).add (j*4)=⟨g,j*4,none⟩:=by unfold Addr.add;split <;> simp_all
    have key:∀ i,i<4→w.cell? ⟨g,j*4+i,none⟩=m.cells[i]?:=fun i hi=>by
      rw [World.ownsRow.cellAt h (j*4+i) (by omega)];exact flat_get ts j m i hm hi
    rw [e];exact ⟨key 0 (by omega),key 1 (by omega),key 2 (by omega),key 3 (by omega)⟩
theorem TCell.at_ {w:World} {ad:Addr} {q r:Nat} {t:TM} {u:Value} (h:TCell w (ad.add (q*4)) t) (hr:r<4) (hu:t.cells[r]?=some u):w.cell? (ad.add (q*4+r))=some u:=by
  have hoff:(ad.add (q*4)).off=ad.off+q*4:=by unfold Addr.add;split <;> simp_all
  have hadd:∀ r,0<r→ad.add (q*4+r)=⟨(ad.add (q*4)).block,(ad.add (q*4)).off+r,none⟩:=fun r h0=>by
    rw [block_of_add,hoff];unfold Addr.add;rw [if_neg (by omega),Nat.add_assoc]
  match r,hr,hu with
  | 0,_,hu=>rw [Nat.add_zero,h.c0];simpa [TM.cells] using hu
  | 1,_,hu=>rw [hadd 1 (by omega),h.c1];simpa [TM.cells] using hu
  | 2,_,hu=>rw [hadd 2 (by omega),h.c2];simpa [TM.cells] using hu
  | 3,_,hu=>rw [hadd 3 (by omega),h.c3];simpa [TM.cells] using hu
theorem flat_snoc (a:List TM) (m:TM):flat (a ++ [m])=flat a ++ m.cells:=by simp [flat]
theorem wpList_appT {P:Program} {ops:Array Oper} {rest:List Oper} {o:Oper} {a:Act} {Q:Exit→Act→World→Prop} {w:World} (hgd:o.guard=none) (s x:Operand) (st:TypeId)
    (ho:o.op = .call { callee:=.builtin .append,args:=#[s,x],argTypes:=#[st,st] })
    (hinfo:(P.info? 115).map (fun i=>(i.zero,i.size,i.bytes))=some (some (.agg #[.int .u64 0,.bool false,.slice none 0 0,.slice none 0 0]),4,64)) (ht:P.underlying st=some (.slice 115))
    (B:Nat) (v:Value) (ts:List TM) (t:TM) (hs:a.eval s=v) (hown:OwnT B w v ts)
    (hx:a.eval x = .slice (some ⟨w.heap.size,0,none⟩) 1 1) (hB:B≤w.heap.size) (hlen:ts.length≤1000000)
    (h:∀ v' w',OwnT B w' v' (ts ++ [t])→Below B w w'→Off w w'→wpList P ops Q rest (a.put o.dst v') w') :
    wpList P ops Q (o :: rest) a (w.alloc (.cells #[.int .u64 t.e,.bool t.c.s,.slice t.c.N t.c.ns.length t.c.nc,.slice t.c.D t.c.ds.length t.c.dc] 115)):=by
  obtain ⟨i0,hi,hz0,hz1,hz2⟩:=info_parts hinfo;refine wpList_append_own _ hgd s x st ho B 115 i0 _ 4 64 ht hi hz0 hz1 hz2 rfl (by decide) v ts.length (flat ts) hs (World.ownsRow.alloc hown _) ⟨w.heap.size,0,none⟩ 1 1 t.cells hx rfl
    (World.news_of_block (cs:=#[.int .u64 t.e,.bool t.c.s,.slice t.c.N t.c.ns.length t.c.nc,.slice t.c.D t.c.ds.length t.c.dc]) (heap_alloc_new _ _)) (by intro u hu;simp [TM.cells] at hu;rcases hu with rfl | rfl | rfl | rfl <;> rfl) (by unfold maxLen;omega) (by omega) (by simp;omega) ?_
  intro v' w' hown' hg _;have hlt:=World.ownsRow.lt hown;refine h v' w' ?_ ?_ ?_
  · show w'.ownsRow B _ 4 v' (ts ++ [t]).length (flat (ts ++ [t]));rw [flat_snoc,List.length_append];exact hown'
  · exact ((Below.refl _ _).alloc hB _).grown hg (by simp;omega) fun g hg=>(hlt g hg).1
  · exact ((Off.refl w).alloc _).grown hg (fun g hg=>⟨115,by decide,ownsRow_type (World.ownsRow.alloc hown _) g hg⟩)
theorem wpList_appTs {P : Program} {ops : Array Oper} {rest : List Oper} {o : Oper} {a : Act} {Q : Exit → Act → World → Prop} {w : World} (hgd : o.guard = none) (s x : Operand) (st : TypeId)
    (ho:o.op = .call { callee:=.builtin .append,args:=#[s,x],argTypes:=#[st,st] })
    (hinfo:(P.info? 115).map (fun i=>(i.zero,i.size,i.bytes))=some (some (.agg #[.int .u64 0,.bool false,.slice none 0 0,.slice none 0 0]),4,64)) (ht:P.underlying st=some (.slice 115))
    (B:Nat) (v:Value) (ts us:List TM) (n c:Nat) (A:Option Addr) (hn:us.length=n) (hA:A=none→c=0) (hs:a.eval s=v) (hown:OwnT B w v ts)
    (hx:a.eval x = .slice A n c) (hr:TRd w A us) (hB:B≤w.heap.size) (hlen:ts.length+n≤1000000)
    (h:∀ v' w',OwnT B w' v' (ts ++ us)→Below B w w'→Off w w'→wpList P ops Q rest (a.put o.dst v') w'):wpList P ops Q (o :: rest) a w:=by
  obtain ⟨i0,hi,hz0,hz1,hz2⟩:=info_parts hinfo;have hlt:=World.ownsRow.lt hown;subst hn;cases A with
  | none =>
    obtain rfl:c=0:=hA rfl;have hu:us=[]:=by
      rcases Nat.eq_zero_or_pos us.length with h0 | h0
      · exact List.eq_nil_of_length_eq_zero h0
      · obtain ⟨ad,e,_⟩:=hr h0;cases e
    subst hu;refine wpList_plain hgd fun _ hK=>?_
    have hr2:=run_append_owned_none (P:=P) w B st o.type 115 i0 4 ht hi v ts.length (flat ts) hown;unfold Oper.wp execOp;simp only [ho,resolve,invoke,builtin,Sem.run_bind,Sem.run_pure,Result.andThen_ok,List.map_toArray,List.map_cons,List.map_nil,hs,hx];simp only [List.length_nil];rw [hr2];exact hK _ _ (h v w (by simpa using hown) (Below.refl _ _) (Off.refl _))
  | some ad =>
    refine wpList_append_own _ hgd s x st ho B 115 i0 _ 4 64 ht hi hz0 hz1 hz2 rfl (by decide) v ts.length (flat ts) hs hown ad us.length c (flat us) hx (flat_len us)
      (fun j u hu=>?_) (fun u hu=>?_) (by unfold maxLen;omega) (by omega) hB ?_
    · have hj:j<us.length*4:=by
        rw [← flat_len];exact (List.getElem?_eq_some_iff.1 hu).1
      obtain ⟨ad',e,_,hc⟩:=hr (by omega);injection e with e;subst e;have hk:j / 4<us.length:=by omega
      have ht:=hc (j / 4) us[j / 4] (List.getElem?_eq_getElem hk);have hf:=flat_get us (j / 4) us[j / 4] (j % 4) (List.getElem?_eq_getElem hk) (by omega);have hj4:j / 4*4+j % 4=j:=by omega
      rw [hj4,hu] at hf;rw [← hj4];exact ht.at_ (by omega) hf.symm
    · obtain ⟨t,_,ht⟩:=List.mem_flatMap.1 hu;simp [TM.cells] at ht;rcases ht with rfl | rfl | rfl | rfl <;> rfl
    · intro v' w' hown' hg _;refine h v' w' ?_ ((Below.refl _ _).grown hg (by omega) fun g hg=>(hlt g hg).1) ((Off.refl w).grown hg (fun g hg=>⟨115,by decide,ownsRow_type hown g hg⟩));show w'.ownsRow B _ 4 v' (ts ++ us).length (flat (ts ++ us));rw [flat_append,List.length_append];exact hown'
theorem slice1 (ad:Addr) (n c:Nat) (hc:n+1≤c) (hb:c≤1000000):∃ A1,(0<n→A1=some (ad.add (1*4)))∧A1≠none ∧
    ∀ W,(Instr.slice 85 (.slice (some ad) (n+1) c) (some (.int .i64 1)) none none).run Tryz.prog W = .ok (.slice A1 n (c - 1)) W:=by
  by_cases h:c=1
  · subst h;refine ⟨some ad,fun h=>by omega,by simp,fun W=>?_⟩;obtain rfl:n=0:=by omega
    kernel_rfl
  · refine ⟨some (ad.add (1*4)),fun _=>rfl,by simp,fun W=>?_⟩;simp only [Nat.one_mul];simp [go_sem];rw [if_pos (by omega),if_neg h]
end Go.Proofs.YtgekmfcbbjeahaaGreatDoor
