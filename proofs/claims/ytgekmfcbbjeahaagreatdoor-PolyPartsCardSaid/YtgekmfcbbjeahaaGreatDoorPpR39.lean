/- poly.factors: the text of the powers in a term. -/
import Derived.Test.YtgekmfcbbjeahaaGreatDoorPpR38
import Derived.Shelf.Spec.BitsCarry
import Derived.Laws.Concat
import Derived.Deep.DrawnRows
import Derived.Maps.AppendAt
attribute [local go_sem ↓] Go.wp_at_zero Go.wp_at_succ
namespace Go.Proofs.YtgekmfcbbjeahaaGreatDoor
open Go.RowKit V
theorem dec2 {n:Nat} (h:n<100):(Lib.decDigits n).length≤2:=by
  rw [Lib.decDigits];split
  · simp
  · rw [List.length_append,Lib.decDigits,dif_pos (by omega)];simp
def facOne (i k:Nat):List UInt8:=if k=1 then [42,120] ++ Lib.decDigits i else if 1<k then [42,120] ++ Lib.decDigits i ++ [94] ++ Lib.decDigits k else []
def facTo (es:List Nat):Nat→List UInt8
  | 0=>[]
  | k+1=>facTo es k ++ facOne k (es.getD k 0)
theorem facOne_len {i k:Nat} (hi:i<100) (hk:k<100):(facOne i k).length≤7:=by
  have h1:=dec2 hi;have h2:=dec2 hk;unfold facOne;split
  · rw [List.length_append];simp;omega
  · split
    · simp only [List.length_append];simp;omega
    · simp
theorem facTo_len (es:List Nat) (h:∀ i,es.getD i 0<100):∀ k,k≤100→(facTo es k).length≤7*k
  | 0,_=>by simp [facTo]
  | k + 1, hk => by
    have:=facTo_len es h k (by omega);have:=facOne_len (i:=k) (by omega) (h k);simp only [facTo,List.length_append];omega
set_option maxRecDepth 100000 in
set_option maxHeartbeats 1600000 in
theorem pfactors (A : Option Addr) (c : Nat) (es : List Nat) (w : World) (hx : Rd .i64 w A es) (hl : es.length ≤ 8) (hs : ∀ x ∈ es, x ≤ 40) :
    Calls Tryz.prog 80 #[.slice A es.length c] w (Gives (.string ⟨(facTo es es.length).toArray⟩) w):=by
  have hg:∀ i,es.getD i 0<100:=fun i=>by
    rw [List.getD_eq_getElem?_getD];cases h:es[i]? with
    | none=>simp
    | some x=>have:=hs x (List.mem_of_getElem? h);simp;omega
  have HG:=Lib.hid hg;have HX:=Lib.hid hx;clear hg hs hx;go_enter Tryz.func80,Tryz.ntmps80;go_wp2;go_loopw [3,4,5,8,13,21] (fun st _ _ si _ _ wr=>∃ (k:Nat) (t:List UInt8),k≤es.length∧si = .int .i64 k∧st = .string ⟨t.toArray⟩∧Hid (t=facTo es k)∧Below w.heap.size w wr) (fun _ _ _ si _ _ _=>es.length - (intOf si).toNat)
  case atStart=>exact ⟨0,[],by omega,rfl,rfl,rfl,Below.refl _ _⟩
  case round=>
    obtain ⟨k,t,hk,rfl,rfl,ht,hbw⟩:=hrel
    by_cases hlt:k<es.length
    · obtain ⟨ad,x,rfl,hb,he,hc⟩:=(HX.out.below hbw).ask hlt;have hxd:es.getD k 0=x:=he.out;have hx100:=HG.out k;rw [hxd] at hx100;have htl:t.length≤7*k:=by rw [ht.out];exact facTo_len es HG.out k (by omega)
      have HI:=Lib.hid (fun W=>Tryz.strconv_Itoa_small k (by omega) W);have HK:=Lib.hid (fun W=>Tryz.strconv_Itoa_small x (by omega) W);have hd1:=dec2 (n:=k) (by omega);have hd2:=dec2 (n:=x) (by omega);have HXD:=Lib.hid hxd;obtain ⟨X,hX⟩:∃ X,Hid (Lib.decDigits k=X):=⟨_,rfl⟩;obtain ⟨Y,hY⟩:∃ Y,Hid (Lib.decDigits x=Y):=⟨_,rfl⟩;rw [hX.out] at HI hd1;rw [hY.out] at HK hd2;clear hxd
      by_cases h1:x=1
      · subst h1;have f1:=fun W=>run_string_add_lists (P:=Tryz.prog) W [42,120] X (by simp) (by omega)
        have f2:=fun W=>run_string_add_lists (P:=Tryz.prog) W t ([42,120] ++ X) (by omega) (by simp;omega)
        simp only [List.cons_append,List.nil_append] at f1 f2;go_wp2_with fail;refine (HI.out _).mono ?_;rintro e w2 ⟨rfl,rfl⟩;go_wp2_with fail;go_roundw
        case rel=>exact ⟨k+1,_,by omega,by go_num,rfl,by show _=_ ++ _;rw [HXD.out,← ht.out,facOne,if_pos rfl,hX.out];rfl,hbw⟩
        case measure=>simp [intOf];omega
      · by_cases h2:1<x
        · have H2:=Lib.hid h2;have f1:=fun W=>run_string_add_lists (P:=Tryz.prog) W [42,120] X (by simp) (by omega)
          have f2:=fun W=>run_string_add_lists (P:=Tryz.prog) W ([42,120] ++ X) [94] (by simp;omega) (by simp)
          have f3:=fun W=>run_string_add_lists (P:=Tryz.prog) W ([42,120] ++ X ++ [94]) Y (by simp;omega) (by omega)
          have f4:=fun W=>run_string_add_lists (P:=Tryz.prog) W t ([42,120] ++ X ++ [94] ++ Y) (by omega) (by simp;omega)
          simp only [List.cons_append,List.nil_append] at f1 f2 f3 f4;go_wp2_with fail;refine (HI.out _).mono ?_;rintro e w2 ⟨rfl,rfl⟩;go_wp2_with fail;refine (HK.out _).mono ?_;rintro e w2 ⟨rfl,rfl⟩;go_wp2_with fail;go_roundw
          case rel=>exact ⟨k+1,_,by omega,by go_num,rfl,by show _=_ ++ _;rw [HXD.out,← ht.out,facOne,if_neg h1,if_pos H2.out,hX.out,hY.out];simp,hbw⟩
          case measure=>simp [intOf];omega
        · have h3:x=0:=by omega
          subst h3;go_wp2_with fail;go_roundw
          case rel=>exact ⟨k+1,t,by omega,by go_num,rfl,by show _=_ ++ _;rw [HXD.out,← ht.out,facOne,if_neg (by omega),if_neg (by omega),List.append_nil],hbw⟩
          case measure=>simp [intOf];omega
    · obtain rfl:k=es.length:=by omega
      go_wp2;go_ret;exact ⟨by rw [ht.out];rfl,hbw⟩
end Go.Proofs.YtgekmfcbbjeahaaGreatDoor
/- What isochroneref03.To does in one round: the row of flags, the exponents cut out of a term, one term more. -/
namespace Go.Proofs.YtgekmfcbbjeahaaGreatDoor
open Go.RowKit V
def BRow (w:World) (g:Nat) (ds:List Bool):Prop:=w.heap[g]?=some (.cells (ds.map Value.bool).toArray 4 (0,0))
section
variable {w w':World} {g:Nat} {ds:List Bool}
theorem BRow.lt (h:BRow w g ds):g<w.heap.size:=by
  rcases Nat.lt_or_ge g w.heap.size with hlt | hge
  · exact hlt
  · unfold BRow at h;rw [Array.getElem?_eq_none hge] at h;cases h
theorem BRow.below (h:BRow w g ds) (hb:Below w.heap.size w w'):BRow w' g ds:=(hb.block g h.lt).trans h
theorem BRow.alloc (h:BRow w g ds) (o:Obj):BRow (w.alloc o) g ds:=(Below.heap_alloc w o g h.lt).trans h
theorem BRow.cell (h:BRow w g ds) {k:Nat} {x:Bool} (hk:ds[k]?=some x):w.cell? ⟨g,k,none⟩=some (.bool x):=by
  rw [cell_of_row w g _ _ _ (0,0) h,List.getElem?_toArray,List.getElem?_map,hk];rfl
theorem BRow.frozen (h:BRow w g ds) (k:Nat):w.frozen? ⟨g,k,none⟩=false:=by
  unfold BRow at h;simp [World.frozen?,h]
theorem BRow.set_ (h:BRow w g ds) (k:Nat) (x:Bool):BRow (w.setCell ⟨g,k,none⟩ (.bool x)) g (ds.set k x):=by
  unfold BRow at h ⊢;simp [World.setCell,Array.getElem?_modify,h,List.map_set]
theorem BRow.far (h:BRow w g ds) {p:Addr} (hp:g≠p.block) (u:Value):BRow (w.setCell p u) g ds:=(Below.heap_setCell w p u g hp).trans h
theorem BRow.grown {row:Option Nat} (h:BRow w g ds) (hg:w.grownBy w' row) (hne:row≠some g):BRow w' g ds:=(hg.block g h.lt (fun e=>hne e.symm)).trans h
theorem BRow.ty (h:BRow w g ds):HasT w g 4:=⟨_,_,h⟩
end
theorem info_bool:(Tryz.prog.info? 4).map (fun i=>(i.zero,i.size,i.bytes))=some (some (.bool false),1,1):=by kernel_rfl
theorem make_bools (n:Nat) (N:Int) (hN:N=n) (hn:n≤1000000) (w:World) :
    (Instr.makeSlice 158 (.int .i64 N) (.int .i64 N)).run Tryz.prog w = .ok (.slice (some ⟨w.heap.size,0,none⟩) n n) (w.alloc (.cells ((List.replicate n false).map Value.bool).toArray 4)):=by
  subst hN;obtain ⟨i0,hi,hz0,hz1,hz2⟩:=info_parts info_bool;have hr:=run_make (P:=Tryz.prog) w 158 4 i0 _ Tryz.underlying158 hi hz0 .i64 .i64 n n (by omega) (by omega) (by rw [hz2];omega) (by omega);have e:madeCells (Value.cells (.bool false)) (n*1)=((List.replicate n false).map Value.bool).toArray:=by
    apply Array.toList_inj.1;rw [show Value.cells (.bool false) = #[.bool false] from rfl,Nat.mul_one,toList_madeCells_one];simp
  rw [hr,Int.toNat_natCast,hz1,e]
theorem step_app_run {P:Program} {ops:Array Oper} {o:Oper} {a:Act} {K:Act→World→Prop} {Q:Exit→Act→World→Prop} {E:Prop} {w w':World} (hgd:o.guard=none) (s x:Operand) (t:TypeId)
    (ho:o.op = .call { callee:=.builtin .append,args:=#[s,x],argTypes:=#[t,t] }) (vs vx v':Value) (hs:a.eval s=vs) (hx:a.eval x=vx) (hr:(Builtin.append_ #[t,t] o.type #[vs,vx]).run P w = .ok v' w') (h:K (a.put o.dst v') w') :
    if Region.wanted o (yielded ops a.tmps)=true then Oper.wp P o a w K Q else E:=by
  have hw:Region.wanted o (yielded ops a.tmps)=true:=by simp [Region.wanted,hgd]
  rw [if_pos hw];unfold Oper.wp execOp;simp only [ho,resolve,invoke,builtin,Sem.run_bind,Sem.run_pure,Result.andThen_ok,List.map_toArray,List.map_cons,List.map_nil,hs,hx,hr];exact h
theorem app_exps {W:World} {g M n:Nat} {X:Addr} (hown:Own .i64 3 g W (.slice (some ⟨g,0,none⟩) 0 0) []) (hX:∀ i,i<8→W.cell? (X.add i)=some (.int .i64 ((ex M i:Nat):Int))) (hn:n≤8) :
    ∃ A xc W',((Builtin.append_ #[43,43] 43 #[.slice (some ⟨g,0,none⟩) 0 0,.slice (some X) n 8]).run Tryz.prog W = .ok (.slice A n xc) W')∧n≤xc∧RT .i64 3 W' A (exL M n)∧W.grownBy W' (some g):=by
  obtain ⟨i0,hi,hz0,hz1,hz2⟩:=info_parts info_i64;have hlt:=World.ownsRow.lt hown g rfl;have hl:(nums .i64 (exL M n)).length=n*1:=by simp [nums,exL_len]
  have hnews:∀ j u,(nums .i64 (exL M n))[j]?=some u→W.cell? (X.add j)=some u:=fun j u hj=>by
    have hj':j<n:=by
      have:=(List.getElem?_eq_some_iff.1 hj).1;omega
    have hg:=nums_get (k:=.i64) (xs:=exL M n) (j:=j) (by rw [exL_len];exact hj');rw [hj,exL_get M n j hj'] at hg;rw [hg];exact hX j (by omega)
  have h1:∀ u ∈ nums .i64 (exL M n),u.oneCell'=true:=fun u hu=>by
    simp only [nums,List.mem_map] at hu;obtain ⟨x,_,rfl⟩:=hu;rfl
  obtain ⟨v',W',hr,h2,h3,_,_⟩:=run_append_own_at (P:=Tryz.prog) W g 43 43 3 i0 _ 1 8 Tryz.underlying43 hi hz0 hz1 hz2 rfl (by omega) (.slice (some ⟨g,0,none⟩) 0 0) 0 [] hown X n 8 (nums .i64 (exL M n)) hl hnews h1 (by unfold maxLen;omega) (by omega) (by omega);have ho:Own .i64 3 g W' v' (exL M n):=by
    unfold Own;rw [exL_len];rw [Nat.zero_add,List.nil_append] at h2;exact h2
  obtain ⟨A,xc,rfl,hc,hrt⟩:=ho.formT;rw [exL_len] at hr hc;exact ⟨A,xc,W',hr,hc,hrt,h3⟩
theorem to_step (w w8 w10:World) (v:Value) (ms:List MM) (n gg cap:Nat) (X:Option Addr) (xc:Nat) (r:RL) (q:Rat) (m:Nat) (out:PL) (ds:List Bool)
    (hd:BRow w8 (w.heap.size+1+1) ds) (hr:Blk2c 24 w8 w.heap.size (.int .i64 0) (.slice none 0 0)) (hp:Blk2c 24 w8 (w.heap.size+1) (.int .i64 n) v)
    (hown:OwnM (w.heap.size+3) w8 v ms) (hmh:MHT w8 ms (up n out)) (hb:Below w.heap.size w w8) (hx:RT .i64 3 w8 X (exL m n)) (hxc:n≤xc) (hi:r.Is w8 q) (ht:r.Ty w8) (l1:r.ns.length≤200) (l2:r.ds.length≤200) (ho:Obj)
    (hown4:w10.ownsRow (w.heap.size+3) 79 4 (.slice (some ⟨gg,0,none⟩) (ms.length+1) cap) (ms.length+1) (flatM ms ++ [.slice X n xc,.bool r.s,.slice r.N r.ns.length r.nc,.slice r.D r.ds.length r.dc]))
    (hgrow:(w8.alloc ho).grownBy w10 v.ownBlock) :
    BRow (w10.setCell ⟨w.heap.size+1,1,none⟩ (.slice (some ⟨gg,0,none⟩) (ms.length+1) cap)) (w.heap.size+1+1) ds ∧
    Blk2c 24 (w10.setCell ⟨w.heap.size+1,1,none⟩ (.slice (some ⟨gg,0,none⟩) (ms.length+1) cap)) w.heap.size (.int .i64 0) (.slice none 0 0) ∧
    Blk2c 24 (w10.setCell ⟨w.heap.size+1,1,none⟩ (.slice (some ⟨gg,0,none⟩) (ms.length+1) cap)) (w.heap.size+1) (.int .i64 n) (.slice (some ⟨gg,0,none⟩) (ms.length+1) cap) ∧
    OwnM (w.heap.size+3) (w10.setCell ⟨w.heap.size+1,1,none⟩ (.slice (some ⟨gg,0,none⟩) (ms.length+1) cap)) (.slice (some ⟨gg,0,none⟩) (ms.length+1) cap) (ms ++ [⟨X,n,xc,r⟩]) ∧
    MHT (w10.setCell ⟨w.heap.size+1,1,none⟩ (.slice (some ⟨gg,0,none⟩) (ms.length+1) cap)) (ms ++ [⟨X,n,xc,r⟩]) (up n (out ++ [(m,q)])) ∧
    Below w.heap.size w (w10.setCell ⟨w.heap.size+1,1,none⟩ (.slice (some ⟨gg,0,none⟩) (ms.length+1) cap)):=by
  have hvl:=World.ownsRow.lt hown;have hgl:=World.ownsRow.lt hown4;have hv0:v.ownBlock≠some w.heap.size:=fun e=>by have:=(hvl _ e).1;omega
  have hv1:v.ownBlock≠some (w.heap.size+1):=fun e=>by have:=(hvl _ e).1;omega
  have hv2:v.ownBlock≠some (w.heap.size+1+1):=fun e=>by have:=(hvl _ e).1;omega
  have hg1:w.heap.size+3≤gg:=(hgl gg rfl).1;have hr1:=(hr.alloc ho).grown hgrow hv0;have hp1:=(hp.alloc ho).grown hgrow hv1;have hd1:=(hd.alloc ho).grown hgrow hv2;have ho1:Off w8 w10:=((Off.refl w8).alloc ho).grown hgrow (fun x hx=>⟨79,by decide,ownsRow_type (World.ownsRow.alloc hown ho) x hx⟩);have ho2:Off w8 (w10.setCell ⟨w.heap.size+1,1,none⟩ (.slice (some ⟨gg,0,none⟩) (ms.length+1) cap)):=ho1.setT hp1.ty (by decide) _ _;refine ⟨hd1.far (by simp) _,hr1.far (by omega) _,hp1.set1 _,?_,?_,?_⟩
  · have h:=ownsRow_set hown4 (b:=w.heap.size+1) (fun x hx=>by simp [Value.ownBlock] at hx;omega) 1 (.slice (some ⟨gg,0,none⟩) (ms.length+1) cap);show World.ownsRow _ _ _ _ _ (ms ++ [_]).length (flatM (ms ++ [_]));rw [flatM_snoc,List.length_append];exact h
  · have e:up n (out ++ [(m,q)])=up n out ++ [(exL m n,q)]:=by simp [up]
    rw [e];exact (hmh.off ho2).snoc (hx.off_ (by decide) ho2) (exL_len m n).symm hxc (hi.off ht ho2) (ht.off ho2) l1 l2
  · exact ((hb.alloc hb.size ho).grown hgrow (by have:=hb.size;simp;omega) (fun x hx=>by have:=(hvl x hx).1;omega)).setCell (by simp) _
theorem to_end (w wr:World) (VA:Option Addr) (vc:Nat) (ms:List MM) (n:Nat) (P:AL) (hr:Blk2c 24 wr w.heap.size (.int .i64 0) (.slice none 0 0)) (hown:OwnM (w.heap.size+3) wr (.slice VA ms.length vc) ms) (hmh:MHT wr ms P)
    (hb:Below w.heap.size w wr) (hvc:ms.length≤vc) (hvr:MRd wr VA ms) (a b:Value) :
    ∃ B d us, Ending.returned (.agg #[.int .i64 n, .slice VA ms.length vc]) = .returned (.agg #[.int .i64 n, .slice B (us : List MM).length d]) ∧ us.length ≤ d ∧
      ARd ((wr.setCell ⟨w.heap.size,0,none⟩ a).setCell ⟨w.heap.size,1,none⟩ b) B us P∧Below w.heap.size w ((wr.setCell ⟨w.heap.size,0,none⟩ a).setCell ⟨w.heap.size,1,none⟩ b):=by
  have hvl:=World.ownsRow.lt hown;have hne:∀ ad,VA=some ad→ad.block≠w.heap.size:=fun ad e=>by
    subst e;have h:=hown.2;rcases h with ⟨h,_⟩ | ⟨g,cap,cur,h,_⟩
    · cases h
    · injection h with h1;injection h1 with h1;subst h1;have:=(hvl g rfl).1;show g≠_;omega
  have ho2:Off wr ((wr.setCell ⟨w.heap.size,0,none⟩ a).setCell ⟨w.heap.size,1,none⟩ b):=((Off.refl wr).setT hr.ty (by decide) _ _).setT (hr.set0 _).ty (by decide) _ _;exact ⟨VA,vc,ms,rfl,hvc,⟨(hvr.far hne 0 _).far hne 1 _,(hmh.off ho2).holds⟩,(hb.setCell (Nat.le_refl _) _).setCell (Nat.le_refl _) _⟩
end Go.Proofs.YtgekmfcbbjeahaaGreatDoor
