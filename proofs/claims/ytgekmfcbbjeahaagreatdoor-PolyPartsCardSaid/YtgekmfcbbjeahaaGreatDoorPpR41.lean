/- isochroneref03.Shift: a polynomial times a term. -/
import Derived.Test.YtgekmfcbbjeahaaGreatDoorPpR40
attribute [local go_sem ↓] Go.wp_at_zero Go.wp_at_succ
namespace Go.Proofs.YtgekmfcbbjeahaaGreatDoor
open Go.RowKit V
theorem RBlk.alloc {w:World} {g:Nat} {t:TR} (h:RBlk w g t) (o:Obj):RBlk (w.alloc o) g t:=(Below.heap_alloc w o g h.lt).trans h
theorem RBlk.grown {w w':World} {g:Nat} {t:TR} {row:Option Nat} (h:RBlk w g t) (hg:w.grownBy w' row) (hne:row≠some g):RBlk w' g t:=(hg.block g h.lt (fun e=>hne e.symm)).trans h
theorem RBlk.cellE {w:World} {g:Nat} {t:TR} (h:RBlk w g t) {i:Nat} (hi:i<8):w.cell? ⟨g,i,none⟩=some (.int .i64 ((ex t.m i:Nat):Int)):=by
  unfold RBlk at h;rw [cell_of_row w g i _ _ (0,0) h]
  match i,hi with
  | 0,_=>rfl
  | 1,_=>rfl
  | 2,_=>rfl
  | 3,_=>rfl
  | 4,_=>rfl
  | 5,_=>rfl
  | 6,_=>rfl
  | 7,_=>rfl
end Go.Proofs.YtgekmfcbbjeahaaGreatDoor
/- isochroneref03.put onto nothing. -/
attribute [local go_sem ↓] Go.wp_at_zero Go.wp_at_succ
namespace Go.Proofs.YtgekmfcbbjeahaaGreatDoor
open Go.RowKit V
theorem RL.Ref.npos {w:World} {a:RL} {q:Rat} (h:a.Ref w q) (hq:q≠0):0<a.ns.length:=by
  rcases Nat.eq_zero_or_pos a.ns.length with h0 | h0
  · exfalso;have hz:=h.q.2.1;rw [List.eq_nil_of_length_eq_zero h0] at hz;have hz2:q.num.natAbs=0:=by rw [← hz];rfl
    exact hq (Rat.num_eq_zero.1 (Int.natAbs_eq_zero.1 hz2))
  · exact h0
set_option maxRecDepth 100000 in
set_option maxHeartbeats 3200000 in
theorem pput_nil (m L:Nat) (a:RL) (q:Rat) (w:World) (ha:a.Ref w q) (hty:a.TyI w) (hq:q≠0) (l1:a.ns.length≤L) (l2:a.ds.length≤L) :
    Calls Tryz.prog 63 #[.slice none 0 0,.agg #[.int .i64 (ex m 0:Nat),.int .i64 (ex m 1:Nat),.int .i64 (ex m 2:Nat),.int .i64 (ex m 3:Nat),.int .i64 (ex m 4:Nat),.int .i64 (ex m 5:Nat),.int .i64 (ex m 6:Nat),.int .i64 (ex m 7:Nat)],.agg #[.bool a.s,.slice a.N a.ns.length a.nc,.slice a.D a.ds.length a.dc]] w (QP L [(m,q)] w):=by
  have hnp:=ha.npos hq;have HA:=Lib.hid ha;have HT:=Lib.hid hty;have hsg:¬ sgnI a.s a.ns.length=0:=by unfold sgnI;rw [if_neg (by omega)];cases a.s <;> simp
  have HS:=Lib.hid (fun W=>rsign a.s a.N a.D a.ns.length a.nc a.ds.length a.dc W);obtain ⟨S,hS⟩:∃ S,sgnI a.s a.ns.length=S:=⟨_,rfl⟩;rw [hS] at HS hsg;clear ha hty hq hS;go_enter Tryz.func63,Tryz.ntmps63;go_upto_region 1 with fail;obtain ⟨w1,hw1⟩:∃ x,w.alloc (.cells #[.int .i64 (ex m 0:Nat),.int .i64 (ex m 1:Nat),.int .i64 (ex m 2:Nat),.int .i64 (ex m 3:Nat),.int .i64 (ex m 4:Nat),.int .i64 (ex m 5:Nat),.int .i64 (ex m 6:Nat),.int .i64 (ex m 7:Nat)] 80)=x:=⟨_,rfl⟩;obtain ⟨w2,hw2⟩:∃ x,w1.alloc (.cells #[.bool a.s,.slice a.N a.ns.length a.nc,.slice a.D a.ds.length a.dc] 46)=x:=⟨_,rfl⟩;have hs1:w1.heap.size=w.heap.size+1:=by rw [← hw1];simp
  have hI:IRow w2 w.heap.size (exI m 8):=by rw [← hw2,← hw1];exact (IRow.new w (exI m 8)).alloc _
  have kc:BlkT 46 w2 (w.heap.size+1) (.bool a.s) (.slice a.N a.ns.length a.nc) (.slice a.D a.ds.length a.dc):=by rw [← hw2,← hs1];exact BlkT.new _ _ _ _ _
  have hb2:Below w.heap.size w w2:=by rw [← hw2,← hw1];exact ((Below.refl _ _).alloc (Nat.le_refl _) _).alloc (by simp) _
  try rw [hw1]
  rw [hw2];clear hw1 hw2 hs1;obtain ⟨c0,c1,c2,c3,c4,c5,c6⟩:=kc.facts;go_wp2_with fail;refine (HS.out _).mono ?_;rintro e w3 ⟨rfl,hb3⟩;have hw3:=hb2.trans (hb3.mono hb2.size);have hI3:=hI.below hb3;have kc3:=kc.below hb3;clear c0 c1 c2 c3 c4 c5 c6 hI kc hb2 hb3 HS;have e0:=hI3.ex8 0 (by omega);have e1:=hI3.ex8 1 (by omega);have e2:=hI3.ex8 2 (by omega);have e3:=hI3.ex8 3 (by omega);have e4:=hI3.ex8 4 (by omega);have e5:=hI3.ex8 5 (by omega);have e6:=hI3.ex8 6 (by omega);have e7:=hI3.ex8 7 (by omega);obtain ⟨c0,c1,c2,c3,c4,c5,c6⟩:=kc3.facts;have hws:=hw3.size;go_wp2_with fail;go_loopw [7,15] (fun _ si wr=>si = .int .i64 0∧w3=wr) (fun _ _ _=>0)
  case atStart=>exact ⟨rfl,rfl⟩
  case round=>
    obtain ⟨rfl,rfl⟩:=hrel;go_wp2_with (at_builtin;(refine wpList_appR rfl (.tmp 56) (.tmp 60) 32 rfl Tryz.underlying32 w3.heap.size _ [] ⟨m,a⟩ rfl (OwnR.nil_ _ _) rfl (Nat.le_refl _) (by simp) ?_);intro v' w4 hown4 hb4 hof4);obtain ⟨X,xc,hv,hxc,hxr,_,_⟩:=hown4.form;go_ret;refine ⟨X,xc,[⟨m,a⟩],by rw [hv];rfl,hxc,⟨hxr,?_⟩,hw3.trans (hb4.mono hw3.size)⟩;exact (QHolds.nil_ L w4).snoc (((HA.out.below hw3).off (HT.out.below hw3) hof4)) ((HT.out.below hw3).off hof4) l1 l2
end Go.Proofs.YtgekmfcbbjeahaaGreatDoor
/- isochroneref03.DegreeIn, Const, Var. -/
attribute [local go_sem ↓] Go.wp_at_zero Go.wp_at_succ
namespace Go.Proofs.YtgekmfcbbjeahaaGreatDoor
open Go.RowKit V
def xTo (i:Nat) (l:List Nat):Nat→Int
  | 0=>-1
  | k+1=>max (xTo i l k) (ex (l[k]?.getD 0) i)
theorem xTo_le (i:Nat) (l:List Nat):∀ k,-1≤xTo i l k∧xTo i l k≤255
  | 0=>by simp [xTo]
  | k + 1 => by
    have:=xTo_le i l k;have:=ex_lt (l[k]?.getD 0) i;simp only [xTo];omega
set_option maxRecDepth 100000 in
set_option maxHeartbeats 3200000 in
theorem pdeginR (A : Option Addr) (c i : Nat) (ts : List TR) (w : World) (h : QRd w A ts) (hi : i < 8) (hl : ts.length ≤ 100000) :
    Calls Tryz.prog 33 #[.slice A ts.length c,.int .i64 i] w (Gives (.int .i64 (xTo i (ts.map TR.m) ts.length)) w):=by
  go_enter Tryz.func33,Tryz.ntmps33;go_wp2;go_loopw [5,10] (fun sv si wr=>∃ (k:Nat),k≤ts.length∧si = .int .i64 k∧sv = .int .i64 (xTo i (ts.map TR.m) k)∧Below w.heap.size w wr) (fun _ si _=>ts.length - (intOf si).toNat)
  case atStart=>exact ⟨0,by omega,rfl,rfl,Below.refl _ _⟩
  case round=>
    obtain ⟨k,hk,rfl,rfl,hbw⟩:=hrel
    by_cases hlt:k<ts.length
    · obtain ⟨ad,t,rfl,hb,ht,hc⟩:=(h.below hbw).ask hlt;have HS:Hid (xTo i (ts.map TR.m) (k+1)=max (xTo i (ts.map TR.m) k) (ex t.m i:Nat)):=by
        show _=_;rw [xTo,List.getElem?_map,ht.out];rfl
      have hdl:=xTo_le i (ts.map TR.m) k;have hel:=ex_lt t.m i;obtain ⟨S,hS⟩:∃ S,xTo i (ts.map TR.m) k=S:=⟨_,rfl⟩;rw [hS] at hdl HS ⊢;have HSS:=Lib.hid hS;clear hS;have kt:=RBlk.new wr t;have hbt:Below wr.heap.size wr (wr.alloc (.cells #[.int .i64 (ex t.m 0:Nat),.int .i64 (ex t.m 1:Nat),.int .i64 (ex t.m 2:Nat),.int .i64 (ex t.m 3:Nat),.int .i64 (ex t.m 4:Nat),.int .i64 (ex t.m 5:Nat),.int .i64 (ex t.m 6:Nat),.int .i64 (ex t.m 7:Nat),.bool t.c.s,.slice t.c.N t.c.ns.length t.c.nc,.slice t.c.D t.c.ds.length t.c.dc] 82)):=(Below.refl _ _).alloc (Nat.le_refl _) _;obtain ⟨c0,c1,c2,c3,c4,c5,c6,c7,c8,c9,c10⟩:=hc;go_upto_region 5 with fail;clear c0 c1 c2 c3 c4 c5 c6 c7 c8 c9 c10;obtain ⟨w1,hw1⟩:∃ x,wr.alloc (.cells #[.int .i64 (ex t.m 0:Nat),.int .i64 (ex t.m 1:Nat),.int .i64 (ex t.m 2:Nat),.int .i64 (ex t.m 3:Nat),.int .i64 (ex t.m 4:Nat),.int .i64 (ex t.m 5:Nat),.int .i64 (ex t.m 6:Nat),.int .i64 (ex t.m 7:Nat),.bool t.c.s,.slice t.c.N t.c.ns.length t.c.nc,.slice t.c.D t.c.ds.length t.c.dc] 82)=x:=⟨_,rfl⟩;rw [hw1] at kt hbt
      try rw [hw1]
      clear hw1;have hce:=kt.cellE hi;have hi8:(i:Int)<8:=by omega
      go_wp2_with fail;go_roundw
      case rel=>exact ⟨k+1,by omega,by go_num,by rw [HS.out];try go_num,hbw.trans (hbt.mono hbw.size)⟩
      case measure=>simp [intOf];omega
    · obtain rfl:k=ts.length:=by omega
      go_wp2;go_ret;exact ⟨rfl,hbw⟩
theorem ex_zero (i:Nat):ex 0 i=0:=by unfold ex;rw [Nat.zero_div,Nat.zero_mod]
set_option maxRecDepth 100000 in
set_option maxHeartbeats 3200000 in
theorem pconstR (L:Nat) (a:RL) (q:Rat) (w:World) (ha:a.Ref w q) (hty:a.TyI w) (hq:q≠0) (l1:a.ns.length≤L) (l2:a.ds.length≤L) :
    Calls Tryz.prog 27 #[.agg #[.bool a.s,.slice a.N a.ns.length a.nc,.slice a.D a.ds.length a.dc]] w (QP L [(0,q)] w):=by
  have hb1:Below w.heap.size w (w.alloc (.cells #[.bool a.s,.slice a.N a.ns.length a.nc,.slice a.D a.ds.length a.dc] 46)):=(Below.refl _ _).alloc (Nat.le_refl _) _;have HP:=Lib.hid (pput_nil 0 L a q _ (ha.below hb1) (hty.below hb1) hq l1 l2);simp only [ex_zero] at HP;clear ha hty;go_enter Tryz.func27,Tryz.ntmps27;go_wp2_with fail;refine HP.out.mono ?_;rintro e w2 ⟨X,xc,ts,rfl,hxc,hx,hb2⟩;go_wp2_with fail;go_ret;exact ⟨X,xc,ts,rfl,hxc,hx,hb1.trans (hb2.mono hb1.size)⟩
end Go.Proofs.YtgekmfcbbjeahaaGreatDoor
/- isochroneref03.Var. -/
attribute [local go_sem ↓] Go.wp_at_zero Go.wp_at_succ
namespace Go.Proofs.YtgekmfcbbjeahaaGreatDoor
open Go.RowKit V
theorem var_exI:∀ i:Nat,i<8→([0,0,0,0,0,0,0,0]:List Int).set i 1=exI (256 ^ (7 - i)) 8:=by
  intro i hi
  match i,hi with
  | 0,_=>rfl
  | 1,_=>rfl
  | 2,_=>rfl
  | 3,_=>rfl
  | 4,_=>rfl
  | 5,_=>rfl
  | 6,_=>rfl
  | 7,_=>rfl
set_option maxRecDepth 100000 in
set_option maxHeartbeats 3200000 in
theorem pvarR (i:Nat) (w:World) (hi:i<8):Calls Tryz.prog 35 #[.int .i64 i] w (QP 1 [(256 ^ (7 - i),1)] w):=by
  have hi8:(i:Int)<8:=by omega
  have hI:=IRow.new w [0,0,0,0,0,0,0,0];have hz:∀ j:Nat,j<8→([0,0,0,0,0,0,0,0]:List Int)[j]?=some 0:=by decide
  have hc:=hI.cell (hz i hi);have hfr:=hI.frozen i;have hI1:=IRow.new w (([0,0,0,0,0,0,0,0]:List Int).set i 1);have hev2:arrV (([0,0,0,0,0,0,0,0]:List Int).set i 1)=(([.int .i64 0,.int .i64 0,.int .i64 0,.int .i64 0,.int .i64 0,.int .i64 0,.int .i64 0,.int .i64 0]:List Value).set i (.int .i64 1)).toArray:=by unfold arrV;rw [List.map_set];rfl
  rw [hev2,var_exI i hi] at hI1;have hb1:Below w.heap.size w (w.alloc (.cells (([.int .i64 0,.int .i64 0,.int .i64 0,.int .i64 0,.int .i64 0,.int .i64 0,.int .i64 0,.int .i64 0]:List Value).set i (.int .i64 1)).toArray 80)):=(Below.refl _ _).alloc (Nat.le_refl _) _;have hev:arrV [0,0,0,0,0,0,0,0] = #[.int .i64 0,.int .i64 0,.int .i64 0,.int .i64 0,.int .i64 0,.int .i64 0,.int .i64 0,.int .i64 0]:=rfl;rw [hev] at hc hfr;clear hev hev2 hI hz;go_enter Tryz.func35,Tryz.ntmps35;go_upto_region 3 with fail;obtain ⟨w2,hw2⟩:∃ x,w.alloc (.cells (([.int .i64 0,.int .i64 0,.int .i64 0,.int .i64 0,.int .i64 0,.int .i64 0,.int .i64 0,.int .i64 0]:List Value).set i (.int .i64 1)).toArray 80)=x:=⟨_,rfl⟩;rw [hw2] at hI1 hb1
  try rw [hw2]
  have hI2:=hI1;clear hw2 hc hfr hI1;refine wp_region_last 4 (S:=fun w'=>w'.cell? ⟨w.heap.size,0,none⟩=some (.int .i64 (ex (256 ^ (7 - i)) 0:Nat))∧w'.cell? ⟨w.heap.size,1,none⟩=some (.int .i64 (ex (256 ^ (7 - i)) 1:Nat))∧w'.cell? ⟨w.heap.size,2,none⟩=some (.int .i64 (ex (256 ^ (7 - i)) 2:Nat))∧w'.cell? ⟨w.heap.size,3,none⟩=some (.int .i64 (ex (256 ^ (7 - i)) 3:Nat))∧w'.cell? ⟨w.heap.size,4,none⟩=some (.int .i64 (ex (256 ^ (7 - i)) 4:Nat))∧w'.cell? ⟨w.heap.size,5,none⟩=some (.int .i64 (ex (256 ^ (7 - i)) 5:Nat))∧w'.cell? ⟨w.heap.size,6,none⟩=some (.int .i64 (ex (256 ^ (7 - i)) 6:Nat))∧w'.cell? ⟨w.heap.size,7,none⟩=some (.int .i64 (ex (256 ^ (7 - i)) 7:Nat))) (by kernel_rfl) ?_ (fun hHeld=>?_)
  · exact ⟨hI2.ex8 0 (by omega),hI2.ex8 1 (by omega),hI2.ex8 2 (by omega),hI2.ex8 3 (by omega),hI2.ex8 4 (by omega),hI2.ex8 5 (by omega),hI2.ex8 6 (by omega),hI2.ex8 7 (by omega)⟩
  refine wpAnyL_take (i:=0) (v:=?v0L1) rfl (by kernel_rfl) (by kernel_rfl) (by kernel_rfl) (fun _ _ _ h=>h) (by kernel_rfl) (by kernel_rfl) (Or.inl ⟨by rfl,?hy0L1⟩) (by assumption) ?rest0L1
  case hy0L1=>
    intro w hSw
    (try dsimp only at hSw)
    go_simp
    all_goals with_reducible rfl
  simp only [Act.put,List.getElem_toArray,List.getElem_cons_zero,List.setIfInBounds_toArray,List.set_cons_zero,List.set_cons_succ];refine wpAnyL_next 1 (by kernel_rfl) rfl (fun K hK=>?_);clear hHeld;go_simp;refine (roneT _).mono ?_;rintro e' wx ⟨r,rfl,hr,hrt,hrl1,hrl2,hbx⟩;have hbx3:Below w2.heap.size w2 wx:=by first | exact below_of_drew hbx (Nat.le_refl _) | exact hbx
  have hIx:=hI2.below hbx3;go_wp2_with fail;refine hK.out _ _ ?_ (fun hHeld=>?_)
  · exact ⟨hIx.ex8 0 (by omega),hIx.ex8 1 (by omega),hIx.ex8 2 (by omega),hIx.ex8 3 (by omega),hIx.ex8 4 (by omega),hIx.ex8 5 (by omega),hIx.ex8 6 (by omega),hIx.ex8 7 (by omega)⟩
  clear hK K
  try simp only [Act.put,List.getElem_toArray,List.getElem_cons_zero,List.getElem_cons_succ,List.setIfInBounds_toArray,List.set_cons_zero,List.set_cons_succ]
  refine wpAnyL_take (i:=2) (v:=?v2L1) rfl (by kernel_rfl) (by kernel_rfl) (by kernel_rfl) (fun _ _ _ h=>h) (by kernel_rfl) (by kernel_rfl) (Or.inl ⟨by rfl,?hy2L1⟩) (by assumption) ?rest2L1
  case hy2L1=>
    intro w hSw
    (try dsimp only at hSw)
    go_simp
    all_goals with_reducible rfl
  simp only [Act.put,List.getElem_toArray,List.getElem_cons_zero,List.getElem_cons_succ,List.setIfInBounds_toArray,List.set_cons_zero,List.set_cons_succ];refine wpAnyL_next 3 (by kernel_rfl) rfl (fun K hK=>?_);clear hHeld;go_simp;refine hK.out _ _ ?_ (fun hHeld=>?_)
  · exact ⟨(hIx.alloc _).ex8 0 (by omega),(hIx.alloc _).ex8 1 (by omega),(hIx.alloc _).ex8 2 (by omega),(hIx.alloc _).ex8 3 (by omega),(hIx.alloc _).ex8 4 (by omega),(hIx.alloc _).ex8 5 (by omega),(hIx.alloc _).ex8 6 (by omega),(hIx.alloc _).ex8 7 (by omega)⟩
  clear hK K
  try simp only [Act.put,List.getElem_toArray,List.getElem_cons_zero,List.getElem_cons_succ,List.setIfInBounds_toArray,List.set_cons_zero,List.set_cons_succ]
  refine wpAnyL_last (by kernel_rfl) (by kernel_rfl) (by kernel_rfl) rfl (fun K hK=>?_);clear hHeld;go_simp;refine hK.out _ _ ?_;clear hK K
  try simp only [Act.put,List.getElem_toArray,List.getElem_cons_zero,List.getElem_cons_succ,List.setIfInBounds_toArray,List.set_cons_zero,List.set_cons_succ]
  go_wp2_with fail;have hT:=RBlk.new wx ⟨256 ^ (7 - i),r⟩;have hq:Below wx.heap.size wx (wx.alloc (.cells #[.int .i64 (ex (256 ^ (7 - i)) 0:Nat),.int .i64 (ex (256 ^ (7 - i)) 1:Nat),.int .i64 (ex (256 ^ (7 - i)) 2:Nat),.int .i64 (ex (256 ^ (7 - i)) 3:Nat),.int .i64 (ex (256 ^ (7 - i)) 4:Nat),.int .i64 (ex (256 ^ (7 - i)) 5:Nat),.int .i64 (ex (256 ^ (7 - i)) 6:Nat),.int .i64 (ex (256 ^ (7 - i)) 7:Nat),.bool r.s,.slice r.N r.ns.length r.nc,.slice r.D r.ds.length r.dc] 82)):=(Below.refl _ _).alloc (Nat.le_refl _) _;go_ret;refine ⟨some ⟨wx.heap.size,0,none⟩,1,[⟨256 ^ (7 - i),r⟩],rfl,Nat.le_refl _,⟨fun _=>⟨_,rfl,hT.lt,fun j t ht=>?_⟩,rfl,fun j t ht=>?_⟩,(hb1.trans (hbx3.mono hb1.size)).trans (hq.mono (hb1.trans (hbx3.mono hb1.size)).size)⟩
  all_goals
    have hj:j=0:=by
      have:=(List.getElem?_eq_some_iff.1 ht).1;simpa using this
    subst hj;injection ht with ht;subst ht
  · rw [Nat.zero_mul,add_zero_];exact hT.facts
  · exact ⟨1,rfl,hr.below hq,hrt.below hq,hrl1,hrl2⟩
end Go.Proofs.YtgekmfcbbjeahaaGreatDoor
/- isochroneref03.Coef. -/
attribute [local go_sem ↓] Go.wp_at_zero Go.wp_at_succ
namespace Go.Proofs.YtgekmfcbbjeahaaGreatDoor
open Go.RowKit V
def setEx (m i v:Nat):Nat:=packTo ((exL m 8).set i v) 8
theorem setEx_digits {m i v:Nat} (hv:v<256):∀ x ∈ (exL m 8).set i v,x<256:=fun x hx=>by
  rcases List.mem_or_eq_of_mem_set hx with h | h
  · obtain ⟨j,_,rfl⟩:=List.mem_map.1 h;exact ex_lt m j
  · omega
theorem setEx_lt (m i:Nat) {v:Nat} (hv:v<256):setEx m i v<18446744073709551616:=packTo_lt _ (setEx_digits hv) 8 (Nat.le_refl _)
theorem ex_set (m:Nat) {i v j:Nat} (hi:i<8) (hv:v<256) (hj:j<8):ex (setEx m i v) j=if j=i then v else ex m j:=by
  unfold setEx;rw [packTo_ex _ (setEx_digits hv) 8 (Nat.le_refl _) j hj,List.getD_eq_getElem?_getD,List.getElem?_set]
  by_cases e:i=j
  · subst e;rw [if_pos rfl,if_pos rfl,if_pos (by rw [exL_len];exact hi)];rfl
  · rw [if_neg e,if_neg (Ne.symm e),← List.getD_eq_getElem?_getD,exL_get m 8 j hj]
theorem cells_set (t:TR) {i v:Nat} (hi:i<8) (hv:v<256):t.cells.set i (.int .i64 (v:Nat))=TR.cells ⟨setEx t.m i v,t.c⟩:=by
  match i,hi with
  | 0, hi =>
    have e:∀ j,j<8→ex (setEx t.m 0 v) j=if j=0 then v else ex t.m j:=fun j hj=>ex_set t.m hi hv hj
    simp [TR.cells,e 0 (by omega),e 1 (by omega),e 2 (by omega),e 3 (by omega),e 4 (by omega),e 5 (by omega),e 6 (by omega),e 7 (by omega)]
  | 1, hi =>
    have e:∀ j,j<8→ex (setEx t.m 1 v) j=if j=1 then v else ex t.m j:=fun j hj=>ex_set t.m hi hv hj
    simp [TR.cells,e 0 (by omega),e 1 (by omega),e 2 (by omega),e 3 (by omega),e 4 (by omega),e 5 (by omega),e 6 (by omega),e 7 (by omega)]
  | 2, hi =>
    have e:∀ j,j<8→ex (setEx t.m 2 v) j=if j=2 then v else ex t.m j:=fun j hj=>ex_set t.m hi hv hj
    simp [TR.cells,e 0 (by omega),e 1 (by omega),e 2 (by omega),e 3 (by omega),e 4 (by omega),e 5 (by omega),e 6 (by omega),e 7 (by omega)]
  | 3, hi =>
    have e:∀ j,j<8→ex (setEx t.m 3 v) j=if j=3 then v else ex t.m j:=fun j hj=>ex_set t.m hi hv hj
    simp [TR.cells,e 0 (by omega),e 1 (by omega),e 2 (by omega),e 3 (by omega),e 4 (by omega),e 5 (by omega),e 6 (by omega),e 7 (by omega)]
  | 4, hi =>
    have e:∀ j,j<8→ex (setEx t.m 4 v) j=if j=4 then v else ex t.m j:=fun j hj=>ex_set t.m hi hv hj
    simp [TR.cells,e 0 (by omega),e 1 (by omega),e 2 (by omega),e 3 (by omega),e 4 (by omega),e 5 (by omega),e 6 (by omega),e 7 (by omega)]
  | 5, hi =>
    have e:∀ j,j<8→ex (setEx t.m 5 v) j=if j=5 then v else ex t.m j:=fun j hj=>ex_set t.m hi hv hj
    simp [TR.cells,e 0 (by omega),e 1 (by omega),e 2 (by omega),e 3 (by omega),e 4 (by omega),e 5 (by omega),e 6 (by omega),e 7 (by omega)]
  | 6, hi =>
    have e:∀ j,j<8→ex (setEx t.m 6 v) j=if j=6 then v else ex t.m j:=fun j hj=>ex_set t.m hi hv hj
    simp [TR.cells,e 0 (by omega),e 1 (by omega),e 2 (by omega),e 3 (by omega),e 4 (by omega),e 5 (by omega),e 6 (by omega),e 7 (by omega)]
  | 7, hi =>
    have e:∀ j,j<8→ex (setEx t.m 7 v) j=if j=7 then v else ex t.m j:=fun j hj=>ex_set t.m hi hv hj
    simp [TR.cells,e 0 (by omega),e 1 (by omega),e 2 (by omega),e 3 (by omega),e 4 (by omega),e 5 (by omega),e 6 (by omega),e 7 (by omega)]
def coefL (i k:Nat) (p:PL):PL:=(p.filter fun t=>decide (ex t.1 i=k)).map fun t=>(setEx t.1 i 0,t.2)
theorem coefL_yes {i k j:Nat} {p:PL} {t:Nat × Rat} (h:p[j]?=some t) (he:ex t.1 i=k):coefL i k (p.take (j+1))=coefL i k (p.take j) ++ [(setEx t.1 i 0,t.2)]:=by
  rw [take_snoc' h];unfold coefL;rw [List.filter_append,List.map_append];congr 1;simp [he]
theorem coefL_no {i k j:Nat} {p:PL} {t:Nat × Rat} (h:p[j]?=some t) (he:¬ ex t.1 i=k):coefL i k (p.take (j+1))=coefL i k (p.take j):=by
  rw [take_snoc' h];unfold coefL;rw [List.filter_append,List.map_append];simp [he]
set_option maxRecDepth 100000 in
set_option maxHeartbeats 6400000 in
theorem pcoefR (A : Option Addr) (c i kk L : Nat) (ts : List TR) (p : PL) (w : World) (h : QPR L w A ts p) (hi : i < 8) (hl : ts.length ≤ 4000) :
    Calls Tryz.prog 36 #[.slice A ts.length c,.int .i64 i,.int .i64 kk] w (QP L (coefL i kk p) w):=by
  have HH:=Lib.hid h;have hi8:(i:Int)<8:=by omega
  clear h;go_enter Tryz.func36,Tryz.ntmps36;go_wp2;go_loopw [7,12] (fun v si wr=>∃ (k:Nat) (us:List TR),k≤ts.length∧si = .int .i64 k∧us.length≤k∧OwnR w.heap.size wr v us∧QHolds L wr us (coefL i kk (p.take k))∧Below w.heap.size w wr) (fun _ si _=>ts.length - (intOf si).toNat)
  case atStart=>exact ⟨0,[],by omega,rfl,by simp,OwnR.nil_ _ _,QHolds.nil_ _ _,Below.refl _ _⟩
  case round=>
    obtain ⟨k,us,hk,rfl,hul,hown,hus,hbw⟩:=hrel;have HUS:=Lib.hid hus;clear hus
    by_cases hlt:k<ts.length
    · obtain ⟨ad,t,rfl,hb,ht,hc⟩:=(HH.out.below hbw).rd.ask hlt;obtain ⟨q,hp,htr,htt,htl1,htl2⟩:=(HH.out.below hbw).hs.2 k t ht.out;have HP:=Lib.hid hp;have kt:=RBlk.new wr t;have hbt:Below wr.heap.size wr (wr.alloc (.cells #[.int .i64 (ex t.m 0:Nat),.int .i64 (ex t.m 1:Nat),.int .i64 (ex t.m 2:Nat),.int .i64 (ex t.m 3:Nat),.int .i64 (ex t.m 4:Nat),.int .i64 (ex t.m 5:Nat),.int .i64 (ex t.m 6:Nat),.int .i64 (ex t.m 7:Nat),.bool t.c.s,.slice t.c.N t.c.ns.length t.c.nc,.slice t.c.D t.c.ds.length t.c.dc] 82)):=(Below.refl _ _).alloc (Nat.le_refl _) _;obtain ⟨c0,c1,c2,c3,c4,c5,c6,c7,c8,c9,c10⟩:=hc;clear ht hp
      by_cases he:ex t.m i=kk
      · have hei:((ex t.m i:Nat):Int)=(kk:Int):=by omega
        have hce:=kt.cellE hi;have kt2:(wr.alloc (.cells (([.int .i64 (ex t.m 0:Nat),.int .i64 (ex t.m 1:Nat),.int .i64 (ex t.m 2:Nat),.int .i64 (ex t.m 3:Nat),.int .i64 (ex t.m 4:Nat),.int .i64 (ex t.m 5:Nat),.int .i64 (ex t.m 6:Nat),.int .i64 (ex t.m 7:Nat),.bool t.c.s,.slice t.c.N t.c.ns.length t.c.nc,.slice t.c.D t.c.ds.length t.c.dc]:List Value).set i (.int .i64 0)).toArray 82)).heap[wr.heap.size]?=some (.cells (TR.cells ⟨setEx t.m i 0,t.c⟩).toArray 82 (0,0)):=by
          rw [← cells_set t hi (v:=0) (by omega)];exact heap_alloc_new wr _
        have hbs:Below wr.heap.size wr (wr.alloc (.cells (([.int .i64 (ex t.m 0:Nat),.int .i64 (ex t.m 1:Nat),.int .i64 (ex t.m 2:Nat),.int .i64 (ex t.m 3:Nat),.int .i64 (ex t.m 4:Nat),.int .i64 (ex t.m 5:Nat),.int .i64 (ex t.m 6:Nat),.int .i64 (ex t.m 7:Nat),.bool t.c.s,.slice t.c.N t.c.ns.length t.c.nc,.slice t.c.D t.c.ds.length t.c.dc]:List Value).set i (.int .i64 0)).toArray 82)):=(Below.refl _ _).alloc (Nat.le_refl _) _;have HY:=Lib.hid (coefL_yes HP.out he);have HTR:=Lib.hid htr;have HTT:=Lib.hid htt;go_upto_region 7 with fail;clear c0 c1 c2 c3 c4 c5 c6 c7 c8 c9 c10;have kt3:RBlk (wr.alloc (.cells (([.int .i64 (ex t.m 0:Nat),.int .i64 (ex t.m 1:Nat),.int .i64 (ex t.m 2:Nat),.int .i64 (ex t.m 3:Nat),.int .i64 (ex t.m 4:Nat),.int .i64 (ex t.m 5:Nat),.int .i64 (ex t.m 6:Nat),.int .i64 (ex t.m 7:Nat),.bool t.c.s,.slice t.c.N t.c.ns.length t.c.nc,.slice t.c.D t.c.ds.length t.c.dc]:List Value).set i (.int .i64 0)).toArray 82)) wr.heap.size ⟨setEx t.m i 0,t.c⟩:=kt2;obtain ⟨w1,hw1⟩:∃ x,wr.alloc (.cells (([.int .i64 (ex t.m 0:Nat),.int .i64 (ex t.m 1:Nat),.int .i64 (ex t.m 2:Nat),.int .i64 (ex t.m 3:Nat),.int .i64 (ex t.m 4:Nat),.int .i64 (ex t.m 5:Nat),.int .i64 (ex t.m 6:Nat),.int .i64 (ex t.m 7:Nat),.bool t.c.s,.slice t.c.N t.c.ns.length t.c.nc,.slice t.c.D t.c.ds.length t.c.dc]:List Value).set i (.int .i64 0)).toArray 82)=x:=⟨_,rfl⟩;rw [hw1] at kt3 hbs
        try rw [hw1]
        clear hw1 kt2 kt hbt hce;have hw1:=hbw.trans (hbs.mono hbw.size);obtain ⟨c0,c1,c2,c3,c4,c5,c6,c7,c8,c9,c10⟩:=kt3.facts;dsimp only at c1 c2 c3 c4 c5 c6 c7 c8 c9 c10;simp only [Nat.zero_add] at c1 c2 c3 c4 c5 c6 c7 c8 c9 c10;have hown1:=hown.below hbs;have hws:=hw1.size;have hlus:us.length≤100000:=by omega
        clear hown;go_wp2_with (at_builtin;refine wpList_appR rfl (.tmp 25) (.tmp 27) 32 rfl Tryz.underlying32 w.heap.size _ us ⟨setEx t.m i 0,t.c⟩ rfl hown1 rfl hws hlus ?_;intro v' w4 hown4 hb4 hof4);have HO:=Lib.hid hown4;have HQ:Hid (QHolds L w4 (us ++ [⟨setEx t.m i 0,t.c⟩]) (coefL i kk (p.take (k+1)))):=by
          show QHolds _ _ _ _;rw [HY.out];exact ((HUS.out.below hbs).off hof4).snoc ((HTR.out.below hbs).off (HTT.out.below hbs) hof4) ((HTT.out.below hbs).off hof4) htl1 htl2
        have HW4:=Lib.hid (hw1.trans hb4);clear hown4 hown1;go_roundw
        case rel=>exact ⟨k+1,us ++ [⟨setEx t.m i 0,t.c⟩],by omega,by go_num,by rw [List.length_append,List.length_singleton];omega,HO.out,HQ.out,HW4.out⟩
        case measure=>simp [intOf];omega
      · have hei:¬ ((ex t.m i:Nat):Int)=(kk:Int):=by omega
        have HN:=Lib.hid (coefL_no HP.out he);go_upto_region 5 with fail;clear c0 c1 c2 c3 c4 c5 c6 c7 c8 c9 c10;obtain ⟨w1,hw1⟩:∃ x,wr.alloc (.cells #[.int .i64 (ex t.m 0:Nat),.int .i64 (ex t.m 1:Nat),.int .i64 (ex t.m 2:Nat),.int .i64 (ex t.m 3:Nat),.int .i64 (ex t.m 4:Nat),.int .i64 (ex t.m 5:Nat),.int .i64 (ex t.m 6:Nat),.int .i64 (ex t.m 7:Nat),.bool t.c.s,.slice t.c.N t.c.ns.length t.c.nc,.slice t.c.D t.c.ds.length t.c.dc] 82)=x:=⟨_,rfl⟩;rw [hw1] at kt hbt
        try rw [hw1]
        clear hw1;have hce:=kt.cellE hi;have HW:=Lib.hid (hbw.trans (hbt.mono hbw.size));have HOW:=Lib.hid (hown.below hbt);have HUS1:=Lib.hid (HUS.out.below hbt);clear hown;go_wp2_with fail;go_roundw
        case rel=>exact ⟨k+1,us,by omega,by go_num,by omega,HOW.out,by rw [HN.out];exact HUS1.out,HW.out⟩
        case measure=>simp [intOf];omega
    · obtain rfl:k=ts.length:=by omega
      obtain ⟨VA,vc,rfl,hvc,hvr,hvn,hvlt⟩:=hown.form;have hpl:p.take ts.length=p:=List.take_of_length_le (by rw [HH.out.hs.1];exact Nat.le_refl _);have HTE:Hid (QHolds L wr us (coefL i kk p)):=by have:=HUS.out;rw [hpl] at this;exact this
      clear hpl;go_wp2;go_ret;exact ⟨VA,vc,us,rfl,hvc,⟨hvr,HTE.out⟩,hbw⟩
end Go.Proofs.YtgekmfcbbjeahaaGreatDoor
