/- isochroneref03.Deriv. -/
import Derived.Test.YtgekmfcbbjeahaaGreatDoorPpR41
attribute [local go_sem ↓] Go.wp_at_zero Go.wp_at_succ
namespace Go.Proofs.YtgekmfcbbjeahaaGreatDoor
open Go.RowKit V
def derivL (i:Nat) (p:PL):PL:=(p.filter fun t=>decide (0<ex t.1 i)).map fun t=>(setEx t.1 i (ex t.1 i - 1),t.2*mkRat ((ex t.1 i:Nat):Int) 1)
theorem derivL_yes {i j:Nat} {p:PL} {t:Nat × Rat} (h:p[j]?=some t) (he:0<ex t.1 i):derivL i (p.take (j+1))=derivL i (p.take j) ++ [(setEx t.1 i (ex t.1 i - 1),t.2*mkRat ((ex t.1 i:Nat):Int) 1)]:=by
  rw [take_snoc' h];unfold derivL;rw [List.filter_append,List.map_append];congr 1;simp [he]
theorem derivL_no {i j:Nat} {p:PL} {t:Nat × Rat} (h:p[j]?=some t) (he:¬ 0<ex t.1 i):derivL i (p.take (j+1))=derivL i (p.take j):=by
  rw [take_snoc' h];unfold derivL;rw [List.filter_append,List.map_append];simp at he;simp [he]
set_option maxRecDepth 100000 in
set_option maxHeartbeats 12800000 in
theorem pderivR (A : Option Addr) (c i L : Nat) (ts : List TR) (p : PL) (w : World) (h : QPR L w A ts p) (hi : i < 8) (hl : ts.length ≤ 4000) (hL : L ≤ 2000) :
    Calls Tryz.prog 34 #[.slice A ts.length c,.int .i64 i] w (QP (L+6) (derivL i p) w):=by
  have HH:=Lib.hid h;have hi8:(i:Int)<8:=by omega
  clear h;go_enter Tryz.func34,Tryz.ntmps34;go_wp2;go_loopw [5,8,11] (fun v _ si wr=>∃ (k:Nat) (us:List TR),k≤ts.length∧si = .int .i64 k∧us.length≤k∧OwnR w.heap.size wr v us∧QHolds (L+6) wr us (derivL i (p.take k))∧Below w.heap.size w wr) (fun _ _ si _=>ts.length - (intOf si).toNat)
  case atStart=>exact ⟨0,[],by omega,rfl,by simp,OwnR.nil_ _ _,QHolds.nil_ _ _,Below.refl _ _⟩
  case round=>
    obtain ⟨k,us,hk,rfl,hul,hown,hus,hbw⟩:=hrel;have HUS:=Lib.hid hus;clear hus
    by_cases hlt:k<ts.length
    · obtain ⟨ad,t,rfl,hb,ht,hc⟩:=(HH.out.below hbw).rd.ask hlt;obtain ⟨q,hp,htr,htt,htl1,htl2⟩:=(HH.out.below hbw).hs.2 k t ht.out;have HP:=Lib.hid hp;have kt:=RBlk.new wr t;have hbt:Below wr.heap.size wr (wr.alloc (.cells #[.int .i64 (ex t.m 0:Nat),.int .i64 (ex t.m 1:Nat),.int .i64 (ex t.m 2:Nat),.int .i64 (ex t.m 3:Nat),.int .i64 (ex t.m 4:Nat),.int .i64 (ex t.m 5:Nat),.int .i64 (ex t.m 6:Nat),.int .i64 (ex t.m 7:Nat),.bool t.c.s,.slice t.c.N t.c.ns.length t.c.nc,.slice t.c.D t.c.ds.length t.c.dc] 82)):=(Below.refl _ _).alloc (Nat.le_refl _) _;have hel:=ex_lt t.m i;obtain ⟨c0,c1,c2,c3,c4,c5,c6,c7,c8,c9,c10⟩:=hc;clear ht hp;have hce:=kt.cellE hi
      by_cases he:0<ex t.m i
      · have HY:=Lib.hid (derivL_yes HP.out he);obtain ⟨d,hd⟩:∃ d,ex t.m i=d:=⟨_,rfl⟩;obtain ⟨y,hy⟩:∃ y,d - 1=y:=⟨_,rfl⟩;dsimp only at HY;rw [hd] at hce he hel HY;rw [hy] at HY;have hdi:(0:Int)<(d:Int):=by omega
        have hsub:(d:Int) - 1=(y:Int):=by omega
        have hwr:IntKind.i64.wrap ((d:Int) - 1)=(y:Int):=by rw [hsub];exact IntWalk.i64_in _ (by omega)
        have hyl:y<256:=by omega
        have kt3:RBlk (wr.alloc (.cells (([.int .i64 (ex t.m 0:Nat),.int .i64 (ex t.m 1:Nat),.int .i64 (ex t.m 2:Nat),.int .i64 (ex t.m 3:Nat),.int .i64 (ex t.m 4:Nat),.int .i64 (ex t.m 5:Nat),.int .i64 (ex t.m 6:Nat),.int .i64 (ex t.m 7:Nat),.bool t.c.s,.slice t.c.N t.c.ns.length t.c.nc,.slice t.c.D t.c.ds.length t.c.dc]:List Value).set i (.int .i64 (y:Nat))).toArray 82)) wr.heap.size ⟨setEx t.m i y,t.c⟩:=by
          have h1:(wr.alloc (.cells (([.int .i64 (ex t.m 0:Nat),.int .i64 (ex t.m 1:Nat),.int .i64 (ex t.m 2:Nat),.int .i64 (ex t.m 3:Nat),.int .i64 (ex t.m 4:Nat),.int .i64 (ex t.m 5:Nat),.int .i64 (ex t.m 6:Nat),.int .i64 (ex t.m 7:Nat),.bool t.c.s,.slice t.c.N t.c.ns.length t.c.nc,.slice t.c.D t.c.ds.length t.c.dc]:List Value).set i (.int .i64 (y:Nat))).toArray 82)).heap[wr.heap.size]?=some (.cells (TR.cells ⟨setEx t.m i y,t.c⟩).toArray 82 (0,0)):=by
            rw [← cells_set t hi hyl];exact heap_alloc_new wr _
          exact h1
        have hbs:Below wr.heap.size wr (wr.alloc (.cells (([.int .i64 (ex t.m 0:Nat),.int .i64 (ex t.m 1:Nat),.int .i64 (ex t.m 2:Nat),.int .i64 (ex t.m 3:Nat),.int .i64 (ex t.m 4:Nat),.int .i64 (ex t.m 5:Nat),.int .i64 (ex t.m 6:Nat),.int .i64 (ex t.m 7:Nat),.bool t.c.s,.slice t.c.N t.c.ns.length t.c.nc,.slice t.c.D t.c.ds.length t.c.dc]:List Value).set i (.int .i64 (y:Nat))).toArray 82)):=(Below.refl _ _).alloc (Nat.le_refl _) _;have HTR:=Lib.hid htr;have HTT:=Lib.hid htt;have HD:=Lib.hid hd;clear hsub hd hy;go_upto_region 8 with fail;obtain ⟨w1,hw1⟩:∃ x,(wr.alloc (.cells (([.int .i64 (ex t.m 0:Nat),.int .i64 (ex t.m 1:Nat),.int .i64 (ex t.m 2:Nat),.int .i64 (ex t.m 3:Nat),.int .i64 (ex t.m 4:Nat),.int .i64 (ex t.m 5:Nat),.int .i64 (ex t.m 6:Nat),.int .i64 (ex t.m 7:Nat),.bool t.c.s,.slice t.c.N t.c.ns.length t.c.nc,.slice t.c.D t.c.ds.length t.c.dc]:List Value).set i (.int .i64 (y:Nat))).toArray 82))=x:=⟨_,rfl⟩;rw [hw1] at kt3 hbs
        try rw [hw1]
        clear hw1 kt hbt hce c0 c1 c2 c3 c4 c5 c6 c7 c8 c9 c10;have hw1:=hbw.trans (hbs.mono hbw.size);have HOWN:=Lib.hid hown;have hovl:u5.ownBlock≠some wr.heap.size:=fun e=>by have:=(World.ownsRow.lt hown _ e).2;omega
        have hws:=hw1.size;have hwrs:=hbw.size;obtain ⟨i0,hi0,hz0_,hz1_,hz2_⟩:=info_parts info_rterm;clear hown;refine wp_region_last 11 (S:=fun w'=>w'.cell? ⟨wr.heap.size,0,none⟩=some (.int .i64 (ex (setEx t.m i y) 0:Nat))∧w'.cell? ⟨wr.heap.size,1,none⟩=some (.int .i64 (ex (setEx t.m i y) 1:Nat))∧w'.cell? ⟨wr.heap.size,2,none⟩=some (.int .i64 (ex (setEx t.m i y) 2:Nat))∧w'.cell? ⟨wr.heap.size,3,none⟩=some (.int .i64 (ex (setEx t.m i y) 3:Nat))∧w'.cell? ⟨wr.heap.size,4,none⟩=some (.int .i64 (ex (setEx t.m i y) 4:Nat))∧w'.cell? ⟨wr.heap.size,5,none⟩=some (.int .i64 (ex (setEx t.m i y) 5:Nat))∧w'.cell? ⟨wr.heap.size,6,none⟩=some (.int .i64 (ex (setEx t.m i y) 6:Nat))∧w'.cell? ⟨wr.heap.size,7,none⟩=some (.int .i64 (ex (setEx t.m i y) 7:Nat))∧w'.cell? ⟨wr.heap.size,8,none⟩=some (.bool t.c.s)∧w'.cell? ⟨wr.heap.size,9,none⟩=some (.slice t.c.N t.c.ns.length t.c.nc)∧w'.cell? ⟨wr.heap.size,10,none⟩=some (.slice t.c.D t.c.ds.length t.c.dc)) (by kernel_rfl) ?_ (fun hHeld=>?_)
        · exact ⟨kt3.facts.c0,kt3.facts.c1,kt3.facts.c2,kt3.facts.c3,kt3.facts.c4,kt3.facts.c5,kt3.facts.c6,kt3.facts.c7,kt3.facts.c8,kt3.facts.c9,kt3.facts.c10⟩
        refine wpAnyL_take (i:=0) (v:=?v0L1) rfl (by kernel_rfl) (by kernel_rfl) (by kernel_rfl) (fun _ _ _ h=>h) (by kernel_rfl) (by kernel_rfl) (Or.inl ⟨by rfl,?hy0L1⟩) (by assumption) ?rest0L1
        case hy0L1=>
          intro w hSw
          (try dsimp only at hSw)
          go_simp
          all_goals with_reducible rfl
        simp only [Act.put,List.getElem_toArray,List.getElem_cons_zero,List.setIfInBounds_toArray,List.set_cons_zero,List.set_cons_succ];refine wpAnyL_take (i:=1) (v:=?v1L1) rfl (by kernel_rfl) (by kernel_rfl) (by kernel_rfl) (fun _ _ _ h=>h) (by kernel_rfl) (by kernel_rfl) (Or.inl ⟨by rfl,?hy1L1⟩) (by assumption) ?rest1L1
        case hy1L1=>
          intro w hSw
          (try dsimp only at hSw)
          go_simp
          all_goals with_reducible rfl
        simp only [Act.put,List.getElem_toArray,List.getElem_cons_zero,List.getElem_cons_succ,List.setIfInBounds_toArray,List.set_cons_zero,List.set_cons_succ];refine wpAnyL_take (i:=2) (v:=?v2L1) rfl (by kernel_rfl) (by kernel_rfl) (by kernel_rfl) (fun _ _ _ h=>h) (by kernel_rfl) (by kernel_rfl) (Or.inl ⟨by rfl,?hy2L1⟩) (by assumption) ?rest2L1
        case hy2L1=>
          intro w hSw
          (try dsimp only at hSw)
          go_simp
          all_goals with_reducible rfl
        simp only [Act.put,List.getElem_toArray,List.getElem_cons_zero,List.getElem_cons_succ,List.setIfInBounds_toArray,List.set_cons_zero,List.set_cons_succ];refine wpAnyL_take (i:=3) (v:=?v3L1) rfl (by kernel_rfl) (by kernel_rfl) (by kernel_rfl) (fun _ _ _ h=>h) (by kernel_rfl) (by kernel_rfl) (Or.inl ⟨by rfl,?hy3L1⟩) (by assumption) ?rest3L1
        case hy3L1=>
          intro w hSw
          (try dsimp only at hSw)
          go_simp
          all_goals with_reducible rfl
        simp only [Act.put,List.getElem_toArray,List.getElem_cons_zero,List.getElem_cons_succ,List.setIfInBounds_toArray,List.set_cons_zero,List.set_cons_succ];refine wpAnyL_take (i:=4) (v:=?v4L1) rfl (by kernel_rfl) (by kernel_rfl) (by kernel_rfl) (fun _ _ _ h=>h) (by kernel_rfl) (by kernel_rfl) (Or.inl ⟨by rfl,?hy4L1⟩) (by assumption) ?rest4L1
        case hy4L1=>
          intro w hSw
          (try dsimp only at hSw)
          go_simp
          all_goals with_reducible rfl
        simp only [Act.put,List.getElem_toArray,List.getElem_cons_zero,List.getElem_cons_succ,List.setIfInBounds_toArray,List.set_cons_zero,List.set_cons_succ];refine wpAnyL_take (i:=5) (v:=?v5L1) rfl (by kernel_rfl) (by kernel_rfl) (by kernel_rfl) (fun _ _ _ h=>h) (by kernel_rfl) (by kernel_rfl) (Or.inl ⟨by rfl,?hy5L1⟩) (by assumption) ?rest5L1
        case hy5L1=>
          intro w hSw
          (try dsimp only at hSw)
          go_simp
          all_goals with_reducible rfl
        simp only [Act.put,List.getElem_toArray,List.getElem_cons_zero,List.getElem_cons_succ,List.setIfInBounds_toArray,List.set_cons_zero,List.set_cons_succ];refine wpAnyL_next 6 (by kernel_rfl) rfl (fun K hK=>?_);clear hHeld;go_simp;refine (rint_anyT (d:Nat) (by omega) (by omega) _).mono ?_;rintro e' wa ⟨z,rfl,hz,hzt,hz1,hz2,hba⟩;have hba1:Below w1.heap.size w1 wa:=by first | exact below_of_drew hba (Nat.le_refl _) | exact hba
        have kta:=kt3.below hba1;go_wp2_with fail;refine hK.out _ _ ?_ (fun hHeld=>?_)
        · exact ⟨kta.facts.c0,kta.facts.c1,kta.facts.c2,kta.facts.c3,kta.facts.c4,kta.facts.c5,kta.facts.c6,kta.facts.c7,kta.facts.c8,kta.facts.c9,kta.facts.c10⟩
        clear hK K
        try simp only [Act.put,List.getElem_toArray,List.getElem_cons_zero,List.getElem_cons_succ,List.setIfInBounds_toArray,List.set_cons_zero,List.set_cons_succ]
        refine wpAnyL_next 7 (by kernel_rfl) rfl (fun K hK=>?_);clear hHeld;go_simp;refine (rmulqT t.c z _ _ _ (HTR.out.below (hbs.trans (hba1.mono hbs.size))) hz (by omega)).mono ?_;rintro e' wx ⟨r,rfl,hr,hrt,hrl1,hrl2,hbx⟩;have hbx1:=hba1.trans (hbx.mono hba1.size);have ktx:=kt3.below hbx1;have HQX:=Lib.hid (hbs.trans (hbx1.mono hbs.size));have hxs:=HQX.out.size;have hktl:=ktx.lt;go_wp2_with fail;refine hK.out _ _ ?_ (fun hHeld=>?_)
        · exact ⟨ktx.facts.c0,ktx.facts.c1,ktx.facts.c2,ktx.facts.c3,ktx.facts.c4,ktx.facts.c5,ktx.facts.c6,ktx.facts.c7,ktx.facts.c8,ktx.facts.c9,ktx.facts.c10⟩
        clear hK K
        try simp only [Act.put,List.getElem_toArray,List.getElem_cons_zero,List.getElem_cons_succ,List.setIfInBounds_toArray,List.set_cons_zero,List.set_cons_succ]
        refine wpAnyL_take (i:=8) (v:=?v8L1) rfl (by kernel_rfl) (by kernel_rfl) (by kernel_rfl) (fun _ _ _ h=>h) (by kernel_rfl) (by kernel_rfl) (Or.inl ⟨by rfl,?hy8L1⟩) (by assumption) ?rest8L1
        case hy8L1=>
          intro w hSw
          (try dsimp only at hSw)
          go_simp
          all_goals with_reducible rfl
        simp only [Act.put,List.getElem_toArray,List.getElem_cons_zero,List.getElem_cons_succ,List.setIfInBounds_toArray,List.set_cons_zero,List.set_cons_succ];refine wpAnyL_next 9 (by kernel_rfl) rfl (fun K hK=>?_);clear hHeld;go_simp;refine hK.out _ _ ?_ (fun hHeld=>?_)
        · exact ⟨(ktx.alloc _).facts.c0,(ktx.alloc _).facts.c1,(ktx.alloc _).facts.c2,(ktx.alloc _).facts.c3,(ktx.alloc _).facts.c4,(ktx.alloc _).facts.c5,(ktx.alloc _).facts.c6,(ktx.alloc _).facts.c7,(ktx.alloc _).facts.c8,(ktx.alloc _).facts.c9,(ktx.alloc _).facts.c10⟩
        clear hK K
        try simp only [Act.put,List.getElem_toArray,List.getElem_cons_zero,List.getElem_cons_succ,List.setIfInBounds_toArray,List.set_cons_zero,List.set_cons_succ]
        refine wpAnyL_next 10 (by kernel_rfl) rfl (fun K hK=>?_);clear hHeld;refine step_append_lies _ rfl _ _ _ rfl w.heap.size 82 i0 _ 11 120 Tryz.underlying31 hi0 hz0_ hz1_ hz2_ rfl (by omega) u5 us.length (flatR us) rfl (World.ownsRow.alloc (HOWN.out.below HQX.out) _)
          ⟨wx.heap.size,0,none⟩ 1 1 [.int .i64 (ex (setEx t.m i y) 0:Nat),.int .i64 (ex (setEx t.m i y) 1:Nat),.int .i64 (ex (setEx t.m i y) 2:Nat),.int .i64 (ex (setEx t.m i y) 3:Nat),.int .i64 (ex (setEx t.m i y) 4:Nat),.int .i64 (ex (setEx t.m i y) 5:Nat),.int .i64 (ex (setEx t.m i y) 6:Nat),.int .i64 (ex (setEx t.m i y) 7:Nat),.bool r.s,.slice r.N r.ns.length r.nc,.slice r.D r.ds.length r.dc] rfl rfl (World.news_of_block (cs:=#[.int .i64 (ex (setEx t.m i y) 0:Nat),.int .i64 (ex (setEx t.m i y) 1:Nat),.int .i64 (ex (setEx t.m i y) 2:Nat),.int .i64 (ex (setEx t.m i y) 3:Nat),.int .i64 (ex (setEx t.m i y) 4:Nat),.int .i64 (ex (setEx t.m i y) 5:Nat),.int .i64 (ex (setEx t.m i y) 6:Nat),.int .i64 (ex (setEx t.m i y) 7:Nat),.bool r.s,.slice r.N r.ns.length r.nc,.slice r.D r.ds.length r.dc]) (t:=82) (fr:=(0,0)) (heap_alloc_new _ _)) (by simp [Value.oneCell'])
          (by omega) (by unfold maxLen;omega) (by omega) (by simp;omega) (wx.heap.size+1) (by simp) ?_
        intro gg cap w4 hown4 hgrow hat hlt4;have kt4:=(ktx.alloc _).grown hgrow hovl;refine hK.out _ _ ?_ (fun hHeld=>?_)
        · exact ⟨kt4.facts.c0,kt4.facts.c1,kt4.facts.c2,kt4.facts.c3,kt4.facts.c4,kt4.facts.c5,kt4.facts.c6,kt4.facts.c7,kt4.facts.c8,kt4.facts.c9,kt4.facts.c10⟩
        clear hK K
        try simp only [Act.put,List.getElem_toArray,List.getElem_cons_zero,List.getElem_cons_succ,List.setIfInBounds_toArray,List.set_cons_zero,List.set_cons_succ]
        refine wpAnyL_last (by kernel_rfl) (by kernel_rfl) (by kernel_rfl) rfl (fun K hK=>?_);clear hHeld;go_simp;refine hK.out _ _ ?_;clear hK K
        try simp only [Act.put,List.getElem_toArray,List.getElem_cons_zero,List.getElem_cons_succ,List.setIfInBounds_toArray,List.set_cons_zero,List.set_cons_succ]
        have hoff:Off wx w4:=((Off.refl wx).alloc _).grown hgrow (fun g hg=>⟨82,by decide,ownsRow_type (World.ownsRow.alloc (HOWN.out.below HQX.out) _) g hg⟩);have hq4:QHolds (L+6) w4 (us ++ [⟨setEx t.m i y,r⟩]) (derivL i (p.take (k+1))):=by
          rw [HY.out];exact ((HUS.out.off (Off.of_below HQX.out)).off hoff).snoc (hr.off hrt hoff) (hrt.off hoff) (by show r.ns.length≤L+6;omega) (by show r.ds.length≤L+6;omega)
        have HQ4:=Lib.hid hq4;have HO4:Hid (OwnR w.heap.size w4 (.slice (some ⟨gg,0,none⟩) (us.length+1) cap) (us ++ [⟨setEx t.m i y,r⟩])):=by
          show OwnR _ _ _ _;unfold OwnR;rw [flatR_snoc,List.length_append];exact hown4
        have HW4:Hid (Below w.heap.size w w4):=hbw.trans ((HQX.out.mono hbw.size).trans (((Below.refl _ _).alloc (by omega) _).grown hgrow (by simp;omega) fun g hg=>(World.ownsRow.lt HOWN.out g hg).1));clear hoff hr hrt hq4 kt4 ktx kta kt3 hown4;go_wp2_with fail;go_roundw
        case rel=>exact ⟨k+1,us ++ [⟨setEx t.m i y,r⟩],by omega,by go_num,by rw [List.length_append,List.length_singleton];omega,HO4.out,HQ4.out,HW4.out⟩
        case measure=>simp [intOf];omega
      · have hei:¬ (0:Int)<((ex t.m i:Nat):Int):=by omega
        have HN:=Lib.hid (derivL_no HP.out he);have hwt:=hbw.trans (hbt.mono hbw.size);have HW:=Lib.hid hwt;have HOW:=Lib.hid (hown.below hbt);have HUS1:=Lib.hid (HUS.out.below hbt);clear hown hwt;go_upto_region 5 with fail;clear c0 c1 c2 c3 c4 c5 c6 c7 c8 c9 c10;obtain ⟨w1,hw1⟩:∃ x,wr.alloc (.cells #[.int .i64 (ex t.m 0:Nat),.int .i64 (ex t.m 1:Nat),.int .i64 (ex t.m 2:Nat),.int .i64 (ex t.m 3:Nat),.int .i64 (ex t.m 4:Nat),.int .i64 (ex t.m 5:Nat),.int .i64 (ex t.m 6:Nat),.int .i64 (ex t.m 7:Nat),.bool t.c.s,.slice t.c.N t.c.ns.length t.c.nc,.slice t.c.D t.c.ds.length t.c.dc] 82)=x:=⟨_,rfl⟩;rw [hw1] at kt hbt hce HW HOW HUS1
        try rw [hw1]
        clear hw1;go_wp2_with fail;go_roundw
        case rel=>exact ⟨k+1,us,by omega,by go_num,by omega,HOW.out,by rw [HN.out];exact HUS1.out,HW.out⟩
        case measure=>simp [intOf];omega
    · obtain rfl:k=ts.length:=by omega
      obtain ⟨VA,vc,rfl,hvc,hvr,hvn,hvlt⟩:=hown.form;have hpl:p.take ts.length=p:=List.take_of_length_le (by rw [HH.out.hs.1];exact Nat.le_refl _);have HTE:Hid (QHolds (L+6) wr us (derivL i p)):=by have:=HUS.out;rw [hpl] at this;exact this
      clear hpl;go_wp2;go_ret;exact ⟨VA,vc,us,rfl,hvc,⟨hvr,HTE.out⟩,hbw⟩
end Go.Proofs.YtgekmfcbbjeahaaGreatDoor
/- A monomial with one exponent changed: as arithmetic of words, and as a list of exponents. -/
namespace Go.Proofs.YtgekmfcbbjeahaaGreatDoor
open Go.RowKit V
theorem packTo_setAt (m i v : Nat) (hi : i < 8) : ∀ k, k ≤ 8 → packTo ((exL m 8).set i v) k + (if i < k then ex m i * 256 ^ (7 - i) else 0) = packTo (exL m 8) k + (if i < k then v * 256 ^ (7 - i) else 0)
  | 0,_=>by simp [packTo]
  | k + 1, hk => by
    have ih:=packTo_setAt m i v hi k (by omega);have hg:((exL m 8).set i v).getD k 0=if k=i then v else ex m k:=by
      rw [List.getD_eq_getElem?_getD,List.getElem?_set]
      by_cases e:i=k
      · subst e;rw [if_pos rfl,if_pos rfl,if_pos (by rw [exL_len];exact hi)];rfl
      · rw [if_neg e,if_neg (Ne.symm e),← List.getD_eq_getElem?_getD,exL_get m 8 k (by omega)]
    have hg2:(exL m 8).getD k 0=ex m k:=exL_get m 8 k (by omega);simp only [packTo];rw [hg,hg2]
    by_cases e:k=i
    · subst e;rw [if_neg (Nat.lt_irrefl _),if_neg (Nat.lt_irrefl _)] at ih;rw [if_pos rfl,if_pos (Nat.lt_succ_self _),if_pos (Nat.lt_succ_self _)];omega
    · rw [if_neg e]
      by_cases h:i<k
      · rw [if_pos h,if_pos h] at ih;rw [if_pos (by omega),if_pos (by omega)];omega
      · rw [if_neg h,if_neg h] at ih;rw [if_neg (by omega),if_neg (by omega)];omega
theorem setEx_add {m i:Nat} (v:Nat) (hi:i<8) (hm:m<18446744073709551616):setEx m i v+ex m i*256 ^ (7 - i)=m+v*256 ^ (7 - i):=by
  have h:=packTo_setAt m i v hi 8 (Nat.le_refl _);rw [if_pos hi,if_pos hi] at h;have e:packTo (exL m 8) 8=m:=by
    have:=packTo_exL (m:=m) (n:=8) hm (Nat.le_refl _) 8 (Nat.le_refl _);simpa using this
  rw [e] at h;exact h
theorem setEx_sub {m i j:Nat} (hi:i<8) (hm:m<18446744073709551616) (hj:j≤ex m i):setEx m i (ex m i - j)=m - j*256 ^ (7 - i):=by
  have h:=setEx_add (ex m i - j) hi hm;have e:(ex m i - j)*256 ^ (7 - i)+j*256 ^ (7 - i)=ex m i*256 ^ (7 - i):=by rw [← Nat.add_mul,Nat.sub_add_cancel hj]
  omega
theorem derivP_eq {i:Nat} {p:PL} (hi:i<8) (hw:Words p):derivP i p=derivL i p:=by
  unfold derivP derivL;refine List.map_congr_left fun t ht=>?_
  have h:=List.mem_filter.1 ht;have h1:1≤ex t.1 i:=of_decide_eq_true h.2;have hx:ex t.1 i<256:=ex_lt _ _;rw [setEx_sub hi (hw t h.1) h1,Nat.one_mul,Rat.mkRat_one]
theorem degTo_set {m i v : Nat} (hi : i < 8) (hv : v < 256) : ∀ k, k ≤ 8 → degTo (setEx m i v) k + (if i < k then ex m i else 0) = degTo m k + (if i < k then v else 0)
  | 0,_=>by simp [degTo]
  | k + 1, hk => by
    have ih:=degTo_set (m:=m) hi hv k (by omega);have he:=ex_set m hi hv (j:=k) (by omega);simp only [degTo];rw [he]
    by_cases e:k=i
    · subst e;rw [if_neg (Nat.lt_irrefl _),if_neg (Nat.lt_irrefl _)] at ih;rw [if_pos rfl,if_pos (Nat.lt_succ_self _),if_pos (Nat.lt_succ_self _)];omega
    · rw [if_neg e]
      by_cases h:i<k
      · rw [if_pos h,if_pos h] at ih;rw [if_pos (by omega),if_pos (by omega)];omega
      · rw [if_neg h,if_neg h] at ih;rw [if_neg (by omega),if_neg (by omega)];omega
theorem deg_set {m i v:Nat} (hi:i<8) (hv:v<256):deg (setEx m i v)+ex m i=deg m+v:=by
  have h:=degTo_set (m:=m) hi hv 8 (Nat.le_refl _);rwa [if_pos hi,if_pos hi] at h
theorem derivL_len (i:Nat) (p:PL):(derivL i p).length≤p.length:=by
  unfold derivL;rw [List.length_map];exact List.length_filter_le _ _
theorem derivL_words (i:Nat) (p:PL):Words (derivL i p):=fun t ht=>by
  obtain ⟨u,hu,rfl⟩:=List.mem_map.1 ht;exact setEx_lt _ _ (by have:=ex_lt u.1 i;omega)
theorem derivL_deg {i:Nat} {p:PL} (hi:i<8) (h:∀ t ∈ p,deg t.1≤40):∀ t ∈ derivL i p,deg t.1≤40:=fun t ht=>by
  obtain ⟨u,hu,rfl⟩:=List.mem_map.1 ht;have h0:=(List.mem_filter.1 hu);have h1:=deg_set (m:=u.1) (v:=ex u.1 i - 1) hi (by have:=ex_lt u.1 i;omega);have h2:=h u h0.1;show deg (setEx u.1 i (ex u.1 i - 1))≤40;omega
theorem nfOf_self {p:PL} (h:NF p):nfOf p=p:=nf_ext (nf_nfOf _) h fun k=>cf_nfOf k _
theorem derivL_nf {i:Nat} {p:PL} (hi:i<8) (hw:Words p) (h:NF p):NF (derivL i p):=by
  rw [← derivP_eq hi hw];refine ⟨?_,fun t ht=>?_⟩
  · unfold derivP;rw [List.pairwise_map];refine (h.desc.filter _).imp_of_mem fun {a b} ha hb hab=>?_
    have h1:=ex_pow (of_decide_eq_true (List.mem_filter.1 hb).2);show b.1 - _<a.1 - _;omega
  · obtain ⟨u,hu,rfl⟩:=List.mem_map.1 ht;have h0:=List.mem_filter.1 hu;have h1:0<ex u.1 i:=of_decide_eq_true h0.2;show u.2*_≠0;intro e;rcases Rat.mul_eq_zero.1 e with e | e
    · exact h.nz u h0.1 e
    · have:((ex u.1 i:Nat):Int)=0:=Rat.intCast_inj.1 (by simpa using e);omega
theorem wfits_four {q:Rat} (h1:q.num.natAbs<4294967296 ^ 4) (h2:q.den<4294967296 ^ 4):WFits q 200:=by
  have e:(4294967296:Nat) ^ 4≤4294967296 ^ 200:=Nat.pow_le_pow_right (by omega) (by omega);exact ⟨Nat.lt_of_lt_of_le h1 e,.inr (Nat.lt_of_lt_of_le h2 e)⟩
theorem mul_int_parts (q:Rat) (d:Nat):(q*(((d:Nat):Int):Rat)).num.natAbs≤q.num.natAbs*d∧(q*(((d:Nat):Int):Rat)).den≤q.den:=by
  have e:q*(((d:Nat):Int):Rat)=mkRat (q.num*(d:Int)) q.den:=by
    conv=>lhs;rw [← Rat.mkRat_self q]
    rw [← Rat.mkRat_one ((d:Nat):Int),Rat.mkRat_mul_mkRat,Nat.mul_one]
  obtain ⟨x,hx⟩:∃ x,q*(((d:Nat):Int):Rat)=x:=⟨_,rfl⟩;rw [hx] at e ⊢;obtain ⟨m,hm,h1,h2⟩:=Rat.mkRat_num_den (n':=x.num) (d':=x.den) (z':=x.den_nz) (c:=x.reduced) (Nat.pos_iff_ne_zero.1 q.den_pos) e.symm;have h3:q.num.natAbs*d=x.num.natAbs*m:=by
    have:=congrArg Int.natAbs h1;rw [Int.natAbs_mul,Int.natAbs_mul] at this;simpa using this
  constructor
  · rw [h3];exact Nat.le_mul_of_pos_right _ (Nat.pos_of_ne_zero hm)
  · rw [h2];exact Nat.le_mul_of_pos_right _ (Nat.pos_of_ne_zero hm)
def OneW (p:PL):Prop:=∀ t ∈ p,t.2.num.natAbs<18446744073709551616∧t.2.den<18446744073709551616
theorem derivL_fits {i:Nat} {p:PL} (hi:i<8) (h:∀ t ∈ p,deg t.1≤40) (hw:Words p) (ho:OneW p):∀ t ∈ derivL i p,TFits t.1 t.2:=fun t ht=>by
  refine ⟨derivL_deg hi h t ht,?_⟩;rw [← derivP_eq hi hw] at ht;obtain ⟨u,hu,rfl⟩:=List.mem_map.1 ht;have h0:=List.mem_filter.1 hu;have hx:=ex_lt u.1 i;obtain ⟨b1,b2⟩:=ho u h0.1;obtain ⟨a1,a2⟩:=mul_int_parts u.2 (ex u.1 i);have h3:u.2.num.natAbs*ex u.1 i≤18446744073709551616*256:=Nat.mul_le_mul (by omega) (by omega);exact wfits_four (Nat.lt_of_le_of_lt a1 (Nat.lt_of_le_of_lt h3 (by decide))) (Nat.lt_of_le_of_lt a2 (Nat.lt_trans b2 (by decide)))
theorem pderiv (n i:Nat) (A:Option Addr) (c:Nat) (ms:List MM) (P:PL) (w:World) (ha:ARd w A ms (up n P)) (hP:PIn n P) (hi:i<n) (ho:OneW P) :
    Calls Tryz.prog 30 #[.agg #[.int .i64 n,.slice A ms.length c],.int .i64 i] w (StoreOk n (derivL i P) w):=by
  have hi8:i<8:=Nat.lt_of_lt_of_le hi hP.nv;have hd:∀ t ∈ P,deg t.1≤40:=fun t ht=>(hP.fits t ht).1
  have h:=pderiv_of n i A c ms P w ha hP hi (fun t ht he=>?_) (by rw [derivP_eq hi8 hP.words];exact derivL_words i P) (by rw [derivP_eq hi8 hP.words];exact derivL_fits hi8 hd hP.words ho)
  · rwa [derivP_eq hi8 hP.words] at h
  · have hx:=ex_lt t.1 i;refine mulOk_word (hP.nf.nz t ht) (fun e=>?_) (ho t ht).1 (ho t ht).2 ?_ ?_
    · have:((ex t.1 i:Nat):Int)=0:=Rat.intCast_inj.1 (by simpa using e);omega
    · rw [Rat.num_intCast,Int.natAbs_natCast];omega
    · rw [Rat.den_intCast];omega
end Go.Proofs.YtgekmfcbbjeahaaGreatDoor
/- poly.Const of a number of one word; Coef and Deriv refused. -/
attribute [local go_sem ↓] Go.wp_at_zero Go.wp_at_succ
namespace Go.Proofs.YtgekmfcbbjeahaaGreatDoor
open Go.RowKit V
theorem mulOk_one_word {q:Rat} (h1:q.num.natAbs<18446744073709551616) (h2:q.den<18446744073709551616):MulOk 1 q:=by
  by_cases h0:q=0
  · subst h0;have:=mulOk_int 1 0 (by decide) (by decide) (by decide);simpa using this
  · exact mulOk_word (by decide) h0 (by decide) (by decide) h1 h2
theorem pconst_word (n:Nat) (a:RL) (q:Rat) (w:World) (ha:a.Is w q) (l1:a.ns.length≤200) (l2:a.ds.length≤200) (hn:n≤8) (h1:q.num.natAbs<18446744073709551616) (h2:q.den<18446744073709551616) :
    Calls Tryz.prog 25 #[.int .i64 n,.agg #[.bool a.s,.slice a.N a.ns.length a.nc,.slice a.D a.ds.length a.dc]] w (StoreOk n (scaleL [(0,1)] q) w):=
  pconst n a q w ha l1 l2 hn (mulOk_one_word h1 h2) ⟨by decide,wfits_four (Nat.lt_trans h1 (by decide)) (Nat.lt_trans h2 (by decide))⟩
set_option maxRecDepth 100000 in
set_option maxHeartbeats 400000 in
theorem pderiv_range (n:Nat) (i:Int) (A:Option Addr) (c:Nat) (ms:List MM) (P:PL) (w:World) (ha:ARd w A ms (up n P)) (hP:PIn n P) (hi:¬ (0≤i∧i<n)) :
    Calls Tryz.prog 30 #[.agg #[.int .i64 n,.slice A ms.length c],.int .i64 i] w (PolyErr 1 w):=by
  have hb0:Below w.heap.size w ((w.alloc (.cells #[.int .i64 n,.slice A ms.length c] 24)).alloc (.cells #[.int .i64 0,.slice none 0 0] 24)):=((Below.refl _ _).alloc (Nat.le_refl _) _).alloc (by simp) _;have k1:Blk2c 24 ((w.alloc (.cells #[.int .i64 n,.slice A ms.length c] 24)).alloc (.cells #[.int .i64 0,.slice none 0 0] 24)) (w.heap.size+1) (.int .i64 0) (.slice none 0 0):=by
    have:=Blk2c.new 24 (w.alloc (.cells #[.int .i64 n,.slice A ms.length c] 24)) (.int .i64 0) (.slice none 0 0);simpa using this
  have HCV:=Lib.hid (pcheckVar n i 1 A c ms _ _ (ha.raw.below hb0) (ha.val hP) (by rw [if_neg hi]));clear hi;go_enter Tryz.func30,Tryz.ntmps30;go_wp2_with fail;refine HCV.out.mono ?_;rintro e w1 ⟨rfl,hb1⟩;have hb2:=hb0.trans (hb1.mono hb0.size);obtain ⟨p0,p1,p2,p3,p4⟩:=(k1.below hb1).facts;clear k1;go_wp2_with fail;refine bodyPost_ret (v:=.tuple #[.agg #[.int .i64 0,.slice none 0 0],.int .i64 1]) (by simp [results,Tryz.results30,go_sem,p0,p1]) rfl ?_;exact ⟨rfl,(hb2.setCell (Nat.le_succ _) _).setCell (Nat.le_succ _) _⟩
set_option maxRecDepth 100000 in
set_option maxHeartbeats 400000 in
theorem pcoef_range (n:Nat) (i k:Int) (A:Option Addr) (c:Nat) (ms:List MM) (P:PL) (w:World) (ha:ARd w A ms (up n P)) (hP:PIn n P) (hi:¬ (0≤i∧i<n)) :
    Calls Tryz.prog 29 #[.agg #[.int .i64 n,.slice A ms.length c],.int .i64 i,.int .i64 k] w (PolyErr 1 w):=by
  have hb0:Below w.heap.size w ((w.alloc (.cells #[.int .i64 n,.slice A ms.length c] 24)).alloc (.cells #[.int .i64 0,.slice none 0 0] 24)):=((Below.refl _ _).alloc (Nat.le_refl _) _).alloc (by simp) _;have k1:Blk2c 24 ((w.alloc (.cells #[.int .i64 n,.slice A ms.length c] 24)).alloc (.cells #[.int .i64 0,.slice none 0 0] 24)) (w.heap.size+1) (.int .i64 0) (.slice none 0 0):=by
    have:=Blk2c.new 24 (w.alloc (.cells #[.int .i64 n,.slice A ms.length c] 24)) (.int .i64 0) (.slice none 0 0);simpa using this
  have HCV:=Lib.hid (pcheckVar n i 1 A c ms _ _ (ha.raw.below hb0) (ha.val hP) (by rw [if_neg hi]));clear hi;go_enter Tryz.func29,Tryz.ntmps29;go_wp2_with fail;refine HCV.out.mono ?_;rintro e w1 ⟨rfl,hb1⟩;have hb2:=hb0.trans (hb1.mono hb0.size);obtain ⟨p0,p1,p2,p3,p4⟩:=(k1.below hb1).facts;clear k1;go_wp2_with fail;refine bodyPost_ret (v:=.tuple #[.agg #[.int .i64 0,.slice none 0 0],.int .i64 1]) (by simp [results,Tryz.results29,go_sem,p0,p1]) rfl ?_;exact ⟨rfl,(hb2.setCell (Nat.le_succ _) _).setCell (Nat.le_succ _) _⟩
set_option maxRecDepth 100000 in
set_option maxHeartbeats 400000 in
theorem pcoef_neg (n i:Nat) (k:Int) (A:Option Addr) (c:Nat) (ms:List MM) (P:PL) (w:World) (ha:ARd w A ms (up n P)) (hP:PIn n P) (hi:i<n) (hk:k<0) :
    Calls Tryz.prog 29 #[.agg #[.int .i64 n,.slice A ms.length c],.int .i64 i,.int .i64 k] w (PolyErr 1 w):=by
  have hb0:Below w.heap.size w ((w.alloc (.cells #[.int .i64 n,.slice A ms.length c] 24)).alloc (.cells #[.int .i64 0,.slice none 0 0] 24)):=((Below.refl _ _).alloc (Nat.le_refl _) _).alloc (by simp) _;have k1:Blk2c 24 ((w.alloc (.cells #[.int .i64 n,.slice A ms.length c] 24)).alloc (.cells #[.int .i64 0,.slice none 0 0] 24)) (w.heap.size+1) (.int .i64 0) (.slice none 0 0):=by
    have:=Blk2c.new 24 (w.alloc (.cells #[.int .i64 n,.slice A ms.length c] 24)) (.int .i64 0) (.slice none 0 0);simpa using this
  have HCV:=Lib.hid (pcheckVar n i 0 A c ms _ _ (ha.raw.below hb0) (ha.val hP) (by rw [if_pos (by omega)]));go_enter Tryz.func29,Tryz.ntmps29;go_wp2_with fail;refine HCV.out.mono ?_;rintro e w1 ⟨rfl,hb1⟩;have hb2:=hb0.trans (hb1.mono hb0.size);obtain ⟨p0,p1,p2,p3,p4⟩:=(k1.below hb1).facts;clear k1;go_wp2_with fail;refine bodyPost_ret (v:=.tuple #[.agg #[.int .i64 0,.slice none 0 0],.int .i64 1]) (by simp [results,Tryz.results29,go_sem,p0,p1]) rfl ?_;exact ⟨rfl,(hb2.setCell (Nat.le_succ _) _).setCell (Nat.le_succ _) _⟩
end Go.Proofs.YtgekmfcbbjeahaaGreatDoor
/- isochroneref03.put of a zero, and Const of zero. -/
attribute [local go_sem ↓] Go.wp_at_zero Go.wp_at_succ
namespace Go.Proofs.YtgekmfcbbjeahaaGreatDoor
open Go.RowKit V
theorem RL.Ref.nzero {w:World} {a:RL} (h:a.Ref w 0):a.ns.length=0:=by
  rcases Nat.eq_zero_or_pos a.ns.length with h0 | h0
  · exact h0
  · exfalso;have h1:=VD_pos h.mn h0;rw [h.q.2.1] at h1;exact absurd h1 (by decide)
set_option maxRecDepth 100000 in
set_option maxHeartbeats 3200000 in
theorem pput_zero (E0 E1 E2 E3 E4 E5 E6 E7:Int) (L:Nat) (a:RL) (w:World) (ha:a.Ref w 0) :
    Calls Tryz.prog 63 #[.slice none 0 0,.agg #[.int .i64 E0,.int .i64 E1,.int .i64 E2,.int .i64 E3,.int .i64 E4,.int .i64 E5,.int .i64 E6,.int .i64 E7],.agg #[.bool a.s,.slice a.N a.ns.length a.nc,.slice a.D a.ds.length a.dc]] w (QP L [] w):=by
  have hnz:=ha.nzero;have HS:=Lib.hid (fun W=>rsign a.s a.N a.D a.ns.length a.nc a.ds.length a.dc W);have hS:sgnI a.s a.ns.length=0:=by unfold sgnI;rw [if_pos hnz]
  rw [hS] at HS;clear ha hS hnz;have kc:=BlkT.new 46 (w.alloc (.cells #[.int .i64 E0,.int .i64 E1,.int .i64 E2,.int .i64 E3,.int .i64 E4,.int .i64 E5,.int .i64 E6,.int .i64 E7] 80)) (.bool a.s) (.slice a.N a.ns.length a.nc) (.slice a.D a.ds.length a.dc);have hb2:Below w.heap.size w ((w.alloc (.cells #[.int .i64 E0,.int .i64 E1,.int .i64 E2,.int .i64 E3,.int .i64 E4,.int .i64 E5,.int .i64 E6,.int .i64 E7] 80)).alloc (.cells #[.bool a.s,.slice a.N a.ns.length a.nc,.slice a.D a.ds.length a.dc] 46)):=((Below.refl _ _).alloc (Nat.le_refl _) _).alloc (by simp) _;go_enter Tryz.func63,Tryz.ntmps63;go_wp2_with fail;refine (HS.out _).mono ?_;rintro e w3 ⟨rfl,hb3⟩;go_wp2_with fail;go_ret;exact ⟨none,0,[],rfl,Nat.le_refl _,⟨QRd.nil_,QHolds.nil_ _ _⟩,hb2.trans (hb3.mono hb2.size)⟩
set_option maxRecDepth 100000 in
set_option maxHeartbeats 3200000 in
theorem pconstR0 (L:Nat) (a:RL) (w:World) (ha:a.Ref w 0) :
    Calls Tryz.prog 27 #[.agg #[.bool a.s,.slice a.N a.ns.length a.nc,.slice a.D a.ds.length a.dc]] w (QP L [] w):=by
  have hb1:Below w.heap.size w (w.alloc (.cells #[.bool a.s,.slice a.N a.ns.length a.nc,.slice a.D a.ds.length a.dc] 46)):=(Below.refl _ _).alloc (Nat.le_refl _) _;have HP:=Lib.hid (pput_zero 0 0 0 0 0 0 0 0 L a _ (ha.below hb1));clear ha;go_enter Tryz.func27,Tryz.ntmps27;go_wp2_with fail;refine HP.out.mono ?_;rintro e w2 ⟨X,xc,ts,rfl,hxc,hx,hb2⟩;go_wp2_with fail;go_ret;exact ⟨X,xc,ts,rfl,hxc,hx,hb1.trans (hb2.mono hb1.size)⟩
end Go.Proofs.YtgekmfcbbjeahaaGreatDoor
/- A slice of slices of terms, each owned: its cells, and one of them appended to. -/
namespace Go.Proofs.YtgekmfcbbjeahaaGreatDoor
open Go.RowKit V
def VRow (w:World) (g:Nat) (vs:List Value):Prop:=w.heap[g]?=some (.cells vs.toArray 85 (0,0))
section
variable {w w':World} {g:Nat} {vs:List Value}
theorem VRow.lt (h:VRow w g vs):g<w.heap.size:=by
  rcases Nat.lt_or_ge g w.heap.size with hlt | hge
  · exact hlt
  · unfold VRow at h;rw [Array.getElem?_eq_none hge] at h;cases h
theorem VRow.below (h:VRow w g vs) (hb:Below w.heap.size w w'):VRow w' g vs:=(hb.block g h.lt).trans h
theorem VRow.cell (h:VRow w g vs) {k:Nat} {x:Value} (hk:vs[k]?=some x):w.cell? ⟨g,k,none⟩=some x:=by
  rw [cell_of_row w g _ _ _ (0,0) h,List.getElem?_toArray,hk]
theorem VRow.frozen (h:VRow w g vs) (k:Nat):w.frozen? ⟨g,k,none⟩=false:=by
  unfold VRow at h;simp [World.frozen?,h]
theorem VRow.set_ (h:VRow w g vs) (k:Nat) (x:Value):VRow (w.setCell ⟨g,k,none⟩ x) g (vs.set k x):=by
  unfold VRow at h ⊢;simp [World.setCell,Array.getElem?_modify,h]
theorem VRow.grown {row:Option Nat} (h:VRow w g vs) (hg:w.grownBy w' row) (hne:row≠some g):VRow w' g vs:=(hg.block g h.lt (fun e=>hne e.symm)).trans h
theorem VRow.ty (h:VRow w g vs):HasT w g 85:=⟨_,_,h⟩
end
theorem info_terms:(Tryz.prog.info? 85).map (fun i=>(i.zero,i.size,i.bytes))=some (some (.slice none 0 0),1,24):=by kernel_rfl
theorem make_rows (n:Nat) (N:Int) (hN:N=n) (hn:n≤1000000) (w:World) :
    (Instr.makeSlice 110 (.int .i64 N) (.int .i64 N)).run Tryz.prog w = .ok (.slice (some ⟨w.heap.size,0,none⟩) n n) (w.alloc (.cells (List.replicate n (Value.slice none 0 0)).toArray 85)):=by
  subst hN;obtain ⟨i0,hi,hz0,hz1,hz2⟩:=info_parts info_terms;have hr:=run_make (P:=Tryz.prog) w 110 85 i0 _ Tryz.underlying110 hi hz0 .i64 .i64 n n (by omega) (by omega) (by rw [hz2];omega) (by omega);have e:madeCells (Value.cells (.slice none 0 0)) (n*1)=(List.replicate n (Value.slice none 0 0)).toArray:=by
    apply Array.toList_inj.1;rw [show Value.cells (.slice none 0 0) = #[.slice none 0 0] from rfl,Nat.mul_one,toList_madeCells_one]
  rw [hr,Int.toNat_natCast,hz1,e]
structure GM (B g:Nat) (w:World) (vs:List Value) (us:List (List TM)):Prop where
  row:VRow w g vs
  len:vs.length=us.length
  own:∀ (j:Nat) (v:Value) (u:List TM),vs[j]?=some v→us[j]?=some u→OwnT B w v u
  far:∀ (j k:Nat) (v x:Value),vs[j]?=some v→vs[k]?=some x→j≠k→v.ownBlock=none∨v.ownBlock≠x.ownBlock
theorem GM.below {B g:Nat} {w w':World} {vs:List Value} {us:List (List TM)} (h:GM B g w vs us) (hb:Below w.heap.size w w'):GM B g w' vs us:=
  ⟨h.row.below hb,h.len,fun j v u hv hu=>(h.own j v u hv hu).below hb,h.far⟩
theorem GM.new {w:World} (n:Nat):GM (w.heap.size+1) w.heap.size (w.alloc (.cells (List.replicate n (Value.slice none 0 0)).toArray 85)) (List.replicate n (Value.slice none 0 0)) (List.replicate n []):=by
  refine ⟨heap_alloc_new w _,by simp,fun j v u hv hu=>?_,fun j k v x hv hx hne=>.inl ?_⟩
  · rw [List.getElem?_replicate] at hv hu;split at hv
    · obtain rfl:=Option.some.inj hv;rw [if_pos (by assumption)] at hu;obtain rfl:=Option.some.inj hu;exact OwnT.nil_ _ _
    · cases hv
  · rw [List.getElem?_replicate] at hv;split at hv
    · obtain rfl:=Option.some.inj hv;rfl
    · cases hv
theorem GM.step {B g e gg cap : Nat} {w w' : World} {vs : List Value} {us : List (List TM)} {v : Value} {u u' : List TM} (h : GM B g w vs us) (hB : g < B) (hv : vs[e]? = some v) (hu : us[e]? = some u)
    (hg:w.grownBy w' v.ownBlock) (ho:OwnT B w' (.slice (some ⟨gg,0,none⟩) u'.length cap) u') (hat:v.ownBlock=some gg∨w.heap.size≤gg) :
    GM B g (w'.setCell ⟨g,e,none⟩ (.slice (some ⟨gg,0,none⟩) u'.length cap)) (vs.set e (.slice (some ⟨gg,0,none⟩) u'.length cap)) (us.set e u'):=by
  have hne:v.ownBlock≠some g:=fun hh=>by have:=(World.ownsRow.lt (h.own e v u hv hu) _ hh).1;omega
  have hlt:=(List.getElem?_eq_some_iff.1 hv).1;have hset:∀ {x:Value} {y:List TM},OwnT B w' x y→OwnT B (w'.setCell ⟨g,e,none⟩ (.slice (some ⟨gg,0,none⟩) u'.length cap)) x y:=fun {x y} hx=>
    ownsRow_set hx (fun q hq=>by have:=(World.ownsRow.lt hx q hq).1;omega) _ _
  have hold:∀ (j:Nat) (x:Value),j≠e→vs[j]?=some x→x.ownBlock=none∨x.ownBlock≠some gg:=fun j x hj hx=>by
    cases hxo:x.ownBlock with
    | none=>exact .inl rfl
    | some q =>
      right;rcases hat with ha | ha
      · rcases h.far j e x v hx hv hj with hf | hf
        · rw [hxo] at hf;cases hf
        · rw [hxo,ha] at hf;exact hf
      · have hjl:=(List.getElem?_eq_some_iff.1 hx).1;obtain ⟨y,hy⟩:∃ y,us[j]?=some y:=⟨_,List.getElem?_eq_getElem (by rw [← h.len];exact hjl)⟩;have:=(World.ownsRow.lt (h.own j x y hx hy) q hxo).2;intro hh;have:=Option.some.inj hh;omega
  refine ⟨(h.row.grown hg hne).set_ e _,by rw [List.length_set,List.length_set];exact h.len,fun j x y hx hy=>?_,fun j k x y hx hy hjk=>?_⟩
  · by_cases hj:j=e
    · subst hj;rw [List.getElem?_set_self hlt] at hx;rw [List.getElem?_set_self (by rw [← h.len];exact hlt)] at hy;obtain rfl:=Option.some.inj hx;obtain rfl:=Option.some.inj hy;exact hset ho
    · rw [List.getElem?_set_ne (Ne.symm hj)] at hx hy;exact hset (World.ownsRow.kept (h.own j x y hx hy) hg (h.far j e x v hx hv hj))
  · by_cases hj:j=e
    · subst hj;rw [List.getElem?_set_self hlt] at hx;rw [List.getElem?_set_ne hjk] at hy;obtain rfl:=Option.some.inj hx;right;intro hh;rcases hold k y (Ne.symm hjk) hy with hf | hf
      · rw [hf] at hh;cases hh
      · exact hf (hh.symm)
    · rw [List.getElem?_set_ne (Ne.symm hj)] at hx
      by_cases hk:k=e
      · subst hk;rw [List.getElem?_set_self hlt] at hy;obtain rfl:=Option.some.inj hy;exact hold j x hj hx
      · rw [List.getElem?_set_ne (Ne.symm hk)] at hy;exact h.far j k x y hx hy hjk
def coefP (i k:Nat) (p:PL):PL:=(p.filter fun t=>decide (ex t.1 i=k)).map fun t=>(t.1 - k*256 ^ (7 - i),t.2)
theorem coefP_yes {i k j:Nat} {p:PL} {t:Nat × Rat} (h:p[j]?=some t) (he:ex t.1 i=k):coefP i k (p.take (j+1))=coefP i k (p.take j) ++ [(t.1 - k*256 ^ (7 - i),t.2)]:=by
  rw [take_snoc' h];unfold coefP;rw [List.filter_append,List.map_append];congr 1;simp [he]
theorem coefP_no {i k j:Nat} {p:PL} {t:Nat × Rat} (h:p[j]?=some t) (he:¬ ex t.1 i=k):coefP i k (p.take (j+1))=coefP i k (p.take j):=by
  rw [take_snoc' h];unfold coefP;rw [List.filter_append,List.map_append];simp [he]
theorem maxTo_ge {f:Nat→Nat} {p:PL} {j:Nat} {t:Nat × Rat} (h:p[j]?=some t):∀ k,j<k→(f t.1:Int)≤maxTo f p k
  | 0,hk=>by omega
  | k + 1, hk => by
    simp only [maxTo]
    by_cases e:j=k
    · subst e;rw [h];exact Int.le_max_right _ _
    · have:=maxTo_ge (f:=f) h k (by omega);omega
end Go.Proofs.YtgekmfcbbjeahaaGreatDoor
