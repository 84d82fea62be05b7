/- poly.coefficients. -/
import Derived.Test.YtgekmfcbbjeahaaGreatDoorPpR42
attribute [local go_sem ↓] Go.wp_at_zero Go.wp_at_succ
namespace Go.Proofs.YtgekmfcbbjeahaaGreatDoor
open Go.RowKit V
def CoefsP (i D:Nat) (p:PL) (w:World) (e:Ending) (w':World):Prop:=
  ∃ (g:Nat) (vs:List Value) (us:List (List TM)),e = .returned (.slice (some ⟨g,0,none⟩) D D)∧vs.length=D∧GM (g+1) g w' vs us∧(∀ (j:Nat) (u:List TM),us[j]?=some u→THolds w' u (coefP i j p)∧u.length≤p.length)∧Below w.heap.size w w'
set_option maxRecDepth 100000 in
set_option maxHeartbeats 6400000 in
theorem pcoefs (A : Option Addr) (c i D : Nat) (ts : List TM) (p : PL) (w : World) (hx : PRd w A ts p) (bx : ts.length ≤ 4000) (hm : Words p) (hi : i ≤ 7) (hD : maxTo (exAt i) p p.length + 1 = (D : Int)) :
    Calls Tryz.prog 74 #[.slice A ts.length c,.int .i64 i] w (CoefsP i D p w):=by
  have HM:=Lib.hid hm;have HL:=Lib.hid hx.hs.1;have HX:=Lib.hid hx;have HGE:=Lib.hid fun (j:Nat) (t:Nat × Rat) (h:p[j]?=some t) (hj:j<p.length)=>maxTo_ge (f:=exAt i) h p.length hj
  have hml:=maxTo_le (exAt i) p 255 (exAt_le i) p.length;have HDI:=Lib.hid (pdegreeIn A c ts p i w hx (by omega) hm hi);obtain ⟨M,hM⟩:∃ M,maxTo (exAt i) p p.length=M:=⟨_,rfl⟩;rw [hM] at hD HGE hml HDI;have hwr:IntKind.i64.wrap (M+1)=(D:Int):=by rw [hD];exact IntWalk.i64_in _ (by omega)
  have hDl:D≤256:=by omega
  have hmk:=fun W=>make_rows D (D:Int) rfl (by omega) W
  have HMD:=Lib.hid hD;clear hM hD hm hx;go_enter Tryz.func74,Tryz.ntmps74;go_wp2_with fail;refine HDI.out.mono ?_;rintro e w1 ⟨rfl,hb1⟩;clear HDI;go_wp2;clear hmk hwr hml;go_loopw [7,8,16] (fun _ _ si wr=>∃ (k:Nat) (vs:List Value) (us:List (List TM)),k≤ts.length∧si = .int .i64 k∧vs.length=D∧GM (w1.heap.size+1) w1.heap.size wr vs us∧Hid (∀ (j:Nat) (u:List TM),us[j]?=some u→THolds wr u (coefP i j (p.take k))∧u.length≤k)∧Below w1.heap.size w1 wr) (fun _ _ si _=>ts.length - (intOf si).toNat)
  case atStart=>
    refine ⟨0,List.replicate D (.slice none 0 0),List.replicate D [],by omega,rfl,by simp,GM.new D,?_,(Below.refl _ _).alloc (Nat.le_refl _) _⟩;show ∀ _,_;intro j u hu;rw [List.getElem?_replicate] at hu;split at hu
    · obtain rfl:=Option.some.inj hu;exact ⟨THolds.nil _,by simp⟩
    · cases hu
  case round=>
    obtain ⟨k,vs,us,hk,rfl,hvl,hgm,hus,hbw⟩:=hrel;have hbw0:=hb1.trans (hbw.mono hb1.size)
    by_cases hlt:k<ts.length
    · obtain ⟨ad,t,rfl,hb,ht,hc⟩:=(HX.out.below hbw0).rd.ask hlt;obtain ⟨m,q,hp,hme,htc,htl1,htl2⟩:=(HX.out.below hbw0).hs.2 k t ht.out;subst hme;have hdl:((exAt i t.e:Nat):Int)≤M:=HGE.out k _ hp (by rw [← HL.out];exact hlt);have HP:=Lib.hid hp;have htl:t.e<18446744073709551616:=HM.out _ (getD_mem hp);have HPE:=Lib.hid fun W=>pexponent t.e i W hi htl
      have kt:=Blk4.new 115 wr (.int .u64 t.e) (.bool t.c.s) (.slice t.c.N t.c.ns.length t.c.nc) (.slice t.c.D t.c.ds.length t.c.dc);have hbt:Below wr.heap.size wr (wr.alloc (.cells #[.int .u64 t.e,.bool t.c.s,.slice t.c.N t.c.ns.length t.c.nc,.slice t.c.D t.c.ds.length t.c.dc] 115)):=(Below.refl _ _).alloc (Nat.le_refl _) _;have hel:=ex_lt t.e i;obtain ⟨c0,c1,c2,c3⟩:=hc;clear ht hp;go_wp2_with fail;obtain ⟨w3,hw3⟩:∃ x,wr.alloc (.cells #[.int .u64 t.e,.bool t.c.s,.slice t.c.N t.c.ns.length t.c.nc,.slice t.c.D t.c.ds.length t.c.dc] 115)=x:=⟨_,rfl⟩;rw [hw3] at kt hbt ⊢;clear hw3 c0 c1 c2 c3 hb;refine (HPE.out _).mono ?_;rintro e wq ⟨rfl,rfl⟩;have HTC:=Lib.hid (htc.below hbt);have HW3:=Lib.hid (hbw.trans (hbt.mono hbw.size));have hge:ex t.e i*256 ^ (7 - i)≤t.e:=Nat.le_trans (Nat.mul_le_mul (Nat.mod_le _ _) (Nat.le_refl _)) (Nat.div_mul_le_self _ _);obtain ⟨d,hd⟩:∃ d,ex t.e i=d:=⟨_,rfl⟩;have hdM:((d:Nat):Int)≤M:=by rw [← hd];exact hdl
      have hdD:d<D:=by have:=HMD.out;omega
      rw [hd] at hge hel ⊢;have HPW0:=ppower i d;obtain ⟨x,hxx⟩:∃ x,d*256 ^ (7 - i)=x:=⟨_,rfl⟩;rw [hxx] at hge HPW0;have HPW:=Lib.hid fun W=>HPW0 W hi hel
      obtain ⟨y,hy⟩:∃ y,t.e - x=y:=⟨_,rfl⟩;have hsub:(t.e:Int) - (x:Int)=(y:Int):=by omega
      have hwy:IntKind.u64.wrap ((t.e:Int) - (x:Int))=(y:Int):=by rw [hsub];exact IntWalk.u64_in _ (by omega)
      have HYE:Hid (t.e - d*256 ^ (7 - i)=y):=by show _=_;rw [hxx];exact hy
      have HDE:=Lib.hid hd;obtain ⟨v,hv⟩:∃ v,vs[d]?=some v:=⟨_,List.getElem?_eq_getElem (by omega)⟩;obtain ⟨u,hu⟩:∃ u,us[d]?=some u:=⟨_,List.getElem?_eq_getElem (by rw [← hgm.len];omega)⟩;have hgm3:=hgm.below hbt;have HGM:=Lib.hid hgm3;have HROW:=Lib.hid hgm3.row;have HV:=Lib.hid hv;have HUU:=Lib.hid hu;have HOWN:=Lib.hid (hgm3.own d v u hv hu);have hul:=(hus.out d u hu).2;have hws:=HW3.out.size;have hwrs:=hbw.size;have hktw:=kt.lt;have hovl:v.ownBlock≠some wr.heap.size:=fun e=>by have:=(World.ownsRow.lt (hgm.own d v u hv hu) _ e).2;omega
      have hovg:v.ownBlock≠some w1.heap.size:=fun e=>by have:=(World.ownsRow.lt (hgm.own d v u hv hu) _ e).1;omega
      have HUS:Hid (∀ (j:Nat) (u:List TM),us[j]?=some u→THolds w3 u (coefP i j (p.take k))∧u.length≤k):=by
        show ∀ _,_;exact fun j u hu=>⟨((hus.out j u hu).1).below hbt,(hus.out j u hu).2⟩
      have hk0:(0:Int)≤(d:Int):=Int.natCast_nonneg _;have hk1:(d:Int)<(D:Int):=by omega
      have hfr:=HROW.out.frozen d;obtain ⟨a0,a1,a2,a3,a4,a5,a6,a7,a8⟩:=kt.facts;have hcell:=HROW.out.cell hv;have hgl:=hgm.row.lt;have hne1:¬ wr.heap.size=w1.heap.size:=by omega
      have hne2:¬ w1.heap.size=wr.heap.size:=by omega
      clear hsub hy hge hxx hd HPW0 hdl hdM hv hu hgm hgm3 hus htc hbt HPE hbw hbw0;obtain ⟨i0,hi0,hz0_,hz1_,hz2_⟩:=info_parts info_term;go_upto_region 6 with fail;refine wp_region_last 18 (S:=fun w'=>w'.cell? ⟨wr.heap.size,0,none⟩=some (.int .u64 t.e)∧w'.cell? ⟨wr.heap.size,1,none⟩=some (.bool t.c.s)∧w'.cell? ⟨wr.heap.size,2,none⟩=some (.slice t.c.N t.c.ns.length t.c.nc)∧w'.cell? ⟨wr.heap.size,3,none⟩=some (.slice t.c.D t.c.ds.length t.c.dc)∧w'.cell? ⟨w1.heap.size,d,none⟩=some (v)) (by kernel_rfl) ?_ (fun hHeld=>?_)
      · exact ⟨kt.facts.1,kt.facts.2,kt.facts.3,kt.facts.4,HROW.out.cell HV.out⟩
      refine wpAnyL_take (i:=0) (v:=?v0L1) rfl (by kernel_rfl) (by kernel_rfl) (by kernel_rfl) (fun _ _ _ h=>h) (by kernel_rfl) (by kernel_rfl) (Or.inl ⟨by rfl,?hy0L1⟩) (by assumption) ?rest0L1
      case hy0L1=>
        intro w hSw
        (try dsimp only at hSw)
        go_simp
        all_goals with_reducible rfl
      simp only [Act.put,List.getElem_toArray,List.getElem_cons_zero,List.setIfInBounds_toArray,List.set_cons_zero,List.set_cons_succ];refine wpAnyL_take (i:=1) (v:=?v1L1) rfl (by kernel_rfl) (by kernel_rfl) (by kernel_rfl) (fun _ _ _ h=>h) (by kernel_rfl) (by kernel_rfl) (Or.inl ⟨by rfl,?hy1L1⟩) (by assumption) ?rest1L1
      case hy1L1=>
        intro w hSw
        (try dsimp only at hSw)
        go_simp
        all_goals with_reducible rfl
      simp only [Act.put,List.getElem_toArray,List.getElem_cons_zero,List.getElem_cons_succ,List.setIfInBounds_toArray,List.set_cons_zero,List.set_cons_succ];refine wpAnyL_take (i:=2) (v:=?v2L1) rfl (by kernel_rfl) (by kernel_rfl) (by kernel_rfl) (fun _ _ _ h=>h) (by kernel_rfl) (by kernel_rfl) (Or.inl ⟨by rfl,?hy2L1⟩) (by assumption) ?rest2L1
      case hy2L1=>
        intro w hSw
        (try dsimp only at hSw)
        go_simp
        all_goals with_reducible rfl
      simp only [Act.put,List.getElem_toArray,List.getElem_cons_zero,List.getElem_cons_succ,List.setIfInBounds_toArray,List.set_cons_zero,List.set_cons_succ];refine wpAnyL_take (i:=3) (v:=?v3L1) rfl (by kernel_rfl) (by kernel_rfl) (by kernel_rfl) (fun _ _ _ h=>h) (by kernel_rfl) (by kernel_rfl) (Or.inl ⟨by rfl,?hy3L1⟩) (by assumption) ?rest3L1
      case hy3L1=>
        intro w hSw
        (try dsimp only at hSw)
        go_simp
        all_goals with_reducible rfl
      simp only [Act.put,List.getElem_toArray,List.getElem_cons_zero,List.getElem_cons_succ,List.setIfInBounds_toArray,List.set_cons_zero,List.set_cons_succ];refine wpAnyL_take (i:=4) (v:=?v4L1) rfl (by kernel_rfl) (by kernel_rfl) (by kernel_rfl) (fun _ _ _ h=>h) (by kernel_rfl) (by kernel_rfl) (Or.inl ⟨by rfl,?hy4L1⟩) (by assumption) ?rest4L1
      case hy4L1=>
        intro w hSw
        (try dsimp only at hSw)
        go_simp
        all_goals with_reducible rfl
      simp only [Act.put,List.getElem_toArray,List.getElem_cons_zero,List.getElem_cons_succ,List.setIfInBounds_toArray,List.set_cons_zero,List.set_cons_succ];refine wpAnyL_take (i:=5) (v:=?v5L1) rfl (by kernel_rfl) (by kernel_rfl) (by kernel_rfl) (fun _ _ _ h=>h) (by kernel_rfl) (by kernel_rfl) (Or.inl ⟨by rfl,?hy5L1⟩) (by assumption) ?rest5L1
      case hy5L1=>
        intro w hSw
        (try dsimp only at hSw)
        go_simp
        all_goals with_reducible rfl
      simp only [Act.put,List.getElem_toArray,List.getElem_cons_zero,List.getElem_cons_succ,List.setIfInBounds_toArray,List.set_cons_zero,List.set_cons_succ];refine wpAnyL_take (i:=6) (v:=?v6L1) rfl (by kernel_rfl) (by kernel_rfl) (by kernel_rfl) (fun _ _ _ h=>h) (by kernel_rfl) (by kernel_rfl) (Or.inl ⟨by rfl,?hy6L1⟩) (by assumption) ?rest6L1
      case hy6L1=>
        intro w hSw
        (try dsimp only at hSw)
        go_simp
        all_goals with_reducible rfl
      simp only [Act.put,List.getElem_toArray,List.getElem_cons_zero,List.getElem_cons_succ,List.setIfInBounds_toArray,List.set_cons_zero,List.set_cons_succ];refine wpAnyL_take (i:=7) (v:=?v7L1) rfl (by kernel_rfl) (by kernel_rfl) (by kernel_rfl) (fun _ _ _ h=>h) (by kernel_rfl) (by kernel_rfl) (Or.inl ⟨by rfl,?hy7L1⟩) (by assumption) ?rest7L1
      case hy7L1=>
        intro w hSw
        (try dsimp only at hSw)
        go_simp
        all_goals with_reducible rfl
      simp only [Act.put,List.getElem_toArray,List.getElem_cons_zero,List.getElem_cons_succ,List.setIfInBounds_toArray,List.set_cons_zero,List.set_cons_succ];refine wpAnyL_take (i:=8) (v:=?v8L1) rfl (by kernel_rfl) (by kernel_rfl) (by kernel_rfl) (fun _ _ _ h=>h) (by kernel_rfl) (by kernel_rfl) (Or.inl ⟨by rfl,?hy8L1⟩) (by assumption) ?rest8L1
      case hy8L1=>
        intro w hSw
        (try dsimp only at hSw)
        go_simp
        all_goals with_reducible rfl
      simp only [Act.put,List.getElem_toArray,List.getElem_cons_zero,List.getElem_cons_succ,List.setIfInBounds_toArray,List.set_cons_zero,List.set_cons_succ];refine wpAnyL_take (i:=9) (v:=?v9L1) rfl (by kernel_rfl) (by kernel_rfl) (by kernel_rfl) (fun _ _ _ h=>h) (by kernel_rfl) (by kernel_rfl) (Or.inl ⟨by rfl,?hy9L1⟩) (by assumption) ?rest9L1
      case hy9L1=>
        intro w hSw
        (try dsimp only at hSw)
        go_simp
        all_goals with_reducible rfl
      simp only [Act.put,List.getElem_toArray,List.getElem_cons_zero,List.getElem_cons_succ,List.setIfInBounds_toArray,List.set_cons_zero,List.set_cons_succ];refine wpAnyL_take (i:=12) (v:=?v12L1) rfl (by kernel_rfl) (by kernel_rfl) (by kernel_rfl) (fun _ _ _ h=>h) (by kernel_rfl) (by kernel_rfl) (Or.inl ⟨by rfl,?hy12L1⟩) (by assumption) ?rest12L1
      case hy12L1=>
        intro w hSw
        (try dsimp only at hSw)
        go_simp
        all_goals with_reducible rfl
      simp only [Act.put,List.getElem_toArray,List.getElem_cons_zero,List.getElem_cons_succ,List.setIfInBounds_toArray,List.set_cons_zero,List.set_cons_succ];refine wpAnyL_take (i:=13) (v:=?v13L1) rfl (by kernel_rfl) (by kernel_rfl) (by kernel_rfl) (fun _ _ _ h=>h) (by kernel_rfl) (by kernel_rfl) (Or.inl ⟨by rfl,?hy13L1⟩) (by assumption) ?rest13L1
      case hy13L1=>
        intro w hSw
        (try dsimp only at hSw)
        go_simp
        all_goals with_reducible rfl
      simp only [Act.put,List.getElem_toArray,List.getElem_cons_zero,List.getElem_cons_succ,List.setIfInBounds_toArray,List.set_cons_zero,List.set_cons_succ];refine wpAnyL_next 10 (by kernel_rfl) rfl (fun K hK=>?_);clear hHeld;go_simp;refine (HPW.out _).mono ?_;rintro e' wp ⟨rfl,hwp⟩;have hbp:Below w3.heap.size w3 wp:=by rw [← hwp];exact below_drew_ (Below.refl _ _) 1
      clear hwp;have ktp:=kt.below hbp;have HROWP:=Lib.hid (HROW.out.below hbp);have HOWNP:=Lib.hid (HOWN.out.below hbp);have hps:=hbp.size;have hptl:=ktp.lt;go_wp2_with fail;refine hK.out _ _ ?_ (fun hHeld=>?_)
      · exact ⟨ktp.facts.1,ktp.facts.2,ktp.facts.3,ktp.facts.4,HROWP.out.cell HV.out⟩
      clear hK K
      try simp only [Act.put,List.getElem_toArray,List.getElem_cons_zero,List.getElem_cons_succ,List.setIfInBounds_toArray,List.set_cons_zero,List.set_cons_succ]
      refine wpAnyL_take (i:=11) (v:=?v11L1) rfl (by kernel_rfl) (by kernel_rfl) (by kernel_rfl) (fun _ _ _ h=>h) (by kernel_rfl) (by kernel_rfl) (Or.inl ⟨by rfl,?hy11L1⟩) (by assumption) ?rest11L1
      case hy11L1=>
        intro w hSw
        (try dsimp only at hSw)
        go_simp
        all_goals with_reducible rfl
      simp only [Act.put,List.getElem_toArray,List.getElem_cons_zero,List.getElem_cons_succ,List.setIfInBounds_toArray,List.set_cons_zero,List.set_cons_succ];refine wpAnyL_take (i:=14) (v:=?v14L1) rfl (by kernel_rfl) (by kernel_rfl) (by kernel_rfl) (fun _ _ _ h=>h) (by kernel_rfl) (by kernel_rfl) (Or.inl ⟨by rfl,?hy14L1⟩) (by assumption) ?rest14L1
      case hy14L1=>
        intro w hSw
        (try dsimp only at hSw)
        go_simp
        all_goals with_reducible rfl
      simp only [Act.put,List.getElem_toArray,List.getElem_cons_zero,List.getElem_cons_succ,List.setIfInBounds_toArray,List.set_cons_zero,List.set_cons_succ];refine wpAnyL_next 15 (by kernel_rfl) rfl (fun K hK=>?_);clear hHeld;go_simp;refine hK.out _ _ ?_ (fun hHeld=>?_)
      · exact ⟨(ktp.alloc _).facts.1,(ktp.alloc _).facts.2,(ktp.alloc _).facts.3,(ktp.alloc _).facts.4,(HROWP.out.below ((Below.refl _ _).alloc (Nat.le_refl _) _)).cell HV.out⟩
      clear hK K
      try simp only [Act.put,List.getElem_toArray,List.getElem_cons_zero,List.getElem_cons_succ,List.setIfInBounds_toArray,List.set_cons_zero,List.set_cons_succ]
      refine wpAnyL_next 16 (by kernel_rfl) rfl (fun K hK=>?_);clear hHeld;refine step_append_lies _ rfl _ _ _ rfl (w1.heap.size+1) 115 i0 _ 4 64 Tryz.underlying85 hi0 hz0_ hz1_ hz2_ rfl (by omega) v u.length (flat u) rfl (World.ownsRow.alloc HOWNP.out _)
        ⟨wp.heap.size,0,none⟩ 1 1 [.int .u64 y,.bool t.c.s,.slice t.c.N t.c.ns.length t.c.nc,.slice t.c.D t.c.ds.length t.c.dc] rfl rfl (World.news_of_block (cs:=#[.int .u64 y,.bool t.c.s,.slice t.c.N t.c.ns.length t.c.nc,.slice t.c.D t.c.ds.length t.c.dc]) (t:=115) (fr:=(0,0)) (heap_alloc_new _ _)) (by simp [Value.oneCell'])
        (by omega) (by unfold maxLen;omega) (by omega) (by simp;omega) (wp.heap.size+1) (by simp) ?_
      intro gg cap w4 hown4 hgrow hat hlt4;have kt4:=(ktp.alloc _).grown hgrow hovl;have hrow4:=(HROWP.out.below ((Below.refl _ _).alloc (Nat.le_refl _) _)).grown hgrow hovg;have hcell4:=hrow4.cell HV.out;have hfr4:=hrow4.frozen d;refine hK.out _ _ ?_ (fun hHeld=>?_)
      · exact ⟨kt4.facts.1,kt4.facts.2,kt4.facts.3,kt4.facts.4,hrow4.cell HV.out⟩
      clear hK K
      try simp only [Act.put,List.getElem_toArray,List.getElem_cons_zero,List.getElem_cons_succ,List.setIfInBounds_toArray,List.set_cons_zero,List.set_cons_succ]
      refine wpAnyL_take (i:=17) (v:=?v17L1) rfl (by kernel_rfl) (by kernel_rfl) (by kernel_rfl) (fun _ _ _ h=>h) (by kernel_rfl) (by kernel_rfl) (Or.inl ⟨by rfl,?hy17L1⟩) (by assumption) ?rest17L1
      case hy17L1=>
        intro w hSw
        (try dsimp only at hSw)
        go_simp
        all_goals with_reducible rfl
      simp only [Act.put,List.getElem_toArray,List.getElem_cons_zero,List.getElem_cons_succ,List.setIfInBounds_toArray,List.set_cons_zero,List.set_cons_succ];refine wpAnyL_last (by kernel_rfl) (by kernel_rfl) (by kernel_rfl) rfl (fun K hK=>?_);clear hHeld;go_simp;refine hK.out _ _ ?_;clear hK K
      try simp only [Act.put,List.getElem_toArray,List.getElem_cons_zero,List.getElem_cons_succ,List.setIfInBounds_toArray,List.set_cons_zero,List.set_cons_succ]
      have hoff0:Off wp w4:=((Off.refl wp).alloc _).grown hgrow (fun g hg=>⟨115,by decide,ownsRow_type (World.ownsRow.alloc HOWNP.out _) g hg⟩);have hoff:=hoff0;have hon:OwnT (w1.heap.size+1) w4 (.slice (some ⟨gg,0,none⟩) (u ++ [(⟨y,t.c⟩:TM)]).length cap) (u ++ [(⟨y,t.c⟩:TM)]):=by
        unfold OwnT;rw [flat_snoc,List.length_append];exact hown4
      have hgm4:=((HGM.out.below hbp).below ((Below.refl _ _).alloc (Nat.le_refl _) (.cells #[.int .u64 y,.bool t.c.s,.slice t.c.N t.c.ns.length t.c.nc,.slice t.c.D t.c.ds.length t.c.dc] 115))).step (by omega) HV.out HUU.out hgrow hon (hat.imp_right fun h=>by rw [h];first | exact Nat.le_refl _ | (simp));rw [List.length_append,List.length_singleton] at hgm4;have hoff5:=hoff.setT hrow4.ty (by decide) d (.slice (some ⟨gg,0,none⟩) (u.length+1) cap);have HU5:Hid (∀ (j:Nat) (z:List TM),(us.set d (u ++ [(⟨y,t.c⟩:TM)]))[j]?=some z→THolds (w4.setCell ⟨w1.heap.size,d,none⟩ (.slice (some ⟨gg,0,none⟩) (u.length+1) cap)) z (coefP i j (p.take (k+1)))∧z.length≤k+1):=by
        show ∀ _,_;intro j z hz
        by_cases hj:j=d
        · subst hj;rw [List.getElem?_set_self ((List.getElem?_eq_some_iff.1 HUU.out).1)] at hz;obtain rfl:=Option.some.inj hz;have h1:=HUS.out j u HUU.out;rw [coefP_yes HP.out HDE.out,HYE.out];exact ⟨((h1.1.below hbp).off hoff5).snoc (t:=⟨y,t.c⟩) rfl ((HTC.out.below hbp).off hoff5) htl1 htl2,by rw [List.length_append,List.length_singleton];have:=h1.2;omega⟩
        · rw [List.getElem?_set_ne (Ne.symm hj)] at hz;have h1:=HUS.out j z hz;rw [coefP_no HP.out (fun e=>hj (by rw [← e];exact HDE.out))];exact ⟨(h1.1.below hbp).off hoff5,Nat.le_succ_of_le h1.2⟩
      have HG5:=Lib.hid hgm4;have HW5:Hid (Below w1.heap.size w1 (w4.setCell ⟨w1.heap.size,d,none⟩ (.slice (some ⟨gg,0,none⟩) (u.length+1) cap))):=(HW3.out.trans ((hbp.mono hws).trans (((Below.refl _ _).alloc (by omega) _).grown hgrow (by simp;omega) fun g hg=>by have:=(World.ownsRow.lt HOWN.out g hg).1;omega))).setCell (Nat.le_refl _) _;have hvl5:(vs.set d (.slice (some ⟨gg,0,none⟩) (u.length+1) cap)).length=D:=by rw [List.length_set];exact hvl
      clear hoff0 hoff hon hgm4 hoff5 hown4 hrow4 kt4 kt ktp;go_wp2_with fail;go_roundw
      case rel=>exact ⟨k+1,_,_,by omega,by go_num,hvl5,HG5.out,HU5,HW5.out⟩
      case measure=>simp [intOf];omega
    · obtain rfl:k=ts.length:=by omega
      have hpl:p.take ts.length=p:=List.take_of_length_le (by rw [HL.out];exact Nat.le_refl _);rw [hpl] at hus;have HUS:=hus;clear hpl;go_wp2;go_ret;exact ⟨w1.heap.size,vs,us,rfl,hvl,hgm,fun j u hu=>⟨(HUS.out j u hu).1,by rw [← HL.out];exact (HUS.out j u hu).2⟩,hbw0⟩
end Go.Proofs.YtgekmfcbbjeahaaGreatDoor
/- poly.Coef of a valid polynomial. -/
attribute [local go_sem ↓] Go.wp_at_zero Go.wp_at_succ
namespace Go.Proofs.YtgekmfcbbjeahaaGreatDoor
open Go.RowKit V
theorem VRow.far {w:World} {g:Nat} {vs:List Value} (h:VRow w g vs) {x i:Nat} (hp:g≠x) (u:Value):VRow (w.setCell ⟨x,i,none⟩ u) g vs:=(Below.heap_setCell w ⟨x,i,none⟩ u g hp).trans h
theorem coefP_words {i k:Nat} {p:PL} (hw:Words p):Words (coefP i k p):=fun t ht=>by
  obtain ⟨u,hu,rfl⟩:=List.mem_map.1 ht;exact Nat.lt_of_le_of_lt (Nat.sub_le _ _) (hw u (List.mem_filter.1 hu).1)
theorem coefP_eq {i k:Nat} {p:PL} (hi:i<8) (hw:Words p):coefP i k p=coefL i k p:=by
  unfold coefP coefL;refine List.map_congr_left fun t ht=>?_
  have h:=List.mem_filter.1 ht;have h1:ex t.1 i=k:=of_decide_eq_true h.2;have:=setEx_sub (j:=ex t.1 i) hi (hw t h.1) (Nat.le_refl _);rw [Nat.sub_self] at this;rw [this,h1]
theorem coefP_fits {i k:Nat} {p:PL} (hi:i<8) (hw:Words p) (hf:∀ t ∈ p,TFits t.1 t.2):∀ t ∈ coefP i k p,TFits t.1 t.2:=fun t ht=>by
  rw [coefP_eq hi hw] at ht;obtain ⟨u,hu,rfl⟩:=List.mem_map.1 ht;have h0:=hf u (List.mem_filter.1 hu).1;have h1:=deg_set (m:=u.1) (v:=0) hi (by omega);have h2:=h0.1;exact ⟨by show deg (setEx u.1 i 0)≤40;omega,h0.2⟩
theorem coefP_none {i k D:Nat} {p:PL} (hD:maxTo (exAt i) p p.length+1=(D:Int)) (hk:D≤k):coefP i k p=[]:=by
  unfold coefP;rw [List.map_eq_nil_iff,List.filter_eq_nil_iff];intro t ht;obtain ⟨j,hj⟩:=List.mem_iff_getElem?.1 ht;have:=maxTo_ge (f:=exAt i) hj p.length (List.getElem?_eq_some_iff.1 hj).1;unfold exAt at this;simp only [decide_eq_true_eq];unfold exAt at hD;omega
theorem coefP_len (i k:Nat) (p:PL):(coefP i k p).length≤p.length:=by
  unfold coefP;rw [List.length_map];exact List.length_filter_le _ _
set_option maxRecDepth 100000 in
set_option maxHeartbeats 12800000 in
theorem pcoef (n i k:Nat) (A:Option Addr) (c:Nat) (ms:List MM) (P:PL) (w:World) (ha:ARd w A ms (up n P)) (hP:PIn n P) (hi:i<n) :
    Calls Tryz.prog 29 #[.agg #[.int .i64 n,.slice A ms.length c],.int .i64 i,.int .i64 k] w (StoreOk n (coefP i k P) w):=by
  have hb0:Below w.heap.size w ((w.alloc (.cells #[.int .i64 n,.slice A ms.length c] 24)).alloc (.cells #[.int .i64 0,.slice none 0 0] 24)):=((Below.refl _ _).alloc (Nat.le_refl _) _).alloc (by simp) _;have k0:=(Blk2c.new 24 w (.int .i64 n) (.slice A ms.length c)).alloc (.cells #[.int .i64 0,.slice none 0 0] 24);have k1:Blk2c 24 ((w.alloc (.cells #[.int .i64 n,.slice A ms.length c] 24)).alloc (.cells #[.int .i64 0,.slice none 0 0] 24)) (w.heap.size+1) (.int .i64 0) (.slice none 0 0):=by
    have:=Blk2c.new 24 (w.alloc (.cells #[.int .i64 n,.slice A ms.length c] 24)) (.int .i64 0) (.slice none 0 0);simpa using this
  have hml:ms.length≤4000:=by rw [ha.hs.1,up,List.length_map];exact hP.len
  have HL:=Lib.hid (fun W (hb:Below w.heap.size w W)=>pload n A c n ms (up n P) W (ha.below hb) (by omega) (eok_up hP));rw [pk_up hP] at HL;have hn8:=hP.nv;have hi7:i≤7:=by omega
  have hi8:i<8:=by omega
  have HW:=Lib.hid hP.words;have HPL:=Lib.hid hP.len;have HDW:=Lib.hid (coefP_words (i:=i) (k:=k) hP.words);have HDF:=Lib.hid (coefP_fits (i:=i) (k:=k) hi8 hP.words hP.fits);have HCL:=Lib.hid (coefP_len i k P);have HCV:=Lib.hid (pcheckVar n i 0 A c ms _ _ (ha.raw.below hb0) (ha.val hP) (by rw [if_pos (by omega)]));have hmx:=maxTo_le (exAt i) P 255 (exAt_le i) P.length;obtain ⟨D,hD⟩:∃ D:Nat,maxTo (exAt i) P P.length+1=(D:Int):=⟨(maxTo (exAt i) P P.length+1).toNat,by omega⟩;have HD:=Lib.hid hD;have hkk:(0:Int)≤(k:Int):=Int.natCast_nonneg _;have hnk:¬ (k:Int)<0:=by omega
  clear ha hP hmx hD;go_enter Tryz.func29,Tryz.ntmps29;go_wp2_with fail;refine HCV.out.mono ?_;rintro e wb ⟨rfl,hb1⟩;have hb2:=hb0.trans (hb1.mono hb0.size);obtain ⟨p0,p1,p2,p3,p4⟩:=(k0.below hb1).facts;have j0:=k0.below hb1;have j1:=k1.below hb1;clear k0 k1 HCV hb1;go_wp2_with fail;refine (HL.out _ hb2).mono ?_;rintro e w2 ⟨A2,c2,ts,rfl,h2,hx,hb3⟩;have hb4:=hb2.trans (hb3.mono hb2.size);have j02:=j0.below hb3;have j12:=j1.below hb3;have hts:ts.length≤4000:=by rw [hx.hs.1];exact HPL.out
  clear j0 j1 p0 p1 p2 p3 p4 hb0 hb2 hb3;go_wp2_with fail;refine (pcoefs A2 c2 i D ts P w2 hx hts HW.out hi7 HD.out).mono ?_;rintro e w3 ⟨g,vs,us,rfl,hvl,hgm,hus,hb5⟩;have K0:=Lib.hid (j02.below hb5);have K1:=Lib.hid (j12.below hb5);have HB3:=Lib.hid (hb4.trans (hb5.mono hb4.size));have hw3:=HB3.out.size;have hl0:=K0.out.lt;have hl1:=K1.out.lt;have HROW:=Lib.hid hgm.row;have HGM:=Lib.hid hgm;have HUS:=Lib.hid hus;have hg0:g≠w.heap.size:=fun e=>by
    obtain ⟨_,_,h1⟩:=K0.out.ty;obtain ⟨_,_,h2⟩:=HROW.out.ty;rw [e,h1] at h2;injection h2 with h2;injection h2 with _ h2 _
    revert h2
    decide
  have hg1:g≠w.heap.size+1:=fun e=>by
    obtain ⟨_,_,h1⟩:=K1.out.ty;obtain ⟨_,_,h2⟩:=HROW.out.ty;rw [e,h1] at h2;injection h2 with h2;injection h2 with _ h2 _
    revert h2
    decide
  clear j02 j12 hb5 hb4 hgm hus hx
  by_cases hlt:k<D
  · obtain ⟨v,hv⟩:∃ v,vs[k]?=some v:=⟨_,List.getElem?_eq_getElem (by omega)⟩;obtain ⟨u,hu⟩:∃ u,us[k]?=some u:=⟨_,List.getElem?_eq_getElem (by rw [← HGM.out.len];omega)⟩;have HV:=Lib.hid hv;obtain ⟨VA,vc,hve,hvc,hvr,hvn,hvlt⟩:=(HGM.out.own k v u hv hu).form;subst hve;have hth:=HUS.out k u hu;have hul:u.length≤4000:=Nat.le_trans hth.2 HPL.out;have HS:=Lib.hid (fun W (hb:Below w3.heap.size w3 W)=>pstore_ok n VA vc u (coefP i k P) W ⟨hvr.below hb,hth.1.below hb⟩ hul hn8 HDW.out HDF.out);have hk1:(k:Int)<(D:Int):=by omega
    have hk2:¬ (D:Int)≤(k:Int):=by omega
    have hcell:=HROW.out.cell hv;have hfr:=HROW.out.frozen k;obtain ⟨p0,p1,p2,p3,p4⟩:=K0.out.facts;obtain ⟨q0,q1,q2,q3,q4⟩:=K1.out.facts;clear hv hu hth hvr hvn hvlt;go_upto_region 9 with fail;refine wp_region_held_drew (S:=fun w'=>w'.cell? ⟨w.heap.size,0,none⟩=some (.int .i64 n)∧w'.cell? ⟨g,k,none⟩=some (.slice VA u.length vc)) (by kernel_rfl) ?_ (fun hHeld=>?_)
    · exact ⟨K0.out.facts.1,HROW.out.cell HV.out⟩
    refine wpAnyH_take (i:=0) (v:=?v0) rfl (by kernel_rfl) (by kernel_rfl) (by kernel_rfl) (fun _ _ _ h=>h) (Or.inl ⟨by rfl,?hy0⟩) (by assumption) ?rest0
    case hy0=>
      intro w hSw
      (try dsimp only at hSw)
      go_simp
      all_goals with_reducible rfl
    simp only [Act.put,List.getElem_toArray,List.getElem_cons_zero,List.setIfInBounds_toArray,List.set_cons_zero,List.set_cons_succ];refine wpAnyH_take (i:=1) (v:=?v1) rfl (by kernel_rfl) (by kernel_rfl) (by kernel_rfl) (fun _ _ _ h=>h) (Or.inl ⟨by rfl,?hy1⟩) (by assumption) ?rest1
    case hy1=>
      intro w hSw
      (try dsimp only at hSw)
      go_simp
      all_goals with_reducible rfl
    simp only [Act.put,List.getElem_toArray,List.getElem_cons_zero,List.getElem_cons_succ,List.setIfInBounds_toArray,List.set_cons_zero,List.set_cons_succ];refine wpAnyH_take (i:=2) (v:=?v2) rfl (by kernel_rfl) (by kernel_rfl) (by kernel_rfl) (fun _ _ _ h=>h) (Or.inl ⟨by rfl,?hy2⟩) (by assumption) ?rest2
    case hy2=>
      intro w hSw
      (try dsimp only at hSw)
      go_simp
      all_goals with_reducible rfl
    simp only [Act.put,List.getElem_toArray,List.getElem_cons_zero,List.getElem_cons_succ,List.setIfInBounds_toArray,List.set_cons_zero,List.set_cons_succ];refine wpAnyH_take (i:=3) (v:=?v3) rfl (by kernel_rfl) (by kernel_rfl) (by kernel_rfl) (fun _ _ _ h=>h) (Or.inl ⟨by rfl,?hy3⟩) (by assumption) ?rest3
    case hy3=>
      intro w hSw
      (try dsimp only at hSw)
      go_simp
      all_goals with_reducible rfl
    simp only [Act.put,List.getElem_toArray,List.getElem_cons_zero,List.getElem_cons_succ,List.setIfInBounds_toArray,List.set_cons_zero,List.set_cons_succ];refine wpAnyH_take (i:=4) (v:=?v4) rfl (by kernel_rfl) (by kernel_rfl) (by kernel_rfl) (fun _ _ _ h=>h) (Or.inl ⟨by rfl,?hy4⟩) (by assumption) ?rest4
    case hy4=>
      intro w hSw
      (try dsimp only at hSw)
      go_simp
      all_goals with_reducible rfl
    simp only [Act.put,List.getElem_toArray,List.getElem_cons_zero,List.getElem_cons_succ,List.setIfInBounds_toArray,List.set_cons_zero,List.set_cons_succ];refine wpAnyH_take (i:=5) (v:=?v5) rfl (by kernel_rfl) (by kernel_rfl) (by kernel_rfl) (fun _ _ _ h=>h) (Or.inl ⟨by rfl,?hy5⟩) (by assumption) ?rest5
    case hy5=>
      intro w hSw
      (try dsimp only at hSw)
      go_simp
      all_goals with_reducible rfl
    simp only [Act.put,List.getElem_toArray,List.getElem_cons_zero,List.getElem_cons_succ,List.setIfInBounds_toArray,List.set_cons_zero,List.set_cons_succ];refine wpAnyH_ready (rs:=[6]) (by kernel_rfl) (by simp) ?_;refine AllReadyH.cons (o:=_) rfl (fun K hK=>?_) AllReadyH.nil;go_simp;refine (HS.out _ (by first | exact Below.refl _ _ | exact below_drew_ (Below.refl _ _) 1)).mono ?_;rintro e' w5 ⟨A3,c3,ms3,rfl,hc3,hat,hb5⟩;have hq5:Below w3.heap.size w3 w5:=by first | exact hb5 | exact below_of_drew hb5 (Nat.le_refl _)
    have k05:=K0.out.below hq5;have k15:=K1.out.below hq5;have hr5:=HROW.out.below hq5;have HAT:=Lib.hid hat;clear hat;obtain ⟨r0,r1,r2,r3,r4⟩:=k15.facts;go_wp2_with fail;refine hK.out _ _ ?_ (fun hHeld=>?_)
    · exact ⟨k05.facts.1,hr5.cell HV.out⟩
    clear hK K
    try simp only [Act.put,List.getElem_toArray,List.getElem_cons_zero,List.getElem_cons_succ,List.setIfInBounds_toArray,List.set_cons_zero,List.set_cons_succ]
    refine wpAnyH_take (i:=7) (v:=?v7) rfl (by kernel_rfl) (by kernel_rfl) (by kernel_rfl) (fun _ _ _ h=>h) (Or.inl ⟨by rfl,?hy7⟩) (by assumption) ?rest7
    case hy7=>
      intro w hSw
      (try dsimp only at hSw)
      go_simp
      all_goals with_reducible rfl
    simp only [Act.put,List.getElem_toArray,List.getElem_cons_zero,List.getElem_cons_succ,List.setIfInBounds_toArray,List.set_cons_zero,List.set_cons_succ];refine wpAnyH_take (i:=8) (v:=?v8) rfl (by kernel_rfl) (by kernel_rfl) (by kernel_rfl) (fun _ _ _ h=>h) (Or.inl ⟨by rfl,?hy8⟩) (by assumption) ?rest8
    case hy8=>
      intro w hSw
      (try dsimp only at hSw)
      go_simp
      all_goals with_reducible rfl
    simp only [Act.put,List.getElem_toArray,List.getElem_cons_zero,List.getElem_cons_succ,List.setIfInBounds_toArray,List.set_cons_zero,List.set_cons_succ];refine wpAnyH_ready (rs:=[9]) (by kernel_rfl) (by simp) ?_;refine AllReadyH.cons (o:=_) rfl (fun K hK=>?_) AllReadyH.nil;go_simp;refine hK.out _ _ ?_ (fun hHeld=>?_)
    · exact ⟨((k05.far (by omega) _).far (by omega) _).facts.1,((hr5.far (by omega) _).far (by omega) _).cell HV.out⟩
    clear hK K
    try simp only [Act.put,List.getElem_toArray,List.getElem_cons_zero,List.getElem_cons_succ,List.setIfInBounds_toArray,List.set_cons_zero,List.set_cons_succ]
    refine wpAnyH_take (i:=10) (v:=?v10) rfl (by kernel_rfl) (by kernel_rfl) (by kernel_rfl) (fun _ _ _ h=>h) (Or.inl ⟨by rfl,?hy10⟩) (by assumption) ?rest10
    case hy10=>
      intro w hSw
      (try dsimp only at hSw)
      go_simp
      all_goals with_reducible rfl
    simp only [Act.put,List.getElem_toArray,List.getElem_cons_zero,List.getElem_cons_succ,List.setIfInBounds_toArray,List.set_cons_zero,List.set_cons_succ];refine wpAnyH_done (by kernel_rfl) ?_ _;go_wp2_with fail;refine bodyPost_ret (v:=.tuple #[.agg #[.int .i64 n,.slice A3 ms3.length c3],.int .i64 0]) (by simp [results,Tryz.results29,go_sem,r0,r1]) rfl ?_;exact ⟨A3,c3,ms3,rfl,hc3,HAT.out.put2 k15.ty (by decide) (by decide) _ _,((HB3.out.trans (hq5.mono HB3.out.size)).setCell (Nat.le_succ _) _).setCell (Nat.le_succ _) _⟩
  · have HN:=Lib.hid (coefP_none (i:=i) (k:=k) (p:=P) HD.out (by omega));have HS:=Lib.hid (fun W=>pstore_ok n none 0 [] [] W ⟨fun h=>by simp at h,rfl,fun j t h=>by simp at h⟩ (by simp) hn8 (fun t ht=>by simp at ht) (fun t ht=>by simp at ht));have hk2:(D:Int)≤(k:Int):=by omega
    have hk1:¬ (k:Int)<(D:Int):=by omega
    obtain ⟨p0,p1,p2,p3,p4⟩:=K0.out.facts;go_wp2_with fail;refine (HS.out _).mono ?_;rintro e w5 ⟨A3,c3,ms3,rfl,hc3,hat,hq5⟩;have k15:=K1.out.below hq5;have HAT:Hid (AT w5 A3 ms3 (up n (coefP i k P))):=by
      show AT _ _ _ _;rw [HN.out];exact hat
    clear hat p0 p1 p2 p3 p4;obtain ⟨r0,r1,r2,r3,r4⟩:=k15.facts;go_wp2_with fail;refine bodyPost_ret (v:=.tuple #[.agg #[.int .i64 n,.slice A3 ms3.length c3],.int .i64 0]) (by simp [results,Tryz.results29,go_sem,r0,r1]) rfl ?_;exact ⟨A3,c3,ms3,rfl,hc3,HAT.out.put2 k15.ty (by decide) (by decide) _ _,((HB3.out.trans (hq5.mono HB3.out.size)).setCell (Nat.le_succ _) _).setCell (Nat.le_succ _) _⟩
theorem ex_mul_le (m i:Nat):ex m i*256 ^ (7 - i)≤m:=Nat.le_trans (Nat.mul_le_mul (Nat.mod_le _ _) (Nat.le_refl _)) (Nat.div_mul_le_self _ _)
theorem coefL_nf {i k:Nat} {p:PL} (hi:i<8) (hw:Words p) (h:NF p):NF (coefL i k p):=by
  rw [← coefP_eq hi hw];refine ⟨?_,fun t ht=>?_⟩
  · unfold coefP;rw [List.pairwise_map];refine (h.desc.filter _).imp_of_mem fun {a b} ha hb hab=>?_
    have h1:ex b.1 i=k:=of_decide_eq_true (List.mem_filter.1 hb).2;have h2:=ex_mul_le b.1 i;rw [h1] at h2;show b.1 - _<a.1 - _;omega
  · obtain ⟨u,hu,rfl⟩:=List.mem_map.1 ht;exact h.nz u (List.mem_filter.1 hu).1
end Go.Proofs.YtgekmfcbbjeahaaGreatDoor
/- The degrees that package poly answers are the document's. -/
namespace Go.Proofs.YtgekmfcbbjeahaaGreatDoor
open Go.RowKit V
theorem dTo_link (p:PL):∀ k,k≤p.length→dTo (p.map Prod.fst) k=maxTo deg p k
  | 0,_=>rfl
  | k + 1, hk => by
    have h:p[k]?=some (p[k]'(by omega)):=List.getElem?_eq_getElem _;simp only [dTo,maxTo];rw [dTo_link p k (by omega),List.getElem?_map,h];rfl
theorem xTo_link (i:Nat) (p:PL):∀ k,k≤p.length→xTo i (p.map Prod.fst) k=maxTo (exAt i) p k
  | 0,_=>rfl
  | k + 1, hk => by
    have h:p[k]?=some (p[k]'(by omega)):=List.getElem?_eq_getElem _;simp only [xTo,maxTo];rw [xTo_link i p k (by omega),List.getElem?_map,h];rfl
theorem deg_link {L:Nat} {w:World} {ts:List TR} {p:PL} (h:QHolds L w ts p):dTo (ts.map TR.m) ts.length=maxTo deg p p.length:=by
  rw [h.mons,h.1];exact dTo_link p _ (Nat.le_refl _)
theorem degIn_link {L:Nat} {w:World} {ts:List TR} {p:PL} (i:Nat) (h:QHolds L w ts p):xTo i (ts.map TR.m) ts.length=maxTo (exAt i) p p.length:=by
  rw [h.mons,h.1];exact xTo_link i p _ (Nat.le_refl _)
end Go.Proofs.YtgekmfcbbjeahaaGreatDoor
