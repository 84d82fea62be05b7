/- isochroneref03.To: the terms in their order. -/
import Derived.Test.YtgekmfcbbjeahaaGreatDoorPpR39
attribute [local go_sem ↓] Go.wp_at_zero Go.wp_at_succ
namespace Go.Proofs.YtgekmfcbbjeahaaGreatDoor
open Go.RowKit V
theorem done_rest:∀ (p:PL) (ds:List Bool),ds.length=p.length→(doneL p ds).length+(restL p ds).length=p.length
  | [],_,_=>by simp [doneL,restL]
  | u :: r,[],h=>by simp at h
  | u :: r, d :: ds, h => by
    have ih:=done_rest r ds (by simpa using h);cases d with
    | true=>simp only [doneL,restL,if_true,List.length_cons];omega
    | false=>simp only [doneL,restL,Bool.false_eq_true,if_false,List.length_cons];omega
theorem rest_pos:∀ (p:PL) (ds:List Bool) (i:Nat),i<p.length→ds[i]?=some false→0<(restL p ds).length
  | [],_,i,h,_=>by simp at h
  | u :: r,[],i,_,h=>by simp at h
  | u :: r, d :: ds, 0, _, h => by
    have:d=false:=by simpa using h
    subst this;simp [restL]
  | u :: r, d :: ds, i + 1, h, h2 => by
    have ih:=rest_pos r ds i (by simpa using h) (by simpa using h2);cases d with
    | true=>simpa [restL] using ih
    | false=>simp [restL]
def NoneTo (ds:List Bool) (i:Nat):Prop:=∀ j,j<i→ds[j]?≠some false
def BestTo (p:PL) (ds:List Bool) (i b:Nat):Prop:=b<i∧ds[b]?=some false ∧ ∀ j t u,j<i→ds[j]?=some false→p[j]?=some t→p[b]?=some u→t.1≤u.1
theorem NoneTo.skip {ds:List Bool} {i:Nat} (h:NoneTo ds i) (h2:ds[i]?=some true):NoneTo ds (i+1):=fun j hj e=>by
  rcases Nat.lt_or_ge j i with h1 | h1
  · exact h j h1 e
  · obtain rfl:j=i:=by omega
    rw [h2] at e;cases e
theorem NoneTo.first {p:PL} {ds:List Bool} {i:Nat} (h:NoneTo ds i) (h2:ds[i]?=some false):BestTo p ds (i+1) i:=⟨by omega,h2,fun j t u hj e ht hu=>by
  rcases Nat.lt_or_ge j i with h1 | h1
  · exact absurd e (h j h1)
  · obtain rfl:j=i:=by omega
    rw [ht] at hu;injection hu with hu;rw [hu];exact Nat.le_refl _⟩
theorem BestTo.skip {p:PL} {ds:List Bool} {i b:Nat} (h:BestTo p ds i b) (h2:ds[i]?=some true):BestTo p ds (i+1) b:=⟨by have:=h.1;omega,h.2.1,fun j t u hj e ht hu=>by
  rcases Nat.lt_or_ge j i with h1 | h1
  · exact h.2.2 j t u h1 e ht hu
  · obtain rfl:j=i:=by omega
    rw [h2] at e;cases e⟩
theorem BestTo.keep {p:PL} {ds:List Bool} {i b:Nat} (h:BestTo p ds i b) {t u:Nat × Rat} (ht:p[i]?=some t) (hu:p[b]?=some u) (hle:t.1≤u.1):BestTo p ds (i+1) b:=⟨by have:=h.1;omega,h.2.1,fun j t' u' hj e ht' hu'=>by
  rcases Nat.lt_or_ge j i with h1 | h1
  · exact h.2.2 j t' u' h1 e ht' hu'
  · obtain rfl:j=i:=by omega
    rw [ht] at ht';rw [hu] at hu';injection ht' with ht';injection hu' with hu';rw [← ht',← hu'];exact hle⟩
theorem BestTo.new {p:PL} {ds:List Bool} {i b:Nat} (h:BestTo p ds i b) {t u:Nat × Rat} (ht:p[i]?=some t) (hu:p[b]?=some u) (h2:ds[i]?=some false) (hlt:u.1<t.1):BestTo p ds (i+1) i:=⟨by omega,h2,fun j t' u' hj e ht' hu'=>by
  rw [ht] at hu';injection hu' with hu';rcases Nat.lt_or_ge j i with h1 | h1
  · have:=h.2.2 j t' u h1 e ht' hu;rw [← hu'];omega
  · obtain rfl:j=i:=by omega
    rw [ht] at ht';injection ht' with ht';rw [← ht',← hu'];exact Nat.le_refl _⟩
theorem on8 (m:Nat):On 8 m:=by unfold On;rw [Nat.sub_self,Nat.pow_zero];exact Nat.mod_one m
theorem before_lt {a b:Nat} (ha:a<18446744073709551616) (hb:b<18446744073709551616):0<lexI (exI a 8) (exI b 8)↔b<a:=
  ⟨fun h=>on_lex (Nat.le_refl _) ha hb (on8 a) (on8 b) h,fun h=>lex_on (Nat.le_refl _) ha hb (on8 a) (on8 b) h⟩
theorem Picked.len {p:PL} {ds:List Bool} {out:PL} (h:Picked p ds out) (hl:ds.length=p.length):out.length+(restL p ds).length=p.length:=by rw [h.perm.length_eq];exact done_rest p ds hl
theorem Picked.more {p:PL} {ds:List Bool} {out:PL} (h:Picked p ds out) (hl:ds.length=p.length) (hlt:out.length<p.length):¬ NoneTo ds p.length:=fun hn=>by
  have h1:=h.len hl;have h2:0<(restL p ds).length:=by omega
  obtain ⟨t,r,hr⟩:∃ t r,restL p ds=t :: r:=by
    cases he:restL p ds with
    | nil=>rw [he] at h2;simp at h2
    | cons t r=>exact ⟨t,r,rfl⟩
  obtain ⟨i,g1,g2⟩:=mem_restL (p:=p) (ds:=ds) (t:=t) (by rw [hr];simp);exact hn i (List.getElem?_eq_some_iff.1 g1).1 g2
theorem Picked.whole {p:PL} {ds:List Bool} {out:PL} (hp:DN p) (h:Picked p ds out) (hl:ds.length=p.length) (he:out.length=p.length):out=nfOf p:=by
  have h1:=h.len hl;have hall:∀ i,i<p.length→ds[i]?=some true:=fun i hi=>by
    cases hd:ds[i]? with
    | none=>rw [List.getElem?_eq_none_iff] at hd;omega
    | some b =>
      cases b with
      | true=>rfl
      | false=>have:=rest_pos p ds i hi hd;omega
  obtain ⟨h2,h3⟩:=h.nf hp hl hall;exact nf_ext h2 (nf_nfOf p) fun k=>by rw [h3,cf_nfOf]
def RBlk (w:World) (g:Nat) (t:TR):Prop:=w.heap[g]?=some (.cells #[.int .i64 (ex t.m 0:Nat),.int .i64 (ex t.m 1:Nat),.int .i64 (ex t.m 2:Nat),.int .i64 (ex t.m 3:Nat),.int .i64 (ex t.m 4:Nat),.int .i64 (ex t.m 5:Nat),.int .i64 (ex t.m 6:Nat),.int .i64 (ex t.m 7:Nat),.bool t.c.s,.slice t.c.N t.c.ns.length t.c.nc,.slice t.c.D t.c.ds.length t.c.dc] 82 (0,0))
theorem RBlk.new (w:World) (t:TR):RBlk (w.alloc (.cells #[.int .i64 (ex t.m 0:Nat),.int .i64 (ex t.m 1:Nat),.int .i64 (ex t.m 2:Nat),.int .i64 (ex t.m 3:Nat),.int .i64 (ex t.m 4:Nat),.int .i64 (ex t.m 5:Nat),.int .i64 (ex t.m 6:Nat),.int .i64 (ex t.m 7:Nat),.bool t.c.s,.slice t.c.N t.c.ns.length t.c.nc,.slice t.c.D t.c.ds.length t.c.dc] 82)) w.heap.size t:=heap_alloc_new w _
theorem RBlk.lt {w:World} {g:Nat} {t:TR} (h:RBlk w g t):g<w.heap.size:=by
  rcases Nat.lt_or_ge g w.heap.size with hlt | hge
  · exact hlt
  · unfold RBlk at h;rw [Array.getElem?_eq_none hge] at h;cases h
theorem RBlk.below {w w':World} {g:Nat} {t:TR} (h:RBlk w g t) (hb:Below w.heap.size w w'):RBlk w' g t:=(hb.block g h.lt).trans h
theorem RBlk.facts {w:World} {g:Nat} {t:TR} (h:RBlk w g t):RCell w ⟨g,0,none⟩ t:=by
  unfold RBlk at h;constructor <;> simp [World.cell?,h]
theorem RCell.below {w w':World} {p:Addr} {t:TR} (h:RCell w p t) (hl:p.block<w.heap.size) (hb:Below w.heap.size w w'):RCell w' p t:=h.keep fun q hq=>hb.cell (by rw [hq];exact hl)
theorem pbefore_lt {a b:Nat} (ha:a<18446744073709551616) (hb:b<18446744073709551616) (v:Bool) (hv:v=decide (b<a)) (w:World) :
    Calls Tryz.prog 87 #[.agg #[.int .i64 (ex a 0:Nat),.int .i64 (ex a 1:Nat),.int .i64 (ex a 2:Nat),.int .i64 (ex a 3:Nat),.int .i64 (ex a 4:Nat),.int .i64 (ex a 5:Nat),.int .i64 (ex a 6:Nat),.int .i64 (ex a 7:Nat)],.agg #[.int .i64 (ex b 0:Nat),.int .i64 (ex b 1:Nat),.int .i64 (ex b 2:Nat),.int .i64 (ex b 3:Nat),.int .i64 (ex b 4:Nat),.int .i64 (ex b 5:Nat),.int .i64 (ex b 6:Nat),.int .i64 (ex b 7:Nat)]] w (Gives (.bool v) w):=by
  have h:=pbefore (exI a 8) (exI b 8) w (exI_len _ _) (exI_len _ _);rw [decide_eq_decide.2 (before_lt ha hb),← hv] at h;exact h
set_option maxRecDepth 100000 in
set_option maxHeartbeats 12800000 in
theorem pto (n : Nat) (A : Option Addr) (c : Nat) (ts : List TR) (p : PL) (l : Nat) (w : World) (h : QPR l w A ts p) (hp : DN p) (hw : Words p) (hn : n ≤ 8) (hl : l ≤ 200) (h4 : ts.length ≤ 4000) :
    Calls Tryz.prog 62 #[.slice A ts.length c,.int .i64 n] w (fun e w'=>∃ B d ms,e = .returned (.agg #[.int .i64 n,.slice B (ms:List MM).length d])∧ms.length≤d∧ARd w' B ms (up n (nfOf p))∧Below w.heap.size w w'):=by
  have HH:=Lib.hid h;have HP:=Lib.hid hp;have HPL:Hid (ts.length=p.length):=h.hs.1;have HW:=Lib.hid hw;have hmk:=fun W=>make_bools ts.length ts.length rfl (by omega) W
  clear h hp hw;go_enter Tryz.func62,Tryz.ntmps62;go_upto_region 3 with fail;clear hmk;obtain ⟨w1,hw1⟩:∃ x,w.alloc (.cells #[.int .i64 0,.slice none 0 0] 24)=x:=⟨_,rfl⟩;obtain ⟨w2,hw2⟩:∃ x,w1.alloc (.cells #[.int .i64 n,.slice none 0 0] 24)=x:=⟨_,rfl⟩;obtain ⟨w3,hw3⟩:∃ x,w2.alloc (.cells (Array.replicate ts.length (Value.bool false)) 4)=x:=⟨_,rfl⟩;have hs1:w1.heap.size=w.heap.size+1:=by rw [← hw1];simp
  have hs2:w2.heap.size=w.heap.size+1+1:=by rw [← hw2,← hs1];simp
  have hb0:Below w.heap.size w w3:=by
    rw [← hw3,← hw2,← hw1];exact (((Below.refl _ _).alloc (Nat.le_refl _) _).alloc (by simp) _).alloc (by simp;omega) _
  have kr:Blk2c 24 w3 w.heap.size (.int .i64 0) (.slice none 0 0):=by
    rw [← hw3,← hw2,← hw1];exact ((Blk2c.new 24 w _ _).alloc _).alloc _
  have ko:Blk2c 24 w3 (w.heap.size+1) (.int .i64 n) (.slice none 0 0):=by
    rw [← hw3,← hs1,← hw2];exact (Blk2c.new 24 w1 _ _).alloc _
  have kd:BRow w3 (w.heap.size+1+1) (List.replicate ts.length false):=by
    rw [← hw3,← hs2];have:=heap_alloc_new w2 (.cells (Array.replicate ts.length (Value.bool false)) 4);unfold BRow;rw [this];simp
  try rw [hw1]
  try rw [hw2]
  rw [hw3];clear hw1 hw2 hw3 hs1 hs2;go_wp2_with fail;go_loopw [7,8,9,17] (fun _ _ _ si wr=>∃ (v:Value) (ds:List Bool) (out:PL) (ms:List MM),ms.length≤ts.length∧si = .int .i64 ms.length∧ds.length=ts.length∧Hid (Picked p ds out)∧out.length=ms.length∧BRow wr (w.heap.size+1+1) ds ∧
      Blk2c 24 wr w.heap.size (.int .i64 0) (.slice none 0 0)∧Blk2c 24 wr (w.heap.size+1) (.int .i64 n) v∧OwnM (w.heap.size+3) wr v ms∧MHT wr ms (up n out)∧Below w.heap.size w wr) (fun _ _ _ si _=>ts.length - (intOf si).toNat)
  case atStart=>exact ⟨.slice none 0 0,List.replicate ts.length false,[],[],by simp,rfl,List.length_replicate,by show Picked p _ _;rw [HPL.out];exact Picked.start p,rfl,kd,kr,ko,OwnM.nil_ _ _,MHT.nil _,hb0⟩
  case round=>
    obtain ⟨v,ds,out,ms,hk,rfl,hdl,hpk,hol,kd1,kr1,ko1,hown,hmh,hbw⟩:=hrel;clear hb0 kr ko kd;have hsz:=hbw.size
    by_cases hlt:ms.length<ts.length
    · obtain ⟨wo, rfl⟩ : ∃ x : World, x = wr := ⟨_, rfl⟩; go_wp2_with fail; go_loopw [7, 8, 9, 21] (fun sb _ _ si wq => ∃ (i : Nat), i ≤ ts.length ∧ si = .int .i64 i ∧ ((sb = .int .i64 (-1) ∧ Hid (NoneTo ds i)) ∨ ∃ b : Nat, b < ts.length ∧ sb = .int .i64 b ∧ Hid (BestTo p ds i b)) ∧ Below wo.heap.size wo wq) (fun _ _ _ si _ => ts.length - (intOf si).toNat)
      case atStart=>exact ⟨0,by omega,rfl,.inl ⟨rfl,fun j hj=>by omega⟩,Below.refl _ _⟩
      case round=>
        obtain ⟨i,hi,rfl,hbest,hbq⟩:=hrel;have kdq:=kd1.below hbq
        by_cases hil:i<ts.length
        · obtain ⟨ad, t, rfl, hb, ht, hc⟩ := ((HH.out.below hbw).rd.below hbq).ask hil; obtain ⟨q, hpi, _⟩ := HH.out.hs.2 i t ht.out; have HPI := Lib.hid hpi; obtain ⟨di, hdi⟩ : ∃ x, ds[i]? = some x := ⟨_, List.getElem?_eq_getElem (by omega)⟩; have hcd := kdq.cell hdi; have HDI := Lib.hid hdi; obtain ⟨c0, c1, c2, c3, c4, c5, c6, c7, c8, c9, c10⟩ := hc; have kt := RBlk.new wr t; have hbt : Below wr.heap.size wr (wr.alloc (.cells #[.int .i64 (ex t.m 0 : Nat), .int .i64 (ex t.m 1 : Nat), .int .i64 (ex t.m 2 : Nat), .int .i64 (ex t.m 3 : Nat), .int .i64 (ex t.m 4 : Nat), .int .i64 (ex t.m 5 : Nat), .int .i64 (ex t.m 6 : Nat), .int .i64 (ex t.m 7 : Nat), .bool t.c.s, .slice t.c.N t.c.ns.length t.c.nc, .slice t.c.D t.c.ds.length t.c.dc] 82)) := (Below.refl _ _).alloc (Nat.le_refl _) _; have hil2 : (i : Int) < (ts.length : Int) := by omega
          have hne:¬ (w.heap.size+1+1=wr.heap.size):=by have:=hbq.size;have:=kd1.lt;omega
          clear hpi hdi;go_upto_region 9 with fail;obtain ⟨w4,hw4⟩:∃ x,wr.alloc (.cells #[.int .i64 (ex t.m 0:Nat),.int .i64 (ex t.m 1:Nat),.int .i64 (ex t.m 2:Nat),.int .i64 (ex t.m 3:Nat),.int .i64 (ex t.m 4:Nat),.int .i64 (ex t.m 5:Nat),.int .i64 (ex t.m 6:Nat),.int .i64 (ex t.m 7:Nat),.bool t.c.s,.slice t.c.N t.c.ns.length t.c.nc,.slice t.c.D t.c.ds.length t.c.dc] 82)=x:=⟨_,rfl⟩;rw [hw4] at kt hbt
          try rw [hw4]
          have hcd4:=(kdq.below hbt).cell HDI.out;have hbq4:=hbq.trans (hbt.mono hbq.size);clear c0 c1 c2 c3 c4 c5 c6 c7 c8 c9 c10 hcd hw4;obtain ⟨c0,c1,c2,c3,c4,c5,c6,c7,c8,c9,c10⟩:=kt.facts;dsimp only at c1 c2 c3 c4 c5 c6 c7;simp only [Nat.zero_add] at c1 c2 c3 c4 c5 c6 c7;clear c8 c9 c10;cases di with
          | true =>
            go_quiet (fail);go_wp2_with fail;go_roundw
            case rel=>
              refine ⟨i+1,by omega,by go_num,?_,below_drew_ hbq4 _⟩;rcases hbest with ⟨e1,e2⟩ | ⟨b,hb1,e1,e2⟩
              · exact .inl ⟨e1,e2.out.skip HDI.out⟩
              · exact .inr ⟨b,hb1,e1,e2.out.skip HDI.out⟩
            case measure=>simp [intOf];omega
          | false =>
            rcases hbest with ⟨rfl,hnone⟩ | ⟨b,hb1,rfl,hbst⟩
            · go_quiet (fail);go_wp2_with fail;go_roundw
              case rel=>exact ⟨i+1,by omega,by go_num,.inr ⟨i,hil,rfl,hnone.out.first HDI.out⟩,below_drew_ hbq4 _⟩
              case measure=>simp [intOf];omega
            · obtain ⟨bd,u,he,hbb,hu,hcu⟩:=((HH.out.below hbw).rd.below hbq4).ask hb1;injection he with he;subst he;obtain ⟨qu,hpu,_⟩:=HH.out.hs.2 b u hu.out;have HPU:=Lib.hid hpu;have hwt:t.m<18446744073709551616:=HW.out _ (List.mem_of_getElem? HPI.out);have hwu:u.m<18446744073709551616:=HW.out _ (List.mem_of_getElem? hpu);clear hpu;obtain ⟨u0,u1,u2,u3,u4,u5,u6,u7,_,_,_⟩:=hcu;have hcu:=RCell.keep (w:=w4) (w':=w4) (p:=ad.add (b*11)) (t:=u) ⟨u0,u1,u2,u3,u4,u5,u6,u7,‹_›,‹_›,‹_›⟩ (fun _ _=>rfl);have hub:(ad.add (b*11)).block<w4.heap.size:=by rw [block_of_add];exact hbb
              have hb2:(b:Int)<(ts.length:Int):=by omega
              have hbn:¬ (b:Int)<0:=by omega
              by_cases hcmp:u.m<t.m
              · have HB:=Lib.hid (fun W=>pbefore_lt hwt hwu true (decide_eq_true hcmp).symm W);refine wp_region_held_drew (S:=fun w'=>w'.cell? ⟨w.heap.size+1+1,i,none⟩=some (.bool false)∧w'.cell? ⟨wr.heap.size,0,none⟩=some (.int .i64 (ex t.m 0:Nat))∧w'.cell? ⟨wr.heap.size,1,none⟩=some (.int .i64 (ex t.m 1:Nat))∧w'.cell? ⟨wr.heap.size,2,none⟩=some (.int .i64 (ex t.m 2:Nat))∧w'.cell? ⟨wr.heap.size,3,none⟩=some (.int .i64 (ex t.m 3:Nat))∧w'.cell? ⟨wr.heap.size,4,none⟩=some (.int .i64 (ex t.m 4:Nat))∧w'.cell? ⟨wr.heap.size,5,none⟩=some (.int .i64 (ex t.m 5:Nat))∧w'.cell? ⟨wr.heap.size,6,none⟩=some (.int .i64 (ex t.m 6:Nat))∧w'.cell? ⟨wr.heap.size,7,none⟩=some (.int .i64 (ex t.m 7:Nat))∧w'.cell? (ad.add (b*11))=some (.int .i64 (ex u.m 0:Nat))∧w'.cell? ⟨(ad.add (b*11)).block,(ad.add (b*11)).off+1,none⟩=some (.int .i64 (ex u.m 1:Nat))∧w'.cell? ⟨(ad.add (b*11)).block,(ad.add (b*11)).off+2,none⟩=some (.int .i64 (ex u.m 2:Nat))∧w'.cell? ⟨(ad.add (b*11)).block,(ad.add (b*11)).off+3,none⟩=some (.int .i64 (ex u.m 3:Nat))∧w'.cell? ⟨(ad.add (b*11)).block,(ad.add (b*11)).off+4,none⟩=some (.int .i64 (ex u.m 4:Nat))∧w'.cell? ⟨(ad.add (b*11)).block,(ad.add (b*11)).off+5,none⟩=some (.int .i64 (ex u.m 5:Nat))∧w'.cell? ⟨(ad.add (b*11)).block,(ad.add (b*11)).off+6,none⟩=some (.int .i64 (ex u.m 6:Nat))∧w'.cell? ⟨(ad.add (b*11)).block,(ad.add (b*11)).off+7,none⟩=some (.int .i64 (ex u.m 7:Nat))) (by kernel_rfl) ?_ (fun hHeld=>?_)
                · exact ⟨hcd4,c0,c1,c2,c3,c4,c5,c6,c7,u0,u1,u2,u3,u4,u5,u6,u7⟩
                refine wpAnyH_take (i:=0) (v:=?v0A) rfl (by kernel_rfl) (by kernel_rfl) (by kernel_rfl) (fun _ _ _ h=>h) (Or.inl ⟨by rfl,?hy0A⟩) (by assumption) ?rest0A
                case hy0A=>
                  intro w hSw
                  (try dsimp only at hSw)
                  go_simp
                  all_goals with_reducible rfl
                simp only [Act.put,List.getElem_toArray,List.getElem_cons_zero,List.setIfInBounds_toArray,List.set_cons_zero,List.set_cons_succ];refine wpAnyH_take (i:=1) (v:=?v1A) rfl (by kernel_rfl) (by kernel_rfl) (by kernel_rfl) (fun _ _ _ h=>h) (Or.inl ⟨by rfl,?hy1A⟩) (by assumption) ?rest1A
                case hy1A=>
                  intro w hSw
                  (try dsimp only at hSw)
                  go_simp
                  all_goals with_reducible rfl
                simp only [Act.put,List.getElem_toArray,List.getElem_cons_zero,List.getElem_cons_succ,List.setIfInBounds_toArray,List.set_cons_zero,List.set_cons_succ];refine wpAnyH_take (i:=2) (v:=?v2A) rfl (by kernel_rfl) (by kernel_rfl) (by kernel_rfl) (fun _ _ _ h=>h) (Or.inl ⟨by rfl,?hy2A⟩) (by assumption) ?rest2A
                case hy2A=>
                  intro w hSw
                  (try dsimp only at hSw)
                  go_simp
                  all_goals with_reducible rfl
                simp only [Act.put,List.getElem_toArray,List.getElem_cons_zero,List.getElem_cons_succ,List.setIfInBounds_toArray,List.set_cons_zero,List.set_cons_succ];refine wpAnyH_take (i:=3) (v:=?v3A) rfl (by kernel_rfl) (by kernel_rfl) (by kernel_rfl) (fun _ _ _ h=>h) (Or.inl ⟨by rfl,?hy3A⟩) (by assumption) ?rest3A
                case hy3A=>
                  intro w hSw
                  (try dsimp only at hSw)
                  go_simp
                  all_goals with_reducible rfl
                simp only [Act.put,List.getElem_toArray,List.getElem_cons_zero,List.getElem_cons_succ,List.setIfInBounds_toArray,List.set_cons_zero,List.set_cons_succ];refine wpAnyH_take (i:=4) (v:=?v4A) rfl (by kernel_rfl) (by kernel_rfl) (by kernel_rfl) (fun _ _ _ h=>h) (Or.inl ⟨by rfl,?hy4A⟩) (by assumption) ?rest4A
                case hy4A=>
                  intro w hSw
                  (try dsimp only at hSw)
                  go_simp
                  all_goals with_reducible rfl
                simp only [Act.put,List.getElem_toArray,List.getElem_cons_zero,List.getElem_cons_succ,List.setIfInBounds_toArray,List.set_cons_zero,List.set_cons_succ];refine wpAnyH_take (i:=5) (v:=?v5A) rfl (by kernel_rfl) (by kernel_rfl) (by kernel_rfl) (fun _ _ _ h=>h) (Or.inl ⟨by rfl,?hy5A⟩) (by assumption) ?rest5A
                case hy5A=>
                  intro w hSw
                  (try dsimp only at hSw)
                  go_simp
                  all_goals with_reducible rfl
                simp only [Act.put,List.getElem_toArray,List.getElem_cons_zero,List.getElem_cons_succ,List.setIfInBounds_toArray,List.set_cons_zero,List.set_cons_succ];refine wpAnyH_take (i:=6) (v:=?v6A) rfl (by kernel_rfl) (by kernel_rfl) (by kernel_rfl) (fun _ _ _ h=>h) (Or.inl ⟨by rfl,?hy6A⟩) (by assumption) ?rest6A
                case hy6A=>
                  intro w hSw
                  (try dsimp only at hSw)
                  go_simp
                  all_goals with_reducible rfl
                simp only [Act.put,List.getElem_toArray,List.getElem_cons_zero,List.getElem_cons_succ,List.setIfInBounds_toArray,List.set_cons_zero,List.set_cons_succ];refine wpAnyH_take (i:=7) (v:=?v7A) rfl (by kernel_rfl) (by kernel_rfl) (by kernel_rfl) (fun _ _ _ h=>h) (Or.inl ⟨by rfl,?hy7A⟩) (by assumption) ?rest7A
                case hy7A=>
                  intro w hSw
                  (try dsimp only at hSw)
                  go_simp
                  all_goals with_reducible rfl
                simp only [Act.put,List.getElem_toArray,List.getElem_cons_zero,List.getElem_cons_succ,List.setIfInBounds_toArray,List.set_cons_zero,List.set_cons_succ];refine wpAnyH_take (i:=8) (v:=?v8A) rfl (by kernel_rfl) (by kernel_rfl) (by kernel_rfl) (fun _ _ _ h=>h) (Or.inl ⟨by rfl,?hy8A⟩) (by assumption) ?rest8A
                case hy8A=>
                  intro w hSw
                  (try dsimp only at hSw)
                  go_simp
                  all_goals with_reducible rfl
                simp only [Act.put,List.getElem_toArray,List.getElem_cons_zero,List.getElem_cons_succ,List.setIfInBounds_toArray,List.set_cons_zero,List.set_cons_succ];refine wpAnyH_take (i:=9) (v:=?v9A) rfl (by kernel_rfl) (by kernel_rfl) (by kernel_rfl) (fun _ _ _ h=>h) (Or.inl ⟨by rfl,?hy9A⟩) (by assumption) ?rest9A
                case hy9A=>
                  intro w hSw
                  (try dsimp only at hSw)
                  go_simp
                  all_goals with_reducible rfl
                simp only [Act.put,List.getElem_toArray,List.getElem_cons_zero,List.getElem_cons_succ,List.setIfInBounds_toArray,List.set_cons_zero,List.set_cons_succ];refine wpAnyH_take (i:=10) (v:=?v10A) rfl (by kernel_rfl) (by kernel_rfl) (by kernel_rfl) (fun _ _ _ h=>h) (Or.inl ⟨by rfl,?hy10A⟩) (by assumption) ?rest10A
                case hy10A=>
                  intro w hSw
                  (try dsimp only at hSw)
                  go_simp
                  all_goals with_reducible rfl
                simp only [Act.put,List.getElem_toArray,List.getElem_cons_zero,List.getElem_cons_succ,List.setIfInBounds_toArray,List.set_cons_zero,List.set_cons_succ];refine wpAnyH_take (i:=11) (v:=?v11A) rfl (by kernel_rfl) (by kernel_rfl) (by kernel_rfl) (fun _ _ _ h=>h) (Or.inl ⟨by rfl,?hy11A⟩) (by assumption) ?rest11A
                case hy11A=>
                  intro w hSw
                  (try dsimp only at hSw)
                  go_simp
                  all_goals with_reducible rfl
                simp only [Act.put,List.getElem_toArray,List.getElem_cons_zero,List.getElem_cons_succ,List.setIfInBounds_toArray,List.set_cons_zero,List.set_cons_succ];refine wpAnyH_take (i:=12) (v:=?v12A) rfl (by kernel_rfl) (by kernel_rfl) (by kernel_rfl) (fun _ _ _ h=>h) (Or.inl ⟨by rfl,?hy12A⟩) (by assumption) ?rest12A
                case hy12A=>
                  intro w hSw
                  (try dsimp only at hSw)
                  go_simp
                  all_goals with_reducible rfl
                simp only [Act.put,List.getElem_toArray,List.getElem_cons_zero,List.getElem_cons_succ,List.setIfInBounds_toArray,List.set_cons_zero,List.set_cons_succ];refine wpAnyH_take (i:=13) (v:=?v13A) rfl (by kernel_rfl) (by kernel_rfl) (by kernel_rfl) (fun _ _ _ h=>h) (Or.inl ⟨by rfl,?hy13A⟩) (by assumption) ?rest13A
                case hy13A=>
                  intro w hSw
                  (try dsimp only at hSw)
                  go_simp
                  all_goals with_reducible rfl
                simp only [Act.put,List.getElem_toArray,List.getElem_cons_zero,List.getElem_cons_succ,List.setIfInBounds_toArray,List.set_cons_zero,List.set_cons_succ];refine wpAnyH_take (i:=14) (v:=?v14A) rfl (by kernel_rfl) (by kernel_rfl) (by kernel_rfl) (fun _ _ _ h=>h) (Or.inl ⟨by rfl,?hy14A⟩) (by assumption) ?rest14A
                case hy14A=>
                  intro w hSw
                  (try dsimp only at hSw)
                  go_simp
                  all_goals with_reducible rfl
                simp only [Act.put,List.getElem_toArray,List.getElem_cons_zero,List.getElem_cons_succ,List.setIfInBounds_toArray,List.set_cons_zero,List.set_cons_succ];refine wpAnyH_take (i:=15) (v:=?v15A) rfl (by kernel_rfl) (by kernel_rfl) (by kernel_rfl) (fun _ _ _ h=>h) (Or.inl ⟨by rfl,?hy15A⟩) (by assumption) ?rest15A
                case hy15A=>
                  intro w hSw
                  (try dsimp only at hSw)
                  go_simp
                  all_goals with_reducible rfl
                simp only [Act.put,List.getElem_toArray,List.getElem_cons_zero,List.getElem_cons_succ,List.setIfInBounds_toArray,List.set_cons_zero,List.set_cons_succ];refine wpAnyH_ready (rs:=[16]) (by kernel_rfl) (by simp) ?_;refine AllReadyH.cons (o:=_) rfl (fun K hK=>?_) AllReadyH.nil;go_simp;refine (HB.out _).mono ?_;rintro e wx ⟨rfl,hbx⟩;have hbx4:Below w4.heap.size w4 wx:=by first | exact below_of_drew hbx (Nat.le_refl _) | exact hbx
                have ktx:=(kt.below hbx4).facts;have hcx:=hcu.below hub hbx4;have hdx:=((kdq.below hbt).below hbx4).cell HDI.out;go_wp2_with fail;refine hK.out _ _ ?_ (fun hHeld=>?_)
                · exact ⟨hdx,ktx.c0,ktx.c1,ktx.c2,ktx.c3,ktx.c4,ktx.c5,ktx.c6,ktx.c7,hcx.c0,hcx.c1,hcx.c2,hcx.c3,hcx.c4,hcx.c5,hcx.c6,hcx.c7⟩
                clear hK K
                try simp only [Act.put,List.getElem_toArray,List.getElem_cons_zero,List.getElem_cons_succ,List.setIfInBounds_toArray,List.set_cons_zero,List.set_cons_succ]
                refine wpAnyH_take (i:=17) (v:=?v17A) rfl (by kernel_rfl) (by kernel_rfl) (by kernel_rfl) (fun _ _ _ h=>h) (Or.inl ⟨by rfl,?hy17A⟩) (by assumption) ?rest17A
                case hy17A=>
                  intro w hSw
                  (try dsimp only at hSw)
                  go_simp
                  all_goals with_reducible rfl
                simp only [Act.put,List.getElem_toArray,List.getElem_cons_zero,List.getElem_cons_succ,List.setIfInBounds_toArray,List.set_cons_zero,List.set_cons_succ];refine wpAnyH_take (i:=18) (v:=?v18A) rfl (by kernel_rfl) (by kernel_rfl) (by kernel_rfl) (fun _ _ _ h=>h) (Or.inl ⟨by rfl,?hy18A⟩) (by assumption) ?rest18A
                case hy18A=>
                  intro w hSw
                  (try dsimp only at hSw)
                  go_simp
                  all_goals with_reducible rfl
                simp only [Act.put,List.getElem_toArray,List.getElem_cons_zero,List.getElem_cons_succ,List.setIfInBounds_toArray,List.set_cons_zero,List.set_cons_succ];refine wpAnyH_done (by kernel_rfl) ?_ _;go_wp2_with fail;go_roundw
                case rel=>exact ⟨i+1,by omega,by go_num,.inr ⟨i,hil,rfl,hbst.out.new HPI.out HPU.out HDI.out hcmp⟩,hbq4.trans (hbx4.mono hbq4.size)⟩
                case measure=>simp [intOf];omega
              · have HB:=Lib.hid (fun W=>pbefore_lt hwt hwu false (decide_eq_false hcmp).symm W);refine wp_region_held_drew (S:=fun w'=>w'.cell? ⟨w.heap.size+1+1,i,none⟩=some (.bool false)∧w'.cell? ⟨wr.heap.size,0,none⟩=some (.int .i64 (ex t.m 0:Nat))∧w'.cell? ⟨wr.heap.size,1,none⟩=some (.int .i64 (ex t.m 1:Nat))∧w'.cell? ⟨wr.heap.size,2,none⟩=some (.int .i64 (ex t.m 2:Nat))∧w'.cell? ⟨wr.heap.size,3,none⟩=some (.int .i64 (ex t.m 3:Nat))∧w'.cell? ⟨wr.heap.size,4,none⟩=some (.int .i64 (ex t.m 4:Nat))∧w'.cell? ⟨wr.heap.size,5,none⟩=some (.int .i64 (ex t.m 5:Nat))∧w'.cell? ⟨wr.heap.size,6,none⟩=some (.int .i64 (ex t.m 6:Nat))∧w'.cell? ⟨wr.heap.size,7,none⟩=some (.int .i64 (ex t.m 7:Nat))∧w'.cell? (ad.add (b*11))=some (.int .i64 (ex u.m 0:Nat))∧w'.cell? ⟨(ad.add (b*11)).block,(ad.add (b*11)).off+1,none⟩=some (.int .i64 (ex u.m 1:Nat))∧w'.cell? ⟨(ad.add (b*11)).block,(ad.add (b*11)).off+2,none⟩=some (.int .i64 (ex u.m 2:Nat))∧w'.cell? ⟨(ad.add (b*11)).block,(ad.add (b*11)).off+3,none⟩=some (.int .i64 (ex u.m 3:Nat))∧w'.cell? ⟨(ad.add (b*11)).block,(ad.add (b*11)).off+4,none⟩=some (.int .i64 (ex u.m 4:Nat))∧w'.cell? ⟨(ad.add (b*11)).block,(ad.add (b*11)).off+5,none⟩=some (.int .i64 (ex u.m 5:Nat))∧w'.cell? ⟨(ad.add (b*11)).block,(ad.add (b*11)).off+6,none⟩=some (.int .i64 (ex u.m 6:Nat))∧w'.cell? ⟨(ad.add (b*11)).block,(ad.add (b*11)).off+7,none⟩=some (.int .i64 (ex u.m 7:Nat))) (by kernel_rfl) ?_ (fun hHeld=>?_)
                · exact ⟨hcd4,c0,c1,c2,c3,c4,c5,c6,c7,u0,u1,u2,u3,u4,u5,u6,u7⟩
                refine wpAnyH_take (i:=0) (v:=?v0B) rfl (by kernel_rfl) (by kernel_rfl) (by kernel_rfl) (fun _ _ _ h=>h) (Or.inl ⟨by rfl,?hy0B⟩) (by assumption) ?rest0B
                case hy0B=>
                  intro w hSw
                  (try dsimp only at hSw)
                  go_simp
                  all_goals with_reducible rfl
                simp only [Act.put,List.getElem_toArray,List.getElem_cons_zero,List.setIfInBounds_toArray,List.set_cons_zero,List.set_cons_succ];refine wpAnyH_take (i:=1) (v:=?v1B) rfl (by kernel_rfl) (by kernel_rfl) (by kernel_rfl) (fun _ _ _ h=>h) (Or.inl ⟨by rfl,?hy1B⟩) (by assumption) ?rest1B
                case hy1B=>
                  intro w hSw
                  (try dsimp only at hSw)
                  go_simp
                  all_goals with_reducible rfl
                simp only [Act.put,List.getElem_toArray,List.getElem_cons_zero,List.getElem_cons_succ,List.setIfInBounds_toArray,List.set_cons_zero,List.set_cons_succ];refine wpAnyH_take (i:=2) (v:=?v2B) rfl (by kernel_rfl) (by kernel_rfl) (by kernel_rfl) (fun _ _ _ h=>h) (Or.inl ⟨by rfl,?hy2B⟩) (by assumption) ?rest2B
                case hy2B=>
                  intro w hSw
                  (try dsimp only at hSw)
                  go_simp
                  all_goals with_reducible rfl
                simp only [Act.put,List.getElem_toArray,List.getElem_cons_zero,List.getElem_cons_succ,List.setIfInBounds_toArray,List.set_cons_zero,List.set_cons_succ];refine wpAnyH_take (i:=3) (v:=?v3B) rfl (by kernel_rfl) (by kernel_rfl) (by kernel_rfl) (fun _ _ _ h=>h) (Or.inl ⟨by rfl,?hy3B⟩) (by assumption) ?rest3B
                case hy3B=>
                  intro w hSw
                  (try dsimp only at hSw)
                  go_simp
                  all_goals with_reducible rfl
                simp only [Act.put,List.getElem_toArray,List.getElem_cons_zero,List.getElem_cons_succ,List.setIfInBounds_toArray,List.set_cons_zero,List.set_cons_succ];refine wpAnyH_take (i:=4) (v:=?v4B) rfl (by kernel_rfl) (by kernel_rfl) (by kernel_rfl) (fun _ _ _ h=>h) (Or.inl ⟨by rfl,?hy4B⟩) (by assumption) ?rest4B
                case hy4B=>
                  intro w hSw
                  (try dsimp only at hSw)
                  go_simp
                  all_goals with_reducible rfl
                simp only [Act.put,List.getElem_toArray,List.getElem_cons_zero,List.getElem_cons_succ,List.setIfInBounds_toArray,List.set_cons_zero,List.set_cons_succ];refine wpAnyH_take (i:=5) (v:=?v5B) rfl (by kernel_rfl) (by kernel_rfl) (by kernel_rfl) (fun _ _ _ h=>h) (Or.inl ⟨by rfl,?hy5B⟩) (by assumption) ?rest5B
                case hy5B=>
                  intro w hSw
                  (try dsimp only at hSw)
                  go_simp
                  all_goals with_reducible rfl
                simp only [Act.put,List.getElem_toArray,List.getElem_cons_zero,List.getElem_cons_succ,List.setIfInBounds_toArray,List.set_cons_zero,List.set_cons_succ];refine wpAnyH_take (i:=6) (v:=?v6B) rfl (by kernel_rfl) (by kernel_rfl) (by kernel_rfl) (fun _ _ _ h=>h) (Or.inl ⟨by rfl,?hy6B⟩) (by assumption) ?rest6B
                case hy6B=>
                  intro w hSw
                  (try dsimp only at hSw)
                  go_simp
                  all_goals with_reducible rfl
                simp only [Act.put,List.getElem_toArray,List.getElem_cons_zero,List.getElem_cons_succ,List.setIfInBounds_toArray,List.set_cons_zero,List.set_cons_succ];refine wpAnyH_take (i:=7) (v:=?v7B) rfl (by kernel_rfl) (by kernel_rfl) (by kernel_rfl) (fun _ _ _ h=>h) (Or.inl ⟨by rfl,?hy7B⟩) (by assumption) ?rest7B
                case hy7B=>
                  intro w hSw
                  (try dsimp only at hSw)
                  go_simp
                  all_goals with_reducible rfl
                simp only [Act.put,List.getElem_toArray,List.getElem_cons_zero,List.getElem_cons_succ,List.setIfInBounds_toArray,List.set_cons_zero,List.set_cons_succ];refine wpAnyH_take (i:=8) (v:=?v8B) rfl (by kernel_rfl) (by kernel_rfl) (by kernel_rfl) (fun _ _ _ h=>h) (Or.inl ⟨by rfl,?hy8B⟩) (by assumption) ?rest8B
                case hy8B=>
                  intro w hSw
                  (try dsimp only at hSw)
                  go_simp
                  all_goals with_reducible rfl
                simp only [Act.put,List.getElem_toArray,List.getElem_cons_zero,List.getElem_cons_succ,List.setIfInBounds_toArray,List.set_cons_zero,List.set_cons_succ];refine wpAnyH_take (i:=9) (v:=?v9B) rfl (by kernel_rfl) (by kernel_rfl) (by kernel_rfl) (fun _ _ _ h=>h) (Or.inl ⟨by rfl,?hy9B⟩) (by assumption) ?rest9B
                case hy9B=>
                  intro w hSw
                  (try dsimp only at hSw)
                  go_simp
                  all_goals with_reducible rfl
                simp only [Act.put,List.getElem_toArray,List.getElem_cons_zero,List.getElem_cons_succ,List.setIfInBounds_toArray,List.set_cons_zero,List.set_cons_succ];refine wpAnyH_take (i:=10) (v:=?v10B) rfl (by kernel_rfl) (by kernel_rfl) (by kernel_rfl) (fun _ _ _ h=>h) (Or.inl ⟨by rfl,?hy10B⟩) (by assumption) ?rest10B
                case hy10B=>
                  intro w hSw
                  (try dsimp only at hSw)
                  go_simp
                  all_goals with_reducible rfl
                simp only [Act.put,List.getElem_toArray,List.getElem_cons_zero,List.getElem_cons_succ,List.setIfInBounds_toArray,List.set_cons_zero,List.set_cons_succ];refine wpAnyH_take (i:=11) (v:=?v11B) rfl (by kernel_rfl) (by kernel_rfl) (by kernel_rfl) (fun _ _ _ h=>h) (Or.inl ⟨by rfl,?hy11B⟩) (by assumption) ?rest11B
                case hy11B=>
                  intro w hSw
                  (try dsimp only at hSw)
                  go_simp
                  all_goals with_reducible rfl
                simp only [Act.put,List.getElem_toArray,List.getElem_cons_zero,List.getElem_cons_succ,List.setIfInBounds_toArray,List.set_cons_zero,List.set_cons_succ];refine wpAnyH_take (i:=12) (v:=?v12B) rfl (by kernel_rfl) (by kernel_rfl) (by kernel_rfl) (fun _ _ _ h=>h) (Or.inl ⟨by rfl,?hy12B⟩) (by assumption) ?rest12B
                case hy12B=>
                  intro w hSw
                  (try dsimp only at hSw)
                  go_simp
                  all_goals with_reducible rfl
                simp only [Act.put,List.getElem_toArray,List.getElem_cons_zero,List.getElem_cons_succ,List.setIfInBounds_toArray,List.set_cons_zero,List.set_cons_succ];refine wpAnyH_take (i:=13) (v:=?v13B) rfl (by kernel_rfl) (by kernel_rfl) (by kernel_rfl) (fun _ _ _ h=>h) (Or.inl ⟨by rfl,?hy13B⟩) (by assumption) ?rest13B
                case hy13B=>
                  intro w hSw
                  (try dsimp only at hSw)
                  go_simp
                  all_goals with_reducible rfl
                simp only [Act.put,List.getElem_toArray,List.getElem_cons_zero,List.getElem_cons_succ,List.setIfInBounds_toArray,List.set_cons_zero,List.set_cons_succ];refine wpAnyH_take (i:=14) (v:=?v14B) rfl (by kernel_rfl) (by kernel_rfl) (by kernel_rfl) (fun _ _ _ h=>h) (Or.inl ⟨by rfl,?hy14B⟩) (by assumption) ?rest14B
                case hy14B=>
                  intro w hSw
                  (try dsimp only at hSw)
                  go_simp
                  all_goals with_reducible rfl
                simp only [Act.put,List.getElem_toArray,List.getElem_cons_zero,List.getElem_cons_succ,List.setIfInBounds_toArray,List.set_cons_zero,List.set_cons_succ];refine wpAnyH_take (i:=15) (v:=?v15B) rfl (by kernel_rfl) (by kernel_rfl) (by kernel_rfl) (fun _ _ _ h=>h) (Or.inl ⟨by rfl,?hy15B⟩) (by assumption) ?rest15B
                case hy15B=>
                  intro w hSw
                  (try dsimp only at hSw)
                  go_simp
                  all_goals with_reducible rfl
                simp only [Act.put,List.getElem_toArray,List.getElem_cons_zero,List.getElem_cons_succ,List.setIfInBounds_toArray,List.set_cons_zero,List.set_cons_succ];refine wpAnyH_ready (rs:=[16]) (by kernel_rfl) (by simp) ?_;refine AllReadyH.cons (o:=_) rfl (fun K hK=>?_) AllReadyH.nil;go_simp;refine (HB.out _).mono ?_;rintro e wx ⟨rfl,hbx⟩;have hbx4:Below w4.heap.size w4 wx:=by first | exact below_of_drew hbx (Nat.le_refl _) | exact hbx
                have ktx:=(kt.below hbx4).facts;have hcx:=hcu.below hub hbx4;have hdx:=((kdq.below hbt).below hbx4).cell HDI.out;go_wp2_with fail;refine hK.out _ _ ?_ (fun hHeld=>?_)
                · exact ⟨hdx,ktx.c0,ktx.c1,ktx.c2,ktx.c3,ktx.c4,ktx.c5,ktx.c6,ktx.c7,hcx.c0,hcx.c1,hcx.c2,hcx.c3,hcx.c4,hcx.c5,hcx.c6,hcx.c7⟩
                clear hK K
                try simp only [Act.put,List.getElem_toArray,List.getElem_cons_zero,List.getElem_cons_succ,List.setIfInBounds_toArray,List.set_cons_zero,List.set_cons_succ]
                refine wpAnyH_take (i:=17) (v:=?v17B) rfl (by kernel_rfl) (by kernel_rfl) (by kernel_rfl) (fun _ _ _ h=>h) (Or.inl ⟨by rfl,?hy17B⟩) (by assumption) ?rest17B
                case hy17B=>
                  intro w hSw
                  (try dsimp only at hSw)
                  go_simp
                  all_goals with_reducible rfl
                simp only [Act.put,List.getElem_toArray,List.getElem_cons_zero,List.getElem_cons_succ,List.setIfInBounds_toArray,List.set_cons_zero,List.set_cons_succ];refine wpAnyH_take (i:=18) (v:=?v18B) rfl (by kernel_rfl) (by kernel_rfl) (by kernel_rfl) (fun _ _ _ h=>h) (Or.inl ⟨by rfl,?hy18B⟩) (by assumption) ?rest18B
                case hy18B=>
                  intro w hSw
                  (try dsimp only at hSw)
                  go_simp
                  all_goals with_reducible rfl
                simp only [Act.put,List.getElem_toArray,List.getElem_cons_zero,List.getElem_cons_succ,List.setIfInBounds_toArray,List.set_cons_zero,List.set_cons_succ];refine wpAnyH_done (by kernel_rfl) ?_ _;go_wp2_with fail;go_roundw
                case rel=>exact ⟨i+1,by omega,by go_num,.inr ⟨b,hb1,rfl,hbst.out.keep HPI.out HPU.out (by omega)⟩,hbq4.trans (hbx4.mono hbq4.size)⟩
                case measure=>simp [intOf];omega
        · obtain rfl:i=ts.length:=by omega
          rcases hbest with ⟨_,hnone⟩ | ⟨b,hb1,rfl,hbst⟩
          · exact absurd (by have:=hnone.out;rw [HPL.out] at this;exact this) (hpk.out.more (by rw [hdl,HPL.out]) (by rw [hol,← HPL.out];exact hlt))
          · obtain ⟨ad,u,rfl,hbb,hu,hcu⟩:=((HH.out.below hbw).rd.below hbq).ask hb1;obtain ⟨q,hpu,hur,hut,hul1,hul2⟩:=HH.out.hs.2 b u hu.out;have HPU:=Lib.hid hpu;have hdb:=hbst.out.2.1;have hpk2:Hid (Picked p (ds.set b true) (out ++ [(u.m,q)])):=hpk.out.step HP.out hpu hdb fun i t ht hd=>hbst.out.2.2 i t (u.m,q) (by have h1:=(List.getElem?_eq_some_iff.1 ht).1;have h2:=HPL.out;omega) hd ht hpu
            have hcd:=kdq.cell hdb;have hfd:=kdq.frozen b;have hbb0:ad.block<w.heap.size:=by
              obtain ⟨ad2,e2,hl2,_⟩:=HH.out.rd (by omega);injection e2 with e2;subst e2;exact hl2
            have hwr:=hbw.trans (hbq.mono hbw.size);have hwrs:=hwr.size;have kr2:=kr1.below hbq;have ko2:=ko1.below hbq;have hown2:=hown.below hbq;have hmh2:=hmh.off (Off.of_below hbq);have hb2:(b:Int)<(ts.length:Int):=by omega
            have hdl2:b<ds.length:=by omega
            have hown3:OwnM (w.heap.size+3) (wr.setCell ⟨w.heap.size+1+1,b,none⟩ (.bool true)) v ms:=ownsRow_set hown2 (fun g hg=>by have:=(World.ownsRow.lt hown2 g hg).1;omega) b _;have hoff3:Off wr (wr.setCell ⟨w.heap.size+1+1,b,none⟩ (.bool true)):=(Off.refl wr).setT kdq.ty (by decide) _ _;have hmh3:=hmh2.off hoff3;have kr3:=kr2.far (x:=w.heap.size+1+1) (i:=b) (by omega) (.bool true);have ko3:=ko2.far (x:=w.heap.size+1+1) (i:=b) (by omega) (.bool true);have kd3:=kdq.set_ b true;have hw3:Below w.heap.size w (wr.setCell ⟨w.heap.size+1+1,b,none⟩ (.bool true)):=hwr.setCell (by simp;omega) _;clear hpu kr1 ko1 kd1 hown hmh hmh2 hown2 kr2 ko2 hoff3 hpk;go_upto_region 13 with fail;obtain ⟨w5,hw5⟩:∃ x,wr.setCell ⟨w.heap.size+1+1,b,none⟩ (.bool true)=x:=⟨_,rfl⟩;rw [hw5] at hown3 hmh3 kr3 ko3 kd3 hw3 ⊢;have hs5:w5.heap.size=wr.heap.size:=by rw [← hw5];simp [World.setCell]
            clear hw5 hcd hfd hcu kdq;obtain ⟨ad2,u2,he2,hbb2,hu2,hcu⟩:=(HH.out.below hw3).rd.ask hb1;injection he2 with he2;subst he2;have he3:u2=u:=by have:=hu2.out;rw [hu.out] at this;injection this with this;exact this.symm
            subst he3;clear hu2 hbb2;have hub:(ad.add (b*11)).block<w.heap.size:=by rw [block_of_add];exact hbb0
            have hw5s:=hw3.size;have hown0:Own .i64 3 w5.heap.size (w5.drew.alloc (.cells #[] 3)) (.slice (some ⟨w5.heap.size,0,none⟩) 0 0) []:=Own.made (k:=.i64) (e:=3) (w:=w5.drew) (B:=w5.heap.size) (Nat.le_refl _) 0 (by omega);have hb56:Below w5.heap.size w5 (w5.drew.alloc (.cells #[] 3)):=((Below.refl _ w5).drew).alloc (Nat.le_refl _) _;obtain ⟨w6,hw6⟩:∃ x,w5.drew.alloc (.cells #[] 3)=x:=⟨_,rfl⟩;rw [hw6] at hown0 hb56;have hc6:=hcu.below (by omega) hb56;have hX:∀ i,i<8→w6.cell? ((ad.add (b*11)).add i)=some (.int .i64 ((ex u2.m i:Nat):Int)):=fun i hi=>by
              have hadd:∀ k,0<k→(ad.add (b*11)).add k=⟨(ad.add (b*11)).block,(ad.add (b*11)).off+k,none⟩:=fun k h0=>by
                unfold Addr.add;rw [if_neg (by omega)]
              match i,hi with
              | 0,_=>rw [add_zero_];exact hc6.c0
              | 1,_=>rw [hadd 1 (by omega)];exact hc6.c1
              | 2,_=>rw [hadd 2 (by omega)];exact hc6.c2
              | 3,_=>rw [hadd 3 (by omega)];exact hc6.c3
              | 4,_=>rw [hadd 4 (by omega)];exact hc6.c4
              | 5,_=>rw [hadd 5 (by omega)];exact hc6.c5
              | 6,_=>rw [hadd 6 (by omega)];exact hc6.c6
              | 7,_=>rw [hadd 7 (by omega)];exact hc6.c7
            obtain ⟨X,xc,w7,happ,hxc,hrt7,hgr7⟩:=app_exps hown0 hX hn;have hb57:Below w5.heap.size w5 w7:=hb56.grown hgr7 hb56.size (fun k e=>by injection e with e;omega);have ko6:=ko3.below hb56;have ko7:=ko3.below hb57;have hc7:=hcu.below (by omega) hb57;have HIS:=Lib.hid (fun W (hW:Below w7.heap.size w7 W)=>qtoT u2.c q W (hur.below (hw3.trans ((hb57.trans (hW.mono hb57.size)).mono hw3.size))) l hul1 hul2 (by omega));have HRT:=Lib.hid hrt7;have HC:=Lib.hid hcu;have hnl:((n:Nat):Int)≤8:=by omega
            have harr:Tryz.prog.arrayLen 80=8:=by kernel_rfl
            have hovl:v.ownBlock≠some (w.heap.size+1):=fun e=>by have:=(World.ownsRow.lt hown3 _ e).1;omega
            have hvw:=World.ownsRow.lt hown3;have hkdl:=kd3.lt;obtain ⟨i0,hi0,hz0,hz1,hz2⟩:=info_parts info_mono;rw [hs5] at happ;clear hX hown0 hgr7 hrt7;refine wp_region_last 20 (S:=fun w'=>w'.cell? ⟨w.heap.size+1,1,none⟩=some (v)∧w'.cell? ⟨(ad.add (b*11)).block,(ad.add (b*11)).off+8,none⟩=some (.bool u2.c.s)∧w'.cell? ⟨(ad.add (b*11)).block,(ad.add (b*11)).off+9,none⟩=some (.slice u2.c.N u2.c.ns.length u2.c.nc)∧w'.cell? ⟨(ad.add (b*11)).block,(ad.add (b*11)).off+10,none⟩=some (.slice u2.c.D u2.c.ds.length u2.c.dc)) (by kernel_rfl) ?_ (fun hHeld=>?_)
            · exact ⟨ko3.facts.c1,hcu.c8,hcu.c9,hcu.c10⟩
            refine wpAnyL_take (i:=0) (v:=?v0L1) rfl (by kernel_rfl) (by kernel_rfl) (by kernel_rfl) (fun _ _ _ h=>h) (by kernel_rfl) (by kernel_rfl) (Or.inl ⟨by rfl,?hy0L1⟩) (by assumption) ?rest0L1
            case hy0L1=>
              intro w hSw
              (try dsimp only at hSw)
              go_simp
              all_goals with_reducible rfl
            simp only [Act.put,List.getElem_toArray,List.getElem_cons_zero,List.setIfInBounds_toArray,List.set_cons_zero,List.set_cons_succ];refine wpAnyL_take (i:=1) (v:=?v1L1) rfl (by kernel_rfl) (by kernel_rfl) (by kernel_rfl) (fun _ _ _ h=>h) (by kernel_rfl) (by kernel_rfl) (Or.inl ⟨by rfl,?hy1L1⟩) (by assumption) ?rest1L1
            case hy1L1=>
              intro w hSw
              (try dsimp only at hSw)
              go_simp
              all_goals with_reducible rfl
            simp only [Act.put,List.getElem_toArray,List.getElem_cons_zero,List.getElem_cons_succ,List.setIfInBounds_toArray,List.set_cons_zero,List.set_cons_succ];refine wpAnyL_take (i:=3) (v:=?v3L1) rfl (by kernel_rfl) (by kernel_rfl) (by kernel_rfl) (fun _ _ _ h=>h) (by kernel_rfl) (by kernel_rfl) (Or.inl ⟨by rfl,?hy3L1⟩) (by assumption) ?rest3L1
            case hy3L1=>
              intro w hSw
              (try dsimp only at hSw)
              go_simp
              all_goals with_reducible rfl
            simp only [Act.put,List.getElem_toArray,List.getElem_cons_zero,List.getElem_cons_succ,List.setIfInBounds_toArray,List.set_cons_zero,List.set_cons_succ];refine wpAnyL_take (i:=4) (v:=?v4L1) rfl (by kernel_rfl) (by kernel_rfl) (by kernel_rfl) (fun _ _ _ h=>h) (by kernel_rfl) (by kernel_rfl) (Or.inl ⟨by rfl,?hy4L1⟩) (by assumption) ?rest4L1
            case hy4L1=>
              intro w hSw
              (try dsimp only at hSw)
              go_simp
              all_goals with_reducible rfl
            simp only [Act.put,List.getElem_toArray,List.getElem_cons_zero,List.getElem_cons_succ,List.setIfInBounds_toArray,List.set_cons_zero,List.set_cons_succ];refine wpAnyL_take (i:=5) (v:=?v5L1) rfl (by kernel_rfl) (by kernel_rfl) (by kernel_rfl) (fun _ _ _ h=>h) (by kernel_rfl) (by kernel_rfl) (Or.inl ⟨by rfl,?hy5L1⟩) (by assumption) ?rest5L1
            case hy5L1=>
              intro w hSw
              (try dsimp only at hSw)
              go_simp
              all_goals with_reducible rfl
            simp only [Act.put,List.getElem_toArray,List.getElem_cons_zero,List.getElem_cons_succ,List.setIfInBounds_toArray,List.set_cons_zero,List.set_cons_succ];refine wpAnyL_take (i:=6) (v:=?v6L1) rfl (by kernel_rfl) (by kernel_rfl) (by kernel_rfl) (fun _ _ _ h=>h) (by kernel_rfl) (by kernel_rfl) (Or.inl ⟨by rfl,?hy6L1⟩) (by assumption) ?rest6L1
            case hy6L1=>
              intro w hSw
              (try dsimp only at hSw)
              go_simp
              all_goals with_reducible rfl
            simp only [Act.put,List.getElem_toArray,List.getElem_cons_zero,List.getElem_cons_succ,List.setIfInBounds_toArray,List.set_cons_zero,List.set_cons_succ];refine wpAnyL_take (i:=7) (v:=?v7L1) rfl (by kernel_rfl) (by kernel_rfl) (by kernel_rfl) (fun _ _ _ h=>h) (by kernel_rfl) (by kernel_rfl) (Or.inl ⟨by rfl,?hy7L1⟩) (by assumption) ?rest7L1
            case hy7L1=>
              intro w hSw
              (try dsimp only at hSw)
              go_simp
              all_goals with_reducible rfl
            simp only [Act.put,List.getElem_toArray,List.getElem_cons_zero,List.getElem_cons_succ,List.setIfInBounds_toArray,List.set_cons_zero,List.set_cons_succ];refine wpAnyL_take (i:=8) (v:=?v8L1) rfl (by kernel_rfl) (by kernel_rfl) (by kernel_rfl) (fun _ _ _ h=>h) (by kernel_rfl) (by kernel_rfl) (Or.inl ⟨by rfl,?hy8L1⟩) (by assumption) ?rest8L1
            case hy8L1=>
              intro w hSw
              (try dsimp only at hSw)
              go_simp
              all_goals with_reducible rfl
            simp only [Act.put,List.getElem_toArray,List.getElem_cons_zero,List.getElem_cons_succ,List.setIfInBounds_toArray,List.set_cons_zero,List.set_cons_succ];refine wpAnyL_take (i:=10) (v:=?v10L1) rfl (by kernel_rfl) (by kernel_rfl) (by kernel_rfl) (fun _ _ _ h=>h) (by kernel_rfl) (by kernel_rfl) (Or.inl ⟨by rfl,?hy10L1⟩) (by assumption) ?rest10L1
            case hy10L1=>
              intro w hSw
              (try dsimp only at hSw)
              go_simp
              all_goals with_reducible rfl
            simp only [Act.put,List.getElem_toArray,List.getElem_cons_zero,List.getElem_cons_succ,List.setIfInBounds_toArray,List.set_cons_zero,List.set_cons_succ];refine wpAnyL_take (i:=11) (v:=?v11L1) rfl (by kernel_rfl) (by kernel_rfl) (by kernel_rfl) (fun _ _ _ h=>h) (by kernel_rfl) (by kernel_rfl) (Or.inl ⟨by rfl,?hy11L1⟩) (by assumption) ?rest11L1
            case hy11L1=>
              intro w hSw
              (try dsimp only at hSw)
              go_simp
              all_goals with_reducible rfl
            simp only [Act.put,List.getElem_toArray,List.getElem_cons_zero,List.getElem_cons_succ,List.setIfInBounds_toArray,List.set_cons_zero,List.set_cons_succ];refine wpAnyL_take (i:=12) (v:=?v12L1) rfl (by kernel_rfl) (by kernel_rfl) (by kernel_rfl) (fun _ _ _ h=>h) (by kernel_rfl) (by kernel_rfl) (Or.inl ⟨by rfl,?hy12L1⟩) (by assumption) ?rest12L1
            case hy12L1=>
              intro w hSw
              (try dsimp only at hSw)
              go_simp
              all_goals with_reducible rfl
            simp only [Act.put,List.getElem_toArray,List.getElem_cons_zero,List.getElem_cons_succ,List.setIfInBounds_toArray,List.set_cons_zero,List.set_cons_succ];refine wpAnyL_take (i:=13) (v:=?v13L1) rfl (by kernel_rfl) (by kernel_rfl) (by kernel_rfl) (fun _ _ _ h=>h) (by kernel_rfl) (by kernel_rfl) (Or.inl ⟨by rfl,?hy13L1⟩) (by assumption) ?rest13L1
            case hy13L1=>
              intro w hSw
              (try dsimp only at hSw)
              go_simp
              all_goals with_reducible rfl
            simp only [Act.put,List.getElem_toArray,List.getElem_cons_zero,List.getElem_cons_succ,List.setIfInBounds_toArray,List.set_cons_zero,List.set_cons_succ];refine wpAnyL_take (i:=14) (v:=?v14L1) rfl (by kernel_rfl) (by kernel_rfl) (by kernel_rfl) (fun _ _ _ h=>h) (by kernel_rfl) (by kernel_rfl) (Or.inl ⟨by rfl,?hy14L1⟩) (by assumption) ?rest14L1
            case hy14L1=>
              intro w hSw
              (try dsimp only at hSw)
              go_simp
              all_goals with_reducible rfl
            simp only [Act.put,List.getElem_toArray,List.getElem_cons_zero,List.getElem_cons_succ,List.setIfInBounds_toArray,List.set_cons_zero,List.set_cons_succ];refine wpAnyL_next 2 (by kernel_rfl) rfl (fun K hK=>?_);clear hHeld;go_simp;refine hK.out _ _ ?_ (fun hHeld=>?_)
            · exact ⟨ko6.facts.c1,hc6.c8,hc6.c9,hc6.c10⟩
            clear hK K
            try simp only [Act.put,List.getElem_toArray,List.getElem_cons_zero,List.getElem_cons_succ,List.setIfInBounds_toArray,List.set_cons_zero,List.set_cons_succ]
            refine wpAnyL_next 9 (by kernel_rfl) rfl (fun K hK=>?_);clear hHeld;refine step_app_run (by rfl) _ _ _ (by rfl) (.slice (some ⟨wr.heap.size,0,none⟩) 0 0) (.slice (some (ad.add (b*11))) n 8) (.slice X n xc) (by rfl) (by rfl) happ ?_;refine hK.out _ _ ?_ (fun hHeld=>?_)
            · exact ⟨ko7.facts.c1,hc7.c8,hc7.c9,hc7.c10⟩
            clear hK K
            try simp only [Act.put,List.getElem_toArray,List.getElem_cons_zero,List.getElem_cons_succ,List.setIfInBounds_toArray,List.set_cons_zero,List.set_cons_succ]
            refine wpAnyL_next 15 (by kernel_rfl) rfl (fun K hK=>?_);clear hHeld;go_simp;refine (HIS.out _ (Below.refl _ _)).mono ?_;rintro e w8 ⟨r,rfl,hri,hrt,hrl1,hrl2,hb8⟩;have hb58:=hb57.trans (hb8.mono hb57.size);have ko8:=ko3.below hb58;have hc8:=HC.out.below (by omega) hb58;have hs8:=hb58.size;have hs7:=hb57.size;go_wp2_with fail;refine hK.out _ _ ?_ (fun hHeld=>?_)
            · exact ⟨ko8.facts.c1,hc8.c8,hc8.c9,hc8.c10⟩
            clear hK K
            try simp only [Act.put,List.getElem_toArray,List.getElem_cons_zero,List.getElem_cons_succ,List.setIfInBounds_toArray,List.set_cons_zero,List.set_cons_succ]
            refine wpAnyL_take (i:=16) (v:=?v16L1) rfl (by kernel_rfl) (by kernel_rfl) (by kernel_rfl) (fun _ _ _ h=>h) (by kernel_rfl) (by kernel_rfl) (Or.inl ⟨by rfl,?hy16L1⟩) (by assumption) ?rest16L1
            case hy16L1=>
              intro w hSw
              (try dsimp only at hSw)
              go_simp
              all_goals with_reducible rfl
            simp only [Act.put,List.getElem_toArray,List.getElem_cons_zero,List.getElem_cons_succ,List.setIfInBounds_toArray,List.set_cons_zero,List.set_cons_succ];refine wpAnyL_next 17 (by kernel_rfl) rfl (fun K hK=>?_);clear hHeld;go_simp;refine hK.out _ _ ?_ (fun hHeld=>?_)
            · exact ⟨(ko8.alloc _).facts.c1,(hc8.below (by omega) ((Below.refl w8.heap.size w8).alloc (Nat.le_refl _) _)).c8,(hc8.below (by omega) ((Below.refl w8.heap.size w8).alloc (Nat.le_refl _) _)).c9,(hc8.below (by omega) ((Below.refl w8.heap.size w8).alloc (Nat.le_refl _) _)).c10⟩
            clear hK K
            try simp only [Act.put,List.getElem_toArray,List.getElem_cons_zero,List.getElem_cons_succ,List.setIfInBounds_toArray,List.set_cons_zero,List.set_cons_succ]
            refine wpAnyL_next 18 (by kernel_rfl) rfl (fun K hK=>?_);clear hHeld;refine step_append_lies _ (by rfl) _ _ _ (by rfl) (w.heap.size+3) 79 i0 _ 4 80 Tryz.underlying22 hi0 hz0 hz1 hz2 rfl (by omega) v ms.length (flatM ms) (by rfl) (World.ownsRow.alloc (hown3.below hb58) _)
              ⟨w8.heap.size,0,none⟩ 1 1 [.slice X n xc,.bool r.s,.slice r.N r.ns.length r.nc,.slice r.D r.ds.length r.dc] (by rfl) (by rfl) (World.news_of_block (cs:=#[.slice X n xc,.bool r.s,.slice r.N r.ns.length r.nc,.slice r.D r.ds.length r.dc]) (t:=79) (fr:=(0,0)) (heap_alloc_new _ _)) (by simp [Value.oneCell'])
              (by omega) (by unfold maxLen;omega) (by omega) (by simp;omega) (w8.heap.size+1) (by simp) ?_
            intro gg cap w10 hown4 hgrow hat hlt4;have ko10:=(ko8.alloc _).grown hgrow hovl;have hc10:=(hc8.below (by omega) ((Below.refl w8.heap.size w8).alloc (Nat.le_refl _) (.cells #[.slice X n xc,.bool r.s,.slice r.N r.ns.length r.nc,.slice r.D r.ds.length r.dc] 79))).keep (w':=w10) fun z hz=>hgrow.cell_far z (by rw [hz];simp;omega) (fun e=>by have:=(hvw _ e.symm).1;rw [hz] at this;omega)
            refine hK.out _ _ ?_ (fun hHeld=>?_)
            · exact ⟨ko10.facts.c1,hc10.c8,hc10.c9,hc10.c10⟩
            clear hK K
            try simp only [Act.put,List.getElem_toArray,List.getElem_cons_zero,List.getElem_cons_succ,List.setIfInBounds_toArray,List.set_cons_zero,List.set_cons_succ]
            refine wpAnyL_take (i:=19) (v:=?v19L1) rfl (by kernel_rfl) (by kernel_rfl) (by kernel_rfl) (fun _ _ _ h=>h) (by kernel_rfl) (by kernel_rfl) (Or.inl ⟨by rfl,?hy19L1⟩) (by assumption) ?rest19L1
            case hy19L1=>
              intro w hSw
              (try dsimp only at hSw)
              go_simp
              all_goals with_reducible rfl
            simp only [Act.put,List.getElem_toArray,List.getElem_cons_zero,List.getElem_cons_succ,List.setIfInBounds_toArray,List.set_cons_zero,List.set_cons_succ];refine wpAnyL_last (by kernel_rfl) (by kernel_rfl) (by kernel_rfl) rfl (fun K hK=>?_);clear hHeld;go_simp;obtain ⟨x0,x1,x2,x3,x4⟩:=ko10.facts;go_simp;refine hK.out _ _ ?_;clear hK K
            try simp only [Act.put,List.getElem_toArray,List.getElem_cons_zero,List.getElem_cons_succ,List.setIfInBounds_toArray,List.set_cons_zero,List.set_cons_succ]
            have hst:=to_step w w8 w10 v ms n gg cap X xc r q u2.m out (ds.set b true) (kd3.below hb58) (kr3.below hb58) ko8 (hown3.below hb58) (hmh3.off (Off.of_below hb58)) (hw3.trans (hb58.mono hw3.size)) (HRT.out.below hb8) hxc hri hrt (by omega) (by omega) _ hown4 hgrow;obtain ⟨t1,t2,t3,t4,t5,t6⟩:=hst;have HT1:=Lib.hid t1;have HT2:=Lib.hid t2;have HT3:=Lib.hid t3;have HT4:=Lib.hid t4;have HT5:=Lib.hid t5;have HT6:=Lib.hid t6;clear t1 t2 t3 t4 t5 t6;go_wp2_with fail;go_roundw
            case rel=>exact ⟨_,ds.set b true,out ++ [(u2.m,q)],ms ++ [⟨X,n,xc,r⟩],by rw [List.length_append,List.length_singleton];omega,by rw [List.length_append,List.length_singleton];go_num,by rw [List.length_set];exact hdl,hpk2,by rw [List.length_append,List.length_append,hol];rfl,HT1.out,HT2.out,HT3.out,HT4.out,HT5.out,HT6.out⟩
            case measure=>simp [intOf];omega
    · have hle:ms.length=ts.length:=by omega
      have HWH:Hid (out=nfOf p):=hpk.out.whole HP.out (by rw [hdl];exact HPL.out) (by rw [hol,hle];exact HPL.out);obtain ⟨VA,vc,rfl,hvc,hvr,hvlt⟩:=hown.form;obtain ⟨p0,p1,p2,p3,p4⟩:=ko1.facts;obtain ⟨r0,r1,r2,r3,r4⟩:=kr1.facts;have KR:=Lib.hid kr1;have HMH:=Lib.hid hmh;have hne:¬ w.heap.size=w.heap.size+1:=by omega
      have HLE:=Lib.hid hle;clear hmh hle kd1 hpk;go_wp2_with fail;refine bodyPost_ret (v:=.agg #[.int .i64 n,.slice VA ms.length vc]) (by simp [results,Tryz.results62,go_sem,r0,r1]) rfl ?_;have hm2:=HMH.out;rw [HWH.out] at hm2;exact to_end w wr VA vc ms n (up n (nfOf p)) KR.out hown hm2 hbw hvc hvr _ _
end Go.Proofs.YtgekmfcbbjeahaaGreatDoor
