/- poly.merge at terms, with the closures of sum; poly.sum. -/
import Derived.Test.YtgekmfcbbjeahaaGreatDoorPpR26
attribute [local go_sem ↓] Go.wp_at_zero Go.wp_at_succ
namespace Go.Proofs.YtgekmfcbbjeahaaGreatDoor
open Go.RowKit V
theorem make_terms0 (n:Nat) (N:Int) (hN:N=n) (hn:n≤1000000) (w:World) :
    (Instr.makeSlice 85 (.int .i64 0) (.int .i64 N)).run Tryz.prog w = .ok (.slice (some ⟨w.heap.size,0,none⟩) 0 n) (w.alloc (.cells (flat (List.replicate n TM0)).toArray 115)):=by
  subst hN;obtain ⟨i0,hi,hz0,hz1,hz2⟩:=info_parts info_term;have hr:=run_make (P:=Tryz.prog) w 85 115 i0 _ Tryz.underlying85 hi hz0 .i64 .i64 0 n (by omega) (by omega) (by rw [hz2];omega) (by omega);rw [hr,Int.toNat_natCast,hz1,made_terms];rfl
theorem OwnT.made {B:Nat} {w:World} (hb:B≤w.heap.size) (n:Nat) (hn:n≤1000000):OwnT B (w.alloc (.cells (flat (List.replicate n TM0)).toArray 115)) (.slice (some ⟨w.heap.size,0,none⟩) 0 n) []:=
  World.ownsRow_made w _ n hb (by unfold maxLen;omega) (by simp [flat_len])
theorem PRd.tail {w:World} {ad:Addr} {t:TM} {us:List TM} {x:Nat × Rat} {P:PL} (h:PRd w (some ad) (t :: us) (x :: P)) {A1:Option Addr} (hA:0<us.length→A1=some (ad.add (1*4))):PRd w A1 us P:=
  ⟨fun hn=>by
    have h2:=h.rd.drop (m:=1) rfl;rw [hA hn];exact h2 hn,by have:=h.hs.1;simp at this;exact this,fun j u hu=>by
    obtain ⟨m,q,h1,h2⟩:=h.hs.2 (j+1) u (by simpa using hu);exact ⟨m,q,by simpa using h1,h2⟩⟩
theorem PRd.head {w:World} {A:Option Addr} {t:TM} {us:List TM} {P:PL} (h:PRd w A (t :: us) P):∃ ad m x P1,A=some ad∧P=(m,x) :: P1∧ad.block<w.heap.size∧TCell w ad t∧t.e=m∧t.c.Num w x∧t.c.ns.length≤20000∧t.c.ds.length≤20000:=by
  obtain ⟨ad,hA,hb,hc⟩:=h.rd.first;obtain ⟨m,x,h1,h2⟩:=h.hs.2 0 t rfl;cases P with
  | nil=>simp at h1
  | cons y P1=>simp at h1;subst h1;exact ⟨ad,m,x,P1,hA,rfl,hb,hc,h2⟩
theorem THolds.app {w:World} {rs us:List TM} {R P:PL} (h:THolds w rs R) (k:THolds w us P):THolds w (rs ++ us) (R ++ P):=by
  refine ⟨by simp [h.1,k.1],fun j u hu=>?_⟩;rcases Nat.lt_or_ge j rs.length with hj | hj
  · rw [List.getElem?_append_left hj] at hu;obtain ⟨m',q',h1,h2⟩:=h.2 j u hu;exact ⟨m',q',by rw [List.getElem?_append_left (by rw [← h.1];exact hj)];exact h1,h2⟩
  · rw [List.getElem?_append_right hj] at hu;obtain ⟨m',q',h1,h2⟩:=k.2 _ u hu;exact ⟨m',q',by rw [List.getElem?_append_right (by rw [← h.1];exact hj),← h.1];exact h1,h2⟩
theorem join_end1 (w wx wy:World) (v:Value) (rs:List TM) (R:PL) (m:Nat) (r:RL) (q:Rat) (b:Bool) (hw:Below w.heap.size w wx) (hb:Below wx.heap.size wx wy) (hown:OwnT w.heap.size wx v rs) (hth:THolds wx rs R) (hr:r.Num wy q) (hbi:b=true↔q≠0) (l1:r.ns.length≤20000) (l2:r.ds.length≤20000) :
    ∃ (g : Nat) (r' : RL) (b' : Bool), Value.pointer (some ⟨wy.heap.size, 0, none⟩) = .pointer (some ⟨g, 0, none⟩) ∧ Value.bool b = .bool b' ∧ Blk4 115 (wy.alloc (.cells #[.int .u64 m, .bool r.s, .slice r.N r.ns.length r.nc, .slice r.D r.ds.length r.dc] 115)) g (.int .u64 m) (.bool r'.s) (.slice r'.N r'.ns.length r'.nc) (.slice r'.D r'.ds.length r'.dc) ∧ r'.Num (wy.alloc (.cells #[.int .u64 m, .bool r.s, .slice r.N r.ns.length r.nc, .slice r.D r.ds.length r.dc] 115)) q ∧ (b' = true ↔ q ≠ 0) ∧ r'.ns.length ≤ 20000 ∧ r'.ds.length ≤ 20000 ∧
      Below w.heap.size w (wy.alloc (.cells #[.int .u64 m,.bool r.s,.slice r.N r.ns.length r.nc,.slice r.D r.ds.length r.dc] 115))∧OwnT w.heap.size (wy.alloc (.cells #[.int .u64 m,.bool r.s,.slice r.N r.ns.length r.nc,.slice r.D r.ds.length r.dc] 115)) v rs∧THolds (wy.alloc (.cells #[.int .u64 m,.bool r.s,.slice r.N r.ns.length r.nc,.slice r.D r.ds.length r.dc] 115)) rs R:=by
  have h1:Below wy.heap.size wy (wy.alloc (.cells #[.int .u64 m,.bool r.s,.slice r.N r.ns.length r.nc,.slice r.D r.ds.length r.dc] 115)):=(Below.refl _ _).alloc (Nat.le_refl _) _;have h2:=hw.trans (hb.mono hw.size);exact ⟨_,r,b,rfl,rfl,Blk4.new _ wy _ _ _ _,hr.below h1,hbi,l1,l2,h2.trans (h1.mono h2.size),(hown.below hb).below h1,(hth.below hb).below h1⟩
theorem join_end2 (w wx wy:World) (v:Value) (rs:List TM) (R:PL) (m:Nat) (r:RL) (q:Rat) (b:Bool) (hw:Below w.heap.size w wx) (hb:Below wx.heap.size wx wy) (hown:OwnT w.heap.size wx v rs) (hth:THolds wx rs R) (hr:r.Num wy q) (hbi:b=true↔q≠0) (l1:r.ns.length≤20000) (l2:r.ds.length≤20000)
    (kz:Blk4 115 wy wx.heap.size (.int .u64 0) (.bool false) (.slice none 0 0) (.slice none 0 0)) :
    ∃ (g : Nat) (r' : RL) (b' : Bool), Value.pointer (some ⟨wx.heap.size, 0, none⟩) = .pointer (some ⟨g, 0, none⟩) ∧ Value.bool b = .bool b' ∧ Blk4 115 (put4o wy wx.heap.size m r) g (.int .u64 m) (.bool r'.s) (.slice r'.N r'.ns.length r'.nc) (.slice r'.D r'.ds.length r'.dc) ∧ r'.Num (put4o wy wx.heap.size m r) q ∧ (b' = true ↔ q ≠ 0) ∧ r'.ns.length ≤ 20000 ∧ r'.ds.length ≤ 20000 ∧
      Below w.heap.size w (put4o wy wx.heap.size m r)∧OwnT w.heap.size (put4o wy wx.heap.size m r) v rs∧THolds (put4o wy wx.heap.size m r) rs R:=by
  have h2:=hw.trans (hb.mono hw.size);have hlt:=World.ownsRow.lt hown;have hne:∀ g,v.ownBlock=some g→g≠wx.heap.size:=fun g e=>by have:=(hlt g e).2;omega
  refine ⟨_,r,b,rfl,rfl,?_,hr.off (off_put4o kz.ty),hbi,l1,l2,below_put4o h2 hw.size _ _,?_,(hth.below hb).off (off_put4o kz.ty)⟩
  · unfold Blk4 at kz ⊢;simp [put4o,World.setCell,Array.getElem?_modify,kz]
  · exact ownsRow_set (ownsRow_set (ownsRow_set (ownsRow_set (hown.below hb) hne _ _) hne _ _) hne _ _) hne _ _
theorem addL_gt {k l:Nat} {x y:Rat} {P Q R:PL} (h:l<k):(R ++ [(k,x)]) ++ addL P ((l,y) :: Q)=R ++ addL ((k,x) :: P) ((l,y) :: Q):=by
  rw [addL,if_pos h,List.append_assoc];rfl
theorem addL_lt {k l:Nat} {x y:Rat} {P Q R:PL} (h:k<l):(R ++ [(l,y)]) ++ addL ((k,x) :: P) Q=R ++ addL ((k,x) :: P) ((l,y) :: Q):=by
  rw [addL.eq_def ((k,x) :: P) ((l,y) :: Q)];simp only;rw [if_neg (by omega),if_pos h,List.append_assoc];rfl
theorem addL_eq0 {k l:Nat} {x y:Rat} {P Q R:PL} (e:l=k) (h:x+y=0):R ++ addL P Q=R ++ addL ((k,x) :: P) ((l,y) :: Q):=by
  subst e;rw [addL.eq_def ((l,x) :: P) ((l,y) :: Q)];simp only;rw [if_neg (Nat.lt_irrefl _),if_neg (Nat.lt_irrefl _),if_pos h]
theorem addL_eq1 {k l:Nat} {x y:Rat} {P Q R:PL} (e:l=k) (h:x+y≠0):(R ++ [(k,x+y)]) ++ addL P Q=R ++ addL ((k,x) :: P) ((l,y) :: Q):=by
  subst e;rw [addL.eq_def ((l,x) :: P) ((l,y) :: Q)];simp only;rw [if_neg (Nat.lt_irrefl _),if_neg (Nat.lt_irrefl _),if_neg h,List.append_assoc];rfl
set_option maxRecDepth 100000 in
set_option maxHeartbeats 6400000 in
theorem pmerge (A B : Option Addr) (c d : Nat) (ts us : List TM) (p q : PL) (w : World) (hx : PRd w A ts p) (hy : PRd w B us q) (bx : ts.length ≤ 5000) (by_ : us.length ≤ 5000) (cx : ts.length ≤ c) (cy : us.length ≤ d) (cc : c ≤ 10000) (cd : d ≤ 10000) (na : A = none → c = 0) (nb : B = none → d = 0) (wp : Words p) (wq : Words q) (ha : ∀ t ∈ p, ∀ u ∈ q, AddOk t.2 u.2) :
    Calls Tryz.prog 105 #[.slice A ts.length c,.slice B us.length d,.func (Fn.func 100) #[] #[],.func (Fn.func 102) #[] #[]] w (PolyT (addL p q) w):=by
  have hmk:=fun W=>make_terms0 (ts.length+us.length) ((ts.length:Int)+us.length) (by omega) (by omega) W
  go_enter Tryz.func105,Tryz.ntmps105;go_wp2;clear hmk;go_loopw [0,1,9,10,11,12] (fun s0 s1 v9 _ _ _ wr=>∃ (v:Value) (A B:Option Addr) (n m c d:Nat) (us vs:List TM) (P' Q' R:PL) (rs:List TM),v=v9∧s0 = .slice A n c∧s1 = .slice B m d∧us.length=n∧vs.length=m∧n≤c∧m≤d∧c≤10000∧d≤10000∧(A=none→c=0)∧(B=none→d=0) ∧
      PRd w A us P'∧PRd w B vs Q'∧Words P'∧Words Q'∧(∀ t ∈ P',∀ u ∈ Q',AddOk t.2 u.2)∧OwnT w.heap.size wr v rs∧THolds wr rs R∧R ++ addL P' Q'=addL p q∧rs.length+n+m≤20000∧Below w.heap.size w wr) (fun s0 s1 _ _ _ _ _=>(match s0 with | .slice _ n _=>n | _=>0)+(match s1 with | .slice _ n _=>n | _=>0))
  case atStart=>
    exact ⟨_,A,B,ts.length,us.length,c,d,ts,us,p,q,[],[],rfl,rfl,rfl,rfl,rfl,cx,cy,cc,cd,na,nb,hx,hy,wp,wq,ha,OwnT.made (Nat.le_refl _) _ (by omega),THolds.nil _,rfl,by simp;omega,(Below.refl _ _).alloc (Nat.le_refl _) _⟩
  case round=>
    clear hx hy cx cy cc cd na nb wp wq ha bx by_;obtain ⟨v,A,B,n,m,c,d,us,vs,P',Q',R,rs,rfl,rfl,rfl,hn,hm,hc,hd,hcb,hdb,na,nb,hA,hB,wP,wQ,hadd,hown,hth,heq,hlen,hbw⟩:=hrel;have HEQ:=Lib.hid heq;have HADD:=Lib.hid hadd;have HN:=Lib.hid hn;have HM:=Lib.hid hm;have HNA:=Lib.hid na;have HNB:=Lib.hid nb;have HWP:=Lib.hid wP;have HWQ:=Lib.hid wQ;clear heq hadd hn hm na nb wP wQ
    by_cases hlt:0<n∧0<m
    · obtain ⟨hn0, hm0⟩ := hlt; obtain ⟨n1, rfl⟩ : ∃ n1, n = n1 + 1 := ⟨n - 1, by omega⟩; obtain ⟨m1, rfl⟩ : ∃ m1, m = m1 + 1 := ⟨m - 1, by omega⟩
      match us,vs,HN,HM,hA,hB with
      | [],_,HN,_,_,_=>exact absurd HN.out (by simp)
      | _ :: _,[],_,HM,_,_=>exact absurd HM.out (by simp)
      | t :: us, u :: vs, HN, HM, hA, hB =>
        obtain ⟨ad,k,x,P1,rfl,rfl,hab,hac,hke,hkn,kl1,kl2⟩:=hA.head;obtain ⟨bd,l,y,Q1,rfl,rfl,hbb,hbc,hle,hln,ll1,ll2⟩:=hB.head;have HK:=Lib.hid hke;have HL:=Lib.hid hle;have hn2:us.length=n1:=by have:=HN.out;simp at this;exact this
        have hm2:vs.length=m1:=by have:=HM.out;simp at this;exact this
        have HN2:=Lib.hid hn2;have HM2:=Lib.hid hm2;clear hke hle hn2 hm2;obtain ⟨c0,c1,c2,c3⟩:=hac.keep (w':=wr) fun q hq=>hbw.cell (by rw [hq];exact hab)
        obtain ⟨d0,d1,d2,d3⟩:=hbc.keep (w':=wr) fun q hq=>hbw.cell (by rw [hq];exact hbb)
        obtain ⟨A1,hA1,hA1n,hslA⟩:=slice1 ad n1 c hc (by omega);obtain ⟨B1,hB1,hB1n,hslB⟩:=slice1 bd m1 d hd (by omega);have hA':=hA.tail (by rw [HN2.out];exact hA1);have hB':=hB.tail (by rw [HM2.out];exact hB1);have hab2:ad.block<wr.heap.size:=Nat.lt_of_lt_of_le hab hbw.size;have hbb2:bd.block<wr.heap.size:=Nat.lt_of_lt_of_le hbb hbw.size;go_upto_region 3 with fail;go_region_held3 (fun w'=>w'.cell? ad=some (.int .u64 t.e)∧w'.cell? ⟨ad.block,ad.off+1,none⟩=some (.bool t.c.s)∧w'.cell? ⟨ad.block,ad.off+2,none⟩=some (.slice t.c.N t.c.ns.length t.c.nc)∧w'.cell? ⟨ad.block,ad.off+3,none⟩=some (.slice t.c.D t.c.ds.length t.c.dc)∧w'.cell? bd=some (.int .u64 u.e)∧w'.cell? ⟨bd.block,bd.off+1,none⟩=some (.bool u.c.s)∧w'.cell? ⟨bd.block,bd.off+2,none⟩=some (.slice u.c.N u.c.ns.length u.c.nc)∧w'.cell? ⟨bd.block,bd.off+3,none⟩=some (.slice u.c.D u.c.ds.length u.c.dc)) (first | (with_reducible exact ⟨‹_›,‹_›,‹_›,‹_›,‹_›,‹_›,‹_›,‹_›⟩) | go_keep)
          ((go_at_call 100
            refine (porder t u _).mono ?_;rintro e wx_ ⟨rfl,hbx⟩;have hbq:Below wr.heap.size wr wx_:=by first | exact below_of_drew hbx (Nat.le_refl _) | exact hbx
            obtain ⟨e0,e1,e2,e3⟩:=hac.keep (w':=wx_) fun q hq=>(hbw.trans (hbq.mono hbw.size)).cell (by rw [hq];exact hab)
            obtain ⟨f0,f1,f2,f3⟩:=hbc.keep (w':=wx_) fun q hq=>(hbw.trans (hbq.mono hbw.size)).cell (by rw [hq];exact hbb)))
        rotate_left
        all_goals
          have hownx:=hown.below hbq;have hthx:=hth.below hbq;have hbx2:=hbw.trans (hbq.mono hbw.size);have hsx:=hbx2.size;have hmem1:∀ t' ∈ P1,∀ u' ∈ (l,y) :: Q1,AddOk t'.2 u'.2:=fun t' h1 u' h2=>HADD.out t' (List.mem_cons_of_mem _ h1) u' h2
          have hmem2:∀ t' ∈ (k,x) :: P1,∀ u' ∈ Q1,AddOk t'.2 u'.2:=fun t' h1 u' h2=>HADD.out t' h1 u' (List.mem_cons_of_mem _ h2)
          have hmem3:∀ t' ∈ P1,∀ u' ∈ Q1,AddOk t'.2 u'.2:=fun t' h1 u' h2=>HADD.out t' (List.mem_cons_of_mem _ h1) u' (List.mem_cons_of_mem _ h2)
          have hadd0:AddOk x y:=HADD.out (k,x) (by simp) (l,y) (by simp);have hwP1:Words P1:=fun t' h=>HWP.out t' (List.mem_cons_of_mem _ h)
          have hwQ1:Words Q1:=fun t' h=>HWQ.out t' (List.mem_cons_of_mem _ h)
          have M1:=Lib.hid hmem1;have M2:=Lib.hid hmem2;have M3:=Lib.hid hmem3;have M0:=Lib.hid hadd0;have HW1:=Lib.hid hwP1;have HW2:=Lib.hid hwQ1;have HA1:=Lib.hid hA1;have HB1:=Lib.hid hB1;have HA1N:=Lib.hid hA1n;have HB1N:=Lib.hid hB1n;clear hmem1 hmem2 hmem3 hadd0 hwP1 hwQ1 hA1 hB1 hA1n hB1n c0 c1 c2 c3 d0 d1 d2 d3 hown hth;rcases Nat.lt_trichotomy u.e t.e with hlt | hlt | hlt
          · have hcmp:cmpOf (u.e:Int) (t.e:Int) = -1:=by unfold cmpOf;rw [if_pos (by omega)]
            rw [hcmp];have HLT:=Lib.hid hlt;clear hcmp hlt;go_wp2_with (at_builtin;refine wpList_appT rfl (.tmp 58) (.tmp 62) 85 rfl info_term Tryz.underlying85 w.heap.size _ rs t rfl hownx rfl (by omega) (by omega) ?_;intro v' w4 hown4 hb4 hof4);go_roundw
            case rel=>
              exact ⟨_,A1,some bd,n1,m1+1,c - 1,d,us,u :: vs,P1,(l,y) :: Q1,R ++ [(k,x)],rs ++ [t],rfl,rfl,rfl,HN2.out,HM.out,by omega,hd,by omega,hdb,fun h=>absurd h HA1N.out,HNB.out,hA',hB,HW1.out,HWQ.out,M1.out,hown4,
                (hthx.off hof4).snoc HK.out ((hkn.below hbx2).off hof4) kl1 kl2,(addL_gt (by have:=HLT.out;rw [HK.out,HL.out] at this;exact this)).trans HEQ.out,by simp;omega,hbx2.trans hb4⟩
            case measure=>simp
          · have hcmp:cmpOf (u.e:Int) (t.e:Int)=0:=by rw [hlt];unfold cmpOf;rw [if_neg (by omega),if_neg (by omega)]
            rw [hcmp];have HKL:Hid (l=k):=by show _=_;rw [← HK.out,← HL.out];exact hlt
            clear hcmp hlt;go_upto_region 4 with fail;go_cut [11,12] (fun s11 s12 wz=>∃ (g:Nat) (r:RL) (b:Bool),s11 = .pointer (some ⟨g,0,none⟩)∧s12 = .bool b∧Blk4 115 wz g (.int .u64 t.e) (.bool r.s) (.slice r.N r.ns.length r.nc) (.slice r.D r.ds.length r.dc)∧r.Num wz (x+y)∧(b=true↔x+y≠0)∧r.ns.length≤20000∧r.ds.length≤20000 ∧
              Below w.heap.size w wz∧OwnT w.heap.size wz v rs∧THolds wz rs R)
            case first =>
              have hsz:=hbq.size;have n1_:¬ ad.block=wx_.heap.size:=by omega
              have n2_:¬ wx_.heap.size=ad.block:=by omega
              have n3_:¬ bd.block=wx_.heap.size:=by omega
              have n4_:¬ wx_.heap.size=bd.block:=by omega
              go_region_held3 (fun w'=>w'.cell? ad=some (.int .u64 t.e)∧w'.cell? ⟨ad.block,ad.off+1,none⟩=some (.bool t.c.s)∧w'.cell? ⟨ad.block,ad.off+2,none⟩=some (.slice t.c.N t.c.ns.length t.c.nc)∧w'.cell? ⟨ad.block,ad.off+3,none⟩=some (.slice t.c.D t.c.ds.length t.c.dc)∧w'.cell? bd=some (.int .u64 u.e)∧w'.cell? ⟨bd.block,bd.off+1,none⟩=some (.bool u.c.s)∧w'.cell? ⟨bd.block,bd.off+2,none⟩=some (.slice u.c.N u.c.ns.length u.c.nc)∧w'.cell? ⟨bd.block,bd.off+3,none⟩=some (.slice u.c.D u.c.ds.length u.c.dc)) (first | (with_reducible exact ⟨‹_›,‹_›,‹_›,‹_›,‹_›,‹_›,‹_›,‹_›⟩) | go_keep)
                ((go_at_call 102
                  refine (pjoin t u x y _ (by first | exact hkn.below hbx2 | exact (hkn.below hbx2).drew | exact ((hkn.below hbx2).alloc _).drew | exact ((hkn.below hbx2).drew).alloc _) (by first | exact hln.below hbx2 | exact (hln.below hbx2).drew | exact ((hln.below hbx2).alloc _).drew | exact ((hln.below hbx2).drew).alloc _) M0.out).mono ?_;rintro e wy_ ⟨r,b,rfl,hr,hbi,hl1,hl2,hby⟩;have HBI:=Lib.hid hbi;clear hbi;have hbq2:Below wx_.heap.size wx_ wy_:=by first | exact below_of_drew hby (Nat.le_refl _) | exact hby | exact ((Below.refl _ _).alloc (Nat.le_refl _) _).trans (hby.mono (by simp)) | exact ((Below.refl _ _).alloc (Nat.le_refl _) _).trans ((below_of_drew hby (Nat.le_refl _)).mono (by simp))
                  first
                    | (have kz : Blk4 115 wy_ wx_.heap.size (.int .u64 0) (.bool false) (.slice none 0 0) (.slice none 0 0) := (by first | exact ((Blk4.new 115 wx_ (.int .u64 0) (.bool false) (.slice none 0 0) (.slice none 0 0)).drew).below hby | exact (Blk4.new 115 wx_.drew (.int .u64 0) (.bool false) (.slice none 0 0) (.slice none 0 0)).below hby)
                       obtain ⟨z0,z1,z2,z3,z4,z5,z6,z7,z8⟩:=kz.facts)
                    | skip
                  obtain ⟨g0,g1,g2,g3⟩:=hac.keep (w':=wy_) fun q hq=>(hbx2.trans (hbq2.mono hbx2.size)).cell (by rw [hq];exact hab)
                  obtain ⟨h0,h1,h2,h3⟩:=hbc.keep (w':=wy_) fun q hq=>(hbx2.trans (hbq2.mono hbx2.size)).cell (by rw [hq];exact hbb)))
              all_goals
                go_wp2_with fail;go_meet
                first
                  | exact join_end1 w wx_ wy_ v rs R t.e r (x+y) b hbx2 hbq2 hownx hthx hr HBI.out hl1 hl2
                  | exact join_end2 w wx_ wy_ v rs R t.e r (x+y) b hbx2 hbq2 hownx hthx hr HBI.out hl1 hl2 kz
            obtain ⟨wz,rfl⟩:∃ x,x=wc:=⟨_,rfl⟩;obtain ⟨g,r,b,rfl,rfl,kb,hr,hbi,hl1,hl2,hbz,hownz,hthz⟩:=hcut;have HBI:=Lib.hid hbi;have hsz:=hbz.size;obtain ⟨c0,c1,c2,c3,c4,c5,c6,c7,c8⟩:=kb.facts;clear hbi;cases b
            · have hxy:x+y=0:=by
                by_cases h:x+y=0
                · exact h
                · have:=HBI.out.2 h;cases this
              have HXY:=Lib.hid hxy;clear hxy;go_wp2_with (go_quiet (fail));go_roundw
              case rel=>
                exact ⟨_,A1,B1,n1,m1,c - 1,d - 1,us,vs,P1,Q1,R,rs,rfl,rfl,rfl,HN2.out,HM2.out,by omega,by omega,by omega,by omega,fun h=>absurd h HA1N.out,fun h=>absurd h HB1N.out,hA',hB',HW1.out,HW2.out,M3.out,hownz.below (below_drew_ (Below.refl _ _) nq),
                  hthz.below (below_drew_ (Below.refl _ _) nq),(addL_eq0 HKL.out HXY.out).trans HEQ.out,by omega,below_drew_ hbz nq⟩
              case measure=>simp;omega
            · have hxy:x+y≠0:=HBI.out.1 rfl;have HXY:=Lib.hid hxy;clear hxy;go_wp2_with (at_builtin;refine wpList_appT rfl (.tmp 47) (.tmp 49) 85 rfl info_term Tryz.underlying85 w.heap.size _ rs ⟨t.e,r⟩ rfl hownz rfl (by omega) (by omega) ?_;intro v' w4 hown4 hb4 hof4);go_wp2_with (go_quiet (fail));go_roundw
              case rel=>
                exact ⟨_,A1,B1,n1,m1,c - 1,d - 1,us,vs,P1,Q1,R ++ [(k,x+y)],rs ++ [⟨t.e,r⟩],rfl,rfl,rfl,HN2.out,HM2.out,by omega,by omega,by omega,by omega,fun h=>absurd h HA1N.out,fun h=>absurd h HB1N.out,hA',hB',HW1.out,HW2.out,M3.out,hown4.below (below_drew_ (Below.refl _ _) nq),
                  ((hthz.off hof4).snoc (t:=⟨t.e,r⟩) HK.out (hr.off hof4) hl1 hl2).below (below_drew_ (Below.refl _ _) nq),(addL_eq1 HKL.out HXY.out).trans HEQ.out,by simp;omega,below_drew_ (hbz.trans hb4) nq⟩
              case measure=>simp;omega
          · have hcmp:cmpOf (u.e:Int) (t.e:Int)=1:=by unfold cmpOf;rw [if_neg (by omega),if_pos (by omega)]
            rw [hcmp];have HLT:=Lib.hid hlt;clear hcmp hlt;go_wp2_with (at_builtin;refine wpList_appT rfl (.tmp 69) (.tmp 73) 85 rfl info_term Tryz.underlying85 w.heap.size _ rs u rfl hownx rfl (by omega) (by omega) ?_;intro v' w4 hown4 hb4 hof4);go_roundw
            case rel=>
              exact ⟨_,some ad,B1,n1+1,m1,c,d - 1,t :: us,vs,(k,x) :: P1,Q1,R ++ [(l,y)],rs ++ [u],rfl,rfl,rfl,HN.out,HM2.out,hc,by omega,hcb,by omega,HNA.out,fun h=>absurd h HB1N.out,hA,hB',HWP.out,HW2.out,M2.out,hown4,
                (hthx.off hof4).snoc HL.out ((hln.below hbx2).off hof4) ll1 ll2,(addL_lt (by have:=HLT.out;rw [HK.out,HL.out] at this;exact this)).trans HEQ.out,by simp;omega,hbx2.trans hb4⟩
            case measure=>simp
    · have hne:n=0∨m=0:=by omega
      have hA':=hA.below hbw;have hB':=hB.below hbw;have hend:addL P' Q'=P' ++ Q':=by
        rcases hne with h | h
        · have h1:us=[]:=List.eq_nil_of_length_eq_zero (by rw [HN.out];exact h);have h2:P'=[]:=List.eq_nil_of_length_eq_zero (by rw [← hA.hs.1,h1];rfl);rw [h2,addL];rfl
        · have h1:vs=[]:=List.eq_nil_of_length_eq_zero (by rw [HM.out];exact h);have h2:Q'=[]:=List.eq_nil_of_length_eq_zero (by rw [← hB.hs.1,h1];rfl);rw [h2,addL_nil,List.append_nil]
      have HEND:Hid (R ++ (P' ++ Q')=addL p q):=by show _=_;rw [← hend];exact HEQ.out
      have hsz:=hbw.size;clear hend HEQ;have fin:∀ (W:World) (V:Value),OwnT w.heap.size W V (rs ++ us ++ vs)→THolds W (rs ++ us ++ vs) (R ++ P' ++ Q')→Below w.heap.size w W→PolyT (addL p q) w (.returned V) W:=fun W V h1 h2 h3=>by
        obtain ⟨X,xc,hv,hxc,hrd,_,_⟩:=h1.form;rw [List.append_assoc] at h2;rw [List.append_assoc R,HEND.out] at h2;exact ⟨X,xc,rs ++ us ++ vs,by rw [hv],hxc,⟨hrd,by rw [List.append_assoc];exact h2⟩,h3⟩
      have FIN:=Lib.hid fin;clear fin;rcases Nat.eq_zero_or_pos n with h0 | h0
      · subst h0;go_wp2_with (first
          | (at_builtin;refine wpList_appTs rfl (.tmp 77) (.tmp 78) 85 rfl info_term Tryz.underlying85 w.heap.size _ rs us _ _ _ HN.out HNA.out rfl hown rfl hA'.rd (by omega) (by omega) ?_;intro v' w4 hown4 hb4 hof4)
          | (at_builtin;refine wpList_appTs rfl (.tmp 80) (.tmp 81) 85 rfl info_term Tryz.underlying85 w.heap.size _ (rs ++ us) vs _ _ _ HM.out HNB.out rfl hown4 rfl (hB.rd.below (hbw.trans hb4)) (by have:=hb4.size;omega) (by have:=HN.out;rw [List.length_append];omega) ?_;intro v5 w5 hown5 hb5 hof5))
        go_ret;exact FIN.out _ _ hown5 ((((hth.app hA'.hs).off hof4).app (hB.hs.below (hbw.trans hb4))).off hof5) (hbw.trans (hb4.trans hb5))
      · obtain rfl:m=0:=by omega
        go_wp2_with (first
          | (at_builtin;refine wpList_appTs rfl (.tmp 77) (.tmp 78) 85 rfl info_term Tryz.underlying85 w.heap.size _ rs us _ _ _ HN.out HNA.out rfl hown rfl hA'.rd (by omega) (by omega) ?_;intro v' w4 hown4 hb4 hof4)
          | (at_builtin;refine wpList_appTs rfl (.tmp 80) (.tmp 81) 85 rfl info_term Tryz.underlying85 w.heap.size _ (rs ++ us) vs _ _ _ HM.out HNB.out rfl hown4 rfl (hB.rd.below (hbw.trans hb4)) (by have:=hb4.size;omega) (by have:=HN.out;rw [List.length_append];omega) ?_;intro v5 w5 hown5 hb5 hof5))
        go_ret;exact FIN.out _ _ hown5 ((((hth.app hA'.hs).off hof4).app (hB.hs.below (hbw.trans hb4))).off hof5) (hbw.trans (hb4.trans hb5))
end Go.Proofs.YtgekmfcbbjeahaaGreatDoor
/- poly.sum; poly.one; poly.scaled. -/
namespace Go.Proofs.YtgekmfcbbjeahaaGreatDoor
open Go.RowKit V
set_option maxRecDepth 100000 in
set_option maxHeartbeats 400000 in
theorem psum (A B:Option Addr) (c d:Nat) (ts us:List TM) (p q:PL) (w:World) (hx:PRd w A ts p) (hy:PRd w B us q) (bx:ts.length≤5000) (by_:us.length≤5000) (cx:ts.length≤c) (cy:us.length≤d) (cc:c≤10000) (cd:d≤10000) (na:A=none→c=0) (nb:B=none→d=0) (wp:Words p) (wq:Words q) (ha:∀ t ∈ p,∀ u ∈ q,AddOk t.2 u.2) :
    Calls Tryz.prog 53 #[.slice A ts.length c,.slice B us.length d] w (PolyT (addL p q) w):=by
  have H:=Lib.hid (pmerge A B c d ts us p q w hx hy bx by_ cx cy cc cd na nb wp wq ha);clear hx hy ha wp wq na nb;go_enter Tryz.func53,Tryz.ntmps53;go_wp2_with fail;refine H.out.mono ?_;rintro e w1 ⟨X,xc,xs,rfl,hxc,hpx,hb⟩;go_wp2;go_ret;exact ⟨X,xc,xs,rfl,hxc,hpx,hb⟩
theorem flat_one (t:TM):flat [t]=t.cells:=by simp [flat]
set_option maxRecDepth 100000 in
set_option maxHeartbeats 400000 in
theorem pone (w:World):Calls Tryz.prog 70 #[] w (PolyT [(0,1)] w):=by
  go_enter Tryz.func70,Tryz.ntmps70;go_wp2_with fail;refine (wInt_pos 1 w (by omega) (by omega)).mono ?_;rintro e w1 ⟨r,rfl,hr,l1,l2,hb⟩;go_wp2;go_ret;have hrow:TRow (w1.alloc (.cells #[.int .u64 0,.bool r.s,.slice r.N r.ns.length r.nc,.slice r.D r.ds.length r.dc] 115)) w1.heap.size [⟨0,r⟩]:=by
    have:=TRow.new w1 [⟨0,r⟩];rw [flat_one] at this;exact this
  exact ⟨_,1,[⟨0,r⟩],rfl,Nat.le_refl _,⟨hrow.rd,rfl,fun j t ht=>by
    match j,ht with
    | 0,ht=>simp at ht;subst ht;exact ⟨0,1,rfl,rfl,hr.alloc _,by show r.ns.length≤20000;omega,by show r.ds.length≤20000;omega⟩
    | j+1,ht=>simp at ht⟩,hb.alloc hb.size _⟩
end Go.Proofs.YtgekmfcbbjeahaaGreatDoor
/- poly.scaled. -/
attribute [local go_sem ↓] Go.wp_at_zero Go.wp_at_succ
namespace Go.Proofs.YtgekmfcbbjeahaaGreatDoor
open Go.RowKit V
set_option maxRecDepth 100000 in
set_option maxHeartbeats 400000 in
theorem pscaled_z (A:Option Addr) (k:Nat) (ts:List TM) (c:RL) (w:World) (hz0:c.ns.length=0) :
    Calls Tryz.prog 55 #[.slice A ts.length k,.agg #[.bool c.s,.slice c.N c.ns.length c.nc,.slice c.D c.ds.length c.dc]] w (PolyT [] w):=by
  have hz:decide (c.ns.length=0)=true:=decide_eq_true hz0;clear hz0;go_enter Tryz.func55,Tryz.ntmps55;go_wp2_with fail;refine (wisZero c.s c.N c.D c.ns.length c.nc c.ds.length c.dc _).mono ?_;rintro e wz ⟨he,hbz⟩;rw [hz] at he;subst he;go_wp2;go_ret;exact ⟨none,0,[],rfl,Nat.le_refl _,⟨fun h=>by simp at h,rfl,fun j t h=>by simp at h⟩,((Below.refl _ _).alloc (Nat.le_refl _) _).trans (hbz.mono (by simp))⟩
set_option maxRecDepth 100000 in
set_option maxHeartbeats 1600000 in
theorem pscaled_n (A : Option Addr) (k : Nat) (ts : List TM) (p : List (Nat × Rat)) (c : RL) (q : Rat) (w : World) (hx : PRd w A ts p) (hc : c.Num w q) (bx : ts.length ≤ 100000) (hz0 : 0 < c.ns.length) (hm : ∀ t ∈ p, MulOk t.2 q) :
    Calls Tryz.prog 55 #[.slice A ts.length k,.agg #[.bool c.s,.slice c.N c.ns.length c.nc,.slice c.D c.ds.length c.dc]] w (PolyT (p.map fun t=>(t.1,t.2*q)) w):=by
  have hz:decide (c.ns.length=0)=false:=decide_eq_false (by omega);have HM:=Lib.hid hm;have HL:=Lib.hid hx.hs.1;obtain ⟨P,hP⟩:∃ P,P=p.map (fun t=>(t.1,t.2*q)):=⟨_,rfl⟩;rw [← hP];have HPe:=Lib.hid hP;clear hz0 hm hP;have hmk:=fun W=>make_terms ts.length (ts.length:Int) rfl (by omega) W
  have kc:=BlkT.new 91 w (.bool c.s) (.slice c.N c.ns.length c.nc) (.slice c.D c.ds.length c.dc);have hb0:Below w.heap.size w (w.alloc (.cells #[.bool c.s,.slice c.N c.ns.length c.nc,.slice c.D c.ds.length c.dc] 91)):=(Below.refl _ _).alloc (Nat.le_refl _) _;go_enter Tryz.func55,Tryz.ntmps55;go_wp2_with fail;refine (wisZero c.s c.N c.D c.ns.length c.nc c.ds.length c.dc _).mono ?_;rintro e wz ⟨he,hbz⟩;rw [hz] at he;subst he;have kz:=kc.below hbz;have hbw0:=hb0.trans (hbz.mono (by simp));have hxz:=hx.below hbw0;have hcz:=hc.below hbw0;clear hbz kc hb0 hx hc hz;go_wp2;clear hmk;go_loopw [6,7,15] (fun _ _ i wr=>∃ us:List TM,us.length≤ts.length∧i = .int .i64 us.length∧TRow wr wz.heap.size (us ++ List.replicate (ts.length - us.length) TM0)∧THolds wr us (P.take us.length)∧Below wz.heap.size wz wr) (fun _ _ i _=>ts.length - (intOf i).toNat)
  case atStart=>
    refine ⟨[],Nat.zero_le _,rfl,?_,THolds.nil _,(Below.refl _ _).alloc (Nat.le_refl _) _⟩;have:=TRow.new wz (List.replicate ts.length TM0);simpa using this
  case round=>
    obtain ⟨us,hk,rfl,hrow,hth,hbw⟩:=hrel
    by_cases hlt:us.length<ts.length
    · obtain ⟨ad,m,rfl,hb,hm,hct⟩:=(hxz.below hbw).rd.ask hlt;obtain ⟨mm,y,hp,hme,hci,hcl1,hcl2⟩:=(hxz.below hbw).hs.2 _ m hm.out;obtain ⟨c0,c1,c2,c3⟩:=hct;have HP:Hid (P[us.length]?=some (m.e,y*q)):=by
        have e:=HPe.out;subst e;show _=_;simp [hp,hme]
      have HMO:Hid (MulOk y q):=HM.out _ (getD_mem hp);have kb:=Blk4.new 115 wr (.int .u64 m.e) (.bool m.c.s) (.slice m.c.N m.c.ns.length m.c.nc) (.slice m.c.D m.c.ds.length m.c.dc);have hb1:Below wr.heap.size wr (wr.alloc (.cells #[.int .u64 m.e,.bool m.c.s,.slice m.c.N m.c.ns.length m.c.nc,.slice m.c.D m.c.ds.length m.c.dc] 115)):=(Below.refl _ _).alloc (Nat.le_refl _) _;clear hp hme;go_wp2_with fail;obtain ⟨w1,hwe⟩:∃ x,wr.alloc (.cells #[.int .u64 m.e,.bool m.c.s,.slice m.c.N m.c.ns.length m.c.nc,.slice m.c.D m.c.ds.length m.c.dc] 115)=x:=⟨_,rfl⟩;rw [hwe] at kb hb1 ⊢;have hci1:=hci.below hb1;have hc1:=(hcz.below hbw).below hb1;have kz1:=(kz.below hbw).below hb1;have hrow1:=hrow.keep hb1;have hlt0:=hrow.lt;have hzlt:=kz.lt;have hne1:¬ wr.heap.size=wz.heap.size:=by omega
      have hne2:¬ wz.heap.size=wr.heap.size:=by omega
      have hne3:¬ w.heap.size=wz.heap.size:=by omega
      have hne4:¬ wz.heap.size=w.heap.size:=by omega
      have hne5:¬ w.heap.size=wr.heap.size:=by omega
      have hne6:¬ wr.heap.size=w.heap.size:=by omega
      have hw1:=hbw.trans (hb1.mono hbw.size);have hth1:=hth.below hb1;have hwz:=hw1.size;have hrl:=hrow1.lt;have hgr:=kb.lt;clear hwe hci hrow hbw hth c0 c1 c2 c3 hb1 hb;obtain ⟨a0,a1,a2,a3,a4,a5,a6,a7,a8⟩:=kb.facts;obtain ⟨e0,e1,e2,e3,e4,e5,e6⟩:=kz1.facts;have hk0:(0:Int)≤(us.length:Int):=Int.natCast_nonneg _;have hk1:(us.length:Int)<(ts.length:Int):=by omega
      have hget:(us ++ List.replicate (ts.length - us.length) TM0)[us.length]?=some TM0:=by
        rw [List.getElem?_append_right (Nat.le_refl _),Nat.sub_self,List.getElem?_replicate,if_pos (by omega)]
      go_region_held3 (fun w'=>w'.cell? ⟨wr.heap.size,0,none⟩=some (.int .u64 m.e)∧w'.cell? ⟨wr.heap.size,1,none⟩=some (.bool m.c.s)∧w'.cell? ⟨wr.heap.size,2,none⟩=some (.slice m.c.N m.c.ns.length m.c.nc)∧w'.cell? ⟨wr.heap.size,3,none⟩=some (.slice m.c.D m.c.ds.length m.c.dc)∧w'.cell? ⟨w.heap.size,0,none⟩=some (.bool c.s)∧w'.cell? ⟨w.heap.size,1,none⟩=some (.slice c.N c.ns.length c.nc)∧w'.cell? ⟨w.heap.size,2,none⟩=some (.slice c.D c.ds.length c.dc)) (first | (with_reducible exact ⟨‹_›,‹_›,‹_›,‹_›,‹_›,‹_›,‹_›⟩) | go_keep)
        ((go_at_call 77
          refine (HMO.out m.c c _ (by first | exact hci1 | exact hci1.below (below_drew_ (Below.refl _ _) 1)) (by first | exact hc1 | exact hc1.below (below_drew_ (Below.refl _ _) 1))).mono ?_;rintro e wx_ ⟨r,rfl,hrn,hl1,hl2,hbx⟩;have hbq:Below w1.heap.size w1 wx_:=by first | exact below_of_drew hbx (Nat.le_refl _) | exact hbx
          obtain ⟨b0,b1,b2,b3,b4,b5,b6,b7,b8⟩:=(kb.below hbq).facts;obtain ⟨d0,d1,d2,d3,d4,d5,d6⟩:=(kz1.below hbq).facts;have hrow2:=hrow1.keep hbq;obtain ⟨r0,r1,r2,r3⟩:=hrow2.tcell hget;have f0:=hrow2.frozen (us.length*4);have f1:=hrow2.frozen (us.length*4+1);have f2:=hrow2.frozen (us.length*4+2);have f3:=hrow2.frozen (us.length*4+3)))
      all_goals
        go_wp2;go_roundw
        case rel=>
          exact fill_step wx_ wz wz.heap.size us ts.length m.e r (y*q) P hlt hrow2 (hth1.below hbq) HP.out hrn hl1 hl2 (hw1.trans (hbq.mono hw1.size)) (Nat.le_refl _)
        case measure=>simp [intOf];omega
    · obtain he:us.length=ts.length:=by omega
      have HE2:=Lib.hid he;clear he;go_wp2;go_ret;have e1:us.length=ts.length:=HE2.out;rw [e1,Nat.sub_self,List.replicate_zero,List.append_nil] at hrow;rw [e1,List.take_of_length_le (by rw [HPe.out,List.length_map,← HL.out];exact Nat.le_refl _)] at hth;exact ⟨some ⟨wz.heap.size,0,none⟩,ts.length,us,by rw [e1];rfl,by omega,⟨hrow.rd,hth⟩,hbw0.trans (hbw.mono hbw0.size)⟩
theorem pscaled (A:Option Addr) (k:Nat) (ts:List TM) (p:List (Nat × Rat)) (c:RL) (q:Rat) (w:World) (hx:PRd w A ts p) (hc:c.Num w q) (bx:ts.length≤100000) (hm:∀ t ∈ p,MulOk t.2 q) :
    Calls Tryz.prog 55 #[.slice A ts.length k,.agg #[.bool c.s,.slice c.N c.ns.length c.nc,.slice c.D c.ds.length c.dc]] w (PolyT (scaleL p q) w):=by
  rcases Nat.eq_zero_or_pos c.ns.length with hz | hz
  · have:=pscaled_z A k ts c w hz;rwa [show scaleL p q=[] by rw [scaleL,if_pos (hc.zero_iff.1 hz)]]
  · have:=pscaled_n A k ts p c q w hx hc bx hz hm;rwa [show scaleL p q=p.map fun t=>(t.1,t.2*q) by rw [scaleL,if_neg (fun h=>by have:=hc.zero_iff.2 h;omega)]]
end Go.Proofs.YtgekmfcbbjeahaaGreatDoor
/- poly.Var and poly.Const. -/
attribute [local go_sem ↓] Go.wp_at_zero Go.wp_at_succ
namespace Go.Proofs.YtgekmfcbbjeahaaGreatDoor
open Go.RowKit V
theorem fits_pow {i:Nat} (hi:i<8):TFits (256 ^ (7 - i)) 1:=by
  refine ⟨?_,?_⟩
  · obtain ⟨k,hk⟩:∃ k,7 - i=k:=⟨_,rfl⟩;rw [hk];have:k≤7:=by omega
    clear hk hi
    match k,this with
    | 0,_=>decide
    | 1,_=>decide
    | 2,_=>decide
    | 3,_=>decide
    | 4,_=>decide
    | 5,_=>decide
    | 6,_=>decide
    | 7,_=>decide
  · exact ⟨Nat.lt_of_lt_of_le (by decide:(1:Rat).num.natAbs<4294967296 ^ 1) (Nat.pow_le_pow_right (by omega) (by omega)),.inr (Nat.lt_of_lt_of_le (by decide:(1:Rat).den<4294967296 ^ 1) (Nat.pow_le_pow_right (by omega) (by omega)))⟩
theorem word_pow {i:Nat} (hi:i<8):256 ^ (7 - i)<18446744073709551616:=
  Nat.lt_of_le_of_lt (Nat.pow_le_pow_right (by omega) (by omega:7 - i≤7)) (by decide)
theorem pisCount (n:Int) (w:World) :
    Calls Tryz.prog 69 #[.int .i64 n] w fun e w'=>e = .returned (.bool (decide (0≤n∧n≤8)))∧w=w':=by
  by_cases h0:0≤n
  · by_cases h8:n≤8
    · rw [decide_eq_true ⟨h0,h8⟩];go_enter Tryz.func69,Tryz.ntmps69;go_wp2;go_ret;exact ⟨rfl,rfl⟩
    · rw [decide_eq_false (fun h=>h8 h.2)];go_enter Tryz.func69,Tryz.ntmps69;go_wp2;go_ret;exact ⟨rfl,rfl⟩
  · rw [decide_eq_false (fun h=>h0 h.1)];go_enter Tryz.func69,Tryz.ntmps69;go_wp2;go_ret;exact ⟨rfl,rfl⟩
set_option maxRecDepth 100000 in
set_option maxHeartbeats 800000 in
theorem pvar (n i:Nat) (w:World) (hi:i<n) (hn:n≤8) :
    Calls Tryz.prog 31 #[.int .i64 n,.int .i64 i] w (StoreOk n [(256 ^ (7 - i),1)] w):=by
  have hd:decide ((0:Int)≤(n:Int)∧(n:Int)≤8)=true:=decide_eq_true ⟨by omega,by omega⟩;have HC:=Lib.hid (pisCount (n:Int));have hb0:Below w.heap.size w (w.alloc (.cells #[.int .i64 0,.slice none 0 0] 24)):=(Below.refl _ _).alloc (Nat.le_refl _) _;have kb:=Blk2c.new 24 w (.int .i64 0) (.slice none 0 0);have H1:=Lib.hid (ppower i 1);obtain ⟨x,hx⟩:∃ x,256 ^ (7 - i)=x:=⟨_,rfl⟩;rw [hx];rw [Nat.one_mul,hx] at H1;have HX:=Lib.hid hx;clear hx;go_enter Tryz.func31,Tryz.ntmps31;go_wp2_with fail;refine (HC.out _).mono ?_;rintro e w1 ⟨rfl,rfl⟩;rw [hd];go_wp2_with fail;refine (H1.out _ (by omega) (by omega)).mono ?_;rintro e w1 ⟨rfl,rfl⟩;go_wp2_with fail;refine (wInt_pos 1 _ (by omega) (by omega)).mono ?_;rintro e w1 ⟨r,rfl,hr,l1,l2,hb1⟩;have hb01:=hb0.trans (hb1.mono hb0.size);have kb1:=kb.below hb1;clear hb1 kb hb0;have hx1:PRd (w1.alloc (.cells #[.int .u64 x,.bool r.s,.slice r.N r.ns.length r.nc,.slice r.D r.ds.length r.dc] 115)) (some ⟨w1.heap.size,0,none⟩) [⟨x,r⟩] [(x,1)]:=by
    have hrow:TRow (w1.alloc (.cells #[.int .u64 x,.bool r.s,.slice r.N r.ns.length r.nc,.slice r.D r.ds.length r.dc] 115)) w1.heap.size [⟨x,r⟩]:=by
      have:=TRow.new w1 [⟨x,r⟩];rw [flat_one] at this;exact this
    exact ⟨hrow.rd,rfl,fun j t ht=>by
      match j,ht with
      | 0,ht=>simp at ht;subst ht;exact ⟨x,1,rfl,rfl,hr.alloc _,by show r.ns.length≤20000;omega,by show r.ds.length≤20000;omega⟩
      | j+1,ht=>simp at ht⟩
  have hb2:=hb01.alloc hb01.size (.cells #[.int .u64 x,.bool r.s,.slice r.N r.ns.length r.nc,.slice r.D r.ds.length r.dc] 115);have kb2:=kb1.alloc (.cells #[.int .u64 x,.bool r.s,.slice r.N r.ns.length r.nc,.slice r.D r.ds.length r.dc] 115);have hi8:i<8:=by omega
  have hw:Words [(x,(1:Rat))]:=fun t ht=>by simp at ht;subst ht;show x<_;rw [← HX.out];exact word_pow hi8
  have hf:∀ t ∈ [(x,(1:Rat))],TFits t.1 t.2:=fun t ht=>by simp at ht;subst ht;show TFits x 1;rw [← HX.out];exact fits_pow hi8
  have HS:=Lib.hid (pstore_ok n _ 1 _ _ _ hx1 (by simp) hn hw hf);clear hx1 hw hf kb1 hb01 hd;go_wp2_with fail;refine HS.out.mono ?_;rintro e w3 ⟨A,c,ms,rfl,hc,hat,hb3⟩;have kb3:=kb2.below hb3;have hb03:=hb2.trans (hb3.mono hb2.size);obtain ⟨p0,p1,p2,p3,p4⟩:=kb3.facts;have HAT:=Lib.hid hat;have HK:=Lib.hid kb3;clear hb2 kb2 hat kb3;go_wp2_with fail;refine bodyPost_ret (v:=.tuple #[.agg #[.int .i64 n,.slice A ms.length c],.int .i64 0]) (by simp [results,Tryz.results31,go_sem,p0,p1]) rfl ?_;exact ⟨A,c,ms,rfl,hc,HAT.out.put2 HK.out.ty (by decide) (by decide) _ _,(hb03.setCell (Nat.le_refl _) _).setCell (Nat.le_refl _) _⟩
end Go.Proofs.YtgekmfcbbjeahaaGreatDoor
