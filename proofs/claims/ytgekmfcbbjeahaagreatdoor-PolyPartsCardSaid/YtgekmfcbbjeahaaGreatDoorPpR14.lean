/- nat.window, nat.many, nat.gcd: the greatest common divisor of two numbers of at most 4096 words. -/
import Derived.Test.YtgekmfcbbjeahaaGreatDoorPpR13
import Derived.IntWalk
import Derived.Laws.CopyOwn
namespace Go.Proofs.YtgekmfcbbjeahaaGreatDoor
open Go.RowKit V
theorem short_of_lt {ys:List Nat} (m:Mag ys) {k:Nat} (h:V32 ys<4294967296 ^ k):ys.length≤k:=len_of_lt (B:=4294967296) (by omega) m.2 h
def NumB (v:Value) (w:World) (e:Ending) (w':World):Prop:=e = .returned v∧Below w.heap.size w w'
set_option maxRecDepth 100000 in
set_option maxHeartbeats 400000 in
theorem window_any (A:Option Addr) (ca p k:Nat) (xs:List Nat) (w:World) (hx:Rd .u32 w A xs) (hca:xs.length≤ca) (bx:xs.length≤100000) (bp:p≤10000000) (dx:Dig 4294967296 xs) (hk:V32 xs / 2 ^ p=k) (hlt:k<4611686018427387904) :
    Calls Tryz.prog 236 #[.slice A xs.length ca,.int .i64 p] w (NumB (.int .i64 k) w):=by
  have HK:=Lib.hid hk;have hc:IntKind.i64.wrap (k:Int)=k:=IntWalk.i64_in _ ⟨by omega,by omega⟩;have HLT:=Lib.hid hlt;clear hk hlt;go_enter Tryz.func236,Tryz.ntmps236;go_wp2_with fail;refine (shiftdn_ok A ca p xs _ hx hca bx bp dx).mono ?_;rintro e w1 ⟨Y,yc,ys,rfl,hyc,hy1,hb1,hvy,hmy,hly⟩;have HVY:Hid (V32 ys=k):=by show _=_;rw [hvy,HK.out]
  have hl2:ys.length≤2:=short_of_lt hmy (by rw [HVY.out];have:=HLT.out;omega);clear hvy;go_wp2_with fail;refine (low_any Y yc ys _ hy1 hmy.1 hl2).mono ?_;rintro e w2 ⟨he,rfl⟩;rw [HVY.out] at he;subst he;go_wp2_with fail;go_ret;exact ⟨rfl,hb1⟩
def ManyP (A B : Nat) (w : World) (e : Ending) (w' : World) : Prop :=
  ∃ x1 y1 x2 y2 : Int, ∃ Ai Bi : Nat, e = .returned (.agg #[.int .i64 x1, .int .i64 y1, .int .i64 x2, .int .i64 y2]) ∧
    Hid (Mix x1 y1 A B Ai)∧Hid (Mix x2 y2 A B Bi)∧Bi≤Ai∧Ai≤A∧Hid (Nat.gcd Ai Bi=Nat.gcd A B)∧Hid (y1=0∨Ai+Bi<A+B)∧Below w.heap.size w w'
theorem many_end {w wr:World} {x1 y1 x2 y2 h n:Int} {H N A B:Nat} (hs:Hid (Lev x1 y1 x2 y2 h n H N A B)) (hb:Below w.heap.size w wr) :
    ManyP A B w (.returned (.agg #[.int .i64 x1,.int .i64 y1,.int .i64 x2,.int .i64 y2]))
      ((((wr.setCell ⟨w.heap.size,0,none⟩ (.int .i64 x1)).setCell ⟨w.heap.size,1,none⟩ (.int .i64 y1)).setCell ⟨w.heap.size,2,none⟩ (.int .i64 x2)).setCell ⟨w.heap.size,3,none⟩ (.int .i64 y2)):=by
  obtain ⟨Ai,Bi,m1,m2,i1,i2,i3,i4⟩:=hs.out.fin;exact ⟨x1,y1,x2,y2,Ai,Bi,rfl,m1,m2,i1,i2,i3,i4,((((hb.setCell (Nat.le_refl _) _).setCell (Nat.le_refl _) _).setCell (Nat.le_refl _) _).setCell (Nat.le_refl _) _)⟩
set_option maxRecDepth 100000 in
set_option maxHeartbeats 1600000 in
theorem many_any (A B : Option Addr) (ca cb : Nat) (xs ys : List Nat) (w : World) (hx : Rd .u32 w A xs) (hy : Rd .u32 w B ys) (bx : xs.length ≤ 100000) (hca : xs.length ≤ ca) (hcb : ys.length ≤ cb)
    (mx:Mag xs) (my:Mag ys) (hge:V32 ys≤V32 xs) (hl:2<xs.length) :
    Calls Tryz.prog 214 #[.slice A xs.length ca,.slice B ys.length cb] w (ManyP (V32 xs) (V32 ys) w):=by
  have hyl:ys.length≤xs.length:=mx.len_le my hge;have HGE:=Lib.hid hge;clear hge;have h3:(18446744073709551616:Nat)≤V32 xs:=by
    have h1:=val_ge (B:=4294967296) mx.2 (by omega);have h2:4294967296 ^ 2≤4294967296 ^ (xs.length - 1):=Nat.pow_le_pow_right (by omega) (by omega);unfold V32;omega
  have H3:=Lib.hid h3;clear h3;go_enter Tryz.func214,Tryz.ntmps214;go_wp2_with fail;refine (bitlen_any A ca xs _ (hx.alloc _) (by omega) mx).mono ?_;rintro e w1 ⟨b,rfl,hbits,rfl⟩;have hb1:b≤32*xs.length:=bits_words mx (Nat.le_refl _) hbits;have hb2:65≤b:=by
    rcases Nat.lt_or_ge b 65 with h | h
    · have h1:=hbits.1;have h2:2 ^ b≤2 ^ 64:=Nat.pow_le_pow_right (by omega) (by omega);have:=H3.out;omega
    · exact h
  obtain ⟨p,hp,hpb⟩:∃ p:Nat,(b:Int) - 62=p∧Hid (b=p+62):=⟨b - 62,by omega,by show _=_;omega⟩;obtain ⟨P,hP⟩:∃ P,Hid (2 ^ p=P):=⟨_,Lib.hid rfl⟩;have hPpos:0<P:=by rw [← hP.out];exact Nat.pow_pos (by omega)
  obtain ⟨H,hH⟩:∃ H,Hid (V32 xs / P=H):=⟨_,Lib.hid rfl⟩;obtain ⟨N,hN⟩:∃ N,Hid (V32 ys / P=N):=⟨_,Lib.hid rfl⟩;have hHlt:Hid (H<4611686018427387904):=by
    show _<_;rw [← hH.out];refine Nat.div_lt_of_lt_mul ?_;have h1:=hbits.1;rw [hpb.out,Nat.pow_add,hP.out] at h1;exact h1
  have hNlt:Hid (N<4611686018427387904):=by
    show _<_;have h1:N≤H:=by rw [← hH.out,← hN.out];exact Nat.div_le_div_right HGE.out
    have:=hHlt.out;omega
  have hpx:p≤10000000:=by have:=hpb.out;omega
  clear hbits hb1 hb2;go_wp2_with fail;refine (window_any A ca p H xs _ (hx.alloc _) hca (by omega) (by omega) mx.1 (by rw [hP.out];exact hH.out) hHlt.out).mono ?_;rintro e w2 ⟨rfl,hb2⟩;have hy2:=(hy.alloc (.cells #[.int .i64 0,.int .i64 0,.int .i64 0,.int .i64 0] 255)).below hb2;go_wp2_with fail;refine (window_any B cb p N ys _ hy2 hcb (by omega) (by omega) my.1 (by rw [hP.out];exact hN.out) hNlt.out).mono ?_;rintro e w3 ⟨rfl,hb3⟩;go_wp2_with fail;have hbw3:Below w.heap.size w w3:=(((Below.refl _ _).alloc (Nat.le_refl _) (.cells #[.int .i64 0,.int .i64 0,.int .i64 0,.int .i64 0] 255)).trans (hb2.mono (by simp))).trans (hb3.mono (by have:=hb2.size;simp at this;omega));have hres:w3.heap[w.heap.size]?=some (.cells #[.int .i64 0,.int .i64 0,.int .i64 0,.int .i64 0] 255 (0,0)):=by
    have h1:=hb2.size;simp at h1;rw [hb3.block _ (by omega),hb2.block _ (by simp)];exact heap_alloc_new w _
  have hlw:w.heap.size<w3.heap.size:=by have h1:=hb2.size;have h2:=hb3.size;simp at h1;omega
  have HST:Hid (Lev 1 0 0 1 H N H N (V32 xs) (V32 ys)):=Lev.start HGE.out hHlt.out hNlt.out;have HA:Hid (V32 xs=H*P+V32 xs % P):=by show _=_;rw [← hH.out,Nat.mul_comm];exact (Nat.div_add_mod _ _).symm
  have HB:Hid (V32 ys=N*P+V32 ys % P):=by show _=_;rw [← hN.out,Nat.mul_comm];exact (Nat.div_add_mod _ _).symm
  clear hb2 hb3 hy2 hx hy H3;go_loopw [6,7,9] (fun hv nv _ wr=>∃ (x1 y1 x2 y2 h n:Int),hv = .int .i64 h∧nv = .int .i64 n∧Lev x1 y1 x2 y2 h n H N (V32 xs) (V32 ys) ∧
      wr.heap[w3.heap.size]?=some (.cells #[.int .i64 x1,.int .i64 y1,.int .i64 x2,.int .i64 y2] 255 (0,0))∧Below w3.heap.size w3 wr) (fun _ nv _ _=>(intOf nv).toNat)
  case atStart=>exact ⟨1,0,0,1,H,N,rfl,rfl,HST.out,heap_alloc_new w3 _,(Below.refl _ _).alloc (Nat.le_refl _) _⟩
  case round=>
    obtain ⟨x1,y1,x2,y2,h,n,rfl,rfl,hs,hblk,hbw⟩:=hrel;have bd:=hs.bounds;have lw:=hs.low;obtain ⟨b1,b2,b3,b4,b5,b6,b7,b8,b9,b10,b11,b12⟩:=bd;obtain ⟨l1,l2⟩:=lw;have HS:=Lib.hid hs;have HBK:=Lib.hid hblk;have c0:wr.cell? ⟨w3.heap.size,0,none⟩=some (.int .i64 x1):=cell_of_row _ _ 0 _ _ _ hblk;have c1:wr.cell? ⟨w3.heap.size,1,none⟩=some (.int .i64 y1):=cell_of_row _ _ 1 _ _ _ hblk;have c2:wr.cell? ⟨w3.heap.size,2,none⟩=some (.int .i64 x2):=cell_of_row _ _ 2 _ _ _ hblk;have c3:wr.cell? ⟨w3.heap.size,3,none⟩=some (.int .i64 y2):=cell_of_row _ _ 3 _ _ _ hblk;have f0:∀ i,wr.frozen? ⟨w3.heap.size,i,none⟩=false:=fun i=>by simp [World.frozen?,hblk]
    have f0':=f0 0;have f1':=f0 1;have f2':=f0 2;have f3':=f0 3;have hres2:wr.heap[w.heap.size]?=some (.cells #[.int .i64 0,.int .i64 0,.int .i64 0,.int .i64 0] 255 (0,0)):=by rw [hbw.block _ hlw];exact hres
    have r0:wr.cell? ⟨w.heap.size,0,none⟩=some (.int .i64 0):=cell_of_row _ _ 0 _ _ _ hres2;have r1:wr.cell? ⟨w.heap.size,1,none⟩=some (.int .i64 0):=cell_of_row _ _ 1 _ _ _ hres2;have r2:wr.cell? ⟨w.heap.size,2,none⟩=some (.int .i64 0):=cell_of_row _ _ 2 _ _ _ hres2;have r3:wr.cell? ⟨w.heap.size,3,none⟩=some (.int .i64 0):=cell_of_row _ _ 3 _ _ _ hres2;have q0:∀ i,wr.frozen? ⟨w.heap.size,i,none⟩=false:=fun i=>by simp [World.frozen?,hres2]
    have q0':=q0 0;have q1':=q0 1;have q2':=q0 2;have q3':=q0 3;clear hs hblk f0 hres2 q0;have hfin:Below w.heap.size w wr:=hbw3.trans (hbw.mono (Nat.le_of_lt hlw))
    by_cases g1:0<n+x2
    · by_cases g2:0<n+y2
      · obtain ⟨q,hq⟩:∃ q,(h+x1) / (n+x2)=q:=⟨_,rfl⟩
        by_cases hqq:(h+y1) / (n+y2)=q
        · obtain ⟨st,t1,t2,t3,t4,t5⟩:=HS.out.step HA.out HB.out (Nat.mod_lt _ hPpos) (Nat.mod_lt _ hPpos) hHlt.out hNlt.out g1 g2 hq hqq;have bd2:=st.bounds;have ST:=Lib.hid st;obtain ⟨u1,hu1⟩:∃ u,q*x2=u:=⟨_,rfl⟩;obtain ⟨u2,hu2⟩:∃ u,q*y2=u:=⟨_,rfl⟩;obtain ⟨u3,hu3⟩:∃ u,q*n=u:=⟨_,rfl⟩;rw [hu1,hu2,hu3] at bd2 ST;rw [hu3] at t1 t3 t4;obtain ⟨-,-,-,-,k1,k2,k3,k4,k5,k6,k7,k8⟩:=bd2;have e1:IntKind.i64.wrap (q*x2)=u1:=by rw [hu1];exact IntWalk.i64_in _ ⟨by omega,by omega⟩
          have e2:IntKind.i64.wrap (q*y2)=u2:=by rw [hu2];exact IntWalk.i64_in _ ⟨by omega,by omega⟩
          have e3:IntKind.i64.wrap (q*n)=u3:=by rw [hu3];exact IntWalk.i64_in _ ⟨by omega,by omega⟩
          clear st hu1 hu2 hu3;go_wp2_with (go_quiet (fail));go_roundw
          case rel=>exact ⟨x2,y2,x1 - u1,y1 - u2,n,h - u3,rfl,rfl,ST.out,by simp [World.setCell,Array.getElem?_modify,HBK.out],(((hbw.setCell (Nat.le_refl _) _).setCell (Nat.le_refl _) _).setCell (Nat.le_refl _) _).setCell (Nat.le_refl _) _⟩
          case measure=>simp [intOf];omega
        · have hne:decide (q=(h+y1) / (n+y2))=false:=decide_eq_false (fun h=>hqq h.symm);go_wp2_with (go_quiet (fail));refine bodyPost_ret (v:=.agg #[.int .i64 x1,.int .i64 y1,.int .i64 x2,.int .i64 y2]) (by simp [results,Tryz.results214,go_sem,r0,r1,r2,r3]) rfl ?_;exact many_end HS hfin
      · have g2':decide (0<n+y2)=false:=decide_eq_false g2;go_wp2_with (go_quiet (fail));refine bodyPost_ret (v:=.agg #[.int .i64 x1,.int .i64 y1,.int .i64 x2,.int .i64 y2]) (by simp [results,Tryz.results214,go_sem,r0,r1,r2,r3]) rfl ?_;exact many_end HS hfin
    · have g1':decide (0<n+x2)=false:=decide_eq_false g1;go_wp2_with (go_quiet (fail));refine bodyPost_ret (v:=.agg #[.int .i64 x1,.int .i64 y1,.int .i64 x2,.int .i64 y2]) (by simp [results,Tryz.results214,go_sem,r0,r1,r2,r3]) rfl ?_;exact many_end HS hfin
end Go.Proofs.YtgekmfcbbjeahaaGreatDoor
/- nat.gcd and nat.GCD: the greatest common divisor of two numbers of at most 4096 words. -/
namespace Go.Proofs.YtgekmfcbbjeahaaGreatDoor
open Go.RowKit V
theorem gcd_mod {a b q r:Nat} (h:a=q*b+r):Nat.gcd b r=Nat.gcd a b:=by
  rw [h,Nat.gcd_comm (q*b+r),Nat.add_comm,Nat.gcd_add_mul_right_right]
def GcdP (g:Nat) (w:World) (e:Ending) (w':World):Prop:=OutP .u32 (fun zs=>V32 zs=g∧Mag zs) w e w'
set_option maxRecDepth 100000 in
set_option maxHeartbeats 3200000 in
theorem gcd_any (A B : Option Addr) (ca cb : Nat) (xs ys : List Nat) (w : World) (hx : Rd .u32 w A xs) (hy : Rd .u32 w B ys) (bx : xs.length ≤ 4096) (by_ : ys.length ≤ 4096) (hca : xs.length ≤ ca) (hcb : ys.length ≤ cb) (mx : Mag xs) (my : Mag ys) :
    Calls Tryz.prog 190 #[.slice A xs.length ca,.slice B ys.length cb] w (GcdP (Nat.gcd (V32 xs) (V32 ys)) w):=by
  obtain ⟨G,hG⟩:∃ G,Hid (Nat.gcd (V32 xs) (V32 ys)=G):=⟨_,Lib.hid rfl⟩;rw [hG.out];obtain ⟨c,hc,hcc⟩:∃ c:Int,Hid (cmpOf (val 4294967296 xs) (val 4294967296 ys)=c)∧((c<0∧Hid (V32 xs≤V32 ys))∨(0≤c∧Hid (V32 ys≤V32 xs))):=by
    refine ⟨_,Lib.hid rfl,?_⟩;rcases Nat.lt_or_ge (V32 xs) (V32 ys) with h | h
    · left;exact ⟨by rw [cmpOf_lt (by unfold V32 at h;omega)];omega,Nat.le_of_lt h⟩
    · right;exact ⟨by unfold V32 at h;unfold cmpOf;split <;> (try split) <;> omega,h⟩
  go_enter Tryz.func190,Tryz.ntmps190;rcases hcc with ⟨hcc,hle⟩ | ⟨hcc,hle⟩
  all_goals
    go_wp2_with fail;refine (compare_any A B ca cb xs ys _ hx hy (by omega) mx.1 my.1 mx.2 my.2).mono ?_;rintro e w1 ⟨he,n1,hwe⟩;rw [hc.out] at he;subst he;have hb1:Below w.heap.size w w1:=by rw [hwe];exact below_drew_ (Below.refl _ _) n1
    have hx1:=hx.below hb1;have hy1:=hy.below hb1;clear hwe;go_wp2_with fail;go_loopg [0,1,5,6,7] (V32 xs+V32 ys) (fun gh av bv _ _ _ wr=>∃ A1 ac al B1 bc bl,av = .slice A1 (al:List Nat).length ac∧bv = .slice B1 (bl:List Nat).length bc∧V32 al+V32 bl=gh∧Rd .u32 wr A1 al∧Rd .u32 wr B1 bl∧Mag al∧Mag bl ∧
      al.length≤ac∧bl.length≤bc∧al.length≤4096∧V32 bl≤V32 al∧Nat.gcd (V32 al) (V32 bl)=G∧Below w.heap.size w wr)
    case atStart=>
      first
        | exact ⟨A,ca,xs,B,cb,ys,rfl,rfl,rfl,hx1,hy1,mx,my,hca,hcb,bx,hle.out,hG.out,hb1⟩
        | exact ⟨B,cb,ys,A,ca,xs,rfl,rfl,Nat.add_comm _ _,hy1,hx1,my,mx,hcb,hca,by_,hle.out,by rw [Nat.gcd_comm];exact hG.out,hb1⟩
    case round =>
      clear hx1 hy1 hx hy mx my hca hcb bx by_ hle hc hcc hb1;obtain ⟨A1,ac,al,B1,bc,bl,rfl,rfl,hgh,ha,hb,ma,mb,hac,hbc,la,hba,hg,hbw⟩:=hrel;have HG:=Lib.hid hg;have HGH:=Lib.hid hgh;have HBA:=Lib.hid hba;have hlen:=ma.len_le mb hba;clear hg hgh hba
      by_cases h2:2<bl.length
      · go_wp2_with fail;refine (many_any A1 B1 ac bc al bl _ ha hb (by omega) hac hbc ma mb HBA.out (by omega)).mono ?_;rintro e w2 ⟨x1,y1,x2,y2,Ai,Bi,rfl,m1,m2,hBi,hAi,hgi,hpr,hb2⟩;have ha2:=ha.below hb2;have hbb2:=hb.below hb2;have hbw2:=hbw.trans (hb2.mono hbw.size);clear ha hb hbw hb2
        by_cases h0:y1=0
        · subst h0;go_wp2_with fail;refine (div_any A1 B1 ac bc al bl _ (ha2.alloc _) (hbb2.alloc _) (by omega) ma mb (by omega)).mono ?_;rintro e w3 ⟨Q,qc,lq,R,rc,lr,rfl,hQ,hR,mq,mr,hqc,hrc,hdm,hlt,hb3⟩;have hb3':=hbw2.trans (((Below.refl _ _).alloc (Nat.le_refl _) _).trans (hb3.mono (by simp)) |>.mono hbw2.size);have hbb3:=(hbb2.alloc _).below hb3;clear hb3 hQ;go_wp2_with fail;go_roundg (V32 bl+V32 lr)
          case measure=>have h1:=hlt.out;have h2:=HGH.out;have h3:=HBA.out;omega
          case rel=>exact ⟨B1,bc,bl,R,rc,lr,rfl,rfl,rfl,hbb3,hR,mb,mr,hbc,hrc,by omega,Nat.le_of_lt hlt.out,(gcd_mod hdm.out).trans HG.out,hb3'⟩
        · have hne : (y1 == 0) = false := beq_eq_false_iff_ne.2 h0; go_wp2_with fail; obtain ⟨W0, hW0⟩ : ∃ W0, w2.alloc (.cells #[.int .i64 x1, .int .i64 y1, .int .i64 x2, .int .i64 y2] 255) = W0 := ⟨_, rfl⟩; have HB0 : Hid (W0.heap[w2.heap.size]? = some (.cells #[.int .i64 x1, .int .i64 y1, .int .i64 x2, .int .i64 y2] 255 (0, 0))) := by rw [← hW0]; exact heap_alloc_new w2 _
          have hg0:w2.heap.size<W0.heap.size:=by rw [← hW0];simp
          have ha3:Rd .u32 W0 A1 al:=by rw [← hW0];exact ha2.alloc _
          have hb3:Rd .u32 W0 B1 bl:=by rw [← hW0];exact hbb2.alloc _
          have hbw3:Below w.heap.size w W0:=by rw [← hW0];exact hbw2.alloc hbw2.size _
          have c0:W0.cell? ⟨w2.heap.size,0,none⟩=some (.int .i64 x1):=cell_of_row _ _ 0 _ _ _ HB0.out;have c1:W0.cell? ⟨w2.heap.size,1,none⟩=some (.int .i64 y1):=cell_of_row _ _ 1 _ _ _ HB0.out;have c2:W0.cell? ⟨w2.heap.size,2,none⟩=some (.int .i64 x2):=cell_of_row _ _ 2 _ _ _ HB0.out;have c3:W0.cell? ⟨w2.heap.size,3,none⟩=some (.int .i64 y2):=cell_of_row _ _ 3 _ _ _ HB0.out;rw [hW0];have HW0:=Lib.hid hW0;clear hW0 ha2 hbb2 hbw2;go_region_with (first
            | (go_at_call_of 216 x1; refine (mixof_any A1 B1 ac bc Ai x1 y1 al bl _ (by first | exact ha3 | exact ha3.drew | exact ha3.below hbr | exact ha3.drew.below hbr) (by first | exact hb3 | exact hb3.drew | exact hb3.below hbr | exact hb3.drew.below hbr) (by omega) hlen ma.1 mb.1 m1.out (by exact hAi)).mono ?_; rintro e wq ⟨Q, qc, lq, rfl, hqc, hQ, hbq, hqq⟩; have HQ := Lib.hid hqq; clear hqq; have hgq : w2.heap.size < wq.heap.size := by first | exact Nat.lt_of_lt_of_le hg0 hbq.size | exact Nat.lt_of_lt_of_le hgr hbq.size
               have HBq:Hid (wq.heap[w2.heap.size]?=some (.cells #[.int .i64 x1,.int .i64 y1,.int .i64 x2,.int .i64 y2] 255 (0,0))):=by first | exact (hbq.block _ hg0).trans HB0.out | exact (hbq.block _ hgr).trans HBr.out
               have d0:wq.cell? ⟨w2.heap.size,0,none⟩=some (.int .i64 x1):=cell_of_row _ _ 0 _ _ _ HBq.out;have d1:wq.cell? ⟨w2.heap.size,1,none⟩=some (.int .i64 y1):=cell_of_row _ _ 1 _ _ _ HBq.out;have d2:wq.cell? ⟨w2.heap.size,2,none⟩=some (.int .i64 x2):=cell_of_row _ _ 2 _ _ _ HBq.out;have d3:wq.cell? ⟨w2.heap.size,3,none⟩=some (.int .i64 y2):=cell_of_row _ _ 3 _ _ _ HBq.out)
            | (go_at_call_of 216 x2; refine (mixof_any A1 B1 ac bc Bi x2 y2 al bl _ (by first | exact ha3 | exact ha3.drew | exact ha3.below hbq | exact ha3.drew.below hbq) (by first | exact hb3 | exact hb3.drew | exact hb3.below hbq | exact hb3.drew.below hbq) (by omega) hlen ma.1 mb.1 m2.out (by exact Nat.le_trans hBi hAi)).mono ?_; rintro e wr_ ⟨R, rc, lr, rfl, hrc, hR, hbr, hrr⟩; have HR := Lib.hid hrr; clear hrr; have hgr : w2.heap.size < wr_.heap.size := by first | exact Nat.lt_of_lt_of_le hg0 hbr.size | exact Nat.lt_of_lt_of_le hgq hbr.size
               have HBr:Hid (wr_.heap[w2.heap.size]?=some (.cells #[.int .i64 x1,.int .i64 y1,.int .i64 x2,.int .i64 y2] 255 (0,0))):=by first | exact (hbr.block _ hg0).trans HB0.out | exact (hbr.block _ hgq).trans HBq.out
               have e0:wr_.cell? ⟨w2.heap.size,0,none⟩=some (.int .i64 x1):=cell_of_row _ _ 0 _ _ _ HBr.out;have e1:wr_.cell? ⟨w2.heap.size,1,none⟩=some (.int .i64 y1):=cell_of_row _ _ 1 _ _ _ HBr.out;have e2:wr_.cell? ⟨w2.heap.size,2,none⟩=some (.int .i64 x2):=cell_of_row _ _ 2 _ _ _ HBr.out;have e3:wr_.cell? ⟨w2.heap.size,3,none⟩=some (.int .i64 y2):=cell_of_row _ _ 3 _ _ _ HBr.out))
          all_goals
            have hlt:Ai+Bi<V32 al+V32 bl:=hpr.out.resolve_left h0;have hq1:V32 lq=Ai:=HQ.out.1;have hr1:V32 lr=Bi:=HR.out.1;have hl1:=ma.len_le HQ.out.2 (by rw [hq1];exact hAi);have HLT:=Lib.hid hlt;have HQ1:=Lib.hid hq1;have HR1:=Lib.hid hr1;clear hlt hq1 hr1;go_wp2_with fail;go_roundg (V32 lq+V32 lr)
            case measure=>rw [HQ1.out,HR1.out,← HGH.out];exact HLT.out
            case rel=>
              first
                | exact ⟨Q,qc,lq,R,rc,lr,rfl,rfl,rfl,hQ.below hbr,hR,HQ.out.2,HR.out.2,hqc,hrc,by omega,by rw [HQ1.out,HR1.out];exact hBi,by rw [HQ1.out,HR1.out,hgi.out];exact HG.out,(hbw3.trans (below_of_drew hbq hbw3.size)).trans (hbr.mono (Nat.le_trans hbw3.size hbq.size))⟩
                | exact ⟨Q,qc,lq,R,rc,lr,rfl,rfl,rfl,hQ,hR.below hbq,HQ.out.2,HR.out.2,hqc,hrc,by omega,by rw [HQ1.out,HR1.out];exact hBi,by rw [HQ1.out,HR1.out,hgi.out];exact HG.out,(hbw3.trans (below_of_drew hbr hbw3.size)).trans (hbq.mono (Nat.le_trans hbw3.size hbr.size))⟩
      · by_cases h0:bl.length=0
        · obtain rfl:bl=[]:=List.eq_nil_of_length_eq_zero h0;go_wp2_with fail;refine (clone_u32 A1 ac al _ ha (by omega)).mono ?_;rintro e w2 ⟨v,rfl,hown,hb2⟩;obtain ⟨Z,zc,rfl,hzc,hz⟩:=hown.form;go_wp2_with fail;go_ret;exact ⟨Z,zc,al,rfl,hzc,hz,hbw.trans (hb2.mono hbw.size),by rw [← HG.out];simp [V32,val],ma⟩
        · have hpos:0<bl.length:=by omega
          go_wp2_with fail;refine (div_any A1 B1 ac bc al bl _ ha hb (by omega) ma mb hpos).mono ?_;rintro e w2 ⟨Q,qc,lq,R,rc,lr,rfl,hQ,hR,mq,mr,hqc,hrc,hdm,hlt,hb2⟩;have hbb2:=hb.below hb2;have hbw2:=hbw.trans (hb2.mono hbw.size);have hrl:lr.length≤2:=by have:=mb.len_le mr (Nat.le_of_lt hlt.out);omega
          obtain ⟨b,hb3⟩:∃ b,Hid (V32 bl=b):=⟨_,Lib.hid rfl⟩;obtain ⟨r,hr3⟩:∃ r,Hid (V32 lr=r):=⟨_,Lib.hid rfl⟩;have hlb:Hid (b<18446744073709551616):=by show _<_;rw [← hb3.out];have:=V32_lt mb (k:=2) (by omega);omega
          have hlr:Hid (r<18446744073709551616):=by show _<_;rw [← hr3.out];have:=V32_lt mr (k:=2) hrl;omega
          have HGG:Hid (Nat.gcd b r=G):=by show _=_;rw [← hb3.out,← hr3.out];exact (gcd_mod hdm.out).trans HG.out
          clear hb2 hQ hb ha hbw;go_wp2_with fail;refine (low_any B1 bc bl _ hbb2 mb.1 (by omega)).mono ?_;rintro e w3 ⟨he,rfl⟩;rw [hb3.out] at he;subst he;go_wp2_with fail;refine (low_any R rc lr _ hR mr.1 hrl).mono ?_;rintro e w3 ⟨he,rfl⟩;rw [hr3.out] at he;subst he;go_wp2_with fail;refine (gcdshort_any b r _ hlb.out hlr.out).mono ?_;rintro e w3 ⟨he,n3,hwe⟩;rw [HGG.out] at he;subst he;have hb4:Below w2.heap.size w2 w3:=by rw [hwe];exact below_drew_ (Below.refl _ _) n3
          have hbw3:=hbw2.trans (hb4.mono hbw2.size);have hGlt:G<18446744073709551616:=by
            have h1:Nat.gcd b r≤b:=Nat.gcd_le_left _ (by rw [← hb3.out];exact V32_pos mb hpos);rw [HGG.out] at h1;have:=hlb.out;omega
          have HGL:=Lib.hid hGlt;clear hwe hGlt;go_wp2_with fail;refine (from_any G _ HGL.out).mono ?_;rintro e w4 ⟨Z,zc,zs,rfl,hzc,hz,hb5,hvz,hmz,hlz⟩;have HVZ:=Lib.hid hvz;clear hvz;go_wp2_with fail;go_ret;exact ⟨Z,zc,zs,rfl,hzc,hz,hbw3.trans (hb5.mono hbw3.size),HVZ.out,hmz⟩
set_option maxHeartbeats 400000 in
theorem GCD_ok (A B:Option Addr) (ca cb:Nat) (xs ys:List Nat) (w:World) (hx:Rd .u32 w A xs) (hy:Rd .u32 w B ys) (hca:xs.length≤ca) (hcb:ys.length≤cb) (ox:Ok xs) (oy:Ok ys) (dx:Dig 4294967296 xs) (dy:Dig 4294967296 ys) :
    Calls Tryz.prog 153 #[.slice A xs.length ca,.slice B ys.length cb] w (OkP (fun zs=>V32 zs=Nat.gcd (V32 xs) (V32 ys)∧Mag zs) w):=by
  have mx:Mag xs:=⟨dx,ox.2⟩;have my:Mag ys:=⟨dy,oy.2⟩;have hl:xs.length≤4096:=ox.1;have hl2:ys.length≤4096:=oy.1;go_enter Tryz.func153,Tryz.ntmps153;go_wp2_with fail;refine (valid_yes A ca xs _ hx ox).mono ?_;rintro e w1 ⟨rfl,rfl⟩;go_wp2_with fail;refine (valid_yes B cb ys _ hy oy).mono ?_;rintro e w1 ⟨rfl,rfl⟩;go_wp2_with fail;refine (gcd_any A B ca cb xs ys _ hx hy hl hl2 hca hcb mx my).mono ?_;rintro e w1 ⟨Z,zc,zs,rfl,hzc,hz,hb,hr⟩;have HR:=Lib.hid hr;clear hr;go_wp2_with fail;go_ret2;exact ⟨Z,zc,zs,hz,hzc,hb,HR.out,rfl⟩
end Go.Proofs.YtgekmfcbbjeahaaGreatDoor
/- rat.trim, rat.combine, rat.plus, rat.minus: sums and differences of numbers of at most 100000 words. -/
namespace Go.Proofs.YtgekmfcbbjeahaaGreatDoor
open Go.RowKit V
theorem qgcd (A B:Option Addr) (ca cb:Nat) (xs ys:List Nat) (w:World) (hx:Rd .u32 w A xs) (hy:Rd .u32 w B ys) (hca:xs.length≤ca) (hcb:ys.length≤cb) (bx:xs.length≤4096) (by_:ys.length≤4096) (mx:Mag xs) (my:Mag ys) :
    Calls Tryz.prog 113 #[.slice A xs.length ca,.slice B ys.length cb] w (OutP .u32 (fun zs=>V32 zs=Nat.gcd (V32 xs) (V32 ys)∧Mag zs) w):=by
  go_enter Tryz.func113,Tryz.ntmps113;go_wp2_with fail;refine (GCD_ok A B ca cb xs ys _ hx hy hca hcb ⟨bx,mx.2⟩ ⟨by_,my.2⟩ mx.1 my.1).mono ?_;rintro e w1 ⟨Z,zc,zs,hz,hzc,hb,⟨hv,mz⟩,rfl⟩;have HV:=Lib.hid hv;clear hv;go_wp2_with fail;go_ret;exact ⟨Z,zc,zs,rfl,hzc,hz,hb,HV.out,mz⟩
theorem div_uniq {a b q r:Nat} (h:a=q*b+r) (hr:r<b):q=a / b∧r=a % b:=by
  have e1:a / b=q:=by rw [h,Nat.mul_comm,Nat.mul_add_div (by omega),Nat.div_eq_of_lt hr,Nat.add_zero]
  have e2:=Nat.div_add_mod a b;rw [e1,Nat.mul_comm] at e2;omega
theorem isone_any (A : Option Addr) (c : Nat) (xs : List Nat) (w : World) (hx : Rd .u32 w A xs) (hl : xs.length ≤ 100000) (mx : Mag xs) :
    Calls Tryz.prog 112 #[.slice A xs.length c] w (Says (.bool (decide (V32 xs=1))) w):=by
  by_cases h1:xs.length=1
  · obtain ⟨ad,x,rfl,hbl,ex,hc⟩:=hx.ask (i:=0) (by omega);rw [add_zero_] at hc;have hv:V32 xs=x:=by rw [one_of_len h1,ex.out];unfold V32;simp [val]
    rw [hv];have hb1:((xs.length:Int) == 1)=true:=by simp [h1]
    have hpos:0<xs.length:=by omega
    clear h1
    by_cases hx1:x=1
    · subst hx1;go_enter Tryz.func112,Tryz.ntmps112;go_wp2_with (go_quiet (fail));go_ret;exact ⟨rfl,0,rfl⟩
    · have hb2:((x:Int) == 1)=false:=beq_eq_false_iff_ne.2 (by omega);rw [decide_eq_false hx1];go_enter Tryz.func112,Tryz.ntmps112;go_wp2_with (go_quiet (fail));go_ret;exact ⟨by simp,0,rfl⟩
  · have hb1:((xs.length:Int) == 1)=false:=beq_eq_false_iff_ne.2 (by omega);have hne:V32 xs≠1:=by
      intro h;rcases Nat.lt_or_ge 1 xs.length with h2 | h2
      · have h3:=val_ge (B:=4294967296) mx.2 (by omega);have h4:4294967296 ^ 1≤4294967296 ^ (xs.length - 1):=Nat.pow_le_pow_right (by omega) (by omega);unfold V32 at h;omega
      · have h3:xs=[]:=List.eq_nil_of_length_eq_zero (by omega);rw [h3] at h;simp [V32,val] at h
    rw [decide_eq_false hne];go_enter Tryz.func112,Tryz.ntmps112;go_wp2_with (go_quiet (fail));go_ret;exact ⟨rfl,0,rfl⟩
end Go.Proofs.YtgekmfcbbjeahaaGreatDoor
/- Words for rational numbers in memory, and rat.signed. -/
namespace Go.Proofs.YtgekmfcbbjeahaaGreatDoor
open Go.RowKit V
def BlkT (t:TypeId) (w:World) (g:Nat) (a b c:Value):Prop:=w.heap[g]?=some (.cells #[a,b,c] t (0,0))
abbrev Blk3:=BlkT 27
structure Cells3 (w:World) (g:Nat) (a b c:Value):Prop where
  c0:w.cell? ⟨g,0,none⟩=some a
  c1:w.cell? ⟨g,1,none⟩=some b
  c2:w.cell? ⟨g,2,none⟩=some c
  f0:w.frozen? ⟨g,0,none⟩=false
  f1:w.frozen? ⟨g,1,none⟩=false
  f2:w.frozen? ⟨g,2,none⟩=false
  lt:g<w.heap.size
section
variable {t:TypeId} {w w':World} {g:Nat} {a b c:Value}
theorem BlkT.lt (h:BlkT t w g a b c):g<w.heap.size:=by
  rcases Nat.lt_or_ge g w.heap.size with hlt | hge
  · exact hlt
  · unfold BlkT at h;rw [Array.getElem?_eq_none hge] at h;cases h
theorem BlkT.facts (h:BlkT t w g a b c):Cells3 w g a b c:=by
  have hf:∀ i,w.frozen? ⟨g,i,none⟩=false:=fun i=>by unfold BlkT at h;simp [World.frozen?,h]
  exact ⟨cell_of_row _ _ 0 _ _ _ h,cell_of_row _ _ 1 _ _ _ h,cell_of_row _ _ 2 _ _ _ h,hf 0,hf 1,hf 2,h.lt⟩
theorem BlkT.below (h:BlkT t w g a b c) (hb:Below w.heap.size w w'):BlkT t w' g a b c:=(hb.block g h.lt).trans h
theorem BlkT.drew (h:BlkT t w g a b c):BlkT t w.drew g a b c:=h
theorem BlkT.new (t:TypeId) (w:World) (a b c:Value):BlkT t (w.alloc (.cells #[a,b,c] t)) w.heap.size a b c:=heap_alloc_new w _
theorem BlkT.alloc (h:BlkT t w g a b c) (o:Obj):BlkT t (w.alloc o) g a b c:=(Below.heap_alloc w o g h.lt).trans h
theorem BlkT.far (h:BlkT t w g a b c) {p:Addr} (hp:g≠p.block) (u:Value):BlkT t (w.setCell p u) g a b c:=(Below.heap_setCell w p u g hp).trans h
theorem BlkT.set0 (h:BlkT t w g a b c) (u:Value):BlkT t (w.setCell ⟨g,0,none⟩ u) g u b c:=by
  unfold BlkT at h ⊢;simp [World.setCell,Array.getElem?_modify,h]
theorem BlkT.set1 (h:BlkT t w g a b c) (u:Value):BlkT t (w.setCell ⟨g,1,none⟩ u) g a u c:=by
  unfold BlkT at h ⊢;simp [World.setCell,Array.getElem?_modify,h]
theorem BlkT.set2 (h:BlkT t w g a b c) (u:Value):BlkT t (w.setCell ⟨g,2,none⟩ u) g a b u:=by
  unfold BlkT at h ⊢;simp [World.setCell,Array.getElem?_modify,h]
end
theorem Blk3.new (w:World) (a b c:Value):Blk3 (w.alloc (.cells #[a,b,c] 27)) w.heap.size a b c:=BlkT.new _ w a b c
structure RL where
  s:Bool
  N:Option Addr
  nc:Nat
  ns:List Nat
  D:Option Addr
  dc:Nat
  ds:List Nat
structure RL.Is (w:World) (a:RL) (q:Rat):Prop where
  rn:Rd .u32 w a.N a.ns
  rd:Rd .u32 w a.D a.ds
  mn:Mag a.ns
  md:Mag a.ds
  cn:a.ns.length≤a.nc
  cd:a.ds.length≤a.dc
  q:QOf a.s (V32 a.ns) (V32 a.ds) q
theorem RL.Is.below {w w':World} {a:RL} {q:Rat} (h:a.Is w q) (hb:Below w.heap.size w w'):a.Is w' q:=
  ⟨h.rn.below hb,h.rd.below hb,h.mn,h.md,h.cn,h.cd,h.q⟩
theorem RL.Is.dpos {w:World} {a:RL} {q:Rat} (h:a.Is w q):0<a.ds.length:=by
  rcases Nat.eq_zero_or_pos a.ds.length with h0 | h0
  · have:=h.q.pos;rw [List.eq_nil_of_length_eq_zero h0] at this;simp [V32,val] at this
  · exact h0
def RatP (q:Rat) (L:Nat) (w:World) (e:Ending) (w':World):Prop:=
  ∃ r:RL,e = .returned (.agg #[.bool r.s,.slice r.N r.ns.length r.nc,.slice r.D r.ds.length r.dc])∧r.Is w' q∧r.ns.length≤L∧r.ds.length≤L∧Below w.heap.size w w'
def RatOk (q:Rat) (L:Nat) (w:World) (e:Ending) (w':World):Prop:=
  ∃ r:RL,e = .returned (.tuple #[.agg #[.bool r.s,.slice r.N r.ns.length r.nc,.slice r.D r.ds.length r.dc],.int .i64 0])∧r.Is w' q∧r.ns.length≤L∧r.ds.length≤L∧Below w.heap.size w w'
def Gives (v:Value) (w:World) (e:Ending) (w':World):Prop:=e = .returned v∧Below w.heap.size w w'
theorem Rd.ne_blk {t:TypeId} {k:IntKind} {w:World} {A:Option Addr} {xs:List Nat} {g n c d e:Nat} {p:Bool} {N D:Option Addr} (h:Rd k w A xs) (hb:BlkT t w g (.bool p) (.slice N n c) (.slice D d e)) (hn:0<xs.length) :
    ∀ ad,A=some ad→ad.block≠g:=by
  intro ad hA hg;obtain ⟨ad',hA',_,hc⟩:=h hn;rw [hA] at hA';injection hA' with hA';subst hA';have h0:=hc 0 hn;rw [add_zero_] at h0;unfold BlkT at hb;rw [← hg] at hb;unfold World.cell? at h0;rw [hb] at h0;simp only at h0
  by_cases hs:ad.spot.isSome=true
  · rw [if_pos hs] at h0;cases h0
  · rw [if_neg hs] at h0;generalize ad.off=o at h0
    match o with
    | 0=>simp at h0
    | 1=>simp at h0
    | 2=>simp at h0
    | o+3=>simp at h0
abbrev put3 (w:World) (g:Nat) (x y z:Value):World:=((w.setCell ⟨g,0,none⟩ x).setCell ⟨g,1,none⟩ y).setCell ⟨g,2,none⟩ z
theorem Rd.put3 {t:TypeId} {k:IntKind} {w:World} {A:Option Addr} {xs:List Nat} {g n c d e:Nat} {p:Bool} {N D:Option Addr} (h:Rd k w A xs) (hb:BlkT t w g (.bool p) (.slice N n c) (.slice D d e)) (x y z:Value):Rd k (put3 w g x y z) A xs:=by
  intro hn;have hne:=h.ne_blk hb hn;refine (h.keep2 (w':=Go.Proofs.YtgekmfcbbjeahaaGreatDoor.put3 w g x y z) (by simp [Go.Proofs.YtgekmfcbbjeahaaGreatDoor.put3,World.setCell]) fun q hq _=>?_) hn;obtain ⟨ad,hA,hqb⟩:=hq;have hq':g≠q.block:=by rw [hqb];exact fun h=>hne ad hA h.symm
  have key:∀ (v:World) (i:Nat) (u:Value),(v.setCell ⟨g,i,none⟩ u).cell? q=v.cell? q:=fun v i u=>by
    have:=Below.heap_setCell v ⟨g,i,none⟩ u q.block (fun h=>hq' h.symm);unfold World.cell?;rw [this]
  rw [key,key,key]
theorem below_put3 {B g:Nat} {a w:World} (h:Below B a w) (hg:B≤g) (x y z:Value):Below B a (put3 w g x y z):=((h.setCell hg _).setCell hg _).setCell hg _
theorem RL.Is.put3 {t:TypeId} {w:World} {a:RL} {q:Rat} {g n c d e:Nat} {p:Bool} {N D:Option Addr} (h:a.Is w q) (hb:BlkT t w g (.bool p) (.slice N n c) (.slice D d e)) (x y z:Value):a.Is (Go.Proofs.YtgekmfcbbjeahaaGreatDoor.put3 w g x y z) q:=
  ⟨h.rn.put3 hb x y z,h.rd.put3 hb x y z,h.mn,h.md,h.cn,h.cd,h.q⟩
theorem RatP.put {t:TypeId} {w w':World} {q:Rat} {L g n c d e:Nat} {p:Bool} {N D:Option Addr} (r:RL) (hi:r.Is w' q) (hb:BlkT t w' g (.bool p) (.slice N n c) (.slice D d e)) (hg:w.heap.size≤g) (hw:Below w.heap.size w w') (l1:r.ns.length≤L) (l2:r.ds.length≤L) :
    RatP q L w (.returned (.agg #[.bool r.s,.slice r.N r.ns.length r.nc,.slice r.D r.ds.length r.dc])) (Go.Proofs.YtgekmfcbbjeahaaGreatDoor.put3 w' g (.bool r.s) (.slice r.N r.ns.length r.nc) (.slice r.D r.ds.length r.dc)):=
  ⟨r,rfl,hi.put3 hb _ _ _,l1,l2,below_put3 hw hg _ _ _⟩
theorem RatOk.put {t:TypeId} {w w':World} {q:Rat} {L g n c d e:Nat} {p:Bool} {N D:Option Addr} (r:RL) (hi:r.Is w' q) (hb:BlkT t w' g (.bool p) (.slice N n c) (.slice D d e)) (hg:w.heap.size≤g) (hw:Below w.heap.size w w') (l1:r.ns.length≤L) (l2:r.ds.length≤L) :
    RatOk q L w (.returned (.tuple #[.agg #[.bool r.s,.slice r.N r.ns.length r.nc,.slice r.D r.ds.length r.dc],.int .i64 0])) (Go.Proofs.YtgekmfcbbjeahaaGreatDoor.put3 w' g (.bool r.s) (.slice r.N r.ns.length r.nc) (.slice r.D r.ds.length r.dc)):=
  ⟨r,rfl,hi.put3 hb _ _ _,l1,l2,below_put3 hw hg _ _ _⟩
end Go.Proofs.YtgekmfcbbjeahaaGreatDoor
/- Words of 64 bits lie in blocks of their own type: what is written elsewhere does not touch them. -/
namespace Go.Proofs.YtgekmfcbbjeahaaGreatDoor
open Go.RowKit V
def Plain_ (t:TypeId):Bool:=t == 112 || t == 140 || t == 3
structure Off (w w':World):Prop where
  size:w.heap.size≤w'.heap.size
  keep:∀ (b:Nat) (cs:Array Value) (t:TypeId) (f:Nat × Nat),Plain_ t=true→w.heap[b]?=some (Obj.cells cs t f)→w'.heap[b]?=w.heap[b]?
theorem Off.refl (w:World):Off w w:=⟨Nat.le_refl _,fun _ _ _ _ _ _=>rfl⟩
theorem Off.trans {a b c:World} (h:Off a b) (k:Off b c):Off a c:=
  ⟨Nat.le_trans h.size k.size,fun x cs t f ht hx=>by
    have h1:=h.keep x cs t f ht hx;rw [k.keep x cs t f ht (h1.trans hx),h1]⟩
theorem Off.of_below {w w':World} (h:Below w.heap.size w w'):Off w w':=
  ⟨h.size,fun b cs t f _ hb=>h.block b (by
    rcases Nat.lt_or_ge b w.heap.size with h1 | h1
    · exact h1
    · rw [Array.getElem?_eq_none h1] at hb;cases hb)⟩
theorem Off.alloc {a w:World} (h:Off a w) (o:Obj):Off a (w.alloc o):=h.trans (Off.of_below ((Below.refl _ _).alloc (Nat.le_refl _) _))
theorem Off.drew {a w:World} (h:Off a w):Off a w.drew:=⟨h.size,h.keep⟩
theorem Off.set_ {a w:World} (h:Off a w) {g:Nat} {cs:Array Value} {t:TypeId} {f:Nat × Nat} (hg:w.heap[g]?=some (.cells cs t f)) (ht:Plain_ t=false) (i:Nat) (v:Value):Off a (w.setCell ⟨g,i,none⟩ v):=
  h.trans ⟨by simp [World.setCell],fun b cs' t' f' ht' hb=>Below.heap_setCell w ⟨g,i,none⟩ v b (fun e=>by
    subst e;rw [hg] at hb;injection hb with hb;injection hb with _ hb;rw [hb,ht'] at ht;cases ht)⟩
def HasT (w:World) (g:Nat) (t:TypeId):Prop:=∃ (cs:Array Value) (f:Nat × Nat),w.heap[g]?=some (Obj.cells cs t f)
theorem HasT.set_ {w:World} {g:Nat} {t:TypeId} (h:HasT w g t) (b i:Nat) (v:Value):HasT (w.setCell ⟨b,i,none⟩ v) g t:=by
  obtain ⟨cs,f,h⟩:=h
  by_cases e:g=b
  · subst e;exact ⟨cs.setIfInBounds i v,f,by simp [World.setCell,Array.getElem?_modify,h]⟩
  · exact ⟨cs,f,(Below.heap_setCell w ⟨b,i,none⟩ v g e).trans h⟩
theorem Off.setT {a w:World} (h:Off a w) {g:Nat} {t:TypeId} (hg:HasT w g t) (ht:Plain_ t=false) (i:Nat) (v:Value):Off a (w.setCell ⟨g,i,none⟩ v):=by
  obtain ⟨cs,f,hg⟩:=hg;exact h.set_ hg ht i v
structure RT (k:IntKind) (t:TypeId) (w:World) (A:Option Addr) (xs:List Nat):Prop where
  rd:Rd k w A xs
  ty:0<xs.length → ∃ (ad:Addr) (cs:Array Value) (f:Nat × Nat),A=some ad∧w.heap[ad.block]?=some (Obj.cells cs t f)
section
variable {k:IntKind} {t:TypeId} {w w':World} {A:Option Addr} {xs:List Nat}
theorem RT.nil_:RT k t w A []:=⟨Rd.nil_,fun h=>by simp at h⟩
theorem RT.off_ (h:RT k t w A xs) (ht:Plain_ t=true) (ho:Off w w'):RT k t w' A xs:=
  ⟨fun hn => by
    obtain ⟨ad,e,hb,hc⟩:=h.rd hn;obtain ⟨ad',cs,f,e',hh⟩:=h.ty hn;rw [e] at e';injection e' with e';subst e';refine ⟨ad,e,Nat.lt_of_lt_of_le hb ho.size,fun j hj=>?_⟩;rw [← hc j hj];exact World.cell?_of_block (w:=w) (by rw [block_of_add];exact ho.keep _ _ _ _ ht hh),
   fun hn=>by
    obtain ⟨ad,cs,f,e,hh⟩:=h.ty hn;exact ⟨ad,cs,f,e,(ho.keep _ _ _ _ ht hh).trans hh⟩⟩
theorem RT.below (h:RT k t w A xs) (hb:Below w.heap.size w w'):RT k t w' A xs:=
  ⟨h.rd.below hb,fun hn=>by
    obtain ⟨ad,cs,f,e,hh⟩:=h.ty hn;refine ⟨ad,cs,f,e,?_⟩;rw [hb.block _ ?_]
    · exact hh
    · rcases Nat.lt_or_ge ad.block w.heap.size with h1 | h1
      · exact h1
      · rw [Array.getElem?_eq_none h1] at hh;cases hh⟩
theorem RT.drew (h:RT k t w A xs):RT k t w.drew A xs:=⟨h.rd,h.ty⟩
theorem RT.alloc (h:RT k t w A xs) (o:Obj):RT k t (w.alloc o) A xs:=h.below ((Below.refl _ _).alloc (Nat.le_refl _) _)
theorem RT.take (h:RT k t w A xs) {m:Nat} (hm:m≤xs.length):RT k t w A (xs.take m):=
  ⟨h.rd.take hm,fun hn=>h.ty (by rw [List.length_take] at hn;omega)⟩
theorem Row.rt {g:Nat} (h:Row k t w g xs):RT k t w (some ⟨g,0,none⟩) xs:=⟨h.rd,fun _=>⟨_,_,_,rfl,h⟩⟩
end
abbrev Rw:=RT .u64 112
theorem Rw.nil_ {w:World} {A:Option Addr}:Rw w A []:=RT.nil_
theorem Rw.off {w w':World} {A:Option Addr} {xs:List Nat} (h:Rw w A xs) (ho:Off w w'):Rw w' A xs:=RT.off_ h (by decide) ho
theorem Row.rw {w:World} {g:Nat} {xs:List Nat} (h:Row .u64 112 w g xs):Rw w (some ⟨g,0,none⟩) xs:=h.rt
theorem RT.put3 {k:IntKind} {u t:TypeId} {w:World} {A:Option Addr} {xs:List Nat} {g n c d e:Nat} {p:Bool} {N D:Option Addr} (h:RT k u w A xs) (hb:BlkT t w g (.bool p) (.slice N n c) (.slice D d e)) (x y z:Value):RT k u (Go.Proofs.YtgekmfcbbjeahaaGreatDoor.put3 w g x y z) A xs:=
  ⟨h.rd.put3 hb x y z,fun hn=>by
    obtain ⟨ad,cs,f,e,ht⟩:=h.ty hn;have hne:=h.rd.ne_blk hb hn ad e;refine ⟨ad,cs,f,e,?_⟩;have key:∀ (v:World) (i:Nat) (u:Value),(v.setCell ⟨g,i,none⟩ u).heap[ad.block]?=v.heap[ad.block]?:=fun v i u=>Below.heap_setCell v ⟨g,i,none⟩ u _ (fun h=>hne h)
    show (((w.setCell ⟨g,0,none⟩ x).setCell ⟨g,1,none⟩ y).setCell ⟨g,2,none⟩ z).heap[ad.block]?=_;rw [key,key,key];exact ht⟩
def OutT (k:IntKind) (t:TypeId) (Q:List Nat→Prop) (w:World) (e:Ending) (w':World):Prop:=
  ∃ A c ys,e = .returned (.slice A (ys:List Nat).length c)∧ys.length≤c∧RT k t w' A ys∧Below w.heap.size w w'∧Q ys
structure RL.Ty (w:World) (a:RL):Prop where
  n:RT .u32 140 w a.N a.ns
  d:RT .u32 140 w a.D a.ds
theorem RL.Ty.off {w w':World} {a:RL} (h:a.Ty w) (ho:Off w w'):a.Ty w':=⟨h.n.off_ (by decide) ho,h.d.off_ (by decide) ho⟩
theorem RL.Ty.below {w w':World} {a:RL} (h:a.Ty w) (hb:Below w.heap.size w w'):a.Ty w':=h.off (Off.of_below hb)
theorem RL.Is.off {w w':World} {a:RL} {q:Rat} (h:a.Is w q) (ht:a.Ty w) (ho:Off w w'):a.Is w' q:=
  ⟨(ht.off ho).n.rd,(ht.off ho).d.rd,h.mn,h.md,h.cn,h.cd,h.q⟩
theorem RL.Ty.put3 {t:TypeId} {w:World} {a:RL} {g n c d e:Nat} {p:Bool} {N D:Option Addr} (h:a.Ty w) (hb:BlkT t w g (.bool p) (.slice N n c) (.slice D d e)) (x y z:Value):a.Ty (Go.Proofs.YtgekmfcbbjeahaaGreatDoor.put3 w g x y z):=
  ⟨h.n.put3 hb x y z,h.d.put3 hb x y z⟩
theorem Off.grown {a w w':World} {v:Value} (h:Off a w) (hg:w.grownBy w' v.ownBlock) (hv:∀ g,v.ownBlock=some g → ∃ t,Plain_ t=false∧HasT w g t):Off a w':=
  h.trans ⟨hg.size,fun b cs t f ht hb=>hg.block b (by
    rcases Nat.lt_or_ge b w.heap.size with h1 | h1
    · exact h1
    · rw [Array.getElem?_eq_none h1] at hb;cases hb) (fun e=>by
    obtain ⟨u,hu,cs',f',hh⟩:=hv b e.symm;rw [hb] at hh;injection hh with hh;injection hh with _ hh;rw [hh,hu] at ht;cases ht)⟩
def OutW (Q:List Nat→Prop) (w:World) (e:Ending) (w':World):Prop:=
  ∃ A c ys,e = .returned (.slice A (ys:List Nat).length c)∧ys.length≤c∧Rw w' A ys∧Below w.heap.size w w'∧Q ys
theorem OutW.of_take {Q:List Nat→Prop} {w w':World} {A:Option Addr} {c m:Nat} {fin:List Nat} (hm:m≤fin.length) (hc:m≤c) (hr:Rw w' A fin) (hb:Below w.heap.size w w')
    (hq:Q (fin.take m)):OutW Q w (.returned (.slice A m c)) w':=by
  have hl:(fin.take m).length=m:=by rw [List.length_take,Nat.min_eq_left hm]
  exact ⟨A,c,fin.take m,by rw [hl],by rw [hl];exact hc,hr.take hm,hb,hq⟩
end Go.Proofs.YtgekmfcbbjeahaaGreatDoor
