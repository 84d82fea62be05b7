/- nat.split: the digits of a magnitude in base 1000000000, at least one; at most 50000 words. -/
import Derived.Test.YtgekmfcbbjeahaaGreatDoorPpR6
import Derived.Deep.LoopGhost
import Derived.Lib.LazyBuf
namespace Go.Proofs.YtgekmfcbbjeahaaGreatDoor
open Go.RowKit V
def BlocksP (xs:List Nat) (w:World) (e:Ending) (w':World):Prop:=
  ∃ v bs,e = .returned v∧Own .u32 140 w.heap.size w' v bs∧0<bs.length∧val 1000000000 bs=V32 xs∧Dig 1000000000 bs∧(1<bs.length→Nrm bs)∧bs.length≤2*xs.length+1∧Below w.heap.size w w'
theorem blocks_len {xs:List Nat} (dx:Dig 4294967296 xs) {k:Nat} (h:1000000000 ^ k≤V32 xs):k≤2*xs.length:=by
  have h1:=val_lt 4294967296 xs dx;have h2:65536 ^ k≤1000000000 ^ k:=Nat.pow_le_pow_left (by omega) _;rcases Nat.lt_or_ge (2*xs.length) k with h3 | h3
  · have h4:65536 ^ (2*xs.length)≤65536 ^ k:=Nat.pow_le_pow_right (by omega) (by omega);have h5:(65536:Nat) ^ (2*xs.length)=4294967296 ^ xs.length:=by rw [Nat.pow_mul]
    unfold V32 at h;omega
  · exact h3
theorem blocks_step (B t r v vq:Nat) (hs:List Nat) (e:vq=v*B+r) (hv:t=val B hs+B ^ hs.length*vq):t=val B (hs ++ [r])+B ^ (hs ++ [r]).length*v:=by
  rw [val_snoc,List.length_append,List.length_singleton,Nat.pow_succ,Nat.mul_assoc];have h:=congrArg (B ^ hs.length * ·) e;simp only [Nat.mul_add] at h;rw [Nat.mul_comm B v];omega
theorem nrm_snoc {bs:List Nat} {r:Nat} (h:r≠0):Nrm (bs ++ [r]):=by
  intro _;simpa [List.getD_eq_getElem?_getD] using h
set_option maxHeartbeats 1000000 in
theorem tsplit_any (X : Option Addr) (xc : Nat) (xs : List Nat) (w : World) (hx : Rd .u32 w X xs) (bl : xs.length ≤ 50000) (dx : Dig 4294967296 xs) (nx : Nrm xs) :
    Calls Tryz.prog 172 #[.slice X xs.length xc] w (BlocksP xs w):=by
  go_enter Tryz.func172,Tryz.ntmps172;go_wp2_with (go_at_call 201;refine (clone_u32 X xc xs _ hx (by omega)).mono ?_;rintro e w1 ⟨v,rfl,hown1,hb1⟩;obtain ⟨A,c,rfl,hac,hra,hsh⟩:=hown1.shape);have hblk:∀ ad,A=some ad→ad.block<w1.heap.size:=fun ad e=>by
    subst e;exact (World.ownsRow.lt hown1 _ rfl).2
  have hblk2:∀ ad,A=some ad→w.heap.size≤ad.block:=fun ad e=>by
    subst e;exact (World.ownsRow.lt hown1 _ rfl).1
  have hshG:Hid (0<xs.length → ∃ g,A=some ⟨g,0,none⟩):=fun h=>by
    obtain ⟨g,e,_⟩:=hsh h;exact ⟨g,e⟩
  clear hsh;have hsz1:=hb1.size;go_loopg [3,4,5] (V32 xs) (fun g rv bv _ wr=>∃ m cur bs,rv = .slice A m c∧cur.length=m∧V32 cur=g∧Dig 4294967296 cur∧Nrm cur∧m≤xs.length∧V32 xs=val 1000000000 bs+1000000000 ^ bs.length*V32 cur ∧
      Dig 1000000000 bs∧(0<bs.length→1≤V32 cur)∧Own .u32 140 w.heap.size wr (.slice A m c) cur∧Own .u32 140 w1.heap.size wr bv bs∧Below w.heap.size w wr∧w1.heap.size≤wr.heap.size)
  case atStart=>exact ⟨xs.length,xs,[],rfl,rfl,rfl,dx,nx,Nat.le_refl _,by simp [val],fun _ h=>by simp at h,fun h=>by simp at h,hown1,Own.nil_,hb1,Nat.le_refl _⟩
  case round=>
    obtain ⟨m,cur,bs,rfl,hcl,hg,hdc,hnc,hml,hv,hdb,hpos,hown,hownb,hbw,hsz⟩:=hrel;have HCL:=Lib.hid hcl;have HG:=Lib.hid hg;have HV:=Lib.hid hv;have HP:=Lib.hid hpos;have hbl:bs.length≤2*xs.length:=by
      rcases Nat.eq_zero_or_pos bs.length with h | h
      · omega
      · refine blocks_len dx ?_;have h1:1000000000 ^ bs.length*1≤1000000000 ^ bs.length*V32 cur:=Nat.mul_le_mul_left _ (hpos h);omega
    clear hcl hg hv hpos hown1 hra hb1;go_wp2_with (first
      | (go_at_call 202;refine (divw_any A m c 1000000000 w.heap.size cur _ HCL.out hown (by omega) hdc (by omega) (by omega) (fun h=>hshG.out (by omega))).mono ?_;rintro e w2 ⟨r,ys,rfl,hr,hyv,hyl,hdy,howny,honly⟩;have hbelow:=honly.below hblk2;have hownb2:=honly.own hownb hblk)
      | (at_builtin;refine wpList_app1f rfl (.tmp 10) (.tmp 12) 25 140 rfl .u32 4 info_u32 Tryz.underlying25 (by omega) _ _ bs _ r rfl rfl hownb2 rfl (w0:=w2) (Below.refl _ _) (by have:=honly.size;omega) (by omega) ?_;intro v' w' hown' hbw' hfar))
    have howny':Own .u32 140 w.heap.size w' (.slice A m c) ys:=howny.kept2 fun g hg hlt=>hfar.2 g hlt fun hb=>by
      have h1:=(World.ownsRow.lt hownb2 g hb).1;rcases A with _ | ad
      · cases hg
      · have h2:=hblk ad rfl;injection hg with hg;omega
    have hylm:ys.length=m:=hyl.out.trans HCL.out;have HYL:=Lib.hid hylm;obtain ⟨A',c',hfe,_,hry⟩:=howny'.form;obtain ⟨rfl,_,rfl⟩:A=A'∧m=ys.length∧c=c':=by injection hfe with h1 h2 h3;exact ⟨h1,h2,h3⟩
    have hcm:m≤c:=by omega
    clear hfe hylm;have hbw2:Below w.heap.size w w':=(hbw.trans hbelow).trans (hbw'.mono hsz1);have hvq:V32 cur=V32 ys*1000000000+r:=hyv.out;have HVQ:=Lib.hid hvq;clear hvq hownb2 hownb howny;refine (trim_u32n A c m ys _ HYL.out hry hcm (by omega)).mono ?_;rintro e w3 ⟨q,hq,rfl,hv3,hn3,rfl⟩;have HV3:=Lib.hid hv3;clear hv3;have hqv:V32 (ys.take q)=V32 ys:=HV3.out _;have HQV:=Lib.hid hqv;have hdq:Dig 4294967296 (ys.take q):=hdy.take q;have hql:(ys.take q).length=q:=by rw [List.length_take,Nat.min_eq_left hq]
    have hownq:=howny'.take_ HYL.out (m:=q) (by have:=HYL.out;omega);have HQL:=Lib.hid hql;have hstep:=blocks_step 1000000000 _ r _ _ bs HVQ.out HV.out;have HST:=Lib.hid hstep;have hdbr:Dig 1000000000 (bs ++ [r]):=hdb.snoc hr;clear hqv hql hstep HV3
    by_cases h0:q=0
    · subst h0;go_wp2;go_ret;have hv0:V32 ys=0:=by rw [← HQV.out];rfl
      have hst:=HST.out;rw [hv0,Nat.mul_zero,Nat.add_zero] at hst;refine ⟨v',bs ++ [r],rfl,hown'.base hsz1,by simp,hst.symm,hdbr,fun hl=>nrm_snoc ?_,by rw [List.length_append,List.length_singleton];omega,hbw2⟩;have h1:=HP.out (by rw [List.length_append,List.length_singleton] at hl;omega);have h2:=HVQ.out;rw [hv0] at h2;omega
    · have hqb:((q:Int) == 0)=false:=beq_eq_false_iff_ne.2 (by omega);go_wp2;have h2:=HVQ.out;have hy1:1≤V32 ys:=by
        rw [← HQV.out];have h3:=val_ge (B:=4294967296) hn3 (by have:=HQL.out;omega);have h4:0<4294967296 ^ ((ys.take q).length - 1):=Nat.pow_pos (by omega);unfold V32;omega
      go_roundg (V32 ys)
      case measure=>have:=HG.out;omega
      case rel=>
        exact ⟨q,ys.take q,bs ++ [r],rfl,HQL.out,HQV.out,hdq,hn3,by have:=HYL.out;omega,by rw [HQV.out];exact HST.out,hdbr,fun _=>by rw [HQV.out];exact hy1,hownq,hown',hbw2,by have:=hbw'.size;have:=hbelow.size;omega⟩
end Go.Proofs.YtgekmfcbbjeahaaGreatDoor
/- isochroneref01.Words: a number as a magnitude; at most 100000 digits. -/
namespace Go.Proofs.YtgekmfcbbjeahaaGreatDoor
open Go.RowKit V
theorem int_eq {k:IntKind} {a b:Int} (h:a=b):Value.int k a = .int k b:=by rw [h]
theorem VD_pos {q:List Nat} (hn:Nm q) (h:0<q.length):1≤VD q:=by
  have:=val_ge (B:=10000) hn.2 h;have h2:0<10000 ^ (q.length - 1):=Nat.pow_pos (by omega);unfold VD;omega
theorem halves_len {hs xs:List Nat} (h:0<hs.length→65536 ^ (hs.length - 1)≤VD xs) (hx:Dig 10000 xs):hs.length≤xs.length:=by
  rcases Nat.eq_zero_or_pos hs.length with h0 | h0
  · omega
  · have h1:=h h0;have h2:=val_lt 10000 xs hx;have h3:10000 ^ (hs.length - 1)≤65536 ^ (hs.length - 1):=Nat.pow_le_pow_left (by omega) _;rcases Nat.lt_or_ge xs.length hs.length with h4 | h4
    · have h5:10000 ^ xs.length≤10000 ^ (hs.length - 1):=Nat.pow_le_pow_right (by omega) (by omega);unfold VD at h1;omega
    · exact h4
theorem flush2 (B t r v vq:Nat) (hs:List Nat) (e:vq=v*B+r) (hv:val B hs+B ^ hs.length*vq=t):val B (hs ++ [r])+B ^ (hs ++ [r]).length*v=t:=by
  rw [val_snoc,List.length_append,List.length_singleton,Nat.pow_succ,Nat.mul_assoc];have h:=congrArg (B ^ hs.length * ·) e;simp only [Nat.mul_add] at h;rw [Nat.mul_comm B v];omega
theorem pow2 (n:Nat):(65536:Nat) ^ (2*n)=4294967296 ^ n:=by rw [Nat.pow_mul]
theorem pair_step (n a b:Nat) (hs out:List Nat) (hl:out.length=n) (ea:hs.getD (2*n) 0=a) (eb:hs.getD (2*n+1) 0=b) (hv:val 4294967296 out=val 65536 (hs.take (2*n))) :
    val 4294967296 (out ++ [a+b*65536])=val 65536 (hs.take (2*n+1+1)):=by
  rw [val_snoc,hl,val_take_any,val_take_any,ea,eb,hv,Nat.pow_succ,pow2,Nat.mul_add,Nat.mul_assoc,Nat.mul_comm 65536 b];omega
theorem nrm_words {hs out:List Nat} {xs:List Nat} (hd:Dig 4294967296 out) (hv:val 4294967296 out=VD xs) (hl:hs.length≤2*out.length) (hl2:2*out.length≤hs.length+1)
    (h:0<hs.length→65536 ^ (hs.length - 1)≤VD xs):Nrm out:=by
  refine nrm_of_ge hd fun h0=>?_
  have h1:=h (by omega);rw [hv,← pow2];have h2:65536 ^ (2*(out.length - 1))≤65536 ^ (hs.length - 1):=Nat.pow_le_pow_right (by omega) (by omega);omega
set_option maxHeartbeats 1000000 in
theorem words_any (A : Option Addr) (ca : Nat) (xs : List Nat) (w : World) (hx : Rd .i64 w A xs) (bl : xs.length ≤ 100000) (nmx : Nm xs) :
    Calls Tryz.prog 88 #[.slice A xs.length ca] w (OutP .u32 (fun zs=>V32 zs=VD xs∧Mag zs) w):=by
  go_enter Tryz.func88,Tryz.ntmps88;go_wp2;go_loopg [0,3,4,5] (VD xs) (fun g a v _ _ wr=>∃ Q qc q hs,a = .slice Q q.length qc∧VD q=g∧Nm q∧q.length≤xs.length∧Rd .i64 wr Q q∧Dig 65536 hs∧val 65536 hs+65536 ^ hs.length*VD q=VD xs ∧
      (0<hs.length→65536 ^ (hs.length - 1)≤VD xs)∧Own .i64 3 w.heap.size wr v hs∧Below w.heap.size w wr)
  case atStart=>exact ⟨A,ca,xs,[],rfl,rfl,nmx,Nat.le_refl _,hx,fun _ h=>by simp at h,by simp [val],fun h=>by simp at h,Own.nil_,Below.refl _ _⟩
  case round=>
    obtain ⟨Q,qc,q,hs,rfl,hg,hnq,hql,hrq,hdh,hv,hmin,hown,hbw⟩:=hrel;have HG:=Lib.hid hg;have HV:=Lib.hid hv;have HM:=Lib.hid hmin;have hlen:hs.length≤xs.length:=halves_len hmin nmx.1;clear hg hv hmin
    by_cases h0:0<q.length
    · have hdq:Dig 10000 q:=hnq.1;have hpos:=VD_pos hnq h0;have hb0:decide ((0:Int)<q.length)=true:=by simpa using h0
      go_wp2_with (first
        | (go_at_call 133;refine (split_any Q qc 65536 q _ hrq (by omega) hdq (by omega) (by omega)).mono ?_;rintro e w1 ⟨Q1,qc1,q1,r,rfl,hqc1,hrq1,hb1,hsp,hr,hnq1,hql1,hfr1⟩)
        | (at_builtin;refine wpList_app1f rfl (.tmp 17) (.tmp 19) 43 3 rfl .i64 8 info_i64 Tryz.underlying43 (by omega) _ _ hs _ r rfl rfl (hown.kept hb1) rfl (hbw.trans (hb1.mono hbw.size)) (Nat.le_refl _) (by omega) ?_;intro v' w' hown' hbw' hfar))
      have hrq':Rd .i64 w' Q1 q1:=hrq1.keep2 hfar.1 fun p ⟨ad,ha,hp⟩ hlt=>World.cell?_of_block <| hfar.2 p.block hlt fun hv=>by
        have h1:=(World.ownsRow.lt hown _ hv).2;have h2:=hfr1 ad ha;omega
      have hvq:VD q=VD q1*65536+r:=hsp.out;go_roundg (VD q1)
      case measure=>have:=HG.out;omega
      case rel=>
        refine ⟨Q1,qc1,q1,hs ++ [r],rfl,rfl,hnq1,by omega,hrq',hdh.snoc hr,flush2 65536 _ r _ _ hs hvq HV.out,fun _=>?_,hown',hbw'⟩;rw [List.length_append,List.length_singleton,Nat.add_sub_cancel];have h1:=HV.out;have h2:65536 ^ hs.length*1≤65536 ^ hs.length*VD q:=Nat.mul_le_mul_left _ hpos;omega
    · have hqe:Hid (q=[]):=List.eq_nil_of_length_eq_zero (by omega);have hb0:decide ((0:Int)<q.length)=false:=by simpa using h0
      obtain ⟨H,hcap,rfl,hhc,hrh⟩:=hown.form;have hmin:=HM.out;have HE:Hid (val 65536 hs=VD xs):=by have:=HV.out;rw [hqe.out] at this;show val 65536 hs=VD xs;simpa [VD,val] using this
      clear hown HV HM hrq HG hnq hqe;obtain ⟨w1,rfl⟩:∃ w1:World,w1=wr:=⟨_,rfl⟩;have HMIN:=Lib.hid hmin;clear hmin;go_wp2;go_loopw [6,7,8] (fun v i _ wq=>∃ n:Nat,∃ out:List Nat,i = .int .i64 (2*n:Nat)∧2*n≤hs.length+1∧out.length=n∧val 4294967296 out=val 65536 (hs.take (2*n))∧Dig 4294967296 out ∧
          Own .u32 140 w1.heap.size wq v out∧Below w1.heap.size w1 wq) (fun _ i _ _=>hs.length+1 - (intOf i).toNat)
      case atStart=>exact ⟨0,[],rfl,by omega,rfl,rfl,fun _ h=>by simp at h,Own.nil_,Below.refl _ _⟩
      case round=>
        obtain ⟨n,out,rfl,hn,hol,hv,hdo,hown,hbw2⟩:=hrel;have HOL:=Lib.hid hol;have HV:=Lib.hid hv;clear hv hol;have hrh':=hrh.below hbw2
        by_cases hlt:2*n<hs.length
        · obtain ⟨ad,a,rfl,hba,ea,ca'⟩:=hrh'.ask hlt;have hal:a<65536:=by rw [← ea.out];exact dig_getD hdh (by omega) _
          by_cases hlt2:2*n+1<hs.length
          · obtain ⟨ad2,b,hadd,hbb,eb,cb⟩:=hrh'.ask hlt2;injection hadd with hadd;subst hadd;have hbl:b<65536:=by rw [← eb.out];exact dig_getD hdh (by omega) _
            have cb2:=cb;unfold Addr.add at cb2;rw [if_neg (by omega)] at cb2;go_wp2_with (at_builtin;refine wpList_app1 rfl (.tmp 47) (.tmp 49) 25 140 rfl .u32 4 info_u32 Tryz.underlying25 (by omega) _ _ out _ (a+b*65536) (by omega) rfl hown rfl hbw2 (Nat.le_refl _) (by have:=HOL.out;omega) ?_;intro v' w' hown' hbw');go_roundw
            case rel=>exact ⟨n+1,out ++ [a+b*65536],int_eq (by omega),by omega,by rw [List.length_append,HOL.out];rfl,pair_step n a b hs out HOL.out ea.out eb.out HV.out,hdo.snoc (by omega),hown',hbw'⟩
            case measure=>simp [intOf];omega
          · have eb:Hid (hs.getD (2*n+1) 0=0):=getD_beyond hs _ (by omega);go_wp2_with (at_builtin;refine wpList_app1 rfl (.tmp 47) (.tmp 49) 25 140 rfl .u32 4 info_u32 Tryz.underlying25 (by omega) _ _ out _ (a+0*65536) (by omega) rfl hown rfl hbw2 (Nat.le_refl _) (by have:=HOL.out;omega) ?_;intro v' w' hown' hbw');go_roundw
            case rel=>exact ⟨n+1,out ++ [a+0*65536],int_eq (by omega),by omega,by rw [List.length_append,HOL.out];rfl,pair_step n a 0 hs out HOL.out ea.out eb.out HV.out,hdo.snoc (by omega),hown',hbw'⟩
            case measure=>simp [intOf];omega
        · obtain ⟨O,oc,rfl,hoc,hro⟩:=hown.form;clear hown;go_wp2;go_ret;have hol:=HOL.out;have hval:val 4294967296 out=VD xs:=by rw [HV.out,List.take_of_length_le (by omega)];exact HE.out
          exact ⟨O,oc,out,rfl,hoc,hro,hbw.trans (hbw2.mono hbw.size),hval,hdo,nrm_words hdo hval (by omega) (by omega) HMIN.out⟩
end Go.Proofs.YtgekmfcbbjeahaaGreatDoor
/- slices.Equal of two slices that read as one list; isochronelaw01.is, isochroneref01.Valid and isochronelaw01.small. -/
namespace Go.Proofs.YtgekmfcbbjeahaaGreatDoor
open Go.RowKit V
set_option maxHeartbeats 400000 in
theorem equal_yes (A B:Option Addr) (c d n:Nat) (xs:List Nat) (w:World) (hn:xs.length=n) (hx:Rd .u32 w A xs) (hy:Rd .u32 w B xs) (bx:n≤200000) :
    Calls Tryz.prog 116 #[.slice A n c,.slice B n d] w (Says (.bool true) w):=by
  subst hn;have hb:((xs.length:Int) != (xs.length:Int))=false:=by simp
  go_enter Tryz.func116,Tryz.ntmps116;go_wp2;go_loopw [5,13] (fun _ i wr=>∃ k n:Nat,k≤xs.length∧i = .int .i64 k∧wr=w.drewN n) (fun _ i _=>xs.length - (intOf i).toNat)
  case atStart=>exact ⟨0,0,Nat.zero_le _,rfl,rfl⟩
  case round=>
    obtain ⟨k,n,hk,rfl,rfl⟩:=hrel
    by_cases hlt:k<xs.length
    · obtain ⟨ad,x,rfl,hbx,ex,cx⟩:=hx.ask hlt;obtain ⟨bd,y,rfl,hby,ey,cy⟩:=hy.ask hlt;obtain rfl:x=y:=ex.out.symm.trans ey.out;go_wp2_with (go_quiet (fail));go_roundw
      case rel=>exact ⟨k+1,_,by omega,by go_num,rfl⟩
      case measure=>simp [intOf];omega
    · go_wp2;go_ret;exact ⟨rfl,n,rfl⟩
def Yes (w:World) (e:Ending) (w':World):Prop:=e = .returned (.bool true)∧Below w.heap.size w w'
set_option maxHeartbeats 400000 in
theorem rvalid_yes (A:Option Addr) (c:Nat) (xs:List Nat) (w:World) (hx:Rd .u32 w A xs) (ok:Ok xs) :
    Calls Tryz.prog 94 #[.slice A xs.length c] w fun e w'=>e = .returned (.bool true)∧w=w':=by
  obtain ⟨ok1,ok2⟩:=ok
  by_cases h0:xs.length=0
  · have hb:((xs.length:Int) == 0)=true:=by simp [h0]
    clear h0 ok2;go_enter Tryz.func94,Tryz.ntmps94;go_wp2;go_ret;exact ⟨rfl,rfl⟩
  · have hb:((xs.length:Int) == 0)=false:=beq_eq_false_iff_ne.2 (by omega);obtain ⟨ad,x,rfl,hbx,ex,cx⟩:=hx.ask (i:=xs.length - 1) (by omega);have hn:((x:Int) != 0)=true:=by have:=ok2 (by omega);rw [ex.out] at this;simpa using this
    have h1:1≤xs.length:=by omega
    clear ok2 h0;go_enter Tryz.func94,Tryz.ntmps94;go_wp2;go_ret;exact ⟨rfl,rfl⟩
set_option maxHeartbeats 400000 in
theorem rvalid_no (A:Option Addr) (c:Nat) (xs:List Nat) (w:World) (hx:Rd .u32 w A xs) (ok:¬ Ok xs) :
    Calls Tryz.prog 94 #[.slice A xs.length c] w fun e w'=>e = .returned (.bool false)∧w=w':=by
  by_cases hl:xs.length≤4096
  · have ok2:¬ Nrm xs:=fun h=>ok ⟨hl,h⟩
    have h0:1≤xs.length:=by
      rcases Nat.eq_zero_or_pos xs.length with h | h
      · exact absurd (fun hh=>by omega) ok2
      · exact h
    have hb:((xs.length:Int) == 0)=false:=beq_eq_false_iff_ne.2 (by omega);obtain ⟨ad,x,rfl,hbx,ex,cx⟩:=hx.ask (i:=xs.length - 1) (by omega);have hx0:x=0:=by
      rcases Nat.eq_zero_or_pos x with h | h
      · exact h
      · exact absurd (fun _=>by rw [ex.out];omega) ok2
    subst hx0;clear ok2 ok;go_enter Tryz.func94,Tryz.ntmps94;go_wp2;go_ret;exact ⟨rfl,rfl⟩
  · have hb:((xs.length:Int) == 0)=false:=beq_eq_false_iff_ne.2 (by omega);clear ok;go_enter Tryz.func94,Tryz.ntmps94;go_wp2;go_ret;exact ⟨rfl,rfl⟩
end Go.Proofs.YtgekmfcbbjeahaaGreatDoor
