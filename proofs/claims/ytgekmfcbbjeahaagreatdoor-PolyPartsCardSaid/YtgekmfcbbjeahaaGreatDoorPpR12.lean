/- nat.guess: the word by which a window of the rest begins in the divisor, or one more. -/
import Derived.Test.YtgekmfcbbjeahaaGreatDoorPpR11
import Derived.IntWalk
namespace Go.Proofs.YtgekmfcbbjeahaaGreatDoor
open Go.RowKit V
theorem g_expand (q v0 v1 B:Nat):q*(v0+B*v1)=q*v0+B*(q*v1):=by
  rw [Nat.mul_add,Nat.mul_left_comm]
theorem g_init {M B lD lP v0 v1 x u P D:Nat} (hD:D=lD+M*(v0+B*v1)) (hP:P=lP+M*(x+B*u)) (hlP:lP<M) (hx:x<B) (hv1:1≤v1):P<(u / v1+1)*D:=by
  have h1:u<(u / v1+1)*v1:=by rw [Nat.mul_comm];exact Nat.lt_mul_div_succ u (by omega)
  have h2:B*(u+1)≤B*((u / v1+1)*v1):=Nat.mul_le_mul_left _ h1;have h3:x+B*u+1≤(u / v1+1)*(v0+B*v1):=by rw [g_expand];rw [Nat.mul_add] at h2;omega
  have h4:M*(x+B*u+1)≤M*((u / v1+1)*(v0+B*v1)):=Nat.mul_le_mul_left _ h3;have h5:(u / v1+1)*D=(u / v1+1)*lD+M*((u / v1+1)*(v0+B*v1)):=by rw [hD,Nat.mul_add,Nat.mul_left_comm]
  rw [h5,hP];rw [Nat.mul_add M _ 1] at h4;omega
theorem g_lower {M B lD lP v0 v1 x u P D q r:Nat} (hD:D=lD+M*(v0+B*v1)) (hP:P=lP+M*(x+B*u)) (hlP:lP<M) (hPD:P<D*B) (hu:u=q*v1+r) (h:B≤q∨r*B+x<q*v0):P<q*D:=by
  rcases h with h | h
  · have:=Nat.mul_le_mul_left D h;rw [Nat.mul_comm q D];omega
  · have h3:x+B*u+1≤q*(v0+B*v1):=by
      rw [g_expand,hu,Nat.mul_add,Nat.mul_comm B r];omega
    have h4:M*(x+B*u+1)≤M*(q*(v0+B*v1)):=Nat.mul_le_mul_left _ h3;have h5:q*D=q*lD+M*(q*(v0+B*v1)):=by rw [hD,Nat.mul_add,Nat.mul_left_comm]
    rw [h5,hP];rw [Nat.mul_add M _ 1] at h4;omega
theorem g_pass {M B lD lP v0 v1 x u P D q r:Nat} (hD:D=lD+M*(v0+B*v1)) (hP:P=lP+M*(x+B*u)) (hlD:lD<M) (hv1:1≤v1) (hu:u=q*v1+r) (hq:q<B) (h:q*v0≤r*B+x):q*D<P+D:=by
  have h3:q*(v0+B*v1)≤x+B*u:=by
    rw [g_expand,hu,Nat.mul_add,Nat.mul_comm B r];omega
  have h4:M*(q*(v0+B*v1))≤M*(x+B*u):=Nat.mul_le_mul_left _ h3;have h5:q*D=q*lD+M*(q*(v0+B*v1)):=by rw [hD,Nat.mul_add,Nat.mul_left_comm]
  have h6:q*lD≤q*M:=Nat.mul_le_mul_left _ (Nat.le_of_lt hlD);have h7:q*M<B*M:=Nat.mul_lt_mul_of_pos_right hq (by omega);have h8:M*(B*1)≤M*(B*v1):=Nat.mul_le_mul_left _ (Nat.mul_le_mul_left _ hv1);have h9:M*(B*v1)≤M*(v0+B*v1):=Nat.mul_le_mul_left _ (by omega);rw [Nat.mul_one,Nat.mul_comm M B] at h8;rw [h5];omega
theorem g_break {M B lD lP v0 v1 x u P D q r:Nat} (hD:D=lD+M*(v0+B*v1)) (hP:P=lP+M*(x+B*u)) (hlD:lD<M) (hv0:v0<B) (hPD:P<D*B) (hu:u=q*v1+r) (hr:B≤r):q<B∧q*v0≤r*B+x:=by
  have hM:0<M:=by omega
  have h1:M*u<D:=by
    have h2:M*u*B≤P:=by rw [hP,Nat.mul_add,Nat.mul_comm B u,← Nat.mul_assoc];omega
    exact Nat.lt_of_mul_lt_mul_right (Nat.lt_of_le_of_lt h2 hPD)
  have h2:u<v0+B*v1+1:=by
    have h3:M*u<M*(v0+B*v1+1):=by rw [Nat.mul_add M _ 1];omega
    exact Nat.lt_of_mul_lt_mul_left h3
  have hq:q<B:=by
    rcases Nat.lt_or_ge q B with h | h
    · exact h
    · have:=Nat.mul_le_mul_right v1 h;omega
  refine ⟨hq,?_⟩;have h3:q*v0≤B*B:=Nat.mul_le_mul (Nat.le_of_lt hq) (Nat.le_of_lt hv0);have h4:B*B≤r*B:=Nat.mul_le_mul_right _ hr;omega
def GuessP (P D:Nat) (w:World) (e:Ending) (w':World):Prop:=
  ∃ q:Nat,e = .returned (.int .u32 q)∧q<4294967296∧Hid (q*D<P+D)∧Hid (P<(q+1)*D)∧Below w.heap.size w w'
set_option maxHeartbeats 1000000 in
theorem guess_any (pd : Addr) (n N c d : Nat) (B : Option Addr) (ps ds : List Nat) (w : World) (hN : N = n + 1) (hp : Rd .u32 w (some pd) ps) (hy : Rd .u32 w B ds) (hpl : ps.length = n + 1) (hdl : ds.length = n) (hn : 2 ≤ n) (bl : n ≤ 100000) (dp : Dig 4294967296 ps) (md : Mag ds)
    (hlt:val 4294967296 ps<val 4294967296 ds*4294967296) :
    Calls Tryz.prog 245 #[.slice (some pd) N c,.slice B n d] w (GuessP (val 4294967296 ps) (val 4294967296 ds) w):=by
  obtain ⟨i1,hi1⟩:∃ i1,n - 1=i1:=⟨_,rfl⟩;obtain ⟨i2,hi2⟩:∃ i2,n - 2=i2:=⟨_,rfl⟩;obtain ⟨bd,v1,rfl,hbv,ev1,cv1⟩:=hy.ask (i:=i1) (by omega);obtain ⟨bd',v0,hb',_,ev0,cv0⟩:=hy.ask (i:=i2) (by omega);injection hb' with hb';subst hb';obtain ⟨p1,u1,hb1,_,eu1,cu1⟩:=hp.ask (i:=n) (by omega);injection hb1 with hb1;subst hb1;obtain ⟨p2,u0,hb2,_,eu0,cu0⟩:=hp.ask (i:=i1) (by omega);injection hb2 with hb2;subst hb2;obtain ⟨p3,x,hb3,_,ex,cx⟩:=hp.ask (i:=i2) (by omega);injection hb3 with hb3;subst hb3;have hv1l:v1<4294967296:=by rw [← ev1.out];exact dig_getD md.1 (by omega) _
  have hv0l:v0<4294967296:=by rw [← ev0.out];exact dig_getD md.1 (by omega) _
  have hu1l:u1<4294967296:=by rw [← eu1.out];exact dig_getD dp (by omega) _
  have hu0l:u0<4294967296:=by rw [← eu0.out];exact dig_getD dp (by omega) _
  have hxl:x<4294967296:=by rw [← ex.out];exact dig_getD dp (by omega) _
  have hv1p:1≤v1:=by
    have:=md.2 (by omega);rw [show ds.length - 1=i1 by omega,ev1.out] at this;omega
  have hnN:n<N:=by omega
  have hi1n:i1<n:=by omega
  have hi2n:i2<n:=by omega
  have hi1N:i1<N:=by omega
  have hi2N:i2<N:=by omega
  have HNN:=Lib.hid hN;have HI1:=Lib.hid hi1;have HI2:=Lib.hid hi2;have HPL:=Lib.hid hpl;have HDL:=Lib.hid hdl;have HLT:=Lib.hid hlt;clear hN hpl hdl hlt hi1 hi2;have hw1:IntKind.i64.wrap ((n:Int) - 1)=i1:=by have:=HI1.out;rw [IntKind.wrap_i64];omega
  have hw2:IntKind.i64.wrap ((n:Int) - 2)=i2:=by have:=HI2.out;rw [IntKind.wrap_i64];omega
  obtain ⟨u,eu,hul⟩:∃ u,u=u1*4294967296+u0∧u<18446744073709551616:=⟨_,rfl,by omega⟩;have hor:bits BinOp.or IntKind.u64 ((u1:Int)*4294967296) (u0:Int)=(u:Nat):=by rw [or_join u1 u0 hu1l hu0l,eu]
  have HEU:=Lib.hid eu;obtain ⟨q0,hq0⟩:∃ q0,u / v1=q0:=⟨_,rfl⟩;obtain ⟨r0,hr0⟩:∃ r0,u % v1=r0:=⟨_,rfl⟩;have hq0l:q0≤u:=by rw [← hq0];exact Nat.div_le_self _ _
  have hr0l:r0<v1:=by rw [← hr0];exact Nat.mod_lt _ hv1p
  have HQR:Hid (u=q0*v1+r0):=by show _=_;rw [← hq0,← hr0,Nat.mul_comm];exact (Nat.div_add_mod u v1).symm
  obtain ⟨P,eP⟩:∃ P,Hid (val 4294967296 ps=P):=⟨_,Lib.hid rfl⟩;obtain ⟨D,eD⟩:∃ D,Hid (val 4294967296 ds=D):=⟨_,Lib.hid rfl⟩;have HD:Hid (D=val 4294967296 (ds.take i2)+4294967296 ^ i2*(v0+4294967296*v1)):=by
    show _=_;have h1:=HDL.out;have h2:=HI2.out;have h3:=HI1.out;rw [← eD.out,val_split 4294967296 ds i2 (by omega),val_drop 4294967296 ds i2 (by omega),ev0.out,show i2+1=i1 by omega,val_drop 4294967296 ds i1 (by omega),ev1.out,List.drop_of_length_le (by omega)];simp [val]
  have HP:Hid (P=val 4294967296 (ps.take i2)+4294967296 ^ i2*(x+4294967296*u)):=by
    show _=_;have h1:=HPL.out;have h2:=HI2.out;have h3:=HI1.out;rw [← eP.out,val_split 4294967296 ps i2 (by omega),val_drop 4294967296 ps i2 (by omega),ex.out,show i2+1=i1 by omega,val_drop 4294967296 ps i1 (by omega),eu0.out,show i1+1=n by omega,val_drop 4294967296 ps n (by omega),eu1.out,List.drop_of_length_le (by omega),HEU.out];simp only [val,Nat.mul_zero,Nat.add_zero];congr 3;omega
  have HlP:Hid (val 4294967296 (ps.take i2)<4294967296 ^ i2):=by
    have h1:=val_lt 4294967296 (ps.take i2) (dp.take _);rwa [List.length_take,Nat.min_eq_left (by have:=HPL.out;omega)] at h1
  have HlD:Hid (val 4294967296 (ds.take i2)<4294967296 ^ i2):=by
    have h1:=val_lt 4294967296 (ds.take i2) (md.1.take _);rwa [List.length_take,Nat.min_eq_left (by have:=HDL.out;omega)] at h1
  have HPD:Hid (P<D*4294967296):=by have:=HLT.out;rwa [eP.out,eD.out] at this
  rw [eP.out,eD.out];have hqi:(u:Int) / v1=q0:=by rw [← hq0];simp
  have hri:(u:Int) % v1=r0:=by rw [← hr0];simp
  have hrt:(u:Int).tmod v1=r0:=by rw [Int.tmod_eq_emod_of_nonneg (by omega)];exact hri
  have hqw:IntKind.u64.wrap (q0:Int)=q0:=by rw [IntKind.wrap_u64];omega
  have hwu1:IntKind.u64.wrap (u1:Int)=u1:=by rw [IntKind.wrap_u64];omega
  have hwu0:IntKind.u64.wrap (u0:Int)=u0:=by rw [IntKind.wrap_u64];omega
  have hwu2:IntKind.u64.wrap ((u1:Int)*4294967296)=(u1:Int)*4294967296:=by rw [IntKind.wrap_u64];omega
  have HINIT:Hid (P<(q0+1)*D):=by rw [← hq0];exact g_init HD.out HP.out HlP.out hxl hv1p
  clear eu hq0 hr0 hu1l hu0l ev1 ev0 eu1 eu0 ex HLT;go_enter Tryz.func245,Tryz.ntmps245;go_wp2_with fail;go_quiet (fail);go_wp2_with fail;go_quiet (fail);go_wp2_with fail;go_quiet (fail);go_wp2_with fail;clear hqi hri hrt hqw hw1 hw2 hor hwu1 hwu0 hwu2;go_loop [9,10] (fun wv rv=>∃ q r:Nat,wv = .int .u64 q∧rv = .int .u64 r∧u=q*v1+r∧q<18446744073709551616∧r<4294967296∧P<(q+1)*D) (fun wv _=>(intOf wv).toNat)
  case atStart=>exact ⟨q0,r0,rfl,rfl,HQR.out,by omega,by omega,HINIT.out⟩
  case round=>
    obtain ⟨q,r,rfl,rfl,hu,hq,hr,hlow⟩:=hrel;have HU:=Lib.hid hu;have HLOW:=Lib.hid hlow;clear hu hlow HQR HINIT hq0l hr0l
    by_cases hb:4294967296≤q
    · have hq1:1≤q:=by omega
      have hlow2:=Lib.hid (g_lower HD.out HP.out HlP.out HPD.out HU.out (.inl hb));obtain ⟨qh,hqh,hqn⟩:∃ qh:Nat,(q:Int) / 4294967296=qh∧((qh:Int) != 0)=true:=⟨q / 4294967296,by omega,by simp;omega⟩;have hq1I:(1:Int)≤q:=by omega
      have hqI:(q:Int)<18446744073709551616:=by omega
      have hu2:Hid (u=(q - 1)*v1+(r+v1)):=by
        show _=_;rw [HU.out];obtain ⟨q',rfl⟩:∃ q',q=q'+1:=⟨q - 1,by omega⟩;rw [Nat.add_sub_cancel,Nat.add_mul,Nat.one_mul];omega
      have hlow3:Hid (P<(q - 1+1)*D):=by rw [Nat.sub_add_cancel hq1];exact hlow2.out
      have hqc:(q:Int) - 1=((q - 1:Nat):Int):=by omega
      by_cases hbr:4294967296≤r+v1
      · obtain ⟨hqB,hpass⟩:=g_break HD.out HP.out HlD.out hv0l HPD.out hu2.out hbr;have hfin:=Lib.hid (g_pass HD.out HP.out HlD.out hv1p hu2.out hqB hpass);obtain ⟨rh,hrh,hrn⟩:∃ rh:Nat,((r:Int)+v1) / 4294967296=rh∧((rh:Int) != 0)=true:=⟨(r+v1) / 4294967296,by omega,by simp;omega⟩;have HQC:=Lib.hid hqc;clear hpass hbr hqc;go_wp2;go_ret;exact ⟨q - 1,by rw [HQC.out];rfl,hqB,hfin.out,hlow3.out,below_drew_ (Below.refl _ _) _⟩
      · have hrh:((r:Int)+v1) / 4294967296=0:=by omega
        have HQC:=Lib.hid hqc;clear hqc;go_wp2;go_round
        case rel=>exact ⟨q - 1,HQC.out,r+v1,by omega,hu2.out,by omega,by omega,hlow3.out⟩
        case measure=>simp [intOf];omega
    · have hqB:q<4294967296:=by omega
      have hqh:(q:Int) / 4294967296=0:=by omega
      obtain ⟨m,hm⟩:∃ m,q*v0=m:=⟨_,rfl⟩;have hml:m≤4294967295*4294967295:=by rw [← hm];exact Nat.mul_le_mul (by omega) (by omega)
      have hmi:(q:Int)*(v0:Int)=m:=by rw [← hm];simp
      obtain ⟨t,ht⟩:∃ t,r*4294967296+x=t:=⟨_,rfl⟩;have htor:bits BinOp.or IntKind.u64 ((r:Int)*4294967296) (x:Int)=(t:Nat):=by rw [or_join r x hr hxl,ht]
      have HM:=Lib.hid hm;have HTT:=Lib.hid ht;have cx2:∀ k,(w.drewN k).cell? (pd.add i2)=some (.int .u32 x):=fun _=>cx
      have hi2I:(n:Int) - 2=i2:=by have:=HI2.out;omega
      clear hm ht
      by_cases hgt:t<m
      · have hq1:1≤q:=by
          rcases Nat.eq_zero_or_pos q with h0 | h0
          · have:=HM.out;rw [h0,Nat.zero_mul] at this;omega
          · exact h0
        have hlow2:=Lib.hid (g_lower HD.out HP.out HlP.out HPD.out HU.out (.inr (by rw [HM.out,HTT.out];exact hgt)));have hq1I:(1:Int)≤q:=by omega
        have hu2:Hid (u=(q - 1)*v1+(r+v1)):=by
          show _=_;rw [HU.out];obtain ⟨q',rfl⟩:∃ q',q=q'+1:=⟨q - 1,by omega⟩;rw [Nat.add_sub_cancel,Nat.add_mul,Nat.one_mul];omega
        have hlow3:Hid (P<(q - 1+1)*D):=by rw [Nat.sub_add_cancel hq1];exact hlow2.out
        have hqc:(q:Int) - 1=((q - 1:Nat):Int):=by omega
        by_cases hbr:4294967296≤r+v1
        · obtain ⟨hqB,hpass⟩:=g_break HD.out HP.out HlD.out hv0l HPD.out hu2.out hbr;have hfin:=Lib.hid (g_pass HD.out HP.out HlD.out hv1p hu2.out hqB hpass);obtain ⟨rh,hrh,hrn⟩:∃ rh:Nat,((r:Int)+v1) / 4294967296=rh∧((rh:Int) != 0)=true:=⟨(r+v1) / 4294967296,by omega,by simp;omega⟩;have HQC:=Lib.hid hqc;clear hpass hbr hqc;go_wp2;go_ret;exact ⟨q - 1,by rw [HQC.out];rfl,hqB,hfin.out,hlow3.out,below_drew_ (Below.refl _ _) _⟩
        · have hrh:((r:Int)+v1) / 4294967296=0:=by omega
          have HQC:=Lib.hid hqc;clear hqc;go_wp2;go_round
          case rel=>exact ⟨q - 1,HQC.out,r+v1,by omega,hu2.out,by omega,by omega,hlow3.out⟩
          case measure=>simp [intOf];omega
      · have hfin:=Lib.hid (g_pass HD.out HP.out HlD.out hv1p HU.out hqB (by rw [HM.out,HTT.out];exact Nat.le_of_not_lt hgt));go_wp2;go_ret;exact ⟨q,rfl,hqB,hfin.out,HLOW.out,below_drew_ (Below.refl _ _) _⟩
end Go.Proofs.YtgekmfcbbjeahaaGreatDoor
