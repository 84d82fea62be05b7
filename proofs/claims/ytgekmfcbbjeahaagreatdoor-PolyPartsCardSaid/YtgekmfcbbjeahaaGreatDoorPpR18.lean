/- The reference's Small, Of, Int, Split with the type of the blocks. -/
import Derived.Test.YtgekmfcbbjeahaaGreatDoorPpR17
import Derived.Deep.DeepCutAuto
import Derived.Deep.RegionHeld3
import Derived.Lib.LazyBuf
import Derived.Deep.LoopGhost
import Derived.Lib.ItoaNum
import Derived.Test.YtgekmfcbbjeahaaGreatDoorShelf
import Derived.Lib.AppendIntMem
import Derived.Laws.IdiomCopy
import Derived.Lib.SmallJoins
import Derived.Laws.IdiomStrings
import Derived.Deep.RegionWith
import Derived.BigRegion
import Derived.IntWalk
import Derived.Laws.CopyOwn
namespace Go.Proofs.YtgekmfcbbjeahaaGreatDoor
open Go.RowKit V
set_option maxHeartbeats 800000 in
theorem small_anyT (A : Option Addr) (ca : Nat) (xs : List Nat) (k c : Nat) (w : World) (hx : Rd .i64 w A xs) (bl : xs.length ≤ 100000) (dx : Dig 10000 xs) (hk : k ≤ 65536) (hc : c ≤ 65536) :
    Calls Tryz.prog 121 #[.slice A xs.length ca,.int .i64 k,.int .i64 c] w
      (OutT .i64 3 (fun zs=>VD zs=VD xs*k+c∧Nm zs∧zs.length≤xs.length+2) w):=by
  have hmk:=fun W=>make_cap (xs.length+2) ((xs.length:Int)+2) (by omega) (by omega) W
  go_enter Tryz.func121,Tryz.ntmps121;go_wp2;clear hmk;go_loopw [2,7,9,16] (fun cv v _ i wr=>∃ n c':Nat,∃ out:List Nat,n≤xs.length∧i = .int .i64 n∧cv = .int .i64 c'∧c'≤65536∧out.length=n∧Dig 10000 out ∧
      val 10000 out+10000 ^ n*c'=val 10000 (xs.take n)*k+c∧Own .i64 3 w.heap.size wr v out∧Below w.heap.size w wr) (fun _ _ _ i _=>xs.length - (intOf i).toNat)
  case atStart=>exact ⟨0,c,[],Nat.zero_le _,rfl,rfl,hc,rfl,fun _ h=>by simp at h,by simp [val],Own.made (Nat.le_refl _) _ (by omega),(Below.refl _ _).alloc (Nat.le_refl _) _⟩
  case round=>
    obtain ⟨n,c',out,hn,rfl,rfl,hc',hol,hdo,hv,hown,hbw⟩:=hrel;have HV:=Lib.hid hv;have HOL:=Lib.hid hol;clear hv hol
    by_cases hlt:n<xs.length
    · obtain ⟨ad,x,rfl,hbx,ex,cx⟩:=(hx.below hbw).ask hlt;have hxl:x<10000:=by rw [← ex.out];exact dig_getD dx (by omega) n
      have hm:=digit_mul x k hxl hk;have hm0:(0:Int)≤(x:Int)*k:=Int.mul_nonneg (by omega) (by omega);obtain ⟨s,c2,hs,hc2,hsc,es,ec⟩:∃ s c2:Nat,s<10000∧c2≤65536∧Hid (s+10000*c2=c'+x*k)∧Hid (((c':Int)+(x:Int)*k) % 10000=s)∧Hid (((c':Int)+(x:Int)*k) / 10000=c2):=by
        have e:((c'+x*k:Nat):Int)=(c':Int)+(x:Int)*k:=by simp
        have e2:c'+x*k≤655360000:=by omega
        refine ⟨(c'+x*k) % 10000,(c'+x*k) / 10000,Nat.mod_lt _ (by omega),by omega,Nat.mod_add_div _ _,?_,?_⟩
        · show _=_;rw [← e];omega
        · show _=_;rw [← e];omega
      go_wp2_with (at_builtin;refine wpList_app1 rfl (.tmp 25) (.tmp 28) 44 3 rfl .i64 8 info_i64 Tryz.underlying44 (by omega) _ _ out _ s es.out rfl hown rfl hbw (Nat.le_refl _) (by have:=HOL.out;omega) ?_;intro v' w' hown' hbw');go_roundw
      case rel=>exact ⟨n+1,c2,out ++ [s],by omega,by go_num,by rw [ec.out],hc2,by rw [List.length_append,HOL.out];rfl,hdo.snoc hs,small_step 10000 n s c' c2 x k c out xs HOL.out hlt ex.out hsc.out HV.out,hown',hbw'⟩
      case measure=>simp [intOf];omega
    · obtain rfl:n=xs.length:=by omega
      go_wp2;go_loopw [2,7] (fun cv v wr=>∃ c':Nat,∃ out:List Nat,cv = .int .i64 c'∧c'≤65536∧out.length+c'≤xs.length+65536∧Dig 10000 out ∧
          val 10000 out+10000 ^ out.length*c'=VD xs*k+c∧Own .i64 3 w.heap.size wr v out∧Below w.heap.size w wr) (fun cv _ _=>(intOf cv).toNat)
      case atStart=>exact ⟨c',out,rfl,hc',by have:=HOL.out;omega,hdo,by have:=HV.out;rw [List.take_length] at this;rw [HOL.out];exact this,hown,hbw⟩
      case round=>
        clear hc' hdo hown hbw HV HOL hn hlt;obtain ⟨c',out,rfl,hc',hol,hdo,hv,hown,hbw⟩:=hrel;have HV:=Lib.hid hv;clear hv
        by_cases h0:c'=0
        · subst h0;obtain ⟨O,oc,rfl,hoc,hro⟩:=hown.formT;have HVt:=HV.out;clear hown;have hlen:out.length≤200000:=by omega
          go_wp2_with (go_at_call 157;refine (trim_i64 O oc out _ hro.rd hoc hlen).mono ?_;rintro e w1 ⟨m,hm,rfl,hv3,hn3,rfl⟩;have HV3:=Lib.hid hv3;clear hv3);go_ret;have hval:VD (out.take m)=VD xs*k+c:=by
            show val 10000 (out.take m)=_;rw [HV3.out];simpa using HV.out
          refine OutT.of_take hm (by omega) hro hbw ⟨hval,⟨hdo.take m,hn3⟩,?_⟩;refine len_of_lt (B:=10000) (by omega) hn3 ?_;show VD (out.take m)<_;rw [hval];have h1:=val_lt 10000 xs dx;have h2:(VD xs+1)*65537≤10000 ^ xs.length*65537:=Nat.mul_le_mul_right _ h1;have h3:VD xs*k≤VD xs*65536:=Nat.mul_le_mul_left _ hk;rw [Nat.pow_add];omega
        · obtain ⟨s,c2,hs,hc2,hlt2,hsc,es,ec⟩:∃ s c2:Nat,s<10000∧c2≤65536∧c2<c'∧Hid (s+10000*c2=c')∧Hid ((c':Int) % 10000=s)∧Hid ((c':Int) / 10000=c2):=
            ⟨c' % 10000,c' / 10000,Nat.mod_lt _ (by omega),by omega,by omega,Nat.mod_add_div _ _,by show _=_;omega,by show _=_;omega⟩
          go_wp2_with (at_builtin;refine wpList_app1 rfl (.tmp 35) (.tmp 38) 44 3 rfl .i64 8 info_i64 Tryz.underlying44 (by omega) _ _ out _ s es.out rfl hown rfl hbw (Nat.le_refl _) (by omega) ?_;intro v' w' hown' hbw');go_roundw
          case rel=>exact ⟨c2,out ++ [s],by rw [ec.out],hc2,by rw [List.length_append,List.length_singleton];omega,hdo.snoc hs,flush_step 10000 s c' c2 _ out hsc.out HV.out,hown',hbw'⟩
          case measure=>simp [intOf];omega
theorem small_zT (A:Option Addr) (ca n:Nat) (xs:List Nat) (k c:Nat) (K C:Int) (w:World) (hn:xs.length=n) (hK:K=k) (hC:C=c) (hx:Rd .i64 w A xs) (bl:n≤100000) (dx:Dig 10000 xs) (hk:k≤65536) (hc:c≤65536) :
    Calls Tryz.prog 121 #[.slice A n ca,.int .i64 K,.int .i64 C] w
      (OutT .i64 3 (fun zs=>VD zs=VD xs*k+c∧Nm zs∧zs.length≤xs.length+2) w):=by
  subst hK;subst hC;subst hn;exact small_anyT A ca xs k c w hx bl dx hk hc
set_option maxHeartbeats 800000 in
theorem of_anyT (A : Option Addr) (c : Nat) (xs : List Nat) (w : World) (hx : Rd .u32 w A xs) (bl : xs.length ≤ 5000) (dx : Dig 4294967296 xs) :
    Calls Tryz.prog 66 #[.slice A xs.length c] w
      (OutT .i64 3 (fun zs=>VD zs=V32 xs∧Nm zs∧zs.length≤4*xs.length) w):=by
  go_enter Tryz.func66,Tryz.ntmps66;go_wp2;go_loopw [3,4] (fun v i wr=>∃ j:Int,∃ O oc out,-1≤j∧j<xs.length∧i = .int .i64 j∧v = .slice O out.length oc∧out.length≤oc∧RT .i64 3 wr O out∧Nm out ∧
      VD out=V32 (xs.drop (j+1).toNat)∧(out.length:Int)+4*(j+1)≤4*xs.length∧Below w.heap.size w wr) (fun _ i _=>(intOf i+1).toNat)
  case atStart=>exact ⟨_,some ⟨w.heap.size,0,none⟩,0,[],by omega,by omega,rfl,rfl,Nat.le_refl _,RT.nil_,nm_nil,by rw [show ((xs.length:Int) - 1+1).toNat=xs.length by omega,List.drop_length];rfl,by simp,(Below.refl _ _).alloc (Nat.le_refl _) _⟩
  case round=>
    obtain ⟨j,O,oc,out,hj,hjl,rfl,rfl,hoc,hro,hno,hv,hol,hbw⟩:=hrel;have HV:=Lib.hid hv;clear hv
    by_cases h0:j<0
    · go_wp2;go_ret;exact ⟨O,oc,out,rfl,hoc,hro,hbw,by rw [HV.out,show (j+1).toNat=0 by omega,List.drop_zero],hno,by omega⟩
    · obtain ⟨k,rfl⟩:=Int.eq_ofNat_of_zero_le (show 0≤j by omega);have hkx:k<xs.length:=by omega
      obtain ⟨ad,x,rfl,hbx,ex,cx⟩:=(hx.below hbw).ask hkx;have hxl:x<4294967296:=by rw [← ex.out];exact dig_getD dx (by omega) k
      have h1:Hid ((x:Int) / 65536=(x / 65536:Nat)):=by show _=_;omega
      have h2:Hid (bits BinOp.and IntKind.u32 (x:Int) 65535=(x % 65536:Nat)):=by
        show _=_;have:=u32_and_nat x 65535 hxl (by omega);rw [nat_mask16] at this;exact this
      have h2a:0≤bits BinOp.and IntKind.u32 (x:Int) 65535:=by rw [h2.out];omega
      have h2b:bits BinOp.and IntKind.u32 (x:Int) 65535≤65535:=by rw [h2.out];omega
      have hnd:Dig 10000 out:=hno.1;go_wp2_with (first
        | (go_at_call 121;(with_reducible refine (small_zT O oc _ out 65536 (x / 65536) _ _ _ rfl (by omega) h1.out hro.rd (by omega) hnd (by omega) (by omega)).mono ?_);rintro e w1 ⟨O1,oc1,out1,rfl,hoc1,hro1,hb1,hv1,⟨hd1,hn1⟩,hl1⟩;have HV1:=Lib.hid hv1;clear hv1;have hcell1:=(hb1.cell (p:=ad.add k) (by rw [block_of_add];exact hbx)).trans cx)
        | (go_at_call 121;(with_reducible refine (small_zT O1 oc1 _ out1 65536 (x % 65536) _ _ _ rfl (by omega) h2.out hro1.rd (by omega) hd1 (by omega) (by omega)).mono ?_);rintro e w2 ⟨O2,oc2,out2,rfl,hoc2,hro2,hb2,hv2,⟨hd2,hn2⟩,hl2⟩;have HV2:=Lib.hid hv2;clear hv2))
      go_roundw
      case rel=>
        refine ⟨_,O2,oc2,out2,by omega,by omega,rfl,rfl,hoc2,hro2,⟨hd2,hn2⟩,?_,by omega,(hbw.trans (hb1.mono hbw.size)).trans (hb2.mono (Nat.le_trans hbw.size hb1.size))⟩;rw [HV2.out,HV1.out,HV.out,show ((k:Int) - 1+1).toNat=k by omega,show ((k:Int)+1).toNat=k+1 by omega];unfold V32;rw [val_drop _ xs k hkx,ex.out];omega
      case measure=>simp [intOf]
set_option maxHeartbeats 400000 in
theorem int_anyT (n : Nat) (w : World) (hn : n ≤ 9223372036854775807) :
    Calls Tryz.prog 89 #[.int .i64 n] w (OutT .i64 3 (fun zs=>VD zs=n∧Nm zs∧zs.length≤5) w):=by
  obtain ⟨N,HN⟩:∃ N,Hid (n=N):=⟨_,rfl⟩;go_enter Tryz.func89,Tryz.ntmps89;go_wp2;go_loopw [0,3] (fun nv v wr=>∃ m:Nat,∃ out:List Nat,nv = .int .i64 m∧m≤9223372036854775807∧val 10000 out+10000 ^ out.length*m=N∧Dig 10000 out∧(m=0→Nrm out) ∧
      Own .i64 3 w.heap.size wr v out∧Below w.heap.size w wr) (fun nv _ _=>(intOf nv).toNat)
  case atStart=>exact ⟨n,[],rfl,hn,by rw [← HN.out];simp [val],fun _ h=>by simp at h,fun _=>nrm_nil,Own.made (Nat.le_refl _) 0 (by omega),(Below.refl _ _).alloc (Nat.le_refl _) _⟩
  case round=>
    obtain ⟨m,out,rfl,hm,hv,hdo,hnz,hown,hbw⟩:=hrel;have HV:=Lib.hid hv;have HZ:=Lib.hid hnz;clear hv hnz
    by_cases h0:m=0
    · subst h0;obtain ⟨O,oc,rfl,hoc,hro⟩:=hown.formT;clear hown;go_wp2;go_ret;have hval:VD out=n:=by have:=HV.out;rw [HN.out];show val 10000 out=N;simpa using this
      exact ⟨O,oc,out,rfl,hoc,hro,hbw,hval,⟨hdo,HZ.out trivial⟩,int_len ⟨hdo,HZ.out trivial⟩ hval (by omega)⟩
    · have hlen:out.length≤4:=by
        have h1:=HV.out;have h2:10000 ^ out.length*1≤10000 ^ out.length*m:=Nat.mul_le_mul_left _ (by omega);have h3:=HN.out;exact pow_len (N:=N) (by omega) (by omega)
      obtain ⟨s,c2,hs,hc2,hlt2,hsc,es,ec⟩:∃ s c2:Nat,s<10000∧c2≤9223372036854775807∧c2<m∧Hid (s+10000*c2=m)∧Hid ((m:Int) % 10000=s)∧Hid ((m:Int) / 10000=c2):=
        ⟨m % 10000,m / 10000,Nat.mod_lt _ (by omega),by omega,by omega,Nat.mod_add_div _ _,by show _=_;omega,by show _=_;omega⟩
      go_wp2_with (at_builtin;refine wpList_app1 rfl (.tmp 7) (.tmp 10) 44 3 rfl .i64 8 info_i64 Tryz.underlying44 (by omega) _ _ out _ s es.out rfl hown rfl hbw (Nat.le_refl _) (by omega) ?_;intro v' w' hown' hbw');go_roundw
      case rel=>exact ⟨c2,out ++ [s],by rw [ec.out],hc2,flush_step 10000 s m c2 _ out hsc.out HV.out,hdo.snoc hs,fun h=>nrm_snoc (by have:=hsc.out;omega),hown',hbw'⟩
      case measure=>simp [intOf];omega
def SplitT (xs:List Nat) (k:Nat) (w:World) (e:Ending) (w':World):Prop:=
  ∃ A c q r,e = .returned (.tuple #[.slice A q.length c,.int .i64 (r:Nat)])∧q.length≤c∧RT .i64 3 w' A q∧Below w.heap.size w w'∧Hid (VD xs=VD q*k+r)∧r<k∧Nm q∧q.length≤xs.length ∧ ∀ ad,A=some ad→w.heap.size≤ad.block
set_option maxHeartbeats 1000000 in
theorem split_anyT (A : Option Addr) (ca k : Nat) (xs : List Nat) (w : World) (hx : Rd .i64 w A xs) (bl : xs.length ≤ 100000) (dx : Dig 10000 xs) (hk1 : 1 ≤ k) (hk : k ≤ 65536) :
    Calls Tryz.prog 133 #[.slice A xs.length ca,.int .i64 k] w (SplitT xs k w):=by
  have hmk:=fun W=>make_nat xs.length xs.length rfl (by omega) W
  go_enter Tryz.func133,Tryz.ntmps133;go_wp2;clear hmk;go_loopw [7,8] (fun rv i wr=>∃ j:Int,∃ r:Nat,∃ cur:List Nat,-1≤j∧j<xs.length∧i = .int .i64 j∧rv = .int .i64 r∧r<k∧cur.length=xs.length∧Dig 10000 cur ∧
      val 10000 (xs.drop (j+1).toNat)=val 10000 (cur.drop (j+1).toNat)*k+r∧Row .i64 3 wr w.heap.size cur∧Below w.heap.size w wr) (fun _ i _=>(intOf i+1).toNat)
  case atStart=>exact ⟨_,0,_,by omega,by omega,rfl,rfl,by omega,List.length_replicate,Dig.zeros (by omega) _,by rw [show ((xs.length:Int) - 1+1).toNat=xs.length by omega,List.drop_length,List.drop_of_length_le (by rw [List.length_replicate];omega)];simp [val],Row.new _ _,(Below.refl _ _).alloc (Nat.le_refl _) _⟩
  case round=>
    obtain ⟨j,r,cur,hj,hjl,rfl,rfl,hr,hcl,hdc,hv,hrow,hbw⟩:=hrel;have HV:=Lib.hid hv;have HCL:=Lib.hid hcl;clear hv hcl
    by_cases h0:j<0
    · go_wp2_with (go_at_call 157;refine (trim_i64n _ _ _ cur _ HCL.out hrow.rd (Nat.le_refl _) (by omega)).mono ?_;rintro e w1 ⟨m,hm,rfl,hv3,hn3,rfl⟩;have HV3:=Lib.hid hv3;clear hv3);go_ret2;have hfl:=HCL.out;have hl:(cur.take m).length=m:=by rw [List.length_take,Nat.min_eq_left hm]
      refine ⟨some ⟨w.heap.size,0,none⟩,xs.length,cur.take m,r,by rw [hl];rfl,by omega,hrow.rt.take hm,hbw,?_,hr,⟨hdc.take m,hn3⟩,by omega,fun ad h=>by injection h with h;subst h;exact Nat.le_refl _⟩;have h1:=HV.out;rw [show (j+1).toNat=0 by omega,List.drop_zero,List.drop_zero] at h1;show val 10000 xs=val 10000 (cur.take m)*k+r;rw [HV3.out];exact h1
    · obtain ⟨i,rfl⟩:=Int.eq_ofNat_of_zero_le (show 0≤j by omega);have hix:i<xs.length:=by omega
      obtain ⟨ad,x,rfl,hbx,ex,cx⟩:=(hx.below hbw).ask hix;have hxl:x<10000:=by rw [← ex.out];exact dig_getD dx (by omega) i
      have hkc:i<cur.length:=by have:=HCL.out;omega
      have hcell:=hrow.cell hkc;have hfr:=hrow.frozen i;have hq:(r*10000+x) / k<10000:=Nat.div_lt_of_lt_mul (by have:(r+1)*10000≤k*10000:=Nat.mul_le_mul_right _ hr;omega);obtain ⟨s,r',hs,hr',hsc,es,er⟩:∃ s r':Nat,s<10000∧r'<k∧Hid (s*k+r'=r*10000+x)∧Hid (((r:Int)*10000+x) / k=s)∧Hid (((r:Int)*10000+x) % k=r'):=by
        have e:((r*10000+x:Nat):Int)=(r:Int)*10000+x:=by simp
        refine ⟨(r*10000+x) / k,(r*10000+x) % k,hq,Nat.mod_lt _ (by omega),by show _=_;rw [Nat.mul_comm];exact Nat.div_add_mod _ _,?_,?_⟩
        · show _=_;rw [← e];rfl
        · show _=_;rw [← e];rfl
      clear hq;go_wp2;go_roundw
      case rel=>
        exact ⟨_,r',cur.set i s,by omega,by omega,rfl,by rw [er.out],hr',by rw [List.length_set];exact HCL.out,hdc.set _ hs,
          by rw [show ((i:Int) - 1+1).toNat=i by omega];exact split_step 10000 i k x r s r' cur xs hkc hix ex.out hsc.out HV.out,by rw [es.out];exact hrow.set_ i s,hbw.setCell (Nat.le_refl _) _⟩
      case measure=>simp [intOf]
end Go.Proofs.YtgekmfcbbjeahaaGreatDoor
/- The reference's Words with the type of the blocks. -/
namespace Go.Proofs.YtgekmfcbbjeahaaGreatDoor
open Go.RowKit V
set_option maxHeartbeats 1000000 in
theorem words_anyT (A : Option Addr) (ca : Nat) (xs : List Nat) (w : World) (hx : Rd .i64 w A xs) (bl : xs.length ≤ 100000) (nmx : Nm xs) :
    Calls Tryz.prog 88 #[.slice A xs.length ca] w (OutT .u32 140 (fun zs=>V32 zs=VD xs∧Mag zs) w):=by
  go_enter Tryz.func88,Tryz.ntmps88;go_wp2;go_loopg [0,3,4,5] (VD xs) (fun g a v _ _ wr=>∃ Q qc q hs,a = .slice Q q.length qc∧VD q=g∧Nm q∧q.length≤xs.length∧Rd .i64 wr Q q∧Dig 65536 hs∧val 65536 hs+65536 ^ hs.length*VD q=VD xs ∧
      (0<hs.length→65536 ^ (hs.length - 1)≤VD xs)∧Own .i64 3 w.heap.size wr v hs∧Below w.heap.size w wr)
  case atStart=>exact ⟨A,ca,xs,[],rfl,rfl,nmx,Nat.le_refl _,hx,fun _ h=>by simp at h,by simp [val],fun h=>by simp at h,Own.nil_,Below.refl _ _⟩
  case round=>
    obtain ⟨Q,qc,q,hs,rfl,hg,hnq,hql,hrq,hdh,hv,hmin,hown,hbw⟩:=hrel;have HG:=Lib.hid hg;have HV:=Lib.hid hv;have HM:=Lib.hid hmin;have hlen:hs.length≤xs.length:=halves_len hmin nmx.1;clear hg hv hmin
    by_cases h0:0<q.length
    · have hdq:Dig 10000 q:=hnq.1;have hpos:=VD_pos hnq h0;have hb0:decide ((0:Int)<q.length)=true:=by simpa using h0
      go_wp2_with (first
        | (go_at_call 133;refine (split_any Q qc 65536 q _ hrq (by omega) hdq (by omega) (by omega)).mono ?_;rintro e w1 ⟨Q1,qc1,q1,r,rfl,hqc1,hrq1,hb1,hsp,hr,hnq1,hql1,hfr1⟩)
        | (at_builtin;refine wpList_app1f rfl (.tmp 17) (.tmp 19) 43 3 rfl .i64 8 info_i64 Tryz.underlying43 (by omega) _ _ hs _ r rfl rfl (hown.kept hb1) rfl (hbw.trans (hb1.mono hbw.size)) (Nat.le_refl _) (by omega) ?_;intro v' w' hown' hbw' hfar))
      have hrq':Rd .i64 w' Q1 q1:=hrq1.keep2 hfar.1 fun p ⟨ad,ha,hp⟩ hlt=>World.cell?_of_block <| hfar.2 p.block hlt fun hv=>by
        have h1:=(World.ownsRow.lt hown _ hv).2;have h2:=hfr1 ad ha;omega
      have hvq:VD q=VD q1*65536+r:=hsp.out;go_roundg (VD q1)
      case measure=>have:=HG.out;omega
      case rel=>
        refine ⟨Q1,qc1,q1,hs ++ [r],rfl,rfl,hnq1,by omega,hrq',hdh.snoc hr,flush2 65536 _ r _ _ hs hvq HV.out,fun _=>?_,hown',hbw'⟩;rw [List.length_append,List.length_singleton,Nat.add_sub_cancel];have h1:=HV.out;have h2:65536 ^ hs.length*1≤65536 ^ hs.length*VD q:=Nat.mul_le_mul_left _ hpos;omega
    · have hqe:Hid (q=[]):=List.eq_nil_of_length_eq_zero (by omega);have hb0:decide ((0:Int)<q.length)=false:=by simpa using h0
      obtain ⟨H,hcap,rfl,hhc,hrh⟩:=hown.form;have hmin:=HM.out;have HE:Hid (val 65536 hs=VD xs):=by have:=HV.out;rw [hqe.out] at this;show val 65536 hs=VD xs;simpa [VD,val] using this
      clear hown HV HM hrq HG hnq hqe;obtain ⟨w1,rfl⟩:∃ w1:World,w1=wr:=⟨_,rfl⟩;have HMIN:=Lib.hid hmin;clear hmin;go_wp2;go_loopw [6,7,8] (fun v i _ wq=>∃ n:Nat,∃ out:List Nat,i = .int .i64 (2*n:Nat)∧2*n≤hs.length+1∧out.length=n∧val 4294967296 out=val 65536 (hs.take (2*n))∧Dig 4294967296 out ∧
          Own .u32 140 w1.heap.size wq v out∧Below w1.heap.size w1 wq) (fun _ i _ _=>hs.length+1 - (intOf i).toNat)
      case atStart=>exact ⟨0,[],rfl,by omega,rfl,rfl,fun _ h=>by simp at h,Own.nil_,Below.refl _ _⟩
      case round=>
        obtain ⟨n,out,rfl,hn,hol,hv,hdo,hown,hbw2⟩:=hrel;have HOL:=Lib.hid hol;have HV:=Lib.hid hv;clear hv hol;have hrh':=hrh.below hbw2
        by_cases hlt:2*n<hs.length
        · obtain ⟨ad,a,rfl,hba,ea,ca'⟩:=hrh'.ask hlt;have hal:a<65536:=by rw [← ea.out];exact dig_getD hdh (by omega) _
          by_cases hlt2:2*n+1<hs.length
          · obtain ⟨ad2,b,hadd,hbb,eb,cb⟩:=hrh'.ask hlt2;injection hadd with hadd;subst hadd;have hbl:b<65536:=by rw [← eb.out];exact dig_getD hdh (by omega) _
            have cb2:=cb;unfold Addr.add at cb2;rw [if_neg (by omega)] at cb2;go_wp2_with (at_builtin;refine wpList_app1 rfl (.tmp 47) (.tmp 49) 25 140 rfl .u32 4 info_u32 Tryz.underlying25 (by omega) _ _ out _ (a+b*65536) (by omega) rfl hown rfl hbw2 (Nat.le_refl _) (by have:=HOL.out;omega) ?_;intro v' w' hown' hbw');go_roundw
            case rel=>exact ⟨n+1,out ++ [a+b*65536],int_eq (by omega),by omega,by rw [List.length_append,HOL.out];rfl,pair_step n a b hs out HOL.out ea.out eb.out HV.out,hdo.snoc (by omega),hown',hbw'⟩
            case measure=>simp [intOf];omega
          · have eb:Hid (hs.getD (2*n+1) 0=0):=getD_beyond hs _ (by omega);go_wp2_with (at_builtin;refine wpList_app1 rfl (.tmp 47) (.tmp 49) 25 140 rfl .u32 4 info_u32 Tryz.underlying25 (by omega) _ _ out _ (a+0*65536) (by omega) rfl hown rfl hbw2 (Nat.le_refl _) (by have:=HOL.out;omega) ?_;intro v' w' hown' hbw');go_roundw
            case rel=>exact ⟨n+1,out ++ [a+0*65536],int_eq (by omega),by omega,by rw [List.length_append,HOL.out];rfl,pair_step n a 0 hs out HOL.out ea.out eb.out HV.out,hdo.snoc (by omega),hown',hbw'⟩
            case measure=>simp [intOf];omega
        · obtain ⟨O,oc,rfl,hoc,hro⟩:=hown.formT;clear hown;go_wp2;go_ret;have hol:=HOL.out;have hval:val 4294967296 out=VD xs:=by rw [HV.out,List.take_of_length_le (by omega)];exact HE.out
          exact ⟨O,oc,out,rfl,hoc,hro,hbw.trans (hbw2.mono hbw.size),hval,hdo,nrm_words hdo hval (by omega) (by omega) HMIN.out⟩
end Go.Proofs.YtgekmfcbbjeahaaGreatDoor
/- The reference's rational Of and To with the type of the blocks. -/
namespace Go.Proofs.YtgekmfcbbjeahaaGreatDoor
open Go.RowKit V
set_option maxRecDepth 100000 in
set_option maxHeartbeats 1600000 in
theorem qofT (a:RL) (q:Rat) (w:World) (ha:a.Is w q) (l1:a.ns.length≤5000) (l2:a.ds.length≤5000) :
    Calls Tryz.prog 22 #[.agg #[.bool a.s,.slice a.N a.ns.length a.nc,.slice a.D a.ds.length a.dc]] w (RefT q (4*a.ns.length) (4*a.ds.length) w):=by
  go_enter Tryz.func22,Tryz.ntmps22;go_wp2_with fail;have hbox:=boxes2 27 46 w (.bool a.s) (.slice a.N a.ns.length a.nc) (.slice a.D a.ds.length a.dc) (.bool false) (.slice none 0 0) (.slice none 0 0);obtain ⟨w1,hwe⟩:∃ x,(w.alloc (.cells #[.bool a.s,.slice a.N a.ns.length a.nc,.slice a.D a.ds.length a.dc] 27)).alloc (.cells #[.bool false,.slice none 0 0,.slice none 0 0] 46)=x:=⟨_,rfl⟩;rw [hwe] at hbox ⊢;obtain ⟨ka1,kr1,hb1⟩:=hbox;have HWE:=Lib.hid hwe;clear hwe HWE;have ha1:=ha.below hb1;have hw1:=hb1;clear ha hb1;obtain ⟨a0,a1,a2,a3,a4,a5,a6⟩:=ka1.facts;go_upto_region 1 with fail;go_region_held3 (fun w'=>w'.cell? ⟨w.heap.size,0,none⟩=some (.bool a.s)∧w'.cell? ⟨w.heap.size,1,none⟩=some (.slice a.N a.ns.length a.nc)∧w'.cell? ⟨w.heap.size,2,none⟩=some (.slice a.D a.ds.length a.dc)) (first | exact ⟨‹_›,‹_›,‹_›⟩ | go_keep)
    (first
    | (go_at_call_of 66 (Value.slice a.N a.ns.length a.nc)
       refine (of_anyT a.N a.nc a.ns _ (by first | exact ha1.rn | exact ha1.rn.drew | exact (ha1.rn.below hbyq) | exact (ha1.rn.below hbyq).drew) l1 ha1.mn.1).mono ?_;rintro e wx_ ⟨X,xc,xs,rfl,hxc,hX,hbx,hvx,mx,hxl⟩;have HVX:=Lib.hid hvx;clear hvx;have hbxq:Below w1.heap.size w1 wx_:=by first | exact below_of_drew hbx (Nat.le_refl _) | exact hbx | exact hbyq.trans (hbx.mono hbyq.size) | exact hbyq.trans (below_of_drew hbx hbyq.size)
       obtain ⟨c0wx_,c1wx_,c2wx_,c3wx_,c4wx_,c5wx_,c6wx_⟩:=(ka1.below hbxq).facts;obtain ⟨d0wx_,d1wx_,d2wx_,d3wx_,d4wx_,d5wx_,d6wx_⟩:=(kr1.below hbxq).facts)
    | (go_at_call_of 66 (Value.slice a.D a.ds.length a.dc)
       refine (of_anyT a.D a.dc a.ds _ (by first | exact ha1.rd | exact ha1.rd.drew | exact (ha1.rd.below hbxq) | exact (ha1.rd.below hbxq).drew) l2 ha1.md.1).mono ?_;rintro e wy_ ⟨Y,yc,ys,rfl,hyc,hY,hby,hvy,my,hyl⟩;have HVY:=Lib.hid hvy;clear hvy;have hbyq:Below w1.heap.size w1 wy_:=by first | exact below_of_drew hby (Nat.le_refl _) | exact hby | exact hbxq.trans (hby.mono hbxq.size) | exact hbxq.trans (below_of_drew hby hbxq.size)
       obtain ⟨c0wy_,c1wy_,c2wy_,c3wy_,c4wy_,c5wy_,c6wy_⟩:=(ka1.below hbyq).facts;obtain ⟨d0wy_,d1wy_,d2wy_,d3wy_,d4wy_,d5wy_,d6wy_⟩:=(kr1.below hbyq).facts))
  all_goals
    go_wp2_with fail
    first
      | (refine bodyPost_ret (v := .agg #[.bool a.s, .slice X xs.length xc, .slice Y ys.length yc]) (by simp [results, Tryz.results22, go_sem, d0wy_, d1wy_, d2wy_]) rfl ?_
         exact RefT.put ⟨a.s,X,xc,xs,Y,yc,ys⟩ ⟨(hX.below hby).rd,hY.rd,mx,my,by dsimp only;rw [HVX.out,HVY.out];exact ha1.q⟩ ⟨hX.below hby,hY⟩ (kr1.below hbyq) (by omega) (hw1.trans (hbyq.mono hw1.size)) hxl hyl)
      | (refine bodyPost_ret (v := .agg #[.bool a.s, .slice X xs.length xc, .slice Y ys.length yc]) (by simp [results, Tryz.results22, go_sem, d0wx_, d1wx_, d2wx_]) rfl ?_
         exact RefT.put ⟨a.s,X,xc,xs,Y,yc,ys⟩ ⟨hX.rd,(hY.below hbx).rd,mx,my,by dsimp only;rw [HVX.out,HVY.out];exact ha1.q⟩ ⟨hX,hY.below hbx⟩ (kr1.below hbxq) (by omega) (hw1.trans (hbxq.mono hw1.size)) hxl hyl)
def RatT (q:Rat) (L:Nat) (w:World) (e:Ending) (w':World):Prop:=
  ∃ r:RL,e = .returned (.agg #[.bool r.s,.slice r.N r.ns.length r.nc,.slice r.D r.ds.length r.dc])∧r.Is w' q∧r.Ty w'∧r.ns.length≤L∧r.ds.length≤L∧Below w.heap.size w w'
theorem RatT.put {t:TypeId} {w w':World} {q:Rat} {L g n c d e:Nat} {p:Bool} {N D:Option Addr} (r:RL) (hi:r.Is w' q) (hty:r.Ty w') (hb:BlkT t w' g (.bool p) (.slice N n c) (.slice D d e)) (hg:w.heap.size≤g) (hw:Below w.heap.size w w') (l1:r.ns.length≤L) (l2:r.ds.length≤L) :
    RatT q L w (.returned (.agg #[.bool r.s,.slice r.N r.ns.length r.nc,.slice r.D r.ds.length r.dc])) (Go.Proofs.YtgekmfcbbjeahaaGreatDoor.put3 w' g (.bool r.s) (.slice r.N r.ns.length r.nc) (.slice r.D r.ds.length r.dc)):=
  ⟨r,rfl,hi.put3 hb _ _ _,hty.put3 hb _ _ _,l1,l2,below_put3 hw hg _ _ _⟩
set_option maxRecDepth 100000 in
set_option maxHeartbeats 1600000 in
theorem qtoT (a:RL) (q:Rat) (w:World) (ha:a.Ref w q) (L:Nat) (l1:a.ns.length≤L) (l2:a.ds.length≤L) (hL:L≤100000) :
    Calls Tryz.prog 42 #[.agg #[.bool a.s,.slice a.N a.ns.length a.nc,.slice a.D a.ds.length a.dc]] w (RatT q L w):=by
  go_enter Tryz.func42,Tryz.ntmps42;go_wp2_with fail;have hbox:=boxes2 46 27 w (.bool a.s) (.slice a.N a.ns.length a.nc) (.slice a.D a.ds.length a.dc) (.bool false) (.slice none 0 0) (.slice none 0 0);obtain ⟨w1,hwe⟩:∃ x,(w.alloc (.cells #[.bool a.s,.slice a.N a.ns.length a.nc,.slice a.D a.ds.length a.dc] 46)).alloc (.cells #[.bool false,.slice none 0 0,.slice none 0 0] 27)=x:=⟨_,rfl⟩;rw [hwe] at hbox ⊢;obtain ⟨ka1,kr1,hb1⟩:=hbox;have HWE:=Lib.hid hwe;clear hwe HWE;have ha1:=ha.below hb1;have hw1:=hb1;clear ha hb1;obtain ⟨a0,a1,a2,a3,a4,a5,a6⟩:=ka1.facts;go_upto_region 1 with fail;go_region_held3 (fun w'=>w'.cell? ⟨w.heap.size,0,none⟩=some (.bool a.s)∧w'.cell? ⟨w.heap.size,1,none⟩=some (.slice a.N a.ns.length a.nc)∧w'.cell? ⟨w.heap.size,2,none⟩=some (.slice a.D a.ds.length a.dc)) (first | exact ⟨‹_›,‹_›,‹_›⟩ | go_keep)
    (first
    | (go_at_call_of 88 (Value.slice a.N a.ns.length a.nc)
       refine (words_anyT a.N a.nc a.ns _ (by first | exact ha1.rn | exact ha1.rn.drew | exact (ha1.rn.below hbyq) | exact (ha1.rn.below hbyq).drew) (Nat.le_trans l1 hL) ha1.mn).mono ?_;rintro e wx_ ⟨X,xc,xs,rfl,hxc,hX,hbx,hvx,mx⟩;have HVX:=Lib.hid hvx;clear hvx;have hbxq:Below w1.heap.size w1 wx_:=by first | exact below_of_drew hbx (Nat.le_refl _) | exact hbx | exact hbyq.trans (hbx.mono hbyq.size) | exact hbyq.trans (below_of_drew hbx hbyq.size)
       obtain ⟨c0wx_,c1wx_,c2wx_,c3wx_,c4wx_,c5wx_,c6wx_⟩:=(ka1.below hbxq).facts;obtain ⟨d0wx_,d1wx_,d2wx_,d3wx_,d4wx_,d5wx_,d6wx_⟩:=(kr1.below hbxq).facts)
    | (go_at_call_of 88 (Value.slice a.D a.ds.length a.dc)
       refine (words_anyT a.D a.dc a.ds _ (by first | exact ha1.rd | exact ha1.rd.drew | exact (ha1.rd.below hbxq) | exact (ha1.rd.below hbxq).drew) (Nat.le_trans l2 hL) ha1.md).mono ?_;rintro e wy_ ⟨Y,yc,ys,rfl,hyc,hY,hby,hvy,my⟩;have HVY:=Lib.hid hvy;clear hvy;have hbyq:Below w1.heap.size w1 wy_:=by first | exact below_of_drew hby (Nat.le_refl _) | exact hby | exact hbxq.trans (hby.mono hbxq.size) | exact hbxq.trans (below_of_drew hby hbxq.size)
       obtain ⟨c0wy_,c1wy_,c2wy_,c3wy_,c4wy_,c5wy_,c6wy_⟩:=(ka1.below hbyq).facts;obtain ⟨d0wy_,d1wy_,d2wy_,d3wy_,d4wy_,d5wy_,d6wy_⟩:=(kr1.below hbyq).facts))
  all_goals
    go_wp2_with fail
    first
      | (refine bodyPost_ret (v := .agg #[.bool a.s, .slice X xs.length xc, .slice Y ys.length yc]) (by simp [results, Tryz.results42, go_sem, d0wy_, d1wy_, d2wy_]) rfl ?_
         exact RatT.put ⟨a.s,X,xc,xs,Y,yc,ys⟩ ⟨(hX.below hby).rd,hY.rd,mx,my,hxc,hyc,by dsimp only;rw [HVX.out,HVY.out];exact ha1.q⟩ ⟨hX.below hby,hY⟩ (kr1.below hbyq) (by omega) (hw1.trans (hbyq.mono hw1.size)) (short_words mx HVX.out ha1.mn l1) (short_words my HVY.out ha1.md l2))
      | (refine bodyPost_ret (v := .agg #[.bool a.s, .slice X xs.length xc, .slice Y ys.length yc]) (by simp [results, Tryz.results42, go_sem, d0wx_, d1wx_, d2wx_]) rfl ?_
         exact RatT.put ⟨a.s,X,xc,xs,Y,yc,ys⟩ ⟨hX.rd,(hY.below hbx).rd,mx,my,hxc,hyc,by dsimp only;rw [HVX.out,HVY.out];exact ha1.q⟩ ⟨hX,hY.below hbx⟩ (kr1.below hbxq) (by omega) (hw1.trans (hbxq.mono hw1.size)) (short_words mx HVX.out ha1.mn l1) (short_words my HVY.out ha1.md l2))
end Go.Proofs.YtgekmfcbbjeahaaGreatDoor
/- rat.Text: sign, numerator, denominator in decimal digits. -/
namespace Go.Proofs.YtgekmfcbbjeahaaGreatDoor
open Go.RowKit V
def ratText (s:Bool) (n d:Nat):List UInt8:=(if s then [45] else []) ++ Lib.decDigits n ++ (if d=1 then [] else 47 :: Lib.decDigits d)
set_option maxHeartbeats 1600000 in
theorem qtext (a:RL) (q:Rat) (w:World) (ha:a.Is w q) (l1:a.ns.length≤4096) (l2:a.ds.length≤4096)
    (htab : Lib.TabBelow Tryz.prog w.heap.size w "internal/strconv.uint64pow10" .u64 Lib.pow10Tab) :
    Calls Tryz.prog 79 #[.agg #[.bool a.s,.slice a.N a.ns.length a.nc,.slice a.D a.ds.length a.dc]] w
      (Gives (.tuple #[.string ⟨(ratText a.s (V32 a.ns) (V32 a.ds)).toArray⟩,.int .i64 0]) w):=by
  obtain ⟨s,N,nc,ns,D,dc,ds⟩:=a;dsimp only at l1 l2 ⊢;obtain ⟨o,ho⟩:∃ o,Hid (decide (V32 ds=1)=o):=⟨_,Lib.hid rfl⟩;have HT:=Lib.hid htab;clear htab;have mn:Mag ns:=ha.mn;have md:Mag ds:=ha.md;have hk:=Blk3.new w (.bool s) (.slice N ns.length nc) (.slice D ds.length dc);have HV:=Lib.hid (qvalid_yes ⟨s,N,nc,ns,D,dc,ds⟩ q _ (ha.below ((Below.refl _ _).alloc (Nat.le_refl w.heap.size) (.cells #[.bool s,.slice N ns.length nc,.slice D ds.length dc] 27))) l1 l2);have hX:=dec_short mn l1 (by omega);have hY:=dec_short md l2 (by omega);obtain ⟨X,hXe⟩:∃ X,Hid (Lib.decDigits (V32 ns)=X):=⟨_,Lib.hid rfl⟩;obtain ⟨Y,hYe⟩:∃ Y,Hid (Lib.decDigits (V32 ds)=Y):=⟨_,Lib.hid rfl⟩;rw [hXe.out] at hX;rw [hYe.out] at hY;have f1:=fun W=>run_string_add_lists (P:=Tryz.prog) W [45] X (by simp) (by omega)
  have f2:=fun W=>run_string_add_lists (P:=Tryz.prog) W [47] Y (by simp) (by omega)
  have f3:=fun W=>run_string_add_lists (P:=Tryz.prog) W X ([47] ++ Y) (by omega) (by simp;omega)
  have f4:=fun W=>run_string_add_lists (P:=Tryz.prog) W ([45] ++ X) ([47] ++ Y) (by simp;omega) (by simp;omega)
  simp only [List.cons_append,List.nil_append] at f1 f2 f3 f4;cases s <;> cases o
  all_goals
    go_enter Tryz.func79,Tryz.ntmps79;go_wp2_with fail;refine HV.out.mono ?_;rintro e w1 ⟨rfl,hb1⟩;have hk1:=hk.below hb1;have hw1:Below w.heap.size w w1:=((Below.refl _ _).alloc (Nat.le_refl _) _).trans (hb1.mono (by simp));have rn1:Rd .u32 w1 N ns:=ha.rn.below hw1;have rd1:Rd .u32 w1 D ds:=ha.rd.below hw1
    have HT1 : Hid (Lib.TabBelow Tryz.prog w1.heap.size w1 "internal/strconv.uint64pow10" .u64 Lib.pow10Tab) := fun w' h => HT.out w' (hw1.trans (h.mono hw1.size))
    obtain ⟨a0,a1,a2,a3,a4,a5,a6⟩:=hk1.facts;clear hb1;go_wp2_with fail;refine (text_any N nc ns _ rn1 mn l1 HT1.out).mono ?_;rintro e w2 ⟨he,hb2⟩;rw [hXe.out] at he;subst he;have hk2:=hk1.below hb2;have hw2:=hw1.trans (hb2.mono hw1.size);have rd2:=rd1.below hb2
    have HT2 : Hid (Lib.TabBelow Tryz.prog w2.heap.size w2 "internal/strconv.uint64pow10" .u64 Lib.pow10Tab) := fun w' h => HT.out w' (hw2.trans (h.mono hw2.size))
    clear a0 a1 a2 a3 a4 a5 a6 hb2 hk1 rn1 rd1;obtain ⟨a0,a1,a2,a3,a4,a5,a6⟩:=hk2.facts;go_wp2_with fail;refine (isone_any D dc ds _ rd2 (by omega) md).mono ?_;rintro e w3 ⟨he,n3,hwe⟩;rw [ho.out] at he;subst he;have hb3:Below w2.heap.size w2 w3:=by rw [hwe];exact below_drew_ (Below.refl _ _) n3
    have hk3:=hk2.below hb3;have hw3:=hw2.trans (hb3.mono hw2.size);have rd3:=rd2.below hb3
    have HT3 : Hid (Lib.TabBelow Tryz.prog w3.heap.size w3 "internal/strconv.uint64pow10" .u64 Lib.pow10Tab) := fun w' h => HT.out w' (hw3.trans (h.mono hw3.size))
    clear a0 a1 a2 a3 a4 a5 a6 hb3 hk2 hwe rd2;obtain ⟨a0,a1,a2,a3,a4,a5,a6⟩:=hk3.facts;go_wp2_with fail
    first
      | (go_ret2
         exact ⟨by unfold ratText;rw [hXe.out,of_decide_eq_true ho.out];simp,hw3⟩)
      | (refine (text_any D dc ds _ rd3 md l2 HT3.out).mono ?_
         rintro e w4 ⟨he,hb4⟩;rw [hYe.out] at he;subst he;go_wp2_with fail;go_ret2;exact ⟨by unfold ratText;rw [hXe.out,hYe.out,if_neg (of_decide_eq_false ho.out)];simp,hw3.trans (hb4.mono hw3.size)⟩)
end Go.Proofs.YtgekmfcbbjeahaaGreatDoor
/- isochroneref02.Zero and Make. -/
namespace Go.Proofs.YtgekmfcbbjeahaaGreatDoor
open Go.RowKit V
theorem qof_zero (s:Bool) (d:Nat):QOf false 0 1 (mkRat (sgn s 0) d):=by
  have e:mkRat (sgn s 0) d=mkRat (sgn false 0) 1:=by cases s <;> simp [sgn]
  rw [e];exact QOf.mk_ (by omega) (by decide) (fun _=>rfl)
theorem nat1_rd (w:World) (k:Nat) (h:w.heap.size=k):Rd .i64 (w.alloc (.cells #[.int .i64 1] 3)) (some ⟨k,0,none⟩) [1]:=h ▸ rd_nat1 w 1
theorem len1_val {xs:List Nat} (h:xs.length=1) {x:Nat} (e:xs.getD 0 0=x):VD xs=x:=by
  rw [one_of_len h,e];unfold VD;simp [val]
def OneQ (xs:List Nat) (A:Option Addr) (w:World) (p:Bool):Prop:=
  (p=false∧((xs.length:Int) == 1)=false)∨(∃ ad x,A=some ad∧xs.length=1∧VD xs=x∧((x:Int) == 1)=p∧w.cell? ad=some (.int .i64 (x:Nat)))
theorem oneQ {xs:List Nat} {A:Option Addr} {w:World} (h:Rd .i64 w A xs):∃ p,OneQ xs A w p∧(p=true→VD xs=1):=by
  by_cases h1:xs.length=1
  · obtain ⟨ad,x,hA,_,ex,hc⟩:=h.ask (i:=0) (by omega);rw [add_zero_] at hc;have hv:=len1_val h1 ex.out;refine ⟨_,.inr ⟨ad,x,hA,h1,hv,rfl,hc⟩,fun h=>?_⟩;rw [hv];have:=eq_of_beq h;omega
  · exact ⟨false,.inl ⟨rfl,beq_eq_false_iff_ne.2 (by omega)⟩,fun h=>by cases h⟩
end Go.Proofs.YtgekmfcbbjeahaaGreatDoor
/- rat.sign, inverse, opposite. -/
namespace Go.Proofs.YtgekmfcbbjeahaaGreatDoor
open Go.RowKit V
theorem BlkT.put3_ {t:TypeId} {w:World} {g:Nat} {a b c:Value} (h:BlkT t w g a b c) (x y z:Value):BlkT t (put3 w g x y z) g x y z:=((h.set0 x).set1 y).set2 z
def sgnI (s:Bool) (n:Nat):Int:=if n=0 then 0 else if s then -1 else 1
end Go.Proofs.YtgekmfcbbjeahaaGreatDoor
/- isochroneref02: Sign, One, Mul, Div, Pow. -/
namespace Go.Proofs.YtgekmfcbbjeahaaGreatDoor
open Go.RowKit V
theorem boxes3 (t:TypeId) (w:World) (a b c a2 b2 c2 r s u:Value):BlkT t (((w.alloc (.cells #[a,b,c] t)).alloc (.cells #[a2,b2,c2] t)).alloc (.cells #[r,s,u] t)) w.heap.size a b c ∧
    BlkT t (((w.alloc (.cells #[a,b,c] t)).alloc (.cells #[a2,b2,c2] t)).alloc (.cells #[r,s,u] t)) (w.heap.size+1) a2 b2 c2 ∧
    BlkT t (((w.alloc (.cells #[a,b,c] t)).alloc (.cells #[a2,b2,c2] t)).alloc (.cells #[r,s,u] t)) (w.heap.size+1+1) r s u ∧
    Below w.heap.size w (((w.alloc (.cells #[a,b,c] t)).alloc (.cells #[a2,b2,c2] t)).alloc (.cells #[r,s,u] t)):=by
  obtain ⟨h1,h2,h3⟩:=boxes2 t t w a b c a2 b2 c2;refine ⟨h1.alloc _,h2.alloc _,?_,h3.alloc (by simp;omega) _⟩;have:=BlkT.new t ((w.alloc (.cells #[a,b,c] t)).alloc (.cells #[a2,b2,c2] t)) r s u;rwa [show ((w.alloc (.cells #[a,b,c] t)).alloc (.cells #[a2,b2,c2] t)).heap.size=w.heap.size+1+1 by simp] at this
theorem len_of_VD {xs:List Nat} (h:0<VD xs):0<xs.length:=by
  rcases Nat.eq_zero_or_pos xs.length with h0 | h0
  · rw [List.eq_nil_of_length_eq_zero h0] at h;simp [VD,val] at h
  · exact h0
set_option maxHeartbeats 400000 in
theorem rsign (s:Bool) (N D:Option Addr) (n nc d dc:Nat) (w:World):Calls Tryz.prog 117 #[.agg #[.bool s,.slice N n nc,.slice D d dc]] w (Gives (.int .i64 (sgnI s n)) w):=by
  have hb:Below w.heap.size w (w.alloc (.cells #[.bool s,.slice N n nc,.slice D d dc] 46)):=(Below.refl _ _).alloc (Nat.le_refl _) _
  by_cases h0:n=0
  · subst h0;go_enter Tryz.func117,Tryz.ntmps117;go_wp2;go_ret;exact ⟨rfl,hb⟩
  · have hne:((n:Int) == 0)=false:=beq_eq_false_iff_ne.2 (by omega);have h1:sgnI true n = -1:=by simp [sgnI,h0]
    have h2:sgnI false n=1:=by simp [sgnI,h0]
    cases s
    · rw [h2];go_enter Tryz.func117,Tryz.ntmps117;go_wp2;go_ret;exact ⟨rfl,hb⟩
    · rw [h1];go_enter Tryz.func117,Tryz.ntmps117;go_wp2;go_ret;exact ⟨rfl,hb⟩
set_option maxHeartbeats 400000 in
theorem rone (w:World):Calls Tryz.prog 47 #[] w (RefP 1 1 1 w):=by
  have hq:QOf false 1 1 (1:Rat):=by have:=QOf.mk_ (neg:=false) (n:=1) (d:=1) (by omega) (by decide) (fun h=>by omega);exact this
  go_enter Tryz.func47,Tryz.ntmps47;go_wp2;exact bodyPost_ret (v:=.agg #[.bool false,.slice (some ⟨w.heap.size+1,0,none⟩) 1 1,.slice (some ⟨w.heap.size+1+1,0,none⟩) 1 1]) (by simp [results,Tryz.results47,go_sem]) rfl
    ⟨⟨false,some ⟨w.heap.size+1,0,none⟩,1,[1],some ⟨w.heap.size+1+1,0,none⟩,1,[1]⟩,rfl,⟨(nat1_rd _ _ (by simp)).alloc _,nat1_rd _ _ (by simp),nm_one,nm_one,by simpa [VD,val] using hq⟩,Nat.le_refl _,Nat.le_refl _,(((Below.refl _ _).alloc (Nat.le_refl _) _).alloc (by simp) _).alloc (by simp;omega) _⟩
end Go.Proofs.YtgekmfcbbjeahaaGreatDoor
/- isochroneref02: Floor, Neg. -/
namespace Go.Proofs.YtgekmfcbbjeahaaGreatDoor
open Go.RowKit V
theorem vd_one:VD [1]=1:=by simp [VD,val]
end Go.Proofs.YtgekmfcbbjeahaaGreatDoor
/- The document's Valid of numbers as they come in; isochronelaw02.small. -/
namespace Go.Proofs.YtgekmfcbbjeahaaGreatDoor
open Go.RowKit V
theorem rqvalid_raw (a:RL) (w:World) (h:a.Raw w) (v:Bool) (hv:v=true↔a.Val) :
    Calls Tryz.prog 50 #[.agg #[.bool a.s,.slice a.N a.ns.length a.nc,.slice a.D a.ds.length a.dc]] w (Gives (.bool v) w):=rqvalid a.s a.N a.D a.nc a.dc a.ns a.ds w h.rn h.rd h.dn h.dd v hv
theorem rqvalid_rawno (a:RL) (w:World) (h:a.Raw w) (hv:¬ a.Val) :
    Calls Tryz.prog 50 #[.agg #[.bool a.s,.slice a.N a.ns.length a.nc,.slice a.D a.ds.length a.dc]] w (Gives (.bool false) w):=rqvalid_raw a w h false ⟨fun h=>(by cases h),fun h=>absurd h hv⟩
theorem rqvalid_rawyes (a:RL) (w:World) (h:a.Raw w) (hv:a.Val) :
    Calls Tryz.prog 50 #[.agg #[.bool a.s,.slice a.N a.ns.length a.nc,.slice a.D a.ds.length a.dc]] w (Gives (.bool true) w):=rqvalid_raw a w h true ⟨fun _=>hv,fun _=>rfl⟩
theorem RL.Ref.drew {w:World} {a:RL} {q:Rat} (h:a.Ref w q):a.Ref w.drew q:=⟨h.rn.drew,h.rd.drew,h.mn,h.md,h.q⟩
theorem RL.Ref.alloc {w:World} {a:RL} {q:Rat} (h:a.Ref w q) (o:Obj):a.Ref (w.alloc o) q:=⟨h.rn.alloc _,h.rd.alloc _,h.mn,h.md,h.q⟩
def RL.Sm (a:RL) (k:Nat):Prop:=a.ns.length≤k∧a.ds.length≤k
end Go.Proofs.YtgekmfcbbjeahaaGreatDoor
