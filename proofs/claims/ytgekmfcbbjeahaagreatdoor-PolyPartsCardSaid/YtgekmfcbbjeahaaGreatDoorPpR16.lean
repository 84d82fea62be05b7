/- wide.timesPlus. -/
import Derived.Test.YtgekmfcbbjeahaaGreatDoorPpR15
namespace Go.Proofs.YtgekmfcbbjeahaaGreatDoor
open Go.RowKit V
theorem wmul64 (a b:Nat) (ha:a<18446744073709551616) (hb:b<18446744073709551616):∃ q r:Nat,q≤18446744073709551614∧r<18446744073709551616∧Hid (r+18446744073709551616*q=a*b) ∧
    ∀ W,Calls Tryz.prog 209 #[.int .u64 a,.int .u64 b] W fun e w'=>e = .returned (.tuple #[.int .u64 q,.int .u64 r])∧w'=W:=by
  have h:a*b≤18446744073709551615*18446744073709551615:=Nat.mul_le_mul (by omega) (by omega);refine ⟨a*b / 18446744073709551616,a*b % 18446744073709551616,by omega,by omega,Nat.mod_add_div _ _,fun W=>Tryz.bits_Mul64 a b ha hb W⟩
set_option maxHeartbeats 400000 in
theorem wtimesPlus (a b c:Nat) (w:World) (ha:a<18446744073709551616) (hb:b<18446744073709551616) (hc:c<18446744073709551616) :
    Calls Tryz.prog 197 #[.int .u64 a,.int .u64 b,.int .u64 c] w fun e w'=>
      ∃ q r:Nat,e = .returned (.tuple #[.int .u64 q,.int .u64 r])∧q<18446744073709551616∧r<18446744073709551616∧Hid (r+18446744073709551616*q=a*b+c)∧w=w':=by
  obtain ⟨q,r,hq,hr,hqr,hm⟩:=wmul64 a b ha hb;obtain ⟨s,d,hs,hd,hsd,hrun⟩:=wadd64 r c 0 hr hc (by omega);simp only [show ((0:Nat):Int)=0 from rfl] at hrun;go_enter Tryz.func197,Tryz.ntmps197;go_wp2_with (go_at_call 209;refine (hm _).mono ?_;rintro e w1 ⟨rfl,hw⟩;rw [hw]);go_ret2;exact ⟨q+d,s,by simp,by omega,hs,by have h1:=hqr.out;have h2:=hsd.out;show _=_;omega,rfl⟩
end Go.Proofs.YtgekmfcbbjeahaaGreatDoor
/- wide.addTimes. -/
namespace Go.Proofs.YtgekmfcbbjeahaaGreatDoor
open Go.RowKit V
def WTimesP (g i x : Nat) (cur ys : List Nat) (w : World) (e : Ending) (w' : World) : Prop :=
  ∃ c : Nat, ∃ cur' : List Nat, e = .returned (.int .u64 c) ∧ c < 18446744073709551616 ∧ Hid (cur'.length = cur.length) ∧ Dig 18446744073709551616 cur' ∧
    Hid (val 18446744073709551616 cur'+18446744073709551616 ^ (i+ys.length)*c=val 18446744073709551616 cur+18446744073709551616 ^ i*(x*val 18446744073709551616 ys)) ∧
    Hid (∀ j,i+ys.length≤j→cur'.getD j 0=cur.getD j 0)∧Row .u64 112 w' g cur'∧Below g w w'
set_option maxHeartbeats 800000 in
theorem waddTimes (g i x c d : Nat) (B : Option Addr) (cur ys : List Nat) (w : World) (hrow : Row .u64 112 w g cur) (hy : Rd .u64 w B ys) (hB : ∀ b, B = some b → 0 < ys.length → b.block < g)
    (hl:i+ys.length≤cur.length) (bl:cur.length≤200000) (hx:x<18446744073709551616) (dc:Dig 18446744073709551616 cur) (dy:Dig 18446744073709551616 ys) :
    Calls Tryz.prog 166 #[.slice (some ⟨g,i,none⟩) ys.length c,.slice B ys.length d,.int .u64 x] w (WTimesP g i x cur ys w):=by
  go_enter Tryz.func166,Tryz.ntmps166;go_wp2;go_loopw [7,8,9,10,11,12,15] (fun cy _ _ _ _ _ n wr=>∃ k c:Nat,∃ cur':List Nat,k≤ys.length∧n = .int .i64 k∧cy = .int .u64 c∧c<18446744073709551616∧cur'.length=cur.length∧Dig 18446744073709551616 cur' ∧
      val 18446744073709551616 cur'+18446744073709551616 ^ (i+k)*c=val 18446744073709551616 cur+18446744073709551616 ^ i*(x*val 18446744073709551616 (ys.take k))∧(∀ j,i+k≤j→cur'.getD j 0=cur.getD j 0)∧Row .u64 112 wr g cur'∧Below g w wr) (fun _ _ _ _ _ _ n _=>ys.length - (intOf n).toNat)
  case atStart=>exact ⟨0,0,cur,Nat.zero_le _,rfl,rfl,by omega,rfl,dc,by simp [val],fun _ _=>rfl,hrow,Below.refl _ _⟩
  case round=>
    obtain ⟨k,c,cur',hk,rfl,rfl,hc1,hcl,hdc,hv,hout,hrow',hbw⟩:=hrel;have HV:=Lib.hid hv;have HCL:=Lib.hid hcl;have HO:=Lib.hid hout;clear hv hcl hout
    by_cases hlt:k<ys.length
    · obtain ⟨bd,y,rfl,hby,ey,cy⟩:=hy.ask hlt;have hbg:bd.block<g:=hB bd rfl (by omega);have cy':wr.cell? (bd.add k)=some (.int .u64 y):=(hbw.cell (by rw [block_of_add];exact hbg)).trans cy;have hkc:i+k<cur'.length:=by have:=HCL.out;omega
      obtain ⟨o,ho⟩:∃ o,Hid (cur'.getD (i+k) 0=o):=⟨_,rfl⟩;have hol:o<18446744073709551616:=by rw [← ho.out];exact dig_getD hdc (by omega) _
      have hcell:wr.cell? ⟨g,i+k,none⟩=some (.int .u64 o):=by have:=hrow'.cell hkc;rwa [ho.out] at this
      have hfr:=hrow'.frozen (i+k);have hyl:y<18446744073709551616:=by rw [← ey.out];exact dig_getD dy (by omega) k
      have hm:Hid (y*x≤340282366920938463426481119284349108225):=Nat.mul_le_mul (show y≤18446744073709551615 by omega) (show x≤18446744073709551615 by omega);go_wp2_with (go_at_call 197;refine (wtimesPlus y x c _ hyl hx hc1).mono ?_;rintro e w1 ⟨q,r,rfl,hq,hr,hqr,rfl⟩;obtain ⟨s,d',hs,hd,hsd,hrun⟩:=wadd64 o r 0 hol hr (by omega);simp only [show ((0:Nat):Int)=0 from rfl] at hrun;have hcd:q+d'<18446744073709551616:=by (have h1:=hqr.out;have h2:=hsd.out;have h3:=hm.out;omega));go_roundw
      case rel=>
        exact ⟨k+1,q+d',cur'.set (i+k) s,by omega,by go_num,by simp,hcd,by rw [List.length_set];exact HCL.out,hdc.set _ hs,
          times_step _ i k s c (q+d') x y o cur' ys _ hkc hlt ey.out ho.out (by have h1:=hqr.out;have h2:=hsd.out;omega) HV.out,fun j hj=>by rw [getD_set _ _ _ _ hkc,if_neg (by omega)];exact HO.out j (by omega),
          hrow'.set_ (i+k) s,hbw.setCell (Nat.le_refl _) _⟩
      case measure=>simp [intOf];omega
    · obtain rfl:k=ys.length:=by omega
      go_wp2;go_ret;exact ⟨c,cur',rfl,hc1,HCL.out,hdc,by have:=HV.out;rwa [List.take_length] at this,HO.out,hrow',hbw⟩
end Go.Proofs.YtgekmfcbbjeahaaGreatDoor
/- wide.times: the product; the shorter number has less than 80 words, neither is zero. -/
namespace Go.Proofs.YtgekmfcbbjeahaaGreatDoor
open Go.RowKit V
theorem One1_no {xs:List Nat} (h:¬ (xs.length=1∧xs.getD 0 0=1)):One1 xs=false:=decide_eq_false h
theorem lowest_lt {xs:List Nat} (mx:Mag64 xs) (px:0<xs.length) {m:Nat} (hm:m≤xs.length) (h:∀ j,j<m→xs.getD j 0=0):m<xs.length:=by
  rcases Nat.lt_or_ge m xs.length with h1 | h1
  · exact h1
  · exact absurd (h (xs.length - 1) (by omega)) (mx.2 px)
theorem val_low (B:Nat):∀ (xs:List Nat) (m:Nat),(∀ j,j<m→xs.getD j 0=0)→val B xs=B ^ m*val B (xs.drop m)
  | xs,0,_=>by simp
  | [],m+1,_=>by simp [val]
  | a :: r, m + 1, h => by
    have h0:=h 0 (by omega);have ih:=val_low B r m (fun j hj=>by have:=h (j+1) (by omega);simpa using this);simp at h0;simp only [val,List.drop_succ_cons,ih,h0,Nat.zero_add];rw [Nat.pow_succ,Nat.mul_comm (B ^ m) B,Nat.mul_assoc]
theorem low_zero (xs:List Nat) (m:Nat) (h:∀ j,j<m→xs.getD j 0=0):V64 xs=18446744073709551616 ^ m*V64 (xs.drop m):=val_low _ xs m h
set_option maxRecDepth 100000 in
set_option maxHeartbeats 1600000 in
theorem wtimes_le (A B : Option Addr) (c d : Nat) (xs ys : List Nat) (w : World) (hx : Rd .u64 w A xs) (hy : Rd .u64 w B ys) (cx : xs.length ≤ c) (cy : ys.length ≤ d) (mx : Mag64 xs) (my : Mag64 ys) (px : 0 < xs.length) (bl : ys.length ≤ 50000) (hl : xs.length ≤ ys.length) (hs : xs.length < 80) (h1 : ¬ (xs.length = 1 ∧ xs.getD 0 0 = 1)) (h2 : ¬ (ys.length = 1 ∧ ys.getD 0 0 = 1)) :
    Calls Tryz.prog 125 #[.slice A xs.length c,.slice B ys.length d] w
      (OutW (fun zs=>V64 zs=V64 xs*V64 ys∧Mag64 zs∧zs.length≤xs.length+ys.length) w):=by
  have ho2:One1 ys=false:=One1_no h2;have ho1:One1 xs=false:=One1_no h1;have hb:decide (ys.length<xs.length)=false:=by simp;omega
  clear h1 h2;go_enter Tryz.func125,Tryz.ntmps125;go_wp2_with fail;refine (wisOne A _ xs _ (by assumption) (by omega)).mono ?_;rintro e w' ⟨he,rfl⟩;rw [ho1] at he;subst he;go_wp2_with fail;refine (wisOne B _ ys _ (by assumption) (by omega)).mono ?_;rintro e w' ⟨he,rfl⟩;rw [ho2] at he;subst he;go_wp2_with fail;refine (wzeroWords A c xs _ hx (by omega)).mono ?_;rintro e w' ⟨m,rfl,hm,hm0,hm1,rfl⟩;have hml:m<xs.length:=lowest_lt mx px hm hm0;have hsx:Hid (V64 xs=18446744073709551616 ^ m*V64 (xs.drop m)):=low_zero xs m hm0;go_wp2_with fail;refine (wzeroWords B d ys _ hy (by omega)).mono ?_;rintro e w' ⟨n,rfl,hn,hn0,hn1,rfl⟩;have hnl:n<ys.length:=lowest_lt my (by omega) hn hn0;have hsy:Hid (V64 ys=18446744073709551616 ^ n*V64 (ys.drop n)):=low_zero ys n hn0;clear hm0 hm1 hn0 hn1;obtain ⟨ad,rfl⟩:∃ ad,A=some ad:=by obtain ⟨ad,h,_⟩:=hx px;exact ⟨ad,h⟩
  obtain ⟨bd,rfl⟩:∃ bd,B=some bd:=by obtain ⟨bd,h,_⟩:=hy (by omega);exact ⟨bd,h⟩
  have hx':Rd .u64 w (some (ad.add m)) (xs.drop m):=hx.drop rfl;have hy':Rd .u64 w (some (bd.add n)) (ys.drop n):=hy.drop rfl;have hnc:¬ m=c:=by omega
  have hnd:¬ n=d:=by omega
  have hmc:m≤c:=by omega
  have hnd2:n≤d:=by omega
  obtain ⟨us,hus⟩:∃ us,Hid (xs.drop m=us):=⟨_,rfl⟩;obtain ⟨vs,hvs⟩:∃ vs,Hid (ys.drop n=vs):=⟨_,rfl⟩;have hul:xs.length - m=us.length:=by rw [← hus.out,List.length_drop]
  have hvl:ys.length - n=vs.length:=by rw [← hvs.out,List.length_drop]
  have hT:m+n+us.length+vs.length - (m+n)=us.length+vs.length:=by omega
  have up:0<us.length:=by omega
  have hu8:us.length<80:=by omega
  have hu9:decide ((us.length:Int)<80)=true:=by simp;omega
  rw [hus.out] at hx' hsx;rw [hvs.out] at hy' hsy;have du:Dig 18446744073709551616 us:=by rw [← hus.out];exact mx.1.drop m
  have dv:Dig 18446744073709551616 vs:=by rw [← hvs.out];exact my.1.drop n
  have hmk:=fun W=>make_u64 (m+n+us.length+vs.length) ((m:Int)+n+us.length+vs.length) (by omega) (by omega) W
  have hfin:V64 xs*V64 ys=18446744073709551616 ^ (m+n)*(V64 us*V64 vs):=by
    rw [hsx.out,hsy.out,Nat.pow_add];simp only [Nat.mul_assoc,Nat.mul_left_comm]
  have HF:=Lib.hid hfin;have HLX:Hid (m+us.length=xs.length):=by show _=_;omega
  have HLY:Hid (n+vs.length=ys.length):=by show _=_;omega
  have hvb:vs.length≤50000:=by omega
  have hmb:m≤50000:=by omega
  have hnb:n≤50000:=by omega
  clear hfin hx hy hus hvs hsx hsy mx my px ho1 ho2 hl;go_wp2;go_quiet (fail);go_wp2;clear hmk;rw [hT];clear hT;obtain ⟨w0,hw0⟩:∃ x,w.drewN nq=x:=⟨_,rfl⟩;have hx0:Rd .u64 w0 (some (ad.add m)) us:=by rw [← hw0];exact hx'
  have hy0:Rd .u64 w0 (some (bd.add n)) vs:=by rw [← hw0];exact hy'
  have hs0:w.heap.size=w0.heap.size:=by rw [← hw0];rfl
  have hb0:Below w.heap.size w w0:=by rw [← hw0];exact below_drew_ (Below.refl _ _) nq
  rw [hw0];have HS0:=Lib.hid hs0;have HB0:=Lib.hid hb0;clear hw0 hx' hy' hs0 hb0;go_loopw [9,10,86] (fun _ _ i wr=>∃ k:Nat,∃ cur:List Nat,k≤us.length∧i = .int .i64 k∧cur.length=m+n+us.length+vs.length∧Dig 18446744073709551616 cur ∧
      V64 cur=18446744073709551616 ^ (m+n)*(V64 (us.take k)*V64 vs)∧(∀ j,m+n+k+vs.length≤j→cur.getD j 0=0)∧Row .u64 112 wr w.heap.size cur∧Below w.heap.size w0 wr) (fun _ _ i _=>us.length - (intOf i).toNat)
  case atStart=>exact ⟨0,_,Nat.zero_le _,rfl,List.length_replicate,Dig.zeros (by omega) _,by simp [V64,val,val_zeros],fun j _=>by simp [List.getD_eq_getElem?_getD,List.getElem?_replicate];split <;> rfl,by rw [HS0.out];exact Row.new _ _,by rw [HS0.out];exact (Below.refl _ _).alloc (Nat.le_refl _) _⟩
  case round=>
    obtain ⟨k,cur,hk,rfl,hcl,hdc,hv,hout,hrow,hbw⟩:=hrel;have HV:=Lib.hid hv;have HCL:=Lib.hid hcl;have HO:=Lib.hid hout;clear hv hcl hout;have hbw2:Below w0.heap.size w0 wr:=by rw [← HS0.out];exact hbw
    by_cases hlt:k<us.length
    · obtain ⟨ad',x,hade,hbx,ex,cx⟩:=(hx0.below hbw2).ask hlt;obtain rfl:ad.add m=ad':=by injection hade
      clear hade;have hxl:x<18446744073709551616:=by rw [← ex.out];exact dig_getD du (by omega) k
      have hcll:m+n+k+vs.length<cur.length:=by have:=HCL.out;omega
      have hyb:∀ b,(some (bd.add n):Option Addr)=some b→0<vs.length→b.block<w.heap.size:=fun b e hp=>by
        obtain ⟨b',e',h',_⟩:=hy0 hp;rw [e] at e';injection e' with e';subst e';rw [HS0.out];exact h'
      have hkv:k+vs.length - k=vs.length:=by omega
      have hkb:k≤80:=by omega
      go_wp2_with fail;refine (waddTimes _ (m+n+k) x _ _ _ cur vs _ hrow (hy0.below hbw2) hyb (by omega) (by have:=HCL.out;omega) hxl hdc dv).mono ?_;rintro e w1 ⟨cc,cur',rfl,hcc,hlen,hdc',hval,hout',hrow',hbw'⟩;have hin:m+n+k+vs.length<cur'.length:=(by have:=hlen.out;omega);have hcell:=hrow'.cell hin;have hfr:=hrow'.frozen (m+n+k+vs.length);have hadd:m+n+(k+vs.length)=m+n+k+vs.length:=by omega
      go_wp2;go_roundw
      case rel=>
        refine ⟨k+1,cur'.set (m+n+k+vs.length) cc,by omega,by go_num,by rw [List.length_set,hlen.out];exact HCL.out,hdc'.set _ hcc,?_,?_,hrow'.set_ _ _,(hbw.trans hbw').setCell (Nat.le_refl _) _⟩
        · have h1:=val_set 18446744073709551616 cur' (m+n+k+vs.length) cc hin;rw [hout'.out _ (Nat.le_refl _),HO.out _ (Nat.le_refl _)] at h1;have h2:=hval.out;have h3:=HV.out;unfold V64 at h3 ⊢;rw [h3] at h2;rw [val_take_succ _ us k hlt,ex.out,Nat.add_mul,Nat.mul_add];have h4:18446744073709551616 ^ (m+n)*(18446744073709551616 ^ k*x*val 18446744073709551616 vs)=18446744073709551616 ^ (m+n+k)*(x*val 18446744073709551616 vs):=by rw [Nat.pow_add _ (m+n) k];simp only [Nat.mul_assoc]
          rw [h4];omega
        · intro j hj;rw [getD_set _ _ _ _ hin,if_neg (by omega),hout'.out j (by omega)];exact HO.out j (by omega)
      case measure=>simp [intOf];omega
    · obtain rfl:k=us.length:=by omega
      have hrd:=hrow.rd;go_wp2_with fail;refine (w6trimn _ _ _ cur _ HCL.out hrd (Nat.le_refl _) (by omega)).mono ?_;rintro e w1 ⟨q,hq,rfl,hv3,hn3,rfl⟩;have HV3:=Lib.hid hv3;clear hv3;go_wp2;go_ret;have hfl:=HCL.out;have h1:=HLX.out;have h2:=HLY.out;exact OutW.of_take hq (by omega) hrow.rw (HB0.out.trans hbw) ⟨by show val _ _=_;rw [HV3.out];have:=HV.out;rw [List.take_length] at this;rw [HF.out];exact this,⟨hdc.take q,hn3⟩,by rw [List.length_take];omega⟩
set_option maxRecDepth 100000 in
set_option maxHeartbeats 1600000 in
theorem wtimes_sw (A B : Option Addr) (c d : Nat) (xs ys : List Nat) (w : World) (hx : Rd .u64 w A xs) (hy : Rd .u64 w B ys) (cx : xs.length ≤ c) (cy : ys.length ≤ d) (mx : Mag64 xs) (my : Mag64 ys) (px : 0 < xs.length) (bl : ys.length ≤ 50000) (hl : xs.length < ys.length) (hs : xs.length < 80) (h1 : ¬ (xs.length = 1 ∧ xs.getD 0 0 = 1)) (h2 : ¬ (ys.length = 1 ∧ ys.getD 0 0 = 1)) :
    Calls Tryz.prog 125 #[.slice B ys.length d,.slice A xs.length c] w
      (OutW (fun zs=>V64 zs=V64 xs*V64 ys∧Mag64 zs∧zs.length≤xs.length+ys.length) w):=by
  have ho2:One1 ys=false:=One1_no h2;have ho1:One1 xs=false:=One1_no h1;have hb:decide (xs.length<ys.length)=true:=by simp;omega
  clear h1 h2;go_enter Tryz.func125,Tryz.ntmps125;go_wp2_with fail;refine (wisOne B _ ys _ (by assumption) (by omega)).mono ?_;rintro e w' ⟨he,rfl⟩;rw [ho2] at he;subst he;go_wp2_with fail;refine (wisOne A _ xs _ (by assumption) (by omega)).mono ?_;rintro e w' ⟨he,rfl⟩;rw [ho1] at he;subst he;go_wp2_with fail;refine (wzeroWords A c xs _ hx (by omega)).mono ?_;rintro e w' ⟨m,rfl,hm,hm0,hm1,rfl⟩;have hml:m<xs.length:=lowest_lt mx px hm hm0;have hsx:Hid (V64 xs=18446744073709551616 ^ m*V64 (xs.drop m)):=low_zero xs m hm0;go_wp2_with fail;refine (wzeroWords B d ys _ hy (by omega)).mono ?_;rintro e w' ⟨n,rfl,hn,hn0,hn1,rfl⟩;have hnl:n<ys.length:=lowest_lt my (by omega) hn hn0;have hsy:Hid (V64 ys=18446744073709551616 ^ n*V64 (ys.drop n)):=low_zero ys n hn0;clear hm0 hm1 hn0 hn1;obtain ⟨ad,rfl⟩:∃ ad,A=some ad:=by obtain ⟨ad,h,_⟩:=hx px;exact ⟨ad,h⟩
  obtain ⟨bd,rfl⟩:∃ bd,B=some bd:=by obtain ⟨bd,h,_⟩:=hy (by omega);exact ⟨bd,h⟩
  have hx':Rd .u64 w (some (ad.add m)) (xs.drop m):=hx.drop rfl;have hy':Rd .u64 w (some (bd.add n)) (ys.drop n):=hy.drop rfl;have hnc:¬ m=c:=by omega
  have hnd:¬ n=d:=by omega
  have hmc:m≤c:=by omega
  have hnd2:n≤d:=by omega
  obtain ⟨us,hus⟩:∃ us,Hid (xs.drop m=us):=⟨_,rfl⟩;obtain ⟨vs,hvs⟩:∃ vs,Hid (ys.drop n=vs):=⟨_,rfl⟩;have hul:xs.length - m=us.length:=by rw [← hus.out,List.length_drop]
  have hvl:ys.length - n=vs.length:=by rw [← hvs.out,List.length_drop]
  have hT:m+n+us.length+vs.length - (m+n)=us.length+vs.length:=by omega
  have up:0<us.length:=by omega
  have hu8:us.length<80:=by omega
  have hu9:decide ((us.length:Int)<80)=true:=by simp;omega
  rw [hus.out] at hx' hsx;rw [hvs.out] at hy' hsy;have du:Dig 18446744073709551616 us:=by rw [← hus.out];exact mx.1.drop m
  have dv:Dig 18446744073709551616 vs:=by rw [← hvs.out];exact my.1.drop n
  have hmk:=fun W=>make_u64 (m+n+us.length+vs.length) ((m:Int)+n+us.length+vs.length) (by omega) (by omega) W
  have hfin:V64 xs*V64 ys=18446744073709551616 ^ (m+n)*(V64 us*V64 vs):=by
    rw [hsx.out,hsy.out,Nat.pow_add];simp only [Nat.mul_assoc,Nat.mul_left_comm]
  have HF:=Lib.hid hfin;have HLX:Hid (m+us.length=xs.length):=by show _=_;omega
  have HLY:Hid (n+vs.length=ys.length):=by show _=_;omega
  have hvb:vs.length≤50000:=by omega
  have hmb:m≤50000:=by omega
  have hnb:n≤50000:=by omega
  clear hfin hx hy hus hvs hsx hsy mx my px ho1 ho2 hl;go_wp2;go_quiet (fail);go_wp2;clear hmk;rw [hT];clear hT;obtain ⟨w0,hw0⟩:∃ x,w.drewN nq=x:=⟨_,rfl⟩;have hx0:Rd .u64 w0 (some (ad.add m)) us:=by rw [← hw0];exact hx'
  have hy0:Rd .u64 w0 (some (bd.add n)) vs:=by rw [← hw0];exact hy'
  have hs0:w.heap.size=w0.heap.size:=by rw [← hw0];rfl
  have hb0:Below w.heap.size w w0:=by rw [← hw0];exact below_drew_ (Below.refl _ _) nq
  rw [hw0];have HS0:=Lib.hid hs0;have HB0:=Lib.hid hb0;clear hw0 hx' hy' hs0 hb0;go_loopw [9,10,86] (fun _ _ i wr=>∃ k:Nat,∃ cur:List Nat,k≤us.length∧i = .int .i64 k∧cur.length=m+n+us.length+vs.length∧Dig 18446744073709551616 cur ∧
      V64 cur=18446744073709551616 ^ (m+n)*(V64 (us.take k)*V64 vs)∧(∀ j,m+n+k+vs.length≤j→cur.getD j 0=0)∧Row .u64 112 wr w.heap.size cur∧Below w.heap.size w0 wr) (fun _ _ i _=>us.length - (intOf i).toNat)
  case atStart=>exact ⟨0,_,Nat.zero_le _,rfl,List.length_replicate,Dig.zeros (by omega) _,by simp [V64,val,val_zeros],fun j _=>by simp [List.getD_eq_getElem?_getD,List.getElem?_replicate];split <;> rfl,by rw [HS0.out];exact Row.new _ _,by rw [HS0.out];exact (Below.refl _ _).alloc (Nat.le_refl _) _⟩
  case round=>
    obtain ⟨k,cur,hk,rfl,hcl,hdc,hv,hout,hrow,hbw⟩:=hrel;have HV:=Lib.hid hv;have HCL:=Lib.hid hcl;have HO:=Lib.hid hout;clear hv hcl hout;have hbw2:Below w0.heap.size w0 wr:=by rw [← HS0.out];exact hbw
    by_cases hlt:k<us.length
    · obtain ⟨ad',x,hade,hbx,ex,cx⟩:=(hx0.below hbw2).ask hlt;obtain rfl:ad.add m=ad':=by injection hade
      clear hade;have hxl:x<18446744073709551616:=by rw [← ex.out];exact dig_getD du (by omega) k
      have hcll:m+n+k+vs.length<cur.length:=by have:=HCL.out;omega
      have hyb:∀ b,(some (bd.add n):Option Addr)=some b→0<vs.length→b.block<w.heap.size:=fun b e hp=>by
        obtain ⟨b',e',h',_⟩:=hy0 hp;rw [e] at e';injection e' with e';subst e';rw [HS0.out];exact h'
      have hkv:k+vs.length - k=vs.length:=by omega
      have hkb:k≤80:=by omega
      go_wp2_with fail;refine (waddTimes _ (m+n+k) x _ _ _ cur vs _ hrow (hy0.below hbw2) hyb (by omega) (by have:=HCL.out;omega) hxl hdc dv).mono ?_;rintro e w1 ⟨cc,cur',rfl,hcc,hlen,hdc',hval,hout',hrow',hbw'⟩;have hin:m+n+k+vs.length<cur'.length:=(by have:=hlen.out;omega);have hcell:=hrow'.cell hin;have hfr:=hrow'.frozen (m+n+k+vs.length);have hadd:m+n+(k+vs.length)=m+n+k+vs.length:=by omega
      go_wp2;go_roundw
      case rel=>
        refine ⟨k+1,cur'.set (m+n+k+vs.length) cc,by omega,by go_num,by rw [List.length_set,hlen.out];exact HCL.out,hdc'.set _ hcc,?_,?_,hrow'.set_ _ _,(hbw.trans hbw').setCell (Nat.le_refl _) _⟩
        · have h1:=val_set 18446744073709551616 cur' (m+n+k+vs.length) cc hin;rw [hout'.out _ (Nat.le_refl _),HO.out _ (Nat.le_refl _)] at h1;have h2:=hval.out;have h3:=HV.out;unfold V64 at h3 ⊢;rw [h3] at h2;rw [val_take_succ _ us k hlt,ex.out,Nat.add_mul,Nat.mul_add];have h4:18446744073709551616 ^ (m+n)*(18446744073709551616 ^ k*x*val 18446744073709551616 vs)=18446744073709551616 ^ (m+n+k)*(x*val 18446744073709551616 vs):=by rw [Nat.pow_add _ (m+n) k];simp only [Nat.mul_assoc]
          rw [h4];omega
        · intro j hj;rw [getD_set _ _ _ _ hin,if_neg (by omega),hout'.out j (by omega)];exact HO.out j (by omega)
      case measure=>simp [intOf];omega
    · obtain rfl:k=us.length:=by omega
      have hrd:=hrow.rd;go_wp2_with fail;refine (w6trimn _ _ _ cur _ HCL.out hrd (Nat.le_refl _) (by omega)).mono ?_;rintro e w1 ⟨q,hq,rfl,hv3,hn3,rfl⟩;have HV3:=Lib.hid hv3;clear hv3;go_wp2;go_ret;have hfl:=HCL.out;have h1:=HLX.out;have h2:=HLY.out;exact OutW.of_take hq (by omega) hrow.rw (HB0.out.trans hbw) ⟨by show val _ _=_;rw [HV3.out];have:=HV.out;rw [List.take_length] at this;rw [HF.out];exact this,⟨hdc.take q,hn3⟩,by rw [List.length_take];omega⟩
theorem wtimes_any (A B : Option Addr) (c d : Nat) (xs ys : List Nat) (w : World) (hx : Rw w A xs) (hy : Rw w B ys) (cx : xs.length ≤ c) (cy : ys.length ≤ d) (mx : Mag64 xs) (my : Mag64 ys) (px : 0 < xs.length) (py : 0 < ys.length) (bx : xs.length ≤ 50000) (by_ : ys.length ≤ 50000) (hs : xs.length < 80 ∨ ys.length < 80) :
    Calls Tryz.prog 125 #[.slice A xs.length c,.slice B ys.length d] w
      (OutW (fun zs=>V64 zs=V64 xs*V64 ys∧Mag64 zs∧zs.length≤xs.length+ys.length) w):=by
  by_cases h1:xs.length=1∧xs.getD 0 0=1
  · have ho:One1 xs=true:=decide_eq_true h1;obtain ⟨l1,g1⟩:=h1;have hv:V64 xs=1:=by
      match xs,l1,g1 with
      | [a],_,g=>simp at g;subst g;exact V64_one 1
    have HV:=Lib.hid hv;have HL:=Lib.hid l1;clear hv l1 g1;go_enter Tryz.func125,Tryz.ntmps125;go_wp2_with fail;refine (wisOne A c xs _ hx.rd (by omega)).mono ?_;rintro e w' ⟨he,rfl⟩;rw [ho] at he;subst he;go_wp2;go_ret;exact ⟨B,d,ys,rfl,cy,hy,Below.refl _ _,by rw [HV.out,Nat.one_mul],my,by omega⟩
  · by_cases h2:ys.length=1∧ys.getD 0 0=1
    · have ho1:One1 xs=false:=One1_no h1;have ho:One1 ys=true:=decide_eq_true h2;obtain ⟨l1,g1⟩:=h2;have hv:V64 ys=1:=by
        match ys,l1,g1 with
        | [a],_,g=>simp at g;subst g;exact V64_one 1
      have HV:=Lib.hid hv;have HL:=Lib.hid l1;clear hv l1 g1 h1;go_enter Tryz.func125,Tryz.ntmps125;go_wp2_with fail;refine (wisOne A c xs _ hx.rd (by omega)).mono ?_;rintro e w' ⟨he,rfl⟩;rw [ho1] at he;subst he;go_wp2_with fail;refine (wisOne B d ys _ hy.rd (by omega)).mono ?_;rintro e w' ⟨he,rfl⟩;rw [ho] at he;subst he;go_wp2;go_ret;exact ⟨A,c,xs,rfl,cx,hx,Below.refl _ _,by rw [HV.out,Nat.mul_one],mx,by omega⟩
    · rcases Nat.lt_or_ge ys.length xs.length with hlt | hge
      · refine (wtimes_sw B A d c ys xs w hy.rd hx.rd cy cx my mx py bx hlt (by omega) h2 h1).mono fun e w'=>?_
        rintro ⟨Z,zc,zs,he,hc,hr,hb,hv,hm,hl⟩;exact ⟨Z,zc,zs,he,hc,hr,hb,by rw [hv,Nat.mul_comm],hm,by omega⟩
      · exact wtimes_le A B c d xs ys w hx.rd hy.rd cx cy mx my px by_ hge (by omega) h1 h2
end Go.Proofs.YtgekmfcbbjeahaaGreatDoor
