/- The reference's Add, Sub, Mul with the type of the blocks. -/
import Derived.Test.YtgekmfcbbjeahaaGreatDoorPpR18
namespace Go.Proofs.YtgekmfcbbjeahaaGreatDoor
open Go.RowKit V
set_option maxHeartbeats 2000000 in
theorem rmul_anyT (A B : Option Addr) (ca cb : Nat) (xs ys : List Nat) (w : World) (hx : Rd .i64 w A xs) (hy : Rd .i64 w B ys) (bl : xs.length + ys.length ≤ 100000)
    (nmx:Nm xs) (nmy:Nm ys) :
    Calls Tryz.prog 120 #[.slice A xs.length ca,.slice B ys.length cb] w
      (OutT .i64 3 (fun zs=>VD zs=VD xs*VD ys∧Nm zs∧zs.length≤xs.length+ys.length+1) w):=by
  obtain ⟨dx,nx⟩:=nmx;obtain ⟨dy,ny⟩:=nmy;have hmk:=fun W=>make_nat (xs.length+ys.length+1) ((xs.length:Int)+ys.length+1) (by omega) (by omega) W
  go_enter Tryz.func120,Tryz.ntmps120;go_wp2;clear hmk;go_loopw [6,7,8,9,10,11,21] (fun _ _ _ _ _ _ n wr=>∃ i:Nat,∃ cur:List Nat,i≤xs.length∧n = .int .i64 i∧cur.length=xs.length+ys.length+1∧Dig 10000 cur ∧
      val 10000 cur=val 10000 (xs.take i)*VD ys∧(∀ j,i+ys.length≤j→cur.getD j 0=0)∧Row .i64 3 wr w.heap.size cur∧Below w.heap.size w wr) (fun _ _ _ _ _ _ n _=>xs.length - (intOf n).toNat)
  case atStart=>exact ⟨0,_,Nat.zero_le _,rfl,List.length_replicate,Dig.zeros (by omega) _,by simp [val,val_zeros],fun j _=>by simp [List.getD_eq_getElem?_getD,List.getElem?_replicate];split <;> rfl,Row.new _ _,(Below.refl _ _).alloc (Nat.le_refl _) _⟩
  case round=>
    obtain ⟨i,cur,hi,rfl,hcl,hdc,hv,hout,hrow,hbw⟩:=hrel;have HV:=Lib.hid hv;have HCL:=Lib.hid hcl;have HO:=Lib.hid hout;clear hv hcl hout
    by_cases hix:i<xs.length
    · obtain ⟨ad, x, rfl, hbx, ex, cx⟩ := (hx.below hbw).ask hix; have hxl : x < 10000 := by rw [← ex.out]; exact dig_getD dx (by omega) i
      go_wp2;go_loopw [8,9,10,28] (fun cv _ _ n wq=>∃ k c:Nat,∃ cur':List Nat,k≤ys.length∧n = .int .i64 k∧cv = .int .i64 c∧c≤9999∧cur'.length=xs.length+ys.length+1∧Dig 10000 cur' ∧
          val 10000 cur'+10000 ^ (i+k)*c=val 10000 cur+10000 ^ i*(x*val 10000 (ys.take k))∧(∀ j,i+k≤j→cur'.getD j 0=cur.getD j 0)∧Row .i64 3 wq w.heap.size cur'∧Below w.heap.size w wq) (fun _ _ _ n _=>ys.length - (intOf n).toNat)
      case atStart=>exact ⟨0,0,cur,Nat.zero_le _,rfl,rfl,by omega,HCL.out,hdc,by simp [val],fun _ _=>rfl,hrow,hbw⟩
      case round=>
        clear hrow hdc hbw cx hbx;obtain ⟨k,c,cur',hk,rfl,rfl,hc,hcl',hdc',hv',hout',hrow',hbw'⟩:=hrel;have HV':=Lib.hid hv';have HCL':=Lib.hid hcl';have HO':=Lib.hid hout';clear hv' hcl' hout'
        by_cases hky:k<ys.length
        · obtain ⟨bd,y,rfl,hby,ey,cy⟩:=(hy.below hbw').ask hky;have hyl:y<10000:=by rw [← ey.out];exact dig_getD dy (by omega) k
          have hkc:i+k<cur'.length:=by have:=HCL'.out;omega
          obtain ⟨o,ho⟩:∃ o,Hid (cur'.getD (i+k) 0=o):=⟨_,rfl⟩;have hol:o<10000:=by rw [← ho.out];exact dig_getD hdc' (by omega) _
          have hcell:wr.cell? ⟨w.heap.size,i+k,none⟩=some (.int .i64 o):=by have:=hrow'.cell hkc;rwa [ho.out] at this
          have hfr:=hrow'.frozen (i+k);have hm:=digit_le x y hxl hyl;have hm0:(0:Int)≤(x:Int)*y:=Int.mul_nonneg (by omega) (by omega);obtain ⟨s,c',hs,hc',hsc,es,ec⟩:∃ s c':Nat,s<10000∧c'≤9999∧Hid (s+10000*c'=y*x+o+c) ∧
              Hid (((c:Int)+(o+(x:Int)*y)) % 10000=s)∧Hid (((c:Int)+(o+(x:Int)*y)) / 10000=c'):=by
            have e:((y*x+o+c:Nat):Int)=(c:Int)+(o+(x:Int)*y):=by rw [Nat.mul_comm];simp;omega
            have e2:y*x+o+c≤99999999:=by omega
            refine ⟨(y*x+o+c) % 10000,(y*x+o+c) / 10000,Nat.mod_lt _ (by omega),by omega,Nat.mod_add_div _ _,?_,?_⟩
            · show _=_;rw [← e];omega
            · show _=_;rw [← e];omega
          go_wp2;go_roundw
          case rel=>
            exact ⟨k+1,c',cur'.set (i+k) s,by omega,by go_num,by rw [ec.out],hc',by rw [List.length_set];exact HCL'.out,hdc'.set _ hs,
              times_step _ i k s c c' x y o cur' ys _ hkc hky ey.out ho.out hsc.out HV'.out,fun j hj=>by rw [getD_set _ _ _ _ hkc,if_neg (by omega)];exact HO'.out j (by omega),
              by rw [es.out];exact hrow'.set_ (i+k) s,hbw'.setCell (Nat.le_refl _) _⟩
          case measure=>simp [intOf];omega
        · obtain rfl:k=ys.length:=by omega
          go_wp2;have HT:Hid (val 10000 cur'+10000 ^ (i+ys.length)*c=val 10000 (xs.take (i+1))*VD ys):=by
            have h1:=HV'.out;rw [HV.out,List.take_length] at h1;show _=_;rw [h1,val_take_succ _ xs i hix,ex.out,Nat.add_mul,Nat.mul_assoc];rfl
          have HZ:Hid (∀ j,i+ys.length≤j→cur'.getD j 0=0):=fun j hj=>(HO'.out j hj).trans (HO.out j hj)
          clear HV' HV HO' HO;go_loopw [8,11] (fun cv n wq=>∃ k c:Nat,∃ cur2:List Nat,n = .int .i64 k∧cv = .int .i64 c∧c≤9999∧i+ys.length≤k∧k≤i+ys.length+1∧(c=0∨k=i+ys.length) ∧
              cur2.length=xs.length+ys.length+1∧Dig 10000 cur2∧val 10000 cur2+10000 ^ k*c=val 10000 (xs.take (i+1))*VD ys∧(∀ j,k≤j→cur2.getD j 0=0) ∧
              Row .i64 3 wq w.heap.size cur2∧Below w.heap.size w wq) (fun cv _ _=>(intOf cv).toNat)
          case atStart=>exact ⟨i+ys.length,c,cur',by go_num,rfl,hc,Nat.le_refl _,by omega,.inr rfl,HCL'.out,hdc',HT.out,HZ.out,hrow',hbw'⟩
          case round=>
            clear hrow' hdc' hbw' HT HZ hc hk HCL' hky;obtain ⟨k,c,cur2,rfl,rfl,hc,hk1,hk2,hor,hcl2,hdc2,hv2,hz2,hrow2,hbw2⟩:=hrel;have HV2:=Lib.hid hv2;have HCL2:=Lib.hid hcl2;have HZ2:=Lib.hid hz2;have HOR:=Lib.hid hor;clear hv2 hcl2 hz2 hor
            by_cases h0:c=0
            · subst h0;go_wp2;go_roundw
              case rel=>exact ⟨i+1,cur2,by omega,by go_num,HCL2.out,hdc2,by simpa using HV2.out,fun j hj=>HZ2.out j (by omega),hrow2,hbw2⟩
              case measure=>simp [intOf];omega
            · have hkk:k=i+ys.length:=by rcases HOR.out with h | h;exact absurd h h0;exact h
              have HK:=Lib.hid hkk;have hkc:k<cur2.length:=by have:=HCL2.out;omega
              have hkl:k<xs.length+ys.length+1:=by omega
              clear hkk HOR;have hcell:wr.cell? ⟨w.heap.size,k,none⟩=some (.int .i64 0):=by
                have:=hrow2.cell hkc;rw [HZ2.out k (Nat.le_refl _)] at this;exact this
              have hfr:=hrow2.frozen k;have h1:1≤c:=by omega
              have em:Hid ((c:Int) % 10000=c):=by show _=_;omega
              have ed:Hid ((c:Int) / 10000=(0:Nat)):=by show _=_;omega
              go_wp2;go_roundw
              case rel=>
                exact ⟨k+1,0,cur2.set k c,by go_num,by rw [ed.out],by omega,by omega,by have:=HK.out;omega,.inl rfl,by rw [List.length_set];exact HCL2.out,hdc2.set _ (by omega),
                  by have h2:=val_set 10000 cur2 k c hkc;rw [HZ2.out k (Nat.le_refl _)] at h2;have:=HV2.out;omega,fun j hj=>by rw [getD_set _ _ _ _ hkc,if_neg (by omega)];exact HZ2.out j (by omega),
                  by rw [em.out];exact hrow2.set_ k c,hbw2.setCell (Nat.le_refl _) _⟩
              case measure=>simp [intOf];omega
    · obtain rfl:i=xs.length:=by omega
      go_wp2_with (go_at_call 157;refine (trim_i64n _ _ _ cur _ HCL.out hrow.rd (Nat.le_refl _) (by omega)).mono ?_;rintro e w1 ⟨m,hm,rfl,hv3,hn3,rfl⟩;have HV3:=Lib.hid hv3;clear hv3);go_ret;have hfl:=HCL.out;exact OutT.of_take hm (by omega) hrow.rt hbw ⟨by show val 10000 (cur.take m)=_;rw [HV3.out,HV.out,List.take_length];rfl,⟨hdc.take m,hn3⟩,by rw [List.length_take];omega⟩
end Go.Proofs.YtgekmfcbbjeahaaGreatDoor
/- The reference's DivMod with the type of the quotient's block. -/
namespace Go.Proofs.YtgekmfcbbjeahaaGreatDoor
open Go.RowKit V
def RDivT (xs ys : List Nat) (w : World) (e : Ending) (w' : World) : Prop :=
  ∃ Q qc q R rc r, e = .returned (.tuple #[.slice Q (q : List Nat).length qc, .slice R (r : List Nat).length rc]) ∧ RT .i64 3 w' Q q ∧ Rd .i64 w' R r ∧ Nm q ∧ Nm r ∧
    Hid (VD xs=VD q*VD ys+VD r)∧Hid (VD r<VD ys)∧Below w.heap.size w w'
set_option maxHeartbeats 1000000 in
theorem rdiv_lessT (A B:Option Addr) (ca cb:Nat) (xs ys:List Nat) (w:World) (hx:Rd .i64 w A xs) (hy:Rd .i64 w B ys) (bx:xs.length≤20000) (nx:Nm xs) (ny:Nm ys) (hlt:VD xs<VD ys) :
    Calls Tryz.prog 144 #[.slice A xs.length ca,.slice B ys.length cb] w (RDivT xs ys w):=by
  obtain ⟨c,hc,hcp⟩:∃ c:Int,Hid (cmpOf (VD xs) (VD ys)=c)∧c<0:=⟨_,rfl,by rw [cmpOf_lt (by omega)];omega⟩;have HLT:=Lib.hid hlt;clear hlt;go_enter Tryz.func144,Tryz.ntmps144;go_wp2_with fail;refine (rcmp_any A B ca cb xs ys _ hx hy (by omega) nx ny).mono ?_;rintro e w1 ⟨he,n1,hwe⟩;rw [hc.out] at he;subst he;have hb1:Below w.heap.size w w1:=by rw [hwe];exact below_drew_ (Below.refl _ _) n1
  have hx1:=hx.below hb1;clear hwe;go_wp2;go_ret2;exact ⟨_,0,[],A,ca,xs,rfl,RT.nil_,hx1.alloc _,nm_nil,nx,by show _=_;simp [VD,val],HLT.out,hb1.alloc hb1.size _⟩
set_option maxRecDepth 100000 in
set_option maxHeartbeats 1000000 in
theorem rdiv_littleT (A B:Option Addr) (ca cb:Nat) (xs ys:List Nat) (w:World) (hx:Rd .i64 w A xs) (hy:Rd .i64 w B ys) (bx:xs.length≤4) (nx:Nm xs) (ny:Nm ys) (hpos:0<ys.length) (hge:VD ys≤VD xs) :
    Calls Tryz.prog 144 #[.slice A xs.length ca,.slice B ys.length cb] w (RDivT xs ys w):=by
  obtain ⟨c,hc,hcp⟩:∃ c:Int,Hid (cmpOf (VD xs) (VD ys)=c)∧0≤c:=⟨_,rfl,by unfold cmpOf;split <;> (try split) <;> omega⟩;have hly:ys.length≤4:=Nat.le_trans (nx.len_le ny hge) bx;have hb:=VD_pos ny hpos;have hxb:VD xs<10000000000000000:=by
    have h1:=val_lt 10000 xs nx.1;have h2:10000 ^ xs.length≤10000 ^ 4:=Nat.pow_le_pow_right (by omega) bx;unfold VD;omega
  have dx:Dig 10000 xs:=nx.1;have dy:Dig 10000 ys:=ny.1;obtain ⟨x,ex⟩:∃ x,Hid (VD xs=x):=⟨_,rfl⟩;obtain ⟨y,ey⟩:∃ y,Hid (VD ys=y):=⟨_,rfl⟩;rw [ex.out] at hxb hge;rw [ey.out] at hb hge;have hq0:x / y≤x:=Nat.div_le_self _ _;have hr0:x % y<y:=Nat.mod_lt _ hb;obtain ⟨q,eq⟩:∃ q,Hid (x / y=q):=⟨_,rfl⟩;obtain ⟨r,er⟩:∃ r,Hid (x % y=r):=⟨_,rfl⟩;rw [eq.out] at hq0;rw [er.out] at hr0;have hqi:(x:Int) / y=q:=by rw [← eq.out];simp
  have hri:(x:Int).tmod y=r:=by rw [Int.tmod_eq_emod_of_nonneg (by omega),← er.out];simp
  go_enter Tryz.func144,Tryz.ntmps144;go_wp2_with fail;refine (rcmp_any A B ca cb xs ys _ hx hy (by omega) nx ny).mono ?_;rintro e w1 ⟨he,n1,hwe⟩;rw [hc.out] at he;subst he;have hb1:Below w.heap.size w w1:=by rw [hwe];exact below_drew_ (Below.refl _ _) n1
  have hx1:=hx.below hb1;have hy1:=hy.below hb1;clear hwe hc;go_wp2_with fail;refine (little_yes A ca xs _ hx1 bx dx).mono ?_;rintro e w2 ⟨he,rfl⟩;rw [ex.out] at he;subst he;go_wp2_with fail;refine (little_yes B cb ys _ hy1 hly dy).mono ?_;rintro e w2 ⟨he,rfl⟩;rw [ey.out] at he;subst he;go_wp2_with fail;have hwq:IntKind.i64.wrap (q:Int)=q:=by rw [IntKind.wrap_i64];omega
  go_region_with (first
    | (go_at_call_of 89 (Value.int IntKind.i64 (q:Nat));refine (int_anyT q _ (by omega)).mono ?_;rintro e wq ⟨Q,qc,lq,rfl,hqc,hQ,hbq,hvq,hnq,hlq⟩;have HVQ:=Lib.hid hvq;clear hvq)
    | (go_at_call_of 89 (Value.int IntKind.i64 (r:Nat));refine (int_any r _ (by omega)).mono ?_;rintro e wr ⟨R,rc,lr,rfl,hrc,hR,hbr,hvr,hnr,hlr⟩;have HVR:=Lib.hid hvr;clear hvr))
  all_goals
    have hdm:VD xs=VD lq*VD ys+VD lr:=by
      rw [HVQ.out,HVR.out,ex.out,ey.out,← eq.out,← er.out,Nat.mul_comm];exact (Nat.div_add_mod x y).symm
    have hlt:VD lr<VD ys:=by rw [HVR.out,ey.out];exact hr0
    go_wp2;go_ret2
    first
      | exact ⟨Q,qc,lq,R,rc,lr,rfl,hQ.below hbr,hR,hnq,hnr,hdm,hlt,(hb1.trans (below_of_drew hbq hb1.size)).trans (hbr.mono (Nat.le_trans hb1.size hbq.size))⟩
      | exact ⟨Q,qc,lq,R,rc,lr,rfl,hQ,hR.below hbq,hnq,hnr,hdm,hlt,(hb1.trans (below_of_drew hbr hb1.size)).trans (hbq.mono (Nat.le_trans hb1.size hbr.size))⟩
set_option maxRecDepth 100000 in
set_option maxHeartbeats 1000000 in
theorem rdiv_oneT (A B:Option Addr) (ca cb:Nat) (xs ys:List Nat) (w:World) (hx:Rd .i64 w A xs) (hy:Rd .i64 w B ys) (bx:4<xs.length) (bx2:xs.length≤20000) (nx:Nm xs) (ny:Nm ys) (hl:ys.length=1) (hge:VD ys≤VD xs) :
    Calls Tryz.prog 144 #[.slice A xs.length ca,.slice B ys.length cb] w (RDivT xs ys w):=by
  obtain ⟨c,hc,hcp⟩:∃ c:Int,Hid (cmpOf (VD xs) (VD ys)=c)∧0≤c:=⟨_,rfl,by unfold cmpOf;split <;> (try split) <;> omega⟩;have dx:Dig 10000 xs:=nx.1;obtain ⟨bd,y,rfl,hby,ey,cy⟩:=hy.ask (i:=0) (by omega);rw [add_zero_] at cy;have hyv:Hid (VD ys=y):=by show VD ys=y;rw [one_of_len hl,ey.out];unfold VD;simp [val]
  have hyl:y<10000:=by rw [← ey.out];exact dig_getD ny.1 (by omega) 0
  have hy1:1≤y:=by rw [← hyv.out];exact VD_pos ny (by omega)
  have hb1:((ys.length:Int) == 1)=true:=by simp [hl]
  have hpos:0<ys.length:=by omega
  have hl4:ys.length≤4:=by omega
  have dy:Dig 10000 ys:=ny.1;clear hl hge;go_enter Tryz.func144,Tryz.ntmps144;go_wp2_with fail;refine (rcmp_any A (some bd) ca cb xs ys _ hx hy (by omega) nx ny).mono ?_;rintro e w1 ⟨he,n1,hwe⟩;rw [hc.out] at he;subst he;have hw1:Below w.heap.size w w1:=by rw [hwe];exact below_drew_ (Below.refl _ _) n1
  have hx1:=hx.below hw1;have cy1:w1.cell? bd=some (.int .i64 y):=(hw1.cell (p:=bd) hby).trans cy;clear hwe hc;go_wp2_with fail;refine (little_no A ca xs _ bx).mono ?_;rintro e w2 ⟨rfl,rfl⟩;go_wp2_with fail;refine (split_anyT A ca y xs _ hx1 (by omega) dx hy1 (by omega)).mono ?_;rintro e w3 ⟨Q,qc,q,r,rfl,hqc,hQ,hb3,hsp,hr,hnq,hql,hfr⟩;go_wp2_with fail;refine (int_any r _ (by omega)).mono ?_;rintro e w4 ⟨R,rc,lr,rfl,hrc,hR,hb4,hvr,hnr,hlr⟩;have HVR:=Lib.hid hvr;clear hvr;go_wp2;go_ret2;refine ⟨Q,qc,q,R,rc,lr,rfl,hQ.below hb4,hR,hnq,hnr,?_,?_,(hw1.trans (hb3.mono hw1.size)).trans (hb4.mono (Nat.le_trans hw1.size hb3.size))⟩
  · show VD xs=_;rw [hyv.out,HVR.out];exact hsp.out
  · show VD lr<VD ys;rw [hyv.out,HVR.out];exact hr
set_option maxRecDepth 100000 in
set_option maxHeartbeats 2000000 in
theorem rdiv_longT (A B : Option Addr) (ca cb : Nat) (xs ys : List Nat) (w : World) (hx : Rd .i64 w A xs) (hy : Rd .i64 w B ys) (bx : 4 < xs.length) (bx2 : xs.length ≤ 20000) (nx : Nm xs) (ny : Nm ys) (hl : 2 ≤ ys.length) (hge : VD ys ≤ VD xs) :
    Calls Tryz.prog 144 #[.slice A xs.length ca,.slice B ys.length cb] w (RDivT xs ys w):=by
  obtain ⟨c,hc,hcp⟩:∃ c:Int,Hid (cmpOf (VD xs) (VD ys)=c)∧0≤c:=⟨_,rfl,by unfold cmpOf;split <;> (try split) <;> omega⟩;have dx:Dig 10000 xs:=nx.1;have dy:Dig 10000 ys:=ny.1;have hlen:ys.length≤xs.length:=nx.len_le ny hge;have hpos:0<ys.length:=by omega
  have hb1:((ys.length:Int) == 1)=false:=beq_eq_false_iff_ne.2 (by omega);have hyp:=VD_pos ny hpos;have hmk:=fun W=>make_nat xs.length xs.length rfl (by omega) W
  clear hl hge;go_enter Tryz.func144,Tryz.ntmps144;go_wp2_with fail;refine (rcmp_any A B ca cb xs ys _ hx hy (by omega) nx ny).mono ?_;rintro e w1 ⟨he,n1,hwe⟩;rw [hc.out] at he;subst he;have hw1:Below w.heap.size w w1:=by rw [hwe];exact below_drew_ (Below.refl _ _) n1
  have hx1:=hx.below hw1;have hy1:=hy.below hw1;clear hwe hc hx hy;go_wp2_with fail;refine (little_no A ca xs _ bx).mono ?_;rintro e w2 ⟨rfl,rfl⟩;go_wp2_with fail;clear hmk;go_loopw [13,14] (fun v i wr=>∃ j:Int,∃ O oc r cur,-1≤j∧j<xs.length∧i = .int .i64 j∧v = .slice O (r:List Nat).length oc∧Rd .i64 wr O r∧Nm r∧VD r<VD ys∧cur.length=xs.length∧Dig 10000 cur ∧
      (∀ i:Nat,(i:Int)≤j→cur.getD i 0=0)∧val 10000 (xs.drop (j+1).toNat)=val 10000 (cur.drop (j+1).toNat)*VD ys+VD r∧Row .i64 3 wr w1.heap.size cur∧Below w1.heap.size w1 wr) (fun _ i _=>(intOf i+1).toNat)
  case atStart=>exact ⟨_,_,0,[],_,by omega,by omega,rfl,rfl,Rd.nil_,nm_nil,by show VD []<_;exact hyp,List.length_replicate,Dig.zeros (by omega) _,fun i hi=>getD_zeros _ _,by rw [show ((xs.length:Int) - 1+1).toNat=xs.length by omega,List.drop_length,List.drop_of_length_le (by rw [List.length_replicate];omega)];simp [val,VD],(Row.new _ _).alloc _,((Below.refl _ _).alloc (Nat.le_refl _) _).alloc (by simp) _⟩
  case round=>
    obtain ⟨j,O,oc,r,cur,hj,hjl,rfl,rfl,hr,hnr,hlt,hcl,hdc,hz,hv,hrow,hbw⟩:=hrel;have HV:=Lib.hid hv;have HCL:=Lib.hid hcl;have HLT:=Lib.hid hlt;have HZ:=Lib.hid hz;have hrl:r.length≤ys.length:=ny.len_le hnr (Nat.le_of_lt hlt);clear hv hcl hlt hz
    by_cases h0:j<0
    · have hrd:=hrow.rd;go_wp2_with fail;refine (trim_i64n _ _ _ cur _ HCL.out hrd (Nat.le_refl _) (by omega)).mono ?_;rintro e w2 ⟨m,hm,rfl,hv3,hn3,rfl⟩;have HV3:=Lib.hid hv3;clear hv3;go_wp2;go_ret2;have hfl:=HCL.out;have hml:(cur.take m).length=m:=by rw [List.length_take,Nat.min_eq_left hm]
      refine ⟨some ⟨w1.heap.size,0,none⟩,xs.length,cur.take m,O,oc,r,by rw [hml];rfl,hrow.rt.take hm,hr,⟨hdc.take m,hn3⟩,hnr,?_,HLT.out,hw1.trans (hbw.mono hw1.size)⟩;have h1:=HV.out;rw [show (j+1).toNat=0 by omega,List.drop_zero,List.drop_zero] at h1;show VD xs=val 10000 (cur.take m)*VD ys+VD r;rw [HV3.out];exact h1
    · obtain ⟨i,rfl⟩:=Int.eq_ofNat_of_zero_le (show 0≤j by omega);have hix:i<xs.length:=by omega
      obtain ⟨ad,x,rfl,hbx,ex,cx⟩:=(hx1.below hbw).ask hix;have hxl:x<10000:=by rw [← ex.out];exact dig_getD dx (by omega) i
      have dr:Dig 10000 r:=hnr.1;have hy2:=hy1.below hbw;go_wp2_with fail;refine (smallf_z O oc _ r 10000 x _ _ _ rfl (by omega) (by omega) hr (by omega) dr (by omega) (by omega)).mono ?_;rintro e w2 ⟨O1,oc1,r1,rfl,hoc1,hr1,hb2,⟨hv1,hn1,hl1⟩,hfr1⟩;have HF:Hid (0<r1.length → ∀ ad,O1=some ad→w1.heap.size<ad.block):=fun h ad e=>Nat.lt_of_lt_of_le hrow.lt (hfr1 h ad e)
      clear hfr1;have HV1:=Lib.hid hv1;have hbw2:=hbw.trans (hb2.mono hbw.size);have hrow2:=hrow.below hb2 hrow.lt;have hy3:=hy2.below hb2;clear hv1 cx hy2 hrow hbw hb2 hr;go_wp2_with fail;refine (rcmp_any O1 B oc1 cb r1 ys _ hr1 hy3 (by omega) hn1 ny).mono ?_;rintro e w3 ⟨he,n3,hwe⟩;have hb3:Below w2.heap.size w2 w3:=by rw [hwe];exact below_drew_ (Below.refl _ _) n3
      have hbw3:=hbw2.trans (hb3.mono hbw2.size);have hrow3:=hrow2.below hb3 hrow2.lt;have hy4:=hy3.below hb3;have hr2:=hr1.below hb3;clear hwe hb3 hbw2 hrow2 hy3 hr1;have hic:i<cur.length:=by have:=HCL.out;omega
      by_cases hless:VD r1<VD ys
      · obtain ⟨c2,hc2,hcp2⟩:∃ c:Int,cmpOf (VD r1) (VD ys)=c∧c<0:=⟨_,rfl,by rw [cmpOf_lt (by omega)];omega⟩;rw [hc2] at he;subst he;have HL:=Lib.hid hless;clear hless hc2;go_wp2;go_roundw
        case rel=>exact ⟨_,O1,oc1,r1,cur,by omega,by omega,rfl,rfl,hr2,hn1,HL.out,HCL.out,hdc,fun q hq=>HZ.out q (by omega),by
          rw [show ((i:Int) - 1+1).toNat=i by omega];exact split_step0 10000 i (VD ys) x (VD r) (VD r1) cur xs hic hix ex.out (HZ.out i (by omega)) HV1.out HV.out,hrow3,hbw3⟩
        case measure=>simp [intOf]
      · obtain ⟨c2,hc2,hcp2⟩:∃ c:Int,cmpOf (VD r1) (VD ys)=c∧0≤c:=⟨_,rfl,by unfold cmpOf;split <;> (try split) <;> omega⟩;rw [hc2] at he;subst he;have hlt1:Hid (VD r1<VD ys*10000):=by
          show VD r1<VD ys*10000;rw [HV1.out];exact rem_next _ _ _ HLT.out hxl
        clear hless hc2;go_wp2_with fail;refine (digit_any O1 B oc1 cb r1 ys _ hr2 hy4 (by omega) (by omega) hn1 ny hpos hlt1.out).mono ?_;rintro e w4 ⟨d,rfl,hd,hdle,hdlt,hb4⟩;have HDL:=Lib.hid hdle;have HDT:=Lib.hid hdlt;clear hdle hdlt;have hbw4:=hbw3.trans (hb4.mono hbw3.size);have hrow4:=hrow3.below hb4 hrow3.lt;have hy5:=hy4.below hb4;have hr3:=hr2.below hb4;clear hb4 hbw3 hrow3 hy4 hr2;have hcell:=hrow4.cell hic;have hfr:=hrow4.frozen i;have hrow5:=hrow4.set_ i d;have hset:(cur.set i d).getD i 0=d:=by rw [getD_set _ _ _ _ hic,if_pos rfl]
        have hcell5:=hrow5.cell (i:=i) (by rw [List.length_set];exact hic);rw [hset] at hcell5;have hbw5:=hbw4.setCell (p:=⟨w1.heap.size,i,none⟩) (Nat.le_refl _) (.int .i64 (d:Nat));have hy6:Rd .i64 (w4.setCell ⟨w1.heap.size,i,none⟩ (.int .i64 (d:Nat))) B ys:=hy1.below hbw5;go_wp2_with fail;refine (small_z B cb _ ys d 0 _ _ _ rfl rfl rfl hy6 (by omega) dy (by omega) (by omega)).mono ?_;rintro e w5 ⟨Z,zc,zs,rfl,hzc,hz5,hb5,hv5,hn5,hl5⟩;have HV5:=Lib.hid hv5;have hbw6:=hbw5.trans (hb5.mono hbw5.size);have hrow6:=hrow5.below hb5 hrow5.lt;have hr4:Rd .i64 (w4.setCell ⟨w1.heap.size,i,none⟩ (.int .i64 (d:Nat))) O1 r1:=by
          intro hp;obtain ⟨ad1,e1,hb1',hc1⟩:=hr3 hp;have hne:=HF.out hp ad1 e1;refine ⟨ad1,e1,by simpa [World.setCell] using hb1',fun k hk=>?_⟩;rw [World.cell?_of_block (Below.heap_setCell w4 ⟨w1.heap.size,i,none⟩ _ (ad1.add k).block (by rw [block_of_add];show ad1.block≠w1.heap.size;omega))];exact hc1 k hk
        have hr5:=hr4.below hb5;clear hv5 hcell hfr hrow4 hrow5 hcell5 hbw4 hbw5 hy6 hb5 hr4 hr3 hy5;go_wp2_with fail;refine (rsub_any O1 Z oc1 zc r1 zs _ hr5 hz5 (by omega) hn1 hn5 (by rw [HV5.out,Nat.add_zero];exact HDL.out)).mono ?_;rintro e w6 ⟨T,tc,ts,rfl,htc,ht6,hb6,hv6,hn6,hl6⟩;have HV6:=Lib.hid hv6;have hbw7:=hbw6.trans (hb6.mono hbw6.size);have hrow7:=hrow6.below hb6 hrow6.lt;clear hv6 hrow6 hbw6 hb6 hr5 hz5;go_wp2;go_roundw
        case rel=>
          have q1:=HV5.out;have q2:=HV6.out;have q3:=HDT.out;have q4:=HV1.out;rw [Nat.mul_add,Nat.mul_one] at q3;exact ⟨_,T,tc,ts,cur.set i d,by omega,by omega,rfl,rfl,ht6,hn6,by omega,by rw [List.length_set];exact HCL.out,hdc.set _ hd,fun q hq=>by rw [getD_set _ _ _ _ hic,if_neg (by omega)];exact HZ.out q (by omega),by
            rw [show ((i:Int) - 1+1).toNat=i by omega];exact split_step 10000 i (VD ys) x (VD r) d (VD ts) cur xs hic hix ex.out (by rw [Nat.mul_comm d];omega) HV.out,hrow7,hbw7⟩
        case measure=>simp [intOf]
theorem rdiv_anyT (A B:Option Addr) (ca cb:Nat) (xs ys:List Nat) (w:World) (hx:Rd .i64 w A xs) (hy:Rd .i64 w B ys) (bx:xs.length≤20000) (nx:Nm xs) (ny:Nm ys) (hpos:0<ys.length) :
    Calls Tryz.prog 144 #[.slice A xs.length ca,.slice B ys.length cb] w (RDivT xs ys w):=by
  rcases Nat.lt_or_ge (VD xs) (VD ys) with h | h
  · exact rdiv_lessT A B ca cb xs ys w hx hy bx nx ny h
  · rcases Nat.lt_or_ge 4 xs.length with h4 | h4
    · rcases Nat.lt_or_ge 1 ys.length with h1 | h1
      · exact rdiv_longT A B ca cb xs ys w hx hy h4 bx nx ny h1 h
      · exact rdiv_oneT A B ca cb xs ys w hx hy h4 bx nx ny (by omega) h
    · exact rdiv_littleT A B ca cb xs ys w hx hy h4 nx ny hpos h
end Go.Proofs.YtgekmfcbbjeahaaGreatDoor
/- The reference's Zero, One, Int and Make with the type of the blocks. -/
namespace Go.Proofs.YtgekmfcbbjeahaaGreatDoor
open Go.RowKit V
theorem nat1_rt (w:World) (k:Nat) (h:w.heap.size=k):RT .i64 3 (w.alloc (.cells #[.int .i64 1] 3)) (some ⟨k,0,none⟩) [1]:=by
  subst h;exact ⟨nat1_rd w _ rfl,fun _=>⟨_,_,_,rfl,heap_alloc_new w _⟩⟩
set_option maxHeartbeats 400000 in
theorem qzeroT (q:Rat) (hq:QOf false 0 1 q) (w:World):Calls Tryz.prog 156 #[] w (RefT q 0 1 w):=by
  go_enter Tryz.func156,Tryz.ntmps156;go_wp2;exact bodyPost_ret (v:=.agg #[.bool false,.slice (some ⟨w.heap.size+1,0,none⟩) 0 0,.slice (some ⟨w.heap.size+1+1,0,none⟩) 1 1]) (by simp [results,Tryz.results156,go_sem]) rfl
    ⟨⟨false,some ⟨w.heap.size+1,0,none⟩,0,[],some ⟨w.heap.size+1+1,0,none⟩,1,[1]⟩,rfl,⟨Rd.nil_,nat1_rd _ _ (by simp),nm_nil,nm_one,by simpa [VD,val] using hq⟩,⟨RT.nil_,nat1_rt _ _ (by simp)⟩,Nat.le_refl _,Nat.le_refl _,(((Below.refl _ _).alloc (Nat.le_refl _) _).alloc (by simp) _).alloc (by simp;omega) _⟩
set_option maxHeartbeats 400000 in
theorem roneT (w:World):Calls Tryz.prog 47 #[] w (RefT 1 1 1 w):=by
  have hq:QOf false 1 1 (1:Rat):=by have:=QOf.mk_ (neg:=false) (n:=1) (d:=1) (by omega) (by decide) (fun h=>by omega);exact this
  go_enter Tryz.func47,Tryz.ntmps47;go_wp2;exact bodyPost_ret (v:=.agg #[.bool false,.slice (some ⟨w.heap.size+1,0,none⟩) 1 1,.slice (some ⟨w.heap.size+1+1,0,none⟩) 1 1]) (by simp [results,Tryz.results47,go_sem]) rfl
    ⟨⟨false,some ⟨w.heap.size+1,0,none⟩,1,[1],some ⟨w.heap.size+1+1,0,none⟩,1,[1]⟩,rfl,⟨(nat1_rd _ _ (by simp)).alloc _,nat1_rd _ _ (by simp),nm_one,nm_one,by simpa [VD,val] using hq⟩,⟨(nat1_rt _ _ (by simp)).alloc _,nat1_rt _ _ (by simp)⟩,Nat.le_refl _,Nat.le_refl _,(((Below.refl _ _).alloc (Nat.le_refl _) _).alloc (by simp) _).alloc (by simp;omega) _⟩
set_option maxHeartbeats 1600000 in
theorem rint_pT (n:Nat) (hn:n≤4294967296) (w:World):Calls Tryz.prog 43 #[.int .i64 (n:Int)] w (RefT (mkRat (sgn false n) 1) 5 1 w):=by
  obtain ⟨m,hm⟩:∃ m:Int,(n:Int)=m:=⟨_,rfl⟩;have hm1:0≤m:=by omega
  have hm2 : -4294967296≤m∧m≤4294967296:=by omega
  obtain ⟨hm3,hm4⟩:=hm2;have hm5:m=(n:Int):=hm.symm;rw [hm];have HM5:=Lib.hid hm5;clear hm hm5;go_enter Tryz.func43,Tryz.ntmps43;go_wp2_with fail;have hbox:=(⟨BlkT.new 46 w (.bool false) (.slice none 0 0) (.slice none 0 0),(Below.refl _ _).alloc (Nat.le_refl _) _⟩:_∧Below w.heap.size w (w.alloc (.cells #[.bool false,.slice none 0 0,.slice none 0 0] 46)));obtain ⟨w1,hwe⟩:∃ x,w.alloc (.cells #[.bool false,.slice none 0 0,.slice none 0 0] 46)=x:=⟨_,rfl⟩;rw [hwe] at hbox ⊢;obtain ⟨kr1,hb1⟩:=hbox;have HWE:=Lib.hid hwe;clear hwe HWE;have hw1:=hb1;clear hb1;rw [HM5.out];refine (int_anyT n _ (by omega)).mono ?_;rintro e w2 ⟨H,hc,hl,rfl,hhc,hH2,hb2,hvh,hnh,hlh⟩;have kr2:=kr1.below hb2;have hw2:=hw1.trans (hb2.mono hw1.size);clear kr1 hw1 hb2;have HVH:=Lib.hid hvh;clear hvh;obtain ⟨d0,d1,d2,d3,d4,d5,d6⟩:=((kr2.put3_ (.bool false) (.slice H hl.length hc) (.slice (some ⟨w2.heap.size,0,none⟩) 1 1)).alloc (.cells #[.int .i64 1] 3)).facts;dsimp only [Go.Proofs.YtgekmfcbbjeahaaGreatDoor.put3] at d0 d1 d2;clear d3 d4 d5 d6;obtain ⟨c0,c1,c2,c3,c4,c5,c6⟩:=kr2.facts;go_wp2_with fail;refine bodyPost_ret (v:=.agg #[.bool false,.slice H hl.length hc,.slice (some ⟨w2.heap.size,0,none⟩) 1 1]) (by simp [results,Tryz.results43,go_sem,d0,d1,d2]) rfl ?_;have hbw:=below_put3 hw2 (show w.heap.size≤w.heap.size by omega) (.bool false) (.slice H hl.length hc) (.slice (some ⟨w2.heap.size,0,none⟩) 1 1);exact ⟨⟨false,H,hc,hl,some ⟨w2.heap.size,0,none⟩,1,[1]⟩,rfl,⟨((hH2.put3 kr2 _ _ _).alloc _).rd,nat1_rd _ _ (by simp),hnh,nm_one,by dsimp only;rw [HVH.out,vd_one];exact QOf.mk_ (neg:=false) (n:=n) (d:=1) (by omega) (Nat.coprime_one_right _) (fun h=>by rfl)⟩,⟨(hH2.put3 kr2 _ _ _).alloc _,nat1_rt _ _ (by simp)⟩,by dsimp only;omega,by simp,hbw.alloc hbw.size _⟩
set_option maxHeartbeats 1600000 in
theorem rint_nT (n:Nat) (h0:0<n) (hn:n≤4294967296) (w:World):Calls Tryz.prog 43 #[.int .i64 (-(n:Int))] w (RefT (mkRat (sgn true n) 1) 5 1 w):=by
  obtain ⟨m,hm⟩:∃ m:Int,(-(n:Int))=m:=⟨_,rfl⟩;have hm1:m<0:=by omega
  have hm2 : -4294967296≤m∧m≤4294967296:=by omega
  obtain ⟨hm3,hm4⟩:=hm2;have hm5 : -m=(n:Int):=by omega
  rw [hm];have HM5:=Lib.hid hm5;clear hm hm5;go_enter Tryz.func43,Tryz.ntmps43;go_wp2_with fail;have hbox:=(⟨BlkT.new 46 w (.bool false) (.slice none 0 0) (.slice none 0 0),(Below.refl _ _).alloc (Nat.le_refl _) _⟩:_∧Below w.heap.size w (w.alloc (.cells #[.bool false,.slice none 0 0,.slice none 0 0] 46)));obtain ⟨w1,hwe⟩:∃ x,w.alloc (.cells #[.bool false,.slice none 0 0,.slice none 0 0] 46)=x:=⟨_,rfl⟩;rw [hwe] at hbox ⊢;obtain ⟨kr1,hb1⟩:=hbox;have HWE:=Lib.hid hwe;clear hwe HWE;have hw1:=hb1;clear hb1;rw [HM5.out];refine (int_anyT n _ (by omega)).mono ?_;rintro e w2 ⟨H,hc,hl,rfl,hhc,hH2,hb2,hvh,hnh,hlh⟩;have kr2:=kr1.below hb2;have hw2:=hw1.trans (hb2.mono hw1.size);clear kr1 hw1 hb2;have HVH:=Lib.hid hvh;clear hvh;obtain ⟨d0,d1,d2,d3,d4,d5,d6⟩:=((kr2.put3_ (.bool true) (.slice H hl.length hc) (.slice (some ⟨w2.heap.size,0,none⟩) 1 1)).alloc (.cells #[.int .i64 1] 3)).facts;dsimp only [Go.Proofs.YtgekmfcbbjeahaaGreatDoor.put3] at d0 d1 d2;clear d3 d4 d5 d6;obtain ⟨c0,c1,c2,c3,c4,c5,c6⟩:=kr2.facts;go_wp2_with fail;refine bodyPost_ret (v:=.agg #[.bool true,.slice H hl.length hc,.slice (some ⟨w2.heap.size,0,none⟩) 1 1]) (by simp [results,Tryz.results43,go_sem,d0,d1,d2]) rfl ?_;have hbw:=below_put3 hw2 (show w.heap.size≤w.heap.size by omega) (.bool true) (.slice H hl.length hc) (.slice (some ⟨w2.heap.size,0,none⟩) 1 1);exact ⟨⟨true,H,hc,hl,some ⟨w2.heap.size,0,none⟩,1,[1]⟩,rfl,⟨((hH2.put3 kr2 _ _ _).alloc _).rd,nat1_rd _ _ (by simp),hnh,nm_one,by dsimp only;rw [HVH.out,vd_one];exact QOf.mk_ (neg:=true) (n:=n) (d:=1) (by omega) (Nat.coprime_one_right _) (fun h=>by omega)⟩,⟨(hH2.put3 kr2 _ _ _).alloc _,nat1_rt _ _ (by simp)⟩,by dsimp only;omega,by simp,hbw.alloc hbw.size _⟩
theorem rint_anyT (n:Int) (h1 : -4294967296≤n) (h2:n≤4294967296) (w:World):Calls Tryz.prog 43 #[.int .i64 n] w (RefT (mkRat n 1) 5 1 w):=by
  rcases Int.lt_or_le n 0 with h | h
  · obtain ⟨m,rfl⟩:∃ m:Nat,n = -(m:Int):=⟨(-n).toNat,by omega⟩;exact rint_nT m (by omega) (by omega) w
  · obtain ⟨m,rfl⟩:∃ m:Nat,n=(m:Int):=⟨n.toNat,by omega⟩;exact rint_pT m (by omega) w
set_option maxRecDepth 100000 in
set_option maxHeartbeats 3200000 in
theorem rmakeT (s : Bool) (N D : Option Addr) (nc dc : Nat) (ns ds : List Nat) (w : World) (hnT : RT .i64 3 w N ns) (hdT : RT .i64 3 w D ds) (mn : Nm ns) (md : Nm ds) (l1 : ns.length ≤ 10000) (l2 : ds.length ≤ 10000) (hpos : 0 < ds.length) :
    Calls Tryz.prog 119 #[.bool s,.slice N ns.length nc,.slice D ds.length dc] w (RefT (mkRat (sgn s (VD ns)) (VD ds)) ns.length (max 1 ds.length) w):=by
  have hn:=hnT.rd;have hd:=hdT.rd;have hdp:=VD_pos md hpos
  by_cases h0:ns.length=0
  · obtain rfl:ns=[]:=List.eq_nil_of_length_eq_zero h0;have kr:=BlkT.new 46 w (.bool false) (.slice none 0 0) (.slice none 0 0);have hq:QOf false 0 1 (mkRat (sgn s (VD [])) (VD ds)):=by have:=qof_zero s (VD ds);simpa [VD,val] using this
    go_enter Tryz.func119,Tryz.ntmps119;go_wp2_with fail;refine (qzeroT _ hq _).mono ?_;rintro e w1 ⟨r,rfl,hr,hrt,hl1,hl2,hb1⟩;have kr1:=kr.below hb1;have hw1:Below w.heap.size w w1:=((Below.refl _ _).alloc (Nat.le_refl _) _).trans (hb1.mono (by simp));obtain ⟨c0,c1,c2,c3,c4,c5,c6⟩:=kr1.facts;go_wp2_with fail;refine bodyPost_ret (v:=.agg #[.bool r.s,.slice r.N r.ns.length r.nc,.slice r.D r.ds.length r.dc]) (by simp [results,Tryz.results119,go_sem,c0,c1,c2]) rfl ?_;exact RefT.put r hr hrt kr1 (Nat.le_refl _) hw1 (by simpa using hl1) (by omega)
  · have hne : ((ns.length : Int) == 0) = false := beq_eq_false_iff_ne.2 (by omega); have hnp := VD_pos mn (by omega); have hn1 : Rd .i64 (w.alloc (.cells #[.bool false, .slice none 0 0, .slice none 0 0] 46)) N ns := hn.alloc _; have hd1 : Rd .i64 (w.alloc (.cells #[.bool false, .slice none 0 0, .slice none 0 0] 46)) D ds := hd.alloc _; have hw1 : Below w.heap.size w (w.alloc (.cells #[.bool false, .slice none 0 0, .slice none 0 0] 46)) := (Below.refl _ _).alloc (Nat.le_refl _) _; have kr1 := BlkT.new 46 w (.bool false) (.slice none 0 0) (.slice none 0 0); obtain ⟨p, hp, hp1⟩ := oneQ hd1; have HP1 := Lib.hid hp1; clear hp1; have hsame : ∀ w', Below w.heap.size w w' → VD ds = 1 ∨ Nat.gcd (VD ns) (VD ds) = 1 → RL.Ref w' ⟨s, N, nc, ns, D, dc, ds⟩ (mkRat (sgn s (VD ns)) (VD ds)) ∧ RL.TyI w' ⟨s, N, nc, ns, D, dc, ds⟩ := fun w' hb h => by
      refine ⟨?_,hnT.below hb,hdT.below hb⟩;refine ⟨hn.below hb,hd.below hb,mn,md,QOf.mk_ hdp ?_ (fun h=>by dsimp only at h;omega)⟩;rcases h with h | h
      · dsimp only;rw [h];exact Nat.gcd_one_right _
      · exact h
    have HSAME:=Lib.hid hsame;clear hsame;cases p
    · rcases hp with ⟨_, hp⟩ | ⟨ad, x, rfl, hp1, hp2, hp, hp3⟩
      all_goals
        first
          | have hpl:((ds.length:Int) == 1)=true:=by simp [hp1]
          | skip
        first
          | (have HPQ := Lib.hid hp1
             clear hp1 hp2)
          | skip
        go_enter Tryz.func119,Tryz.ntmps119;go_wp2_with fail;refine (rgcd_any N _ nc dc ns ds _ hn1 hd1 (by omega) (by omega) mn md).mono ?_;rintro e w2 ⟨G,gc,gl,rfl,hG,hng,hlg,hvg,hb2⟩;have kr2:=kr1.below hb2;have hn2:=hn1.below hb2;have hd2:=hd1.below hb2;have hw2:=hw1.trans (hb2.mono hw1.size);have hgp:0<VD gl:=by rw [hvg.out];exact Nat.gcd_pos_of_pos_left _ hnp
        have hgl:0<gl.length:=by
          rcases Nat.eq_zero_or_pos gl.length with h | h
          · rw [List.eq_nil_of_length_eq_zero h] at hgp;simp [VD,val] at hgp
          · exact h
        have HGP:=Lib.hid hgp;obtain ⟨p2,hq,hq1⟩:=oneQ hG;have HQ1:=Lib.hid hq1;clear hq1 hb2 kr1 hn1 hd1 hw1 hgp hnp hdp hp;cases p2
        · rcases hq with ⟨_, hq⟩ | ⟨gd, y, rfl, hq1, hq2, hq, hq3⟩
          all_goals
            first
              | have hql:((gl.length:Int) == 1)=true:=by simp [hq1]
              | skip
            first
              | (have HQQ := Lib.hid hq1
                 clear hq1 hq2)
              | skip
            go_wp2_with (go_quiet (fail));refine (rdiv_anyT N _ nc gc ns gl _ hn2 hG (by omega) mn hng hgl).mono ?_;rintro e w3 ⟨X,xc,xs,X2,xc2,xs2,rfl,hX,hX2,mx,mx2,hdm,hlt,hb3⟩;have kr3:=kr2.below hb3;have hd3:=hd2.below hb3;have hG3:=hG.below hb3;have hw3:=hw2.trans (hb3.mono hw2.size);have hxv:Hid (VD xs=VD ns / VD gl):=(div_uniq hdm.out hlt.out).1;have hxl:xs.length≤ns.length:=mn.len_le mx (by rw [hxv.out];exact Nat.div_le_self _ _);clear hb3 hX2 mx2 hdm hlt kr2 hw2 hd2 hq;go_wp2_with fail;refine (rdiv_anyT _ _ dc gc ds gl _ hd3 hG3 (by omega) md hng hgl).mono ?_;rintro e w4 ⟨Y,yc,ys,Y2,yc2,ys2,rfl,hY,hY2,my,my2,hdm,hlt,hb4⟩;have kr4:=kr3.below hb4;have hX4:=hX.below hb4;have hw4:=hw3.trans (hb4.mono hw3.size);have hyv:Hid (VD ys=VD ds / VD gl):=(div_uniq hdm.out hlt.out).1;have hyl:ys.length≤ds.length:=md.len_le my (by rw [hyv.out];exact Nat.div_le_self _ _);clear hb4 hY2 my2 hdm hlt kr3 hw3 hd3 hX hG3;obtain ⟨c0,c1,c2,c3,c4,c5,c6⟩:=kr4.facts;go_wp2_with fail;refine bodyPost_ret (v:=.agg #[.bool s,.slice X xs.length xc,.slice Y ys.length yc]) (by simp [results,Tryz.results119,go_sem,c0,c1,c2]) rfl ?_;refine RefT.put ⟨s,X,xc,xs,Y,yc,ys⟩ ⟨hX4.rd,hY.rd,mx,my,?_⟩ ⟨hX4,hY⟩ kr4 (Nat.le_refl _) hw4 hxl (Nat.le_trans hyl (Nat.le_max_right _ _));have hqr:=QOf.red (neg:=s) (n:=VD ns) (d:=VD ds) (VD_pos md hpos);have hqp:0<VD ns / Nat.gcd (VD ns) (VD ds):=Nat.div_pos (Nat.gcd_le_left _ (VD_pos mn (by omega))) (Nat.gcd_pos_of_pos_right _ (VD_pos md hpos));rw [decide_eq_true hqp,Bool.and_true,← hvg.out,← hxv.out,← hyv.out] at hqr;exact hqr
        · rcases hq with ⟨hqf,_⟩ | ⟨gd,y,rfl,hq1,hq2,hq,hq3⟩
          · cases hqf
          · have hql:((gl.length:Int) == 1)=true:=by simp [hq1]
            have HQQ:=Lib.hid hq1;clear hq1 hq2;obtain ⟨c0,c1,c2,c3,c4,c5,c6⟩:=kr2.facts;go_wp2_with (go_quiet (fail));have hres:=RefT.put ⟨s,N,nc,ns,_,dc,ds⟩ (HSAME.out _ hw2 (.inr (by rw [← hvg.out];exact HQ1.out trivial))).1 (HSAME.out _ hw2 (.inr (by rw [← hvg.out];exact HQ1.out trivial))).2 kr2 (Nat.le_refl _) hw2 (Nat.le_refl _) (Nat.le_max_right 1 _)
            first
              | exact bodyPost_ret (v:=.agg #[.bool s,.slice N ns.length nc,.slice D ds.length dc]) (by simp [results,Tryz.results119,go_sem,c0,c1,c2]) rfl hres
              | exact bodyPost_ret (v:=.agg #[.bool s,.slice N ns.length nc,.slice (some ad) ds.length dc]) (by simp [results,Tryz.results119,go_sem,c0,c1,c2]) rfl hres
    · rcases hp with ⟨hpf,_⟩ | ⟨ad,x,rfl,hp1,hp2,hp,hp3⟩
      · cases hpf
      · have hpl:((ds.length:Int) == 1)=true:=by simp [hp1]
        have HP:=Lib.hid hp1;clear hp1 hp2;go_enter Tryz.func119,Tryz.ntmps119;go_wp2_with (go_quiet (fail));refine bodyPost_ret (v:=.agg #[.bool s,.slice N ns.length nc,.slice (some ad) ds.length dc]) (by simp [results,Tryz.results119,go_sem]) rfl ?_;refine ⟨⟨s,N,nc,ns,some ad,dc,ds⟩,rfl,(HSAME.out _ ((Below.refl _ _).alloc (Nat.le_refl _) _) (.inl (HP1.out trivial))).1,(HSAME.out _ ((Below.refl _ _).alloc (Nat.le_refl _) _) (.inl (HP1.out trivial))).2,Nat.le_refl _,Nat.le_max_right _ _,(Below.refl _ _).alloc (Nat.le_refl _) _⟩
end Go.Proofs.YtgekmfcbbjeahaaGreatDoor
