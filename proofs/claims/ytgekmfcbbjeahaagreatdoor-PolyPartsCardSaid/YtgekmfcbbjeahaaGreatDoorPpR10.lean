/- isochroneref01.little; isochroneref01.DivMod: quotient and remainder of two numbers of at most 20000 digits. -/
import Derived.Test.YtgekmfcbbjeahaaGreatDoorPpR9
import Derived.Deep.RegionWith
namespace Go.Proofs.YtgekmfcbbjeahaaGreatDoor
open Go.RowKit V
theorem dig_drop_lt {xs:List Nat} (h:Dig 10000 xs) (k:Nat):val 10000 (xs.drop k)<10000 ^ (xs.length - k):=by
  have:=val_lt 10000 (xs.drop k) (h.drop k);rwa [List.length_drop] at this
set_option maxHeartbeats 400000 in
theorem little_yes (A : Option Addr) (ca : Nat) (xs : List Nat) (w : World) (hx : Rd .i64 w A xs) (bl : xs.length ≤ 4) (dx : Dig 10000 xs) :
    Calls Tryz.prog 143 #[.slice A xs.length ca] w (Plain (.tuple #[.int .i64 (VD xs),.bool true]) w):=by
  go_enter Tryz.func143,Tryz.ntmps143;go_wp2;go_loop [4,5] (fun nv iv=>∃ j:Int,∃ n:Nat,-1≤j∧j<xs.length∧iv = .int .i64 j∧nv = .int .i64 n∧n=val 10000 (xs.drop (j+1).toNat)) (fun _ iv=>(intOf iv+1).toNat)
  case atStart=>exact ⟨_,0,by omega,by omega,rfl,rfl,by rw [show ((xs.length:Int) - 1+1).toNat=xs.length by omega,List.drop_length];rfl⟩
  case round=>
    obtain ⟨j,n,hj,hjl,rfl,rfl,hv⟩:=hrel;have HV:=Lib.hid hv;clear hv
    by_cases h0:j<0
    · go_wp2;go_ret2;refine ⟨?_,rfl⟩;rw [HV.out,show (j+1).toNat=0 by omega,List.drop_zero];rfl
    · obtain ⟨i,rfl⟩:=Int.eq_ofNat_of_zero_le (show 0≤j by omega);have hix:i<xs.length:=by omega
      obtain ⟨ad,x,rfl,hbx,ex,cx⟩:=hx.ask hix;have hxl:x<10000:=by rw [← ex.out];exact dig_getD dx (by omega) i
      have hn:n<1000000000000:=by
        have h1:=HV.out;have h2:=dig_drop_lt dx (((i:Int)+1).toNat);have h3:10000 ^ (xs.length - ((i:Int)+1).toNat)≤10000 ^ 3:=Nat.pow_le_pow_right (by omega) (by omega);omega
      go_wp2;go_round
      case rel=>exact ⟨_,n*10000+x,by omega,by omega,rfl,by go_num,by
        rw [HV.out,show ((i:Int) - 1+1).toNat=i by omega,show ((i:Int)+1).toNat=i+1 by omega,val_drop 10000 xs i hix,ex.out];omega⟩
      case measure=>simp [intOf]
set_option maxHeartbeats 400000 in
theorem little_no (A:Option Addr) (ca:Nat) (xs:List Nat) (w:World) (bl:4<xs.length) :
    Calls Tryz.prog 143 #[.slice A xs.length ca] w (Plain (.tuple #[.int .i64 0,.bool false]) w):=by
  go_enter Tryz.func143,Tryz.ntmps143;go_wp2;go_ret2;exact ⟨rfl,rfl⟩
def RDivP (xs ys : List Nat) (w : World) (e : Ending) (w' : World) : Prop :=
  ∃ Q qc q R rc r, e = .returned (.tuple #[.slice Q (q : List Nat).length qc, .slice R (r : List Nat).length rc]) ∧ Rd .i64 w' Q q ∧ Rd .i64 w' R r ∧ Nm q ∧ Nm r ∧
    Hid (VD xs=VD q*VD ys+VD r)∧Hid (VD r<VD ys)∧Below w.heap.size w w'
set_option maxHeartbeats 1000000 in
theorem rdiv_less (A B:Option Addr) (ca cb:Nat) (xs ys:List Nat) (w:World) (hx:Rd .i64 w A xs) (hy:Rd .i64 w B ys) (bx:xs.length≤20000) (nx:Nm xs) (ny:Nm ys) (hlt:VD xs<VD ys) :
    Calls Tryz.prog 144 #[.slice A xs.length ca,.slice B ys.length cb] w (RDivP xs ys w):=by
  obtain ⟨c,hc,hcp⟩:∃ c:Int,Hid (cmpOf (VD xs) (VD ys)=c)∧c<0:=⟨_,rfl,by rw [cmpOf_lt (by omega)];omega⟩;have HLT:=Lib.hid hlt;clear hlt;go_enter Tryz.func144,Tryz.ntmps144;go_wp2_with fail;refine (rcmp_any A B ca cb xs ys _ hx hy (by omega) nx ny).mono ?_;rintro e w1 ⟨he,n1,hwe⟩;rw [hc.out] at he;subst he;have hb1:Below w.heap.size w w1:=by rw [hwe];exact below_drew_ (Below.refl _ _) n1
  have hx1:=hx.below hb1;clear hwe;go_wp2;go_ret2;exact ⟨_,0,[],A,ca,xs,rfl,Rd.nil_,hx1.alloc _,nm_nil,nx,by show _=_;simp [VD,val],HLT.out,hb1.alloc hb1.size _⟩
theorem below_of_drew {B:Nat} {w w':World} (h:Below w.drew.heap.size w.drew w') (hB:B≤w.heap.size):Below B w w':=
  Below.mono ⟨h.os,h.tape,h.output,h.size,h.block⟩ hB
set_option maxRecDepth 100000 in
set_option maxHeartbeats 1000000 in
theorem rdiv_little (A B:Option Addr) (ca cb:Nat) (xs ys:List Nat) (w:World) (hx:Rd .i64 w A xs) (hy:Rd .i64 w B ys) (bx:xs.length≤4) (nx:Nm xs) (ny:Nm ys) (hpos:0<ys.length) (hge:VD ys≤VD xs) :
    Calls Tryz.prog 144 #[.slice A xs.length ca,.slice B ys.length cb] w (RDivP xs ys w):=by
  obtain ⟨c,hc,hcp⟩:∃ c:Int,Hid (cmpOf (VD xs) (VD ys)=c)∧0≤c:=⟨_,rfl,by unfold cmpOf;split <;> (try split) <;> omega⟩;have hly:ys.length≤4:=Nat.le_trans (nx.len_le ny hge) bx;have hb:=VD_pos ny hpos;have hxb:VD xs<10000000000000000:=by
    have h1:=val_lt 10000 xs nx.1;have h2:10000 ^ xs.length≤10000 ^ 4:=Nat.pow_le_pow_right (by omega) bx;unfold VD;omega
  have dx:Dig 10000 xs:=nx.1;have dy:Dig 10000 ys:=ny.1;obtain ⟨x,ex⟩:∃ x,Hid (VD xs=x):=⟨_,rfl⟩;obtain ⟨y,ey⟩:∃ y,Hid (VD ys=y):=⟨_,rfl⟩;rw [ex.out] at hxb hge;rw [ey.out] at hb hge;have hq0:x / y≤x:=Nat.div_le_self _ _;have hr0:x % y<y:=Nat.mod_lt _ hb;obtain ⟨q,eq⟩:∃ q,Hid (x / y=q):=⟨_,rfl⟩;obtain ⟨r,er⟩:∃ r,Hid (x % y=r):=⟨_,rfl⟩;rw [eq.out] at hq0;rw [er.out] at hr0;have hqi:(x:Int) / y=q:=by rw [← eq.out];simp
  have hri:(x:Int).tmod y=r:=by rw [Int.tmod_eq_emod_of_nonneg (by omega),← er.out];simp
  go_enter Tryz.func144,Tryz.ntmps144;go_wp2_with fail;refine (rcmp_any A B ca cb xs ys _ hx hy (by omega) nx ny).mono ?_;rintro e w1 ⟨he,n1,hwe⟩;rw [hc.out] at he;subst he;have hb1:Below w.heap.size w w1:=by rw [hwe];exact below_drew_ (Below.refl _ _) n1
  have hx1:=hx.below hb1;have hy1:=hy.below hb1;clear hwe hc;go_wp2_with fail;refine (little_yes A ca xs _ hx1 bx dx).mono ?_;rintro e w2 ⟨he,rfl⟩;rw [ex.out] at he;subst he;go_wp2_with fail;refine (little_yes B cb ys _ hy1 hly dy).mono ?_;rintro e w2 ⟨he,rfl⟩;rw [ey.out] at he;subst he;go_wp2_with fail;have hwq:IntKind.i64.wrap (q:Int)=q:=by rw [IntKind.wrap_i64];omega
  go_region_with (first
    | (go_at_call_of 89 (Value.int IntKind.i64 (q:Nat));refine (int_any q _ (by omega)).mono ?_;rintro e wq ⟨Q,qc,lq,rfl,hqc,hQ,hbq,hvq,hnq,hlq⟩;have HVQ:=Lib.hid hvq;clear hvq)
    | (go_at_call_of 89 (Value.int IntKind.i64 (r:Nat));refine (int_any r _ (by omega)).mono ?_;rintro e wr ⟨R,rc,lr,rfl,hrc,hR,hbr,hvr,hnr,hlr⟩;have HVR:=Lib.hid hvr;clear hvr))
  all_goals
    have hdm:VD xs=VD lq*VD ys+VD lr:=by
      rw [HVQ.out,HVR.out,ex.out,ey.out,← eq.out,← er.out,Nat.mul_comm];exact (Nat.div_add_mod x y).symm
    have hlt:VD lr<VD ys:=by rw [HVR.out,ey.out];exact hr0
    go_wp2;go_ret2
    first
      | exact ⟨Q,qc,lq,R,rc,lr,rfl,hQ.below hbr,hR,hnq,hnr,hdm,hlt,(hb1.trans (below_of_drew hbq hb1.size)).trans (hbr.mono (Nat.le_trans hb1.size hbq.size))⟩
      | exact ⟨Q,qc,lq,R,rc,lr,rfl,hQ,hR.below hbq,hnq,hnr,hdm,hlt,(hb1.trans (below_of_drew hbr hb1.size)).trans (hbq.mono (Nat.le_trans hb1.size hbr.size))⟩
set_option maxRecDepth 100000 in
set_option maxHeartbeats 1000000 in
theorem rdiv_one (A B:Option Addr) (ca cb:Nat) (xs ys:List Nat) (w:World) (hx:Rd .i64 w A xs) (hy:Rd .i64 w B ys) (bx:4<xs.length) (bx2:xs.length≤20000) (nx:Nm xs) (ny:Nm ys) (hl:ys.length=1) (hge:VD ys≤VD xs) :
    Calls Tryz.prog 144 #[.slice A xs.length ca,.slice B ys.length cb] w (RDivP xs ys w):=by
  obtain ⟨c,hc,hcp⟩:∃ c:Int,Hid (cmpOf (VD xs) (VD ys)=c)∧0≤c:=⟨_,rfl,by unfold cmpOf;split <;> (try split) <;> omega⟩;have dx:Dig 10000 xs:=nx.1;obtain ⟨bd,y,rfl,hby,ey,cy⟩:=hy.ask (i:=0) (by omega);rw [add_zero_] at cy;have hyv:Hid (VD ys=y):=by show VD ys=y;rw [one_of_len hl,ey.out];unfold VD;simp [val]
  have hyl:y<10000:=by rw [← ey.out];exact dig_getD ny.1 (by omega) 0
  have hy1:1≤y:=by rw [← hyv.out];exact VD_pos ny (by omega)
  have hb1:((ys.length:Int) == 1)=true:=by simp [hl]
  have hpos:0<ys.length:=by omega
  have hl4:ys.length≤4:=by omega
  have dy:Dig 10000 ys:=ny.1;clear hl hge;go_enter Tryz.func144,Tryz.ntmps144;go_wp2_with fail;refine (rcmp_any A (some bd) ca cb xs ys _ hx hy (by omega) nx ny).mono ?_;rintro e w1 ⟨he,n1,hwe⟩;rw [hc.out] at he;subst he;have hw1:Below w.heap.size w w1:=by rw [hwe];exact below_drew_ (Below.refl _ _) n1
  have hx1:=hx.below hw1;have cy1:w1.cell? bd=some (.int .i64 y):=(hw1.cell (p:=bd) hby).trans cy;clear hwe hc;go_wp2_with fail;refine (little_no A ca xs _ bx).mono ?_;rintro e w2 ⟨rfl,rfl⟩;go_wp2_with fail;refine (split_any A ca y xs _ hx1 (by omega) dx hy1 (by omega)).mono ?_;rintro e w3 ⟨Q,qc,q,r,rfl,hqc,hQ,hb3,hsp,hr,hnq,hql,hfr⟩;go_wp2_with fail;refine (int_any r _ (by omega)).mono ?_;rintro e w4 ⟨R,rc,lr,rfl,hrc,hR,hb4,hvr,hnr,hlr⟩;have HVR:=Lib.hid hvr;clear hvr;go_wp2;go_ret2;refine ⟨Q,qc,q,R,rc,lr,rfl,hQ.below hb4,hR,hnq,hnr,?_,?_,(hw1.trans (hb3.mono hw1.size)).trans (hb4.mono (Nat.le_trans hw1.size hb3.size))⟩
  · show VD xs=_;rw [hyv.out,HVR.out];exact hsp.out
  · show VD lr<VD ys;rw [hyv.out,HVR.out];exact hr
end Go.Proofs.YtgekmfcbbjeahaaGreatDoor
/- isochroneref01.DivMod: the long division, and the whole contract; numbers of at most 20000 digits. -/
namespace Go.Proofs.YtgekmfcbbjeahaaGreatDoor
open Go.RowKit V
theorem split_step0 (B j k x r r':Nat) (cur xs:List Nat) (hc:j<cur.length) (hx:j<xs.length) (ex:xs.getD j 0=x) (e0:cur.getD j 0=0) (e:r'=r*B+x)
    (hv:val B (xs.drop (j+1))=val B (cur.drop (j+1))*k+r):val B (xs.drop j)=val B (cur.drop j)*k+r':=by
  rw [val_drop B xs j hx,val_drop B cur j hc,ex,e0,hv,e,Nat.mul_add,Nat.zero_add,Nat.mul_assoc,Nat.mul_comm B r];omega
theorem rem_next (r y x:Nat) (h:r<y) (hx:x<10000):r*10000+x<y*10000:=by omega
theorem getD_zeros (n i:Nat):(List.replicate n 0).getD i 0=0:=by
  rcases Nat.lt_or_ge i n with h | h
  · exact getD_rep n 0 i h
  · exact getD_beyond _ _ (by rw [List.length_replicate];exact h)
set_option maxRecDepth 100000 in
set_option maxHeartbeats 2000000 in
theorem rdiv_long (A B : Option Addr) (ca cb : Nat) (xs ys : List Nat) (w : World) (hx : Rd .i64 w A xs) (hy : Rd .i64 w B ys) (bx : 4 < xs.length) (bx2 : xs.length ≤ 20000) (nx : Nm xs) (ny : Nm ys) (hl : 2 ≤ ys.length) (hge : VD ys ≤ VD xs) :
    Calls Tryz.prog 144 #[.slice A xs.length ca,.slice B ys.length cb] w (RDivP xs ys w):=by
  obtain ⟨c,hc,hcp⟩:∃ c:Int,Hid (cmpOf (VD xs) (VD ys)=c)∧0≤c:=⟨_,rfl,by unfold cmpOf;split <;> (try split) <;> omega⟩;have dx:Dig 10000 xs:=nx.1;have dy:Dig 10000 ys:=ny.1;have hlen:ys.length≤xs.length:=nx.len_le ny hge;have hpos:0<ys.length:=by omega
  have hb1:((ys.length:Int) == 1)=false:=beq_eq_false_iff_ne.2 (by omega);have hyp:=VD_pos ny hpos;have hmk:=fun W=>make_nat xs.length xs.length rfl (by omega) W
  clear hl hge;go_enter Tryz.func144,Tryz.ntmps144;go_wp2_with fail;refine (rcmp_any A B ca cb xs ys _ hx hy (by omega) nx ny).mono ?_;rintro e w1 ⟨he,n1,hwe⟩;rw [hc.out] at he;subst he;have hw1:Below w.heap.size w w1:=by rw [hwe];exact below_drew_ (Below.refl _ _) n1
  have hx1:=hx.below hw1;have hy1:=hy.below hw1;clear hwe hc hx hy;go_wp2_with fail;refine (little_no A ca xs _ bx).mono ?_;rintro e w2 ⟨rfl,rfl⟩;go_wp2_with fail;clear hmk;go_loopw [13,14] (fun v i wr=>∃ j:Int,∃ O oc r cur,-1≤j∧j<xs.length∧i = .int .i64 j∧v = .slice O (r:List Nat).length oc∧Rd .i64 wr O r∧Nm r∧VD r<VD ys∧cur.length=xs.length∧Dig 10000 cur ∧
      (∀ i:Nat,(i:Int)≤j→cur.getD i 0=0)∧val 10000 (xs.drop (j+1).toNat)=val 10000 (cur.drop (j+1).toNat)*VD ys+VD r∧Row .i64 3 wr w1.heap.size cur∧Below w1.heap.size w1 wr) (fun _ i _=>(intOf i+1).toNat)
  case atStart=>exact ⟨_,_,0,[],_,by omega,by omega,rfl,rfl,Rd.nil_,nm_nil,by show VD []<_;exact hyp,List.length_replicate,Dig.zeros (by omega) _,fun i hi=>getD_zeros _ _,by rw [show ((xs.length:Int) - 1+1).toNat=xs.length by omega,List.drop_length,List.drop_of_length_le (by rw [List.length_replicate];omega)];simp [val,VD],(Row.new _ _).alloc _,((Below.refl _ _).alloc (Nat.le_refl _) _).alloc (by simp) _⟩
  case round=>
    obtain ⟨j,O,oc,r,cur,hj,hjl,rfl,rfl,hr,hnr,hlt,hcl,hdc,hz,hv,hrow,hbw⟩:=hrel;have HV:=Lib.hid hv;have HCL:=Lib.hid hcl;have HLT:=Lib.hid hlt;have HZ:=Lib.hid hz;have hrl:r.length≤ys.length:=ny.len_le hnr (Nat.le_of_lt hlt);clear hv hcl hlt hz
    by_cases h0:j<0
    · have hrd:=hrow.rd;go_wp2_with fail;refine (trim_i64n _ _ _ cur _ HCL.out hrd (Nat.le_refl _) (by omega)).mono ?_;rintro e w2 ⟨m,hm,rfl,hv3,hn3,rfl⟩;have HV3:=Lib.hid hv3;clear hv3;go_wp2;go_ret2;have hfl:=HCL.out;have hml:(cur.take m).length=m:=by rw [List.length_take,Nat.min_eq_left hm]
      refine ⟨some ⟨w1.heap.size,0,none⟩,xs.length,cur.take m,O,oc,r,by rw [hml];rfl,hrd.take hm,hr,⟨hdc.take m,hn3⟩,hnr,?_,HLT.out,hw1.trans (hbw.mono hw1.size)⟩;have h1:=HV.out;rw [show (j+1).toNat=0 by omega,List.drop_zero,List.drop_zero] at h1;show VD xs=val 10000 (cur.take m)*VD ys+VD r;rw [HV3.out];exact h1
    · obtain ⟨i,rfl⟩:=Int.eq_ofNat_of_zero_le (show 0≤j by omega);have hix:i<xs.length:=by omega
      obtain ⟨ad,x,rfl,hbx,ex,cx⟩:=(hx1.below hbw).ask hix;have hxl:x<10000:=by rw [← ex.out];exact dig_getD dx (by omega) i
      have dr:Dig 10000 r:=hnr.1;have hy2:=hy1.below hbw;go_wp2_with fail;refine (smallf_z O oc _ r 10000 x _ _ _ rfl (by omega) (by omega) hr (by omega) dr (by omega) (by omega)).mono ?_;rintro e w2 ⟨O1,oc1,r1,rfl,hoc1,hr1,hb2,⟨hv1,hn1,hl1⟩,hfr1⟩;have HF:Hid (0<r1.length → ∀ ad,O1=some ad→w1.heap.size<ad.block):=fun h ad e=>Nat.lt_of_lt_of_le hrow.lt (hfr1 h ad e)
      clear hfr1;have HV1:=Lib.hid hv1;have hbw2:=hbw.trans (hb2.mono hbw.size);have hrow2:=hrow.below hb2 hrow.lt;have hy3:=hy2.below hb2;clear hv1 cx hy2 hrow hbw hb2 hr;go_wp2_with fail;refine (rcmp_any O1 B oc1 cb r1 ys _ hr1 hy3 (by omega) hn1 ny).mono ?_;rintro e w3 ⟨he,n3,hwe⟩;have hb3:Below w2.heap.size w2 w3:=by rw [hwe];exact below_drew_ (Below.refl _ _) n3
      have hbw3:=hbw2.trans (hb3.mono hbw2.size);have hrow3:=hrow2.below hb3 hrow2.lt;have hy4:=hy3.below hb3;have hr2:=hr1.below hb3;clear hwe hb3 hbw2 hrow2 hy3 hr1;have hic:i<cur.length:=by have:=HCL.out;omega
      by_cases hless:VD r1<VD ys
      · obtain ⟨c2,hc2,hcp2⟩:∃ c:Int,cmpOf (VD r1) (VD ys)=c∧c<0:=⟨_,rfl,by rw [cmpOf_lt (by omega)];omega⟩;rw [hc2] at he;subst he;have HL:=Lib.hid hless;clear hless hc2;go_wp2;go_roundw
        case rel=>exact ⟨_,O1,oc1,r1,cur,by omega,by omega,rfl,rfl,hr2,hn1,HL.out,HCL.out,hdc,fun q hq=>HZ.out q (by omega),by
          rw [show ((i:Int) - 1+1).toNat=i by omega];exact split_step0 10000 i (VD ys) x (VD r) (VD r1) cur xs hic hix ex.out (HZ.out i (by omega)) HV1.out HV.out,hrow3,hbw3⟩
        case measure=>simp [intOf]
      · obtain ⟨c2,hc2,hcp2⟩:∃ c:Int,cmpOf (VD r1) (VD ys)=c∧0≤c:=⟨_,rfl,by unfold cmpOf;split <;> (try split) <;> omega⟩;rw [hc2] at he;subst he;have hlt1:Hid (VD r1<VD ys*10000):=by
          show VD r1<VD ys*10000;rw [HV1.out];exact rem_next _ _ _ HLT.out hxl
        clear hless hc2;go_wp2_with fail;refine (digit_any O1 B oc1 cb r1 ys _ hr2 hy4 (by omega) (by omega) hn1 ny hpos hlt1.out).mono ?_;rintro e w4 ⟨d,rfl,hd,hdle,hdlt,hb4⟩;have HDL:=Lib.hid hdle;have HDT:=Lib.hid hdlt;clear hdle hdlt;have hbw4:=hbw3.trans (hb4.mono hbw3.size);have hrow4:=hrow3.below hb4 hrow3.lt;have hy5:=hy4.below hb4;have hr3:=hr2.below hb4;clear hb4 hbw3 hrow3 hy4 hr2;have hcell:=hrow4.cell hic;have hfr:=hrow4.frozen i;have hrow5:=hrow4.set_ i d;have hset:(cur.set i d).getD i 0=d:=by rw [getD_set _ _ _ _ hic,if_pos rfl]
        have hcell5:=hrow5.cell (i:=i) (by rw [List.length_set];exact hic);rw [hset] at hcell5;have hbw5:=hbw4.setCell (p:=⟨w1.heap.size,i,none⟩) (Nat.le_refl _) (.int .i64 (d:Nat));have hy6:Rd .i64 (w4.setCell ⟨w1.heap.size,i,none⟩ (.int .i64 (d:Nat))) B ys:=hy1.below hbw5;go_wp2_with fail;refine (small_z B cb _ ys d 0 _ _ _ rfl rfl rfl hy6 (by omega) dy (by omega) (by omega)).mono ?_;rintro e w5 ⟨Z,zc,zs,rfl,hzc,hz5,hb5,hv5,hn5,hl5⟩;have HV5:=Lib.hid hv5;have hbw6:=hbw5.trans (hb5.mono hbw5.size);have hrow6:=hrow5.below hb5 hrow5.lt;have hr4:Rd .i64 (w4.setCell ⟨w1.heap.size,i,none⟩ (.int .i64 (d:Nat))) O1 r1:=by
          intro hp;obtain ⟨ad1,e1,hb1',hc1⟩:=hr3 hp;have hne:=HF.out hp ad1 e1;refine ⟨ad1,e1,by simpa [World.setCell] using hb1',fun k hk=>?_⟩;rw [World.cell?_of_block (Below.heap_setCell w4 ⟨w1.heap.size,i,none⟩ _ (ad1.add k).block (by rw [block_of_add];show ad1.block≠w1.heap.size;omega))];exact hc1 k hk
        have hr5:=hr4.below hb5;clear hv5 hcell hfr hrow4 hrow5 hcell5 hbw4 hbw5 hy6 hb5 hr4 hr3 hy5;go_wp2_with fail;refine (rsub_any O1 Z oc1 zc r1 zs _ hr5 hz5 (by omega) hn1 hn5 (by rw [HV5.out,Nat.add_zero];exact HDL.out)).mono ?_;rintro e w6 ⟨T,tc,ts,rfl,htc,ht6,hb6,hv6,hn6,hl6⟩;have HV6:=Lib.hid hv6;have hbw7:=hbw6.trans (hb6.mono hbw6.size);have hrow7:=hrow6.below hb6 hrow6.lt;clear hv6 hrow6 hbw6 hb6 hr5 hz5;go_wp2;go_roundw
        case rel=>
          have q1:=HV5.out;have q2:=HV6.out;have q3:=HDT.out;have q4:=HV1.out;rw [Nat.mul_add,Nat.mul_one] at q3;exact ⟨_,T,tc,ts,cur.set i d,by omega,by omega,rfl,rfl,ht6,hn6,by omega,by rw [List.length_set];exact HCL.out,hdc.set _ hd,fun q hq=>by rw [getD_set _ _ _ _ hic,if_neg (by omega)];exact HZ.out q (by omega),by
            rw [show ((i:Int) - 1+1).toNat=i by omega];exact split_step 10000 i (VD ys) x (VD r) d (VD ts) cur xs hic hix ex.out (by rw [Nat.mul_comm d];omega) HV.out,hrow7,hbw7⟩
        case measure=>simp [intOf]
theorem rdiv_any (A B:Option Addr) (ca cb:Nat) (xs ys:List Nat) (w:World) (hx:Rd .i64 w A xs) (hy:Rd .i64 w B ys) (bx:xs.length≤20000) (nx:Nm xs) (ny:Nm ys) (hpos:0<ys.length) :
    Calls Tryz.prog 144 #[.slice A xs.length ca,.slice B ys.length cb] w (RDivP xs ys w):=by
  rcases Nat.lt_or_ge (VD xs) (VD ys) with h | h
  · exact rdiv_less A B ca cb xs ys w hx hy bx nx ny h
  · rcases Nat.lt_or_ge 4 xs.length with h4 | h4
    · rcases Nat.lt_or_ge 1 ys.length with h1 | h1
      · exact rdiv_long A B ca cb xs ys w hx hy h4 bx nx ny h1 h
      · exact rdiv_one A B ca cb xs ys w hx hy h4 bx nx ny (by omega) h
    · exact rdiv_little A B ca cb xs ys w hx hy h4 nx ny hpos h
end Go.Proofs.YtgekmfcbbjeahaaGreatDoor
/- nat.gcdShort and isochroneref01.GCD: the greatest common divisor. -/
namespace Go.Proofs.YtgekmfcbbjeahaaGreatDoor
open Go.RowKit V
set_option maxRecDepth 100000 in
set_option maxHeartbeats 400000 in
theorem gcdshort_any (x y : Nat) (w : World) (hx : x < 18446744073709551616) (hy : y < 18446744073709551616) :
    Calls Tryz.prog 218 #[.int .u64 x,.int .u64 y] w (Says (.int .u64 (Nat.gcd x y:Nat)) w):=by
  have HX:=Lib.hid hx;have HY:=Lib.hid hy;clear hx hy;go_enter Tryz.func218,Tryz.ntmps218;go_wp2;go_loopw [0,1] (fun av bv wr=>∃ a b n:Nat,av = .int .u64 a∧bv = .int .u64 b∧Nat.gcd a b=Nat.gcd x y∧wr=w.drewN n) (fun _ bv _=>(intOf bv).toNat)
  case atStart=>exact ⟨x,y,0,rfl,rfl,rfl,rfl⟩
  case round=>
    obtain ⟨a,b,n,rfl,rfl,hg,rfl⟩:=hrel;have HG:=Lib.hid hg;clear hg
    by_cases h0:b=0
    · subst h0;go_wp2;go_ret;exact ⟨ret_int (by rw [← HG.out,Nat.gcd_zero_right]),n,rfl⟩
    · obtain ⟨r,hr,hlt⟩:∃ r:Nat,Hid ((a:Int) % b=r)∧Hid (r=a % b):=⟨a % b,by show _=_;omega,Lib.hid rfl⟩;have hb:0<b:=by omega
      go_wp2_with (go_quiet (fail));go_roundw
      case rel=>exact ⟨b,r,_,rfl,by rw [hr.out],by rw [hlt.out,← HG.out,Nat.gcd_comm b,← Nat.gcd_rec,Nat.gcd_comm],by rw [World.drewN_drewN]⟩
      case measure=>
        have:=Nat.mod_lt a hb;have h1:=hr.out;have h2:=hlt.out;simp [intOf];omega
def RGcdP (xs ys:List Nat) (w:World) (e:Ending) (w':World):Prop:=
  ∃ A c zs,e = .returned (.slice A (zs:List Nat).length c)∧Rd .i64 w' A zs∧Nm zs∧zs.length≤20000∧Hid (VD zs=Nat.gcd (VD xs) (VD ys))∧Below w.heap.size w w'
def LittleP (p:Bool) (v:Nat) (w:World) (e:Ending) (w':World):Prop:=∃ n:Nat,e = .returned (.tuple #[.int .i64 n,.bool p])∧Hid (p=true→n=v∧n<10000000000000000)∧w=w'
theorem little_any (A:Option Addr) (ca:Nat) (xs:List Nat) (p:Bool) (w:World) (hx:Rd .i64 w A xs) (dx:Dig 10000 xs) (hp:p=decide (xs.length≤4)) :
    Calls Tryz.prog 143 #[.slice A xs.length ca] w (LittleP p (VD xs) w):=by
  by_cases h:xs.length≤4
  · rw [hp,decide_eq_true h];refine (little_yes A ca xs w hx h dx).mono ?_;rintro e w' ⟨rfl,hw⟩;refine ⟨VD xs,rfl,Lib.hid (fun _=>⟨rfl,?_⟩),hw⟩;have h1:=val_lt 10000 xs dx;have h2:10000 ^ xs.length≤10000 ^ 4:=Nat.pow_le_pow_right (by omega) h;unfold VD;omega
  · rw [hp,decide_eq_false h];refine (little_no A ca xs w (by omega)).mono ?_;rintro e w' ⟨rfl,hw⟩;exact ⟨0,rfl,Lib.hid (fun h=>by cases h),hw⟩
theorem below_of_drewN {B n:Nat} {w w':World} (h:Below (w.drewN n).heap.size (w.drewN n) w') (hB:B≤w.heap.size):Below B w w':=
  have h':=h.mono (B':=B) hB
  ⟨h'.os,h'.tape,h'.output,h'.size,h'.block⟩
set_option maxRecDepth 100000 in
set_option maxHeartbeats 1600000 in
theorem rgcd_any (A B : Option Addr) (ca cb : Nat) (xs ys : List Nat) (w : World) (hx : Rd .i64 w A xs) (hy : Rd .i64 w B ys) (bx : xs.length ≤ 20000) (by_ : ys.length ≤ 20000) (nx : Nm xs) (ny : Nm ys) :
    Calls Tryz.prog 96 #[.slice A xs.length ca,.slice B ys.length cb] w (RGcdP xs ys w):=by
  obtain ⟨G,hG⟩:∃ G,Hid (Nat.gcd (VD xs) (VD ys)=G):=⟨_,Lib.hid rfl⟩;go_enter Tryz.func96,Tryz.ntmps96;go_wp2_with fail;go_loopg [0,1,5,7] (VD ys) (fun gh av bv _ _ wr=>∃ A1 ac al B1 bc bl,av = .slice A1 (al:List Nat).length ac∧bv = .slice B1 (bl:List Nat).length bc∧VD bl=gh∧Rd .i64 wr A1 al∧Rd .i64 wr B1 bl∧Nm al∧Nm bl∧al.length≤20000∧bl.length≤20000 ∧
      Nat.gcd (VD al) (VD bl)=G∧Below w.heap.size w wr)
  case atStart=>exact ⟨A,ca,xs,B,cb,ys,rfl,rfl,rfl,hx,hy,nx,ny,bx,by_,hG.out,Below.refl _ _⟩
  case round=>
    clear hx hy nx ny bx by_;obtain ⟨A1,ac,al,B1,bc,bl,rfl,rfl,hgh,ha,hb,na,nb,la,lb,hg,hbw⟩:=hrel;have HG:=Lib.hid hg;have HGH:=Lib.hid hgh;clear hg hgh
    by_cases h0:bl.length=0
    · obtain rfl:bl=[]:=List.eq_nil_of_length_eq_zero h0;go_wp2_with fail;go_ret;exact ⟨A1,ac,al,rfl,ha,na,la,by show _=_;rw [hG.out,← HG.out];exact (Nat.gcd_zero_right _).symm,hbw⟩
    · have hpos:0<bl.length:=by omega
      obtain ⟨p,hp⟩:∃ p,Hid (p=decide (al.length≤4)):=⟨_,Lib.hid rfl⟩;obtain ⟨q,hq⟩:∃ q,Hid (q=decide (bl.length≤4)):=⟨_,Lib.hid rfl⟩;have hlen:=nb.len_le na
      by_cases hpq:p=true∧q=true
      · obtain ⟨rfl,rfl⟩:=hpq;go_wp2_with fail;refine (little_any A1 ac al true _ ha na.1 hp.out).mono ?_;rintro e w1 ⟨n,rfl,hn,rfl⟩;go_wp2_with fail;refine (little_any B1 bc bl true _ hb nb.1 hq.out).mono ?_;rintro e w1 ⟨m,rfl,hm,rfl⟩;have hgn:Hid (Nat.gcd n m=G):=by
          show _=_;rw [(hn.out trivial).1,(hm.out rfl).1];exact HG.out
        have hn1:Hid (n<10000000000000000):=(hn.out trivial).2;have hm1:Hid (m<10000000000000000):=(hm.out rfl).2;clear hn hm;go_wp2_with fail;go_loopw [5,7] (fun av bv w2=>∃ a b k:Nat,av = .int .i64 a∧bv = .int .i64 b∧Nat.gcd a b=G∧a<10000000000000000∧b<10000000000000000∧w2=wr.drewN k) (fun _ bv _=>(intOf bv).toNat)
        case atStart=>exact ⟨n,m,0,rfl,rfl,hgn.out,hn1.out,hm1.out,rfl⟩
        case round=>
          obtain ⟨a,b,k,rfl,rfl,hg2,hal,hbl,rfl⟩:=hrel;have HG2:=Lib.hid hg2;have HAL:=Lib.hid hal;have HBL:=Lib.hid hbl;clear hg2 hgn hal hbl
          by_cases hb0:b=0
          · subst hb0;go_wp2_with fail;refine (int_any a _ (by have:=HAL.out;omega)).mono ?_;rintro e w3 ⟨Z,zc,zs,rfl,hzc,hz,hb3,hv,hnz,hlz⟩;have HVZ:=Lib.hid hv;clear hv;go_wp2_with fail;go_ret;exact ⟨Z,zc,zs,rfl,hz,hnz,by have:=hlz;omega,by show _=_;rw [HVZ.out,hG.out,← HG2.out,Nat.gcd_zero_right],hbw.trans (below_of_drewN hb3 hbw.size)⟩
          · obtain ⟨r,hr,hlt⟩:∃ r:Nat,Hid ((a:Int) % b=r)∧Hid (r=a % b):=⟨a % b,by show _=_;omega,Lib.hid rfl⟩;have hb1:0<b:=by omega
            go_wp2_with (go_quiet (fail));go_roundw
            case rel=>exact ⟨b,r,_,rfl,by rw [hr.out],by rw [hlt.out,← HG2.out,Nat.gcd_comm b,← Nat.gcd_rec,Nat.gcd_comm],HBL.out,by have:=Nat.mod_lt a hb1;have:=hlt.out;have:=HBL.out;omega,by rw [World.drewN_drewN]⟩
            case measure=>
              have:=Nat.mod_lt a hb1;have h1:=hr.out;have h2:=hlt.out;simp [intOf];omega
      · have hpq2:(p && q)=false:=by cases p <;> cases q <;> simp_all
        have hpq3:p=false∨(p=true∧q=false):=by cases p <;> cases q <;> simp_all
        have HRG:∀ q r:Nat,VD al=q*VD bl+r→Nat.gcd (VD bl) r=G:=fun q r h=>by
          rw [← HG.out,h,Nat.gcd_comm,Nat.gcd_comm (q*VD bl+r),Nat.add_comm,Nat.gcd_add_mul_right_right,Nat.gcd_comm]
        have HR:=Lib.hid HRG;clear HRG hpq hpq2;rcases hpq3 with rfl | ⟨rfl,rfl⟩
        all_goals
          go_wp2_with fail;refine (little_any A1 ac al _ _ ha na.1 hp.out).mono ?_;rintro e w1 ⟨n,rfl,hn,rfl⟩;go_wp2_with fail;refine (little_any B1 bc bl _ _ hb nb.1 hq.out).mono ?_;rintro e w1 ⟨m,rfl,hm,rfl⟩;clear hn hm;go_wp2_with fail;refine (rdiv_any A1 B1 ac bc al bl _ ha hb la na nb hpos).mono ?_;rintro e w2 ⟨Q,qc,lq,R,rc,lr,rfl,hQ,hR,hnq,hnr,hdm,hlt,hb2⟩;go_wp2_with fail;go_roundg (VD lr)
          case measure=>have:=hlt.out;have:=HGH.out;omega
          case rel=>exact ⟨B1,bc,bl,R,rc,lr,rfl,rfl,rfl,hb.below hb2,hR,nb,hnr,lb,by have:=nb.len_le hnr (Nat.le_of_lt hlt.out);omega,HR.out _ _ hdm.out,hbw.trans (hb2.mono hbw.size)⟩
end Go.Proofs.YtgekmfcbbjeahaaGreatDoor
