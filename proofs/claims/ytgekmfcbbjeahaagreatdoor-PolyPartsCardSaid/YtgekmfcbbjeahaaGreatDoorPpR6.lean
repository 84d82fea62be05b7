/- slices.Clone at the two slice types: a new row of the call's own; at most 200000 elements. -/
import Derived.Test.YtgekmfcbbjeahaaGreatDoorPpR5
import Derived.Lib.LazyBuf
import Derived.Test.YtgekmfcbbjeahaaGreatDoorRows
import Derived.Below
import Derived.Laws.OwnMore
import Derived.Laws.MakeOwn
import Derived.Deep.AppendLies
import Derived.Deep.Draws
import Derived.Laws.Rows
import Derived.Lib.Hide
import Derived.Deep.QuietTactic
import Derived.WalkKit
import Derived.WalkSpells
import Derived.WalkLawsBesides
import Derived.Laws.BitsAllLaws
import Derived.BigQuiet
import Derived.StillTailTactics
namespace Go.Proofs.YtgekmfcbbjeahaaGreatDoor
open Go.RowKit V
def OwnP (k:IntKind) (e:TypeId) (xs:List Nat) (w:World) (en:Ending) (w':World):Prop:=
  ∃ v,en = .returned v∧Own k e w.heap.size w' v xs∧Below w.heap.size w w'
set_option maxHeartbeats 400000 in
theorem clone_nat (A : Option Addr) (c : Nat) (xs : List Nat) (w : World) (hx : Rd .i64 w A xs) (bl : xs.length ≤ 200000) :
    Calls Tryz.prog 191 #[.slice A xs.length c] w (OwnP .i64 3 xs w):=by
  have hnil:=fun W=>Lib.run_eql_slice_nil (P:=Tryz.prog) W 44 3 A xs.length c 0 0 Tryz.underlying44
  rcases A with _ | ad
  · have h0:xs=[]:=by
      rcases Nat.eq_zero_or_pos xs.length with h | h
      · exact List.eq_nil_of_length_eq_zero h
      · obtain ⟨ad,h,_⟩:=hx h;cases h
    subst h0;simp only [Option.isNone_none,List.length_nil] at hnil;go_enter Tryz.func191,Tryz.ntmps191;go_wp2;go_ret;exact ⟨_,rfl,Own.nil_,Below.refl _ _⟩
  · simp only [Option.isNone_some] at hnil;have hown:Own .i64 3 w.heap.size (w.alloc (.cells #[] 3)) (.slice (some ⟨w.heap.size,0,none⟩) 0 0) []:=Own.made (Nat.le_refl _) 0 (by omega);go_enter Tryz.func191,Tryz.ntmps191;go_wp2_with (at_builtin;refine wpList_appN rfl (.tmp 5) (.tmp 6) 44 3 rfl .i64 8 info_i64 Tryz.underlying44 (by omega) _ _ [] xs rfl hown ad _ c rfl rfl (hx.alloc _) ((Below.refl _ _).alloc (Nat.le_refl _) _) (Nat.le_refl _) (by simp;omega) ?_;intro v' w' hown' hbw');go_ret;exact ⟨v',rfl,hown',hbw'⟩
set_option maxHeartbeats 400000 in
theorem clone_u32 (A : Option Addr) (c : Nat) (xs : List Nat) (w : World) (hx : Rd .u32 w A xs) (bl : xs.length ≤ 200000) :
    Calls Tryz.prog 201 #[.slice A xs.length c] w (OwnP .u32 140 xs w):=by
  have hnil:=fun W=>Lib.run_eql_slice_nil (P:=Tryz.prog) W 25 140 A xs.length c 0 0 Tryz.underlying25
  rcases A with _ | ad
  · have h0:xs=[]:=by
      rcases Nat.eq_zero_or_pos xs.length with h | h
      · exact List.eq_nil_of_length_eq_zero h
      · obtain ⟨ad,h,_⟩:=hx h;cases h
    subst h0;simp only [Option.isNone_none,List.length_nil] at hnil;go_enter Tryz.func201,Tryz.ntmps201;go_wp2;go_ret;exact ⟨_,rfl,Own.nil_,Below.refl _ _⟩
  · simp only [Option.isNone_some] at hnil;have hown:Own .u32 140 w.heap.size (w.alloc (.cells #[] 140)) (.slice (some ⟨w.heap.size,0,none⟩) 0 0) []:=Own.made (Nat.le_refl _) 0 (by omega);go_enter Tryz.func201,Tryz.ntmps201;go_wp2_with (at_builtin;refine wpList_appN rfl (.tmp 5) (.tmp 6) 25 140 rfl .u32 4 info_u32 Tryz.underlying25 (by omega) _ _ [] xs rfl hown ad _ c rfl rfl (hx.alloc _) ((Below.refl _ _).alloc (Nat.le_refl _) _) (Nat.le_refl _) (by simp;omega) ?_;intro v' w' hown' hbw');go_ret;exact ⟨v',rfl,hown',hbw'⟩
end Go.Proofs.YtgekmfcbbjeahaaGreatDoor
/- nat.divideWord: the quotient in place, the remainder returned; at most 100000 words, a divisor that is not 0. -/
namespace Go.Proofs.YtgekmfcbbjeahaaGreatDoor
open Go.RowKit V
def DivwP (B:Nat) (A:Option Addr) (v:Value) (xs:List Nat) (d:Nat) (w:World) (e:Ending) (w':World):Prop:=
  ∃ r:Nat,∃ ys:List Nat,e = .returned (.int .u32 r)∧r<d∧Hid (val 4294967296 xs=val 4294967296 ys*d+r)∧Hid (ys.length=xs.length)∧Dig 4294967296 ys∧Own .u32 140 B w' v ys∧OnlyAt A w w'
theorem or_join (r x:Nat) (hr:r<4294967296) (hx:x<4294967296):bits .or .u64 ((r:Int)*4294967296) (x:Int)=(r*4294967296+x:Nat):=by
  have h:=u64_or_nat (r*4294967296) x (by omega) (by omega);rw [nat_join 32 (r*4294967296) x (by omega) (by omega)] at h;rw [← h];congr 1
set_option maxHeartbeats 1000000 in
theorem divw_any (A : Option Addr) (n c d B : Nat) (xs : List Nat) (w : World) (hn : xs.length = n) (h : Own .u32 140 B w (.slice A n c) xs) (bl : n ≤ 100000) (dx : Dig 4294967296 xs) (hd : 1 ≤ d) (hd2 : d < 4294967296) (hA : 0 < n → ∃ g, A = some ⟨g, 0, none⟩) :
    Calls Tryz.prog 202 #[.slice A n c,.int .u32 d] w (DivwP B A (.slice A n c) xs d w):=by
  have HN:=Lib.hid hn;clear hn;go_enter Tryz.func202,Tryz.ntmps202;go_wp2;go_loopw [5,6,7] (fun rv i _ wr=>∃ j:Int,∃ r:Nat,∃ cur:List Nat,-1≤j∧j<n∧i = .int .i64 j∧rv = .int .u64 r∧r<d∧cur.length=xs.length∧Dig 4294967296 cur ∧
      val 4294967296 (xs.drop (j+1).toNat)=val 4294967296 (cur.drop (j+1).toNat)*d+r∧(∀ q:Nat,(q:Int)≤j→cur.getD q 0=xs.getD q 0)∧Own .u32 140 B wr (.slice A n c) cur∧OnlyAt A w wr) (fun _ i _ _=>(intOf i+1).toNat)
  case atStart=>exact ⟨_,0,xs,by omega,by omega,rfl,rfl,by omega,rfl,dx,by rw [show ((n:Int) - 1+1).toNat=xs.length by have:=HN.out;omega,List.drop_length];simp [val],fun _ _=>rfl,h,OnlyAt.refl _ _⟩
  case round=>
    obtain ⟨j,r,cur,hj,hjl,rfl,rfl,hr,hcl,hdc,hv,hout,hown,hbw⟩:=hrel;have HV:=Lib.hid hv;have HCL:=Lib.hid hcl;have HO:=Lib.hid hout;clear hv hcl hout
    by_cases h0:j<0
    · go_wp2;go_ret;exact ⟨r,cur,rfl,hr,by have:=HV.out;rw [show (j+1).toNat=0 by omega] at this;exact this,HCL.out,hdc,hown,hbw⟩
    · obtain ⟨i,rfl⟩:=Int.eq_ofNat_of_zero_le (show 0≤j by omega);have hix:i<n:=by omega
      obtain ⟨g,rfl⟩:=hA (by omega);have hnx:=HN.out;have hkc:i<cur.length:=by have:=HCL.out;omega
      have hkx:i<xs.length:=by omega
      have HX:=Lib.hid hnx;clear hnx;obtain ⟨x,ex⟩:∃ x,Hid (cur.getD i 0=x):=⟨_,rfl⟩;have hxl:x<4294967296:=by rw [← ex.out];exact dig_getD hdc (by omega) i
      have hcell:wr.cell? ⟨g,i,none⟩=some (.int .u32 x):=by have:=hown.cell (HCL.out.trans HX.out) hix;rwa [ex.out] at this
      have hfr:=hown.frz (i:=i) (HCL.out.trans HX.out);have hor:=Lib.hid (or_join r x (by omega) hxl);have hq:(r*4294967296+x) / d<4294967296:=Nat.div_lt_of_lt_mul (by have:(r+1)*4294967296≤d*4294967296:=Nat.mul_le_mul_right _ hr;omega);obtain ⟨s,r',hs,hr',hsc,es,er⟩:∃ s r':Nat,s<4294967296∧r'<d∧Hid (s*d+r'=r*4294967296+x)∧Hid (bits .or .u64 ((r:Int)*4294967296) (x:Int) / d % 4294967296=s)∧Hid (bits .or .u64 ((r:Int)*4294967296) (x:Int) % d=r'):=by
        refine ⟨(r*4294967296+x) / d,(r*4294967296+x) % d,hq,Nat.mod_lt _ (by omega),by show _=_;rw [Nat.mul_comm];exact Nat.div_add_mod _ _,?_,?_⟩
        · show _=_;rw [hor.out,← Int.natCast_ediv];generalize (r*4294967296+x) / d=Q at hq ⊢;omega
        · show _=_;rw [hor.out];rfl
      have hT0:0≤bits .or .u64 ((r:Int)*4294967296) (x:Int):=by rw [hor.out];omega
      have hT1:bits .or .u64 ((r:Int)*4294967296) (x:Int)≤18446744073709551615:=by rw [hor.out];omega
      clear hq hor;go_wp2;go_roundw
      case rel=>
        exact ⟨_,r',cur.set i s,by omega,by omega,rfl,by rw [er.out],hr',by rw [List.length_set];exact HCL.out,hdc.set _ hs,
          by rw [show ((i:Int) - 1+1).toNat=i by omega];exact split_step 4294967296 i d x r s r' cur xs hkc hkx (by rw [← HO.out i (Int.le_refl _)];exact ex.out) hsc.out HV.out,
          fun q hq=>by rw [getD_set _ _ _ _ hkc,if_neg (by omega)];exact HO.out q (by omega),by rw [es.out];exact hown.set_ (HCL.out.trans HX.out),hbw.setCell rfl _⟩
      case measure=>simp [intOf]
end Go.Proofs.YtgekmfcbbjeahaaGreatDoor
/- nat.divide where the dividend is smaller or the divisor has one word. -/
namespace Go.Proofs.YtgekmfcbbjeahaaGreatDoor
open Go.RowKit V
def DivP (xs ys : List Nat) (w : World) (e : Ending) (w' : World) : Prop :=
  ∃ Q qc q R rc r, e = .returned (.tuple #[.slice Q (q : List Nat).length qc, .slice R (r : List Nat).length rc]) ∧ Rd .u32 w' Q q ∧ Rd .u32 w' R r ∧ Mag q ∧ Mag r ∧ q.length ≤ qc ∧ r.length ≤ rc ∧
    Hid (V32 xs=V32 q*V32 ys+V32 r)∧Hid (V32 r<V32 ys)∧Below w.heap.size w w'
theorem mag_nil:Mag []:=⟨fun _ h=>by simp at h,nrm_nil⟩
set_option maxHeartbeats 400000 in
theorem div_less (A B:Option Addr) (c d:Nat) (xs ys:List Nat) (w:World) (hx:Rd .u32 w A xs) (hy:Rd .u32 w B ys) (bx:xs.length≤100000) (mx:Mag xs) (my:Mag ys) (hlt:V32 xs<V32 ys) :
    Calls Tryz.prog 215 #[.slice A xs.length c,.slice B ys.length d] w (DivP xs ys w):=by
  have hc:cmpOf (V32 xs) (V32 ys)<0:=by rw [cmpOf_lt (by omega)];omega
  unfold V32 at hc;go_enter Tryz.func215,Tryz.ntmps215;go_wp2_with (first
    | (go_at_call 213;refine (compare_any A B c d xs ys _ hx hy bx mx.1 my.1 mx.2 my.2).mono ?_;rintro e w1 ⟨rfl,n,rfl⟩)
    | (go_at_call 201;refine (clone_u32 A c xs _ (hx.drewN _) (by omega)).mono ?_;rintro e w2 ⟨v,rfl,hown,hb⟩;obtain ⟨R,rc,rfl,hrc,hr⟩:=hown.form))
  go_ret2;exact ⟨none,0,[],R,rc,xs,rfl,Rd.nil_,hr,mag_nil,mx,Nat.le_refl _,hrc,by show _=_;unfold V32;simp [val],hlt,hb.os,hb.tape,hb.output,hb.size,hb.block⟩
theorem one_of_len {xs:List Nat} (h:xs.length=1):xs=[xs.getD 0 0]:=by
  match xs,h with
  | [a],_=>rfl
theorem mag_take {ys:List Nat} (h:Dig 4294967296 ys) {m:Nat} (hn:Nrm (ys.take m)):Mag (ys.take m):=⟨h.take m,hn⟩
theorem rd_one (w:World) (r:Nat):Rd .u32 (w.alloc (.cells #[.int .u32 (r:Nat)] 140)) (some ⟨w.heap.size,0,none⟩) [r]:=(Row.new (k:=.u32) (t:=140) w [r]).rd
set_option maxHeartbeats 1000000 in
theorem div_one (A B:Option Addr) (c d:Nat) (xs ys:List Nat) (w:World) (hx:Rd .u32 w A xs) (hy:Rd .u32 w B ys) (bx:xs.length≤100000) (mx:Mag xs) (my:Mag ys) (hge:V32 ys≤V32 xs) (hl:ys.length=1) :
    Calls Tryz.prog 215 #[.slice A xs.length c,.slice B ys.length d] w (DivP xs ys w):=by
  have hc:0≤cmpOf (V32 xs) (V32 ys):=by unfold cmpOf;split <;> (try split) <;> omega
  unfold V32 at hc;obtain ⟨bd,y,rfl,hby,ey,cy⟩:=hy.ask (i:=0) (by omega);rw [add_zero_] at cy;have hyv:V32 ys=y:=by rw [one_of_len hl,ey.out];unfold V32;simp [val]
  have hyl:y<4294967296:=by rw [← ey.out];exact dig_getD my.1 (by omega) 0
  have hy0:1≤y:=by
    have:=my.2 (by omega);rw [hl,ey.out] at this;omega
  have hb1:((ys.length:Int) == 1)=true:=by simp [hl]
  have hpos:0<ys.length:=by omega
  have HYV:=Lib.hid hyv;have HL:=Lib.hid hl;clear hyv hl;go_enter Tryz.func215,Tryz.ntmps215;go_wp2_with (first
    | (go_at_call 213;refine (compare_any A (some bd) c d xs ys _ hx hy bx mx.1 my.1 mx.2 my.2).mono ?_;rintro e w1 ⟨rfl,n,rfl⟩)
    | (go_at_call 201;refine (clone_u32 A c xs _ (hx.drewN _) (by omega)).mono ?_;rintro e w2 ⟨v,rfl,hown,hb⟩;obtain ⟨Q,qc,rfl,hqc,hq,hsh⟩:=hown.shape;have cy2:=(hb.cell (p:=bd) hby).trans cy)
    | (go_at_call 202;fail))
  have hblk2:∀ ad,Q=some ad→w.heap.size≤ad.block:=fun ad e=>by
    subst e;exact (World.ownsRow.lt hown _ rfl).1
  refine (divw_any Q xs.length qc y w.heap.size xs _ rfl hown bx mx.1 hy0 hyl (fun h=>by obtain ⟨g,e,_⟩:=hsh h;exact ⟨g,e⟩)).mono ?_;rintro e w3 ⟨r,zs,rfl,hr,hzv,hzl,hdz,hownz,honly⟩;have hb3:=hb.trans (honly.below hblk2);obtain ⟨Q',qc',hfe,_,hrz⟩:=hownz.form;have hqq:Q=Q':=by injection hfe
  subst hqq;clear hfe;go_wp2_with fail;refine (trim_u32n Q qc xs.length zs _ hzl.out hrz hqc (by omega)).mono ?_;rintro e w4 ⟨m,hm,rfl,hv3,hn3,rfl⟩;have HV3:=Lib.hid hv3;clear hv3;go_wp2_with fail;have hr1:=rd_one w3 r;refine (trim_u32n (some ⟨w3.heap.size,0,none⟩) 1 1 [r] _ rfl hr1 (Nat.le_refl _) (by omega)).mono ?_;rintro e w5 ⟨k,hk,rfl,hv4,hn4,rfl⟩;have HV4:=Lib.hid hv4;clear hv4;go_wp2;go_ret2;have hml:(zs.take m).length=m:=by rw [List.length_take,Nat.min_eq_left hm]
  have hkl:(([r]:List Nat).take k).length=k:=by rw [List.length_take,Nat.min_eq_left hk]
  have hb5:Below w.heap.size w (w3.alloc (.cells #[.int .u32 (r:Nat)] 140)):=⟨hb3.os,hb3.tape,hb3.output,by have:=hb3.size;simp at this ⊢;omega,fun b hb=>(Below.heap_alloc w3 _ b (by have:=hb3.size;simp at this;omega)).trans (hb3.block b hb)⟩;refine ⟨Q,qc,zs.take m,some ⟨w3.heap.size,0,none⟩,1,([r]:List Nat).take k,by rw [hml,hkl];rfl,(hrz.alloc _).take hm,hr1.take hk,mag_take hdz hn3,mag_take (fun x hx=>by simp at hx;omega) hn4,by have:=hzl.out;omega,by rw [hkl];simpa using hk,?_,?_,hb5⟩
  · show V32 xs=V32 (zs.take m)*V32 ys+V32 (([r]:List Nat).take k);unfold V32 at *;rw [HV3.out,HV4.out,HYV.out,hzv.out,val_one]
  · show V32 (([r]:List Nat).take k)<V32 ys;unfold V32 at *;rw [HV4.out,HYV.out,val_one];exact hr
end Go.Proofs.YtgekmfcbbjeahaaGreatDoor
/- isochroneref01.Cmp, Add, Clone, Sub, Mul: comparison, sum, difference and product of numbers; at most 100000 digits. -/
namespace Go.Proofs.YtgekmfcbbjeahaaGreatDoor
open Go.RowKit V
theorem Nm.len_le {xs ys:List Nat} (hx:Nm xs) (hy:Nm ys) (h:VD ys≤VD xs):ys.length≤xs.length:=by
  rcases Nat.lt_or_ge xs.length ys.length with h1 | h1
  · have:=val_lt_of_len (B:=10000) (by omega) hx.1 hy.2 h1;unfold VD at h;omega
  · exact h1
theorem Nm.eq {xs ys:List Nat} (hx:Nm xs) (hy:Nm ys) (h:VD xs=VD ys):xs=ys:=val_inj hx.1 hy.1 hx.2 hy.2 h
set_option maxHeartbeats 400000 in
theorem rcmp_any (A B : Option Addr) (c d : Nat) (xs ys : List Nat) (w : World) (hx : Rd .i64 w A xs) (hy : Rd .i64 w B ys) (bx : xs.length ≤ 100000)
    (nmx:Nm xs) (nmy:Nm ys) :
    Calls Tryz.prog 95 #[.slice A xs.length c,.slice B ys.length d] w (Says (.int .i64 (cmpOf (VD xs) (VD ys))) w):=by
  obtain ⟨dx,nx⟩:=nmx;obtain ⟨dy,ny⟩:=nmy
  by_cases hl:xs.length=ys.length
  · have hb : ((xs.length : Int) != (ys.length : Int)) = false := by simp [hl]
    have HL:=Lib.hid hl;clear hl;go_enter Tryz.func95,Tryz.ntmps95;go_wp2;go_loopw [5] (fun i wr=>∃ j:Int,∃ n:Nat,-1≤j∧j<xs.length∧i = .int .i64 j∧xs.drop (j+1).toNat=ys.drop (j+1).toNat∧wr=w.drewN n) (fun i _=>(intOf i+1).toNat)
    case atStart=>exact ⟨_,0,by omega,by omega,rfl,by rw [show ((xs.length:Int) - 1+1).toNat=xs.length by omega,List.drop_length,HL.out,List.drop_length],rfl⟩
    case round=>
      obtain ⟨j,n,hj,hjl,rfl,he,rfl⟩:=hrel;have HE:=Lib.hid he;clear he
      by_cases h0:j<0
      · go_wp2;go_ret;exact ⟨ret_int (cmpOf_eq (by have:=HE.out;rw [show (j+1).toNat=0 by omega] at this;simp only [List.drop_zero] at this;rw [this])).symm,n,rfl⟩
      · obtain ⟨k,rfl⟩:=Int.eq_ofNat_of_zero_le (show 0≤j by omega);have hkx:k<xs.length:=by omega
        have hky:k<ys.length:=by have:=HL.out;omega
        obtain ⟨ad,x,rfl,hbx,ex,cx⟩:=hx.ask hkx;obtain ⟨bd,y,rfl,hby,ey,cy⟩:=hy.ask hky;have ek:((k:Int)+1).toNat=k+1:=by omega
        by_cases hxy:x=y
        · subst hxy;have HS:Hid (xs.drop k=ys.drop k):=by
            have:=HE.out;rw [ek] at this;show xs.drop k=ys.drop k;rw [drop_eq xs k hkx,drop_eq ys k hky,ex.out,ey.out,this]
          go_wp2_with (go_quiet (fail));go_roundw
          case rel=>exact ⟨_,_,by omega,by omega,rfl,by rw [show ((k:Int) - 1+1).toNat=k by omega];exact HS.out,rfl⟩
          case measure=>simp [intOf]
        · have HT:Hid (cmpOf (x:Int) (y:Int)=cmpOf (VD xs) (VD ys)):=cmp_top dx dy HL.out hkx (by have:=HE.out;rwa [ek] at this) ex.out ey.out hxy
          by_cases hlt:x<y
          · go_wp2_with (go_quiet (fail));go_ret;exact ⟨ret_int (by rw [← HT.out,cmpOf_lt (by omega)]),_,rfl⟩
          · go_wp2_with (go_quiet (fail));go_ret;exact ⟨ret_int (by rw [← HT.out,cmpOf_gt (by omega)]),_,rfl⟩
  · have HE:Hid (cmpOf (xs.length:Int) (ys.length:Int)=cmpOf (VD xs) (VD ys)):=cmp_len (by omega) dx dy nx ny hl
    by_cases hlt:xs.length<ys.length
    · go_enter Tryz.func95,Tryz.ntmps95;go_wp2;go_ret;exact ⟨ret_int (by rw [← HE.out,cmpOf_lt (by omega)]),0,rfl⟩
    · go_enter Tryz.func95,Tryz.ntmps95;go_wp2;go_ret;exact ⟨ret_int (by rw [← HE.out,cmpOf_gt (by omega)]),0,rfl⟩
set_option maxHeartbeats 1000000 in
theorem rsub_any (A B : Option Addr) (ca cb : Nat) (xs ys : List Nat) (w : World) (hx : Rd .i64 w A xs) (hy : Rd .i64 w B ys) (bx : xs.length ≤ 100000)
    (nmx:Nm xs) (nmy:Nm ys) (hge:VD ys≤VD xs) :
    Calls Tryz.prog 155 #[.slice A xs.length ca,.slice B ys.length cb] w
      (OutP .i64 (fun zs=>VD zs+VD ys=VD xs∧Nm zs∧zs.length≤xs.length) w):=by
  have hll:=nmx.len_le nmy hge;obtain ⟨dx,nx⟩:=nmx;obtain ⟨dy,ny⟩:=nmy;go_enter Tryz.func155,Tryz.ntmps155;go_wp2_with (go_at_call 191;refine (clone_nat A ca xs _ hx (by omega)).mono ?_;rintro e w1 ⟨v,rfl,hown1,hb1⟩;obtain ⟨O,oc,rfl,hoc,hro1,hsh⟩:=hown1.shape);go_loopw [6,7,8,13] (fun cv _ _ i wr=>∃ k c:Nat,∃ cur:List Nat,k≤xs.length∧i = .int .i64 k∧cv = .int .i64 c∧c≤1∧cur.length=xs.length∧Dig 10000 cur ∧
      val 10000 (cur.take k)+val 10000 (ys.take k)=val 10000 (xs.take k)+10000 ^ k*c∧(∀ j,k≤j→cur.getD j 0=xs.getD j 0) ∧
      Own .i64 3 w.heap.size wr (.slice O xs.length oc) cur∧Below w.heap.size w wr) (fun _ _ _ i _=>xs.length - (intOf i).toNat)
  case atStart=>exact ⟨0,0,xs,Nat.zero_le _,rfl,rfl,by omega,rfl,dx,by simp [val],fun _ _=>rfl,hown1,hb1⟩
  case round=>
    obtain ⟨k,c,cur,hk,rfl,rfl,hc,hcl,hdc,hv,hout,hown,hbw⟩:=hrel;have HV:=Lib.hid hv;have HCL:=Lib.hid hcl;have HO:=Lib.hid hout;clear hv hcl hout
    by_cases hkx:k<xs.length
    · obtain ⟨g,rfl,hgB⟩:=hsh (by omega);have hkc:k<cur.length:=by have:=HCL.out;omega
      obtain ⟨x,ex⟩:∃ x,Hid (cur.getD k 0=x):=⟨_,rfl⟩;have hxl:x<10000:=by rw [← ex.out];exact dig_getD hdc (by omega) k
      have hcell:wr.cell? ⟨g,k,none⟩=some (.int .i64 x):=by have:=hown.cell HCL.out hkx;rwa [ex.out] at this
      have hfr:=hown.frz (i:=k) HCL.out
      by_cases hky:k<ys.length
      · obtain ⟨bd,y,rfl,hby,ey,cy⟩:=(hy.below hbw).ask hky;have hyl:y<10000:=by rw [← ey.out];exact dig_getD dy (by omega) k
        by_cases hneg:(x:Int) - c - y<0
        · obtain ⟨s,hs,es,hsc⟩:∃ s:Nat,s<10000∧Hid ((x:Int) - c - y+10000=s)∧Hid (s+y+c=x+10000*1):=⟨((x:Int) - c - y+10000).toNat,by omega,by show _=_;omega,by show _=_;omega⟩;go_wp2;go_roundw
          case rel=>exact ⟨k+1,1,cur.set k s,by omega,by go_num,rfl,by omega,by rw [List.length_set];exact HCL.out,hdc.set _ hs,sub_step 10000 k s c 1 x y cur xs ys hkc hkx (by omega) (by rw [← HO.out k (Nat.le_refl _)];exact ex.out) ey.out hsc.out HV.out,fun j hj=>by rw [getD_set _ _ _ _ hkc,if_neg (by omega)];exact HO.out j (by omega),by rw [es.out];exact hown.set_ HCL.out,hbw.setCell hgB _⟩
          case measure=>simp [intOf];omega
        · obtain ⟨s,hs,es,hsc⟩:∃ s:Nat,s<10000∧Hid ((x:Int) - c - y=s)∧Hid (s+y+c=x+10000*0):=⟨((x:Int) - c - y).toNat,by omega,by show _=_;omega,by show _=_;omega⟩;go_wp2;go_roundw
          case rel=>exact ⟨k+1,0,cur.set k s,by omega,by go_num,rfl,by omega,by rw [List.length_set];exact HCL.out,hdc.set _ hs,sub_step 10000 k s c 0 x y cur xs ys hkc hkx (by omega) (by rw [← HO.out k (Nat.le_refl _)];exact ex.out) ey.out hsc.out HV.out,fun j hj=>by rw [getD_set _ _ _ _ hkc,if_neg (by omega)];exact HO.out j (by omega),by rw [es.out];exact hown.set_ HCL.out,hbw.setCell hgB _⟩
          case measure=>simp [intOf];omega
      · by_cases hneg:(x:Int) - c<0
        · obtain ⟨s,hs,es,hsc⟩:∃ s:Nat,s<10000∧Hid ((x:Int) - c+10000=s)∧Hid (s+0+c=x+10000*1):=⟨((x:Int) - c+10000).toNat,by omega,by show _=_;omega,by show _=_;omega⟩;go_wp2;go_roundw
          case rel=>exact ⟨k+1,1,cur.set k s,by omega,by go_num,rfl,by omega,by rw [List.length_set];exact HCL.out,hdc.set _ hs,by rw [List.take_of_length_le (l:=ys) (by omega)];exact sub_step1 10000 k s c 1 x _ cur xs hkc hkx (by rw [← HO.out k (Nat.le_refl _)];exact ex.out) (by have:=hsc.out;omega) (by have:=HV.out;rwa [List.take_of_length_le (l:=ys) (by omega)] at this),fun j hj=>by rw [getD_set _ _ _ _ hkc,if_neg (by omega)];exact HO.out j (by omega),by rw [es.out];exact hown.set_ HCL.out,hbw.setCell hgB _⟩
          case measure=>simp [intOf];omega
        · obtain ⟨s,hs,es,hsc⟩:∃ s:Nat,s<10000∧Hid ((x:Int) - c=s)∧Hid (s+0+c=x+10000*0):=⟨((x:Int) - c).toNat,by omega,by show _=_;omega,by show _=_;omega⟩;go_wp2;go_roundw
          case rel=>exact ⟨k+1,0,cur.set k s,by omega,by go_num,rfl,by omega,by rw [List.length_set];exact HCL.out,hdc.set _ hs,by rw [List.take_of_length_le (l:=ys) (by omega)];exact sub_step1 10000 k s c 0 x _ cur xs hkc hkx (by rw [← HO.out k (Nat.le_refl _)];exact ex.out) (by have:=hsc.out;omega) (by have:=HV.out;rwa [List.take_of_length_le (l:=ys) (by omega)] at this),fun j hj=>by rw [getD_set _ _ _ _ hkc,if_neg (by omega)];exact HO.out j (by omega),by rw [es.out];exact hown.set_ HCL.out,hbw.setCell hgB _⟩
          case measure=>simp [intOf];omega
    · obtain rfl:k=xs.length:=by omega
      have hrd:Rd .i64 wr O cur:=by
        obtain ⟨A',c',h1,_,h2⟩:=hown.form;injection h1 with h1;subst h1;exact h2
      have HF:Hid (val 10000 cur+val 10000 ys=val 10000 xs):=by
        have h1:=HV.out;rw [List.take_length,List.take_of_length_le (by have:=HCL.out;omega),List.take_of_length_le (by omega)] at h1;exact sub_end hdc HCL.out hge h1 hc
      go_wp2_with (go_at_call 157;refine (trim_i64n O oc _ cur _ HCL.out hrd hoc (by omega)).mono ?_;rintro e w2 ⟨m,hm,rfl,hv3,hn3,rfl⟩;have HV3:=Lib.hid hv3;clear hv3);go_ret;have hfl:=HCL.out;exact OutP.of_take hm (by omega) hrd hbw ⟨by show val 10000 (cur.take m)+_=_;rw [HV3.out];exact HF.out,⟨hdc.take m,hn3⟩,by rw [List.length_take];omega⟩
end Go.Proofs.YtgekmfcbbjeahaaGreatDoor
/- isochroneref01.Split: quotient and remainder by a number from 1 to 65536; at most 100000 digits. -/
namespace Go.Proofs.YtgekmfcbbjeahaaGreatDoor
open Go.RowKit V
def SplitP (xs:List Nat) (k:Nat) (w:World) (e:Ending) (w':World):Prop:=
  ∃ A c q r,e = .returned (.tuple #[.slice A q.length c,.int .i64 (r:Nat)])∧q.length≤c∧Rd .i64 w' A q∧Below w.heap.size w w'∧Hid (VD xs=VD q*k+r)∧r<k∧Nm q∧q.length≤xs.length ∧ ∀ ad,A=some ad→w.heap.size≤ad.block
set_option maxHeartbeats 1000000 in
theorem split_any (A : Option Addr) (ca k : Nat) (xs : List Nat) (w : World) (hx : Rd .i64 w A xs) (bl : xs.length ≤ 100000) (dx : Dig 10000 xs) (hk1 : 1 ≤ k) (hk : k ≤ 65536) :
    Calls Tryz.prog 133 #[.slice A xs.length ca,.int .i64 k] w (SplitP xs k w):=by
  have hmk:=fun W=>make_nat xs.length xs.length rfl (by omega) W
  go_enter Tryz.func133,Tryz.ntmps133;go_wp2;clear hmk;go_loopw [7,8] (fun rv i wr=>∃ j:Int,∃ r:Nat,∃ cur:List Nat,-1≤j∧j<xs.length∧i = .int .i64 j∧rv = .int .i64 r∧r<k∧cur.length=xs.length∧Dig 10000 cur ∧
      val 10000 (xs.drop (j+1).toNat)=val 10000 (cur.drop (j+1).toNat)*k+r∧Row .i64 3 wr w.heap.size cur∧Below w.heap.size w wr) (fun _ i _=>(intOf i+1).toNat)
  case atStart=>exact ⟨_,0,_,by omega,by omega,rfl,rfl,by omega,List.length_replicate,Dig.zeros (by omega) _,by rw [show ((xs.length:Int) - 1+1).toNat=xs.length by omega,List.drop_length,List.drop_of_length_le (by rw [List.length_replicate];omega)];simp [val],Row.new _ _,(Below.refl _ _).alloc (Nat.le_refl _) _⟩
  case round=>
    obtain ⟨j,r,cur,hj,hjl,rfl,rfl,hr,hcl,hdc,hv,hrow,hbw⟩:=hrel;have HV:=Lib.hid hv;have HCL:=Lib.hid hcl;clear hv hcl
    by_cases h0:j<0
    · go_wp2_with (go_at_call 157;refine (trim_i64n _ _ _ cur _ HCL.out hrow.rd (Nat.le_refl _) (by omega)).mono ?_;rintro e w1 ⟨m,hm,rfl,hv3,hn3,rfl⟩;have HV3:=Lib.hid hv3;clear hv3);go_ret2;have hfl:=HCL.out;have hl:(cur.take m).length=m:=by rw [List.length_take,Nat.min_eq_left hm]
      refine ⟨some ⟨w.heap.size,0,none⟩,xs.length,cur.take m,r,by rw [hl];rfl,by omega,hrow.rd.take hm,hbw,?_,hr,⟨hdc.take m,hn3⟩,by omega,fun ad h=>by injection h with h;subst h;exact Nat.le_refl _⟩;have h1:=HV.out;rw [show (j+1).toNat=0 by omega,List.drop_zero,List.drop_zero] at h1;show val 10000 xs=val 10000 (cur.take m)*k+r;rw [HV3.out];exact h1
    · obtain ⟨i,rfl⟩:=Int.eq_ofNat_of_zero_le (show 0≤j by omega);have hix:i<xs.length:=by omega
      obtain ⟨ad,x,rfl,hbx,ex,cx⟩:=(hx.below hbw).ask hix;have hxl:x<10000:=by rw [← ex.out];exact dig_getD dx (by omega) i
      have hkc:i<cur.length:=by have:=HCL.out;omega
      have hcell:=hrow.cell hkc;have hfr:=hrow.frozen i;have hq:(r*10000+x) / k<10000:=Nat.div_lt_of_lt_mul (by have:(r+1)*10000≤k*10000:=Nat.mul_le_mul_right _ hr;omega);obtain ⟨s,r',hs,hr',hsc,es,er⟩:∃ s r':Nat,s<10000∧r'<k∧Hid (s*k+r'=r*10000+x)∧Hid (((r:Int)*10000+x) / k=s)∧Hid (((r:Int)*10000+x) % k=r'):=by
        have e:((r*10000+x:Nat):Int)=(r:Int)*10000+x:=by simp
        refine ⟨(r*10000+x) / k,(r*10000+x) % k,hq,Nat.mod_lt _ (by omega),by show _=_;rw [Nat.mul_comm];exact Nat.div_add_mod _ _,?_,?_⟩
        · show _=_;rw [← e];rfl
        · show _=_;rw [← e];rfl
      clear hq;go_wp2;go_roundw
      case rel=>
        exact ⟨_,r',cur.set i s,by omega,by omega,rfl,by rw [er.out],hr',by rw [List.length_set];exact HCL.out,hdc.set _ hs,
          by rw [show ((i:Int) - 1+1).toNat=i by omega];exact split_step 10000 i k x r s r' cur xs hkc hix ex.out hsc.out HV.out,by rw [es.out];exact hrow.set_ i s,hbw.setCell (Nat.le_refl _) _⟩
      case measure=>simp [intOf]
end Go.Proofs.YtgekmfcbbjeahaaGreatDoor
/- isochroneref01.Mul: the product of two numbers; at most 100000 digits together. -/
namespace Go.Proofs.YtgekmfcbbjeahaaGreatDoor
open Go.RowKit V
theorem digit_le (x y:Nat) (hx:x<10000) (hy:y<10000):(x:Int)*y≤99980001:=by
  have h:x*y≤9999*9999:=Nat.mul_le_mul (by omega) (by omega);have:((x*y:Nat):Int)≤99980001:=by omega
  rwa [Int.natCast_mul] at this
end Go.Proofs.YtgekmfcbbjeahaaGreatDoor
