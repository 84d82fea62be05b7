/- nat.compare compares the numbers of two magnitudes; of at most 100000 words. -/
import Derived.Test.YtgekmfcbbjeahaaGreatDoorPpR3
import Derived.BigQuiet
namespace Go.Proofs.YtgekmfcbbjeahaaGreatDoor
open Go.RowKit V
theorem cmpOf_lt {x y:Int} (h:x<y):cmpOf x y = -1:=by rw [cmpOf,if_pos h]
theorem cmpOf_gt {x y:Int} (h:y<x):cmpOf x y=1:=by rw [cmpOf,if_neg (by omega),if_pos h]
theorem cmpOf_eq {x y:Int} (h:x=y):cmpOf x y=0:=by rw [cmpOf,if_neg (by omega),if_neg (by omega)]
theorem ret_int {k:IntKind} {a b:Int} (h:a=b):Ending.returned (.int k a) = .returned (.int k b):=by rw [h]
theorem cmp_len {B:Nat} (hB:0<B) {xs ys:List Nat} (hx:Dig B xs) (hy:Dig B ys) (nx:Nrm xs) (ny:Nrm ys) (h:xs.length≠ys.length) :
    cmpOf (xs.length:Int) (ys.length:Int)=cmpOf (val B xs) (val B ys):=by
  rcases Nat.lt_or_ge xs.length ys.length with h1 | h1
  · have:=val_lt_of_len hB hx ny h1;rw [cmpOf_lt (by omega),cmpOf_lt (by omega)]
  · have:=val_lt_of_len hB hy nx (show ys.length<xs.length by omega);rw [cmpOf_gt (by omega),cmpOf_gt (by omega)]
theorem cmp_top {B:Nat} {xs ys:List Nat} (hx:Dig B xs) (hy:Dig B ys) (hl:xs.length=ys.length) {k x y:Nat} (hk:k<xs.length)
    (he:xs.drop (k+1)=ys.drop (k+1)) (ex:xs.getD k 0=x) (ey:ys.getD k 0=y) (hne:x≠y):cmpOf (x:Int) (y:Int)=cmpOf (val B xs) (val B ys):=by
  subst ex;subst ey;rcases Nat.lt_or_ge (xs.getD k 0) (ys.getD k 0) with h1 | h1
  · have:=val_lt_of_top hx hl hk he h1;rw [cmpOf_lt (by omega),cmpOf_lt (by omega)]
  · have:=val_lt_of_top hy hl.symm (by omega) he.symm (show ys.getD k 0<xs.getD k 0 by omega);rw [cmpOf_gt (by omega),cmpOf_gt (by omega)]
def Says (v:Value) (w:World) (e:Ending) (w':World):Prop:=e = .returned v ∧ ∃ n,w'=w.drewN n
set_option maxHeartbeats 400000 in
theorem compare_any (A B : Option Addr) (c d : Nat) (xs ys : List Nat) (w : World) (hx : Rd .u32 w A xs) (hy : Rd .u32 w B ys) (bx : xs.length ≤ 100000)
    (dx:Dig 4294967296 xs) (dy:Dig 4294967296 ys) (nx:Nrm xs) (ny:Nrm ys) :
    Calls Tryz.prog 213 #[.slice A xs.length c,.slice B ys.length d] w (Says (.int .i64 (cmpOf (val 4294967296 xs) (val 4294967296 ys))) w):=by
  by_cases hl:xs.length=ys.length
  · have hb : ((xs.length : Int) != (ys.length : Int)) = false := by simp [hl]
    have HL:=Lib.hid hl;clear hl;go_enter Tryz.func213,Tryz.ntmps213;go_wp2;go_loopw [5] (fun i wr=>∃ j:Int,∃ n:Nat,-1≤j∧j<xs.length∧i = .int .i64 j∧xs.drop (j+1).toNat=ys.drop (j+1).toNat∧wr=w.drewN n) (fun i _=>(intOf i+1).toNat)
    case atStart=>exact ⟨_,0,by omega,by omega,rfl,by rw [show ((xs.length:Int) - 1+1).toNat=xs.length by omega,List.drop_length,HL.out,List.drop_length],rfl⟩
    case round=>
      obtain ⟨j,n,hj,hjl,rfl,he,rfl⟩:=hrel;have HE:=Lib.hid he;clear he
      by_cases h0:j<0
      · go_wp2;go_ret;exact ⟨ret_int (cmpOf_eq (by have:=HE.out;rw [show (j+1).toNat=0 by omega] at this;simp only [List.drop_zero] at this;rw [this])).symm,n,rfl⟩
      · obtain ⟨k,rfl⟩:=Int.eq_ofNat_of_zero_le (show 0≤j by omega);have hkx:k<xs.length:=by omega
        have hky:k<ys.length:=by have:=HL.out;omega
        obtain ⟨ad,x,rfl,hbx,ex,cx⟩:=hx.ask hkx;obtain ⟨bd,y,rfl,hby,ey,cy⟩:=hy.ask hky;have ek:((k:Int)+1).toNat=k+1:=by omega
        by_cases hxy:x=y
        · subst hxy;have HS:Hid (xs.drop k=ys.drop k):=by
            have:=HE.out;rw [ek] at this;show xs.drop k=ys.drop k;rw [drop_eq xs k hkx,drop_eq ys k hky,ex.out,ey.out,this]
          go_wp2_with (go_quiet (fail));go_roundw
          case rel=>exact ⟨_,_,by omega,by omega,rfl,by rw [show ((k:Int) - 1+1).toNat=k by omega];exact HS.out,rfl⟩
          case measure=>simp [intOf]
        · have HT:=Lib.hid (cmp_top dx dy HL.out hkx (by have:=HE.out;rwa [ek] at this) ex.out ey.out hxy);go_wp2_with (go_quiet ((go_at_call 234;exact quiet_add (cmp_u32 _ _ _))));go_ret;exact ⟨ret_int HT.out,_,rfl⟩
  · have HE:=Lib.hid (cmp_len (by omega) dx dy nx ny hl);go_enter Tryz.func213,Tryz.ntmps213;go_wp2_with (go_at_call 132;refine (cmp_int _ _ _).mono ?_;rintro e w' ⟨rfl,rfl⟩);go_ret;exact ⟨ret_int HE.out,0,rfl⟩
end Go.Proofs.YtgekmfcbbjeahaaGreatDoor
/- wide.compare. -/
namespace Go.Proofs.YtgekmfcbbjeahaaGreatDoor
open Go.RowKit V
set_option maxHeartbeats 400000 in
theorem cmp_u64 (x y:Nat) (w:World) :
    Calls Tryz.prog 192 #[.int .u64 x,.int .u64 y] w fun e w'=>e = .returned (.int .i64 (cmpOf x y))∧w=w':=by
  go_enter Tryz.func192,Tryz.ntmps192;go_wp2
  · go_ret;exact ⟨by rw [cmpOf,if_pos (by omega)];rfl,rfl⟩
  · go_ret;exact ⟨by rw [cmpOf,if_neg (by omega),if_pos (by omega)];rfl,rfl⟩
  · go_ret;exact ⟨by rw [cmpOf,if_neg (by omega),if_neg (by omega)];rfl,rfl⟩
set_option maxHeartbeats 400000 in
theorem wcompare_any (A B : Option Addr) (c d : Nat) (xs ys : List Nat) (w : World) (hx : Rd .u64 w A xs) (hy : Rd .u64 w B ys) (bx : xs.length ≤ 100000)
    (dx:Dig 18446744073709551616 xs) (dy:Dig 18446744073709551616 ys) (nx:Nrm xs) (ny:Nrm ys) :
    Calls Tryz.prog 159 #[.slice A xs.length c,.slice B ys.length d] w (Says (.int .i64 (cmpOf (val 18446744073709551616 xs) (val 18446744073709551616 ys))) w):=by
  by_cases hl:xs.length=ys.length
  · have hb : ((xs.length : Int) != (ys.length : Int)) = false := by simp [hl]
    have HL:=Lib.hid hl;clear hl;go_enter Tryz.func159,Tryz.ntmps159;go_wp2;go_loopw [5] (fun i wr=>∃ j:Int,∃ n:Nat,-1≤j∧j<xs.length∧i = .int .i64 j∧xs.drop (j+1).toNat=ys.drop (j+1).toNat∧wr=w.drewN n) (fun i _=>(intOf i+1).toNat)
    case atStart=>exact ⟨_,0,by omega,by omega,rfl,by rw [show ((xs.length:Int) - 1+1).toNat=xs.length by omega,List.drop_length,HL.out,List.drop_length],rfl⟩
    case round=>
      obtain ⟨j,n,hj,hjl,rfl,he,rfl⟩:=hrel;have HE:=Lib.hid he;clear he
      by_cases h0:j<0
      · go_wp2;go_ret;exact ⟨ret_int (cmpOf_eq (by have:=HE.out;rw [show (j+1).toNat=0 by omega] at this;simp only [List.drop_zero] at this;rw [this])).symm,n,rfl⟩
      · obtain ⟨k,rfl⟩:=Int.eq_ofNat_of_zero_le (show 0≤j by omega);have hkx:k<xs.length:=by omega
        have hky:k<ys.length:=by have:=HL.out;omega
        obtain ⟨ad,x,rfl,hbx,ex,cx⟩:=hx.ask hkx;obtain ⟨bd,y,rfl,hby,ey,cy⟩:=hy.ask hky;have ek:((k:Int)+1).toNat=k+1:=by omega
        by_cases hxy:x=y
        · subst hxy;have HS:Hid (xs.drop k=ys.drop k):=by
            have:=HE.out;rw [ek] at this;show xs.drop k=ys.drop k;rw [drop_eq xs k hkx,drop_eq ys k hky,ex.out,ey.out,this]
          go_wp2_with (go_quiet (fail));go_roundw
          case rel=>exact ⟨_,_,by omega,by omega,rfl,by rw [show ((k:Int) - 1+1).toNat=k by omega];exact HS.out,rfl⟩
          case measure=>simp [intOf]
        · have HT:=Lib.hid (cmp_top dx dy HL.out hkx (by have:=HE.out;rwa [ek] at this) ex.out ey.out hxy);go_wp2_with (go_quiet ((go_at_call 192;exact quiet_add (cmp_u64 _ _ _))));go_ret;exact ⟨ret_int HT.out,_,rfl⟩
  · have HE:=Lib.hid (cmp_len (by omega) dx dy nx ny hl);go_enter Tryz.func159,Tryz.ntmps159;go_wp2_with (go_at_call 132;refine (cmp_int _ _ _).mono ?_;rintro e w' ⟨rfl,rfl⟩);go_ret;exact ⟨ret_int HE.out,0,rfl⟩
end Go.Proofs.YtgekmfcbbjeahaaGreatDoor
