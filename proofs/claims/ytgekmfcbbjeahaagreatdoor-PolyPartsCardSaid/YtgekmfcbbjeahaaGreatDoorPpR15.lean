/- wide.plus. -/
import Derived.Test.YtgekmfcbbjeahaaGreatDoorPpR14
import Derived.Shelf.Spec.BitsCarry
namespace Go.Proofs.YtgekmfcbbjeahaaGreatDoor
open Go.RowKit V
theorem wadd64 (x y c:Nat) (hx:x<18446744073709551616) (hy:y<18446744073709551616) (hc:c≤1):∃ s d:Nat,s<18446744073709551616∧d≤1∧Hid (s+18446744073709551616*d=x+y+c) ∧
    ∀ W,(callFunc 198 #[.int .u64 x,.int .u64 y,.int .u64 c]).run Tryz.prog W = .ok (.value (.tuple #[.int .u64 s,.int .u64 d])) W:=
  ⟨(x + y + c) % 18446744073709551616, (x + y + c) / 18446744073709551616, Nat.mod_lt _ (by omega), by omega, by show _ = _; omega, fun W => by
    rw [run_callFunc_extern Tryz.func198 (by kernel_rfl) (by kernel_rfl) (by kernel_rfl) (e:=add64Entry) (by kernel_rfl),run_add64 x y c (by omega) (by omega) (by omega) (by omega)];simp only [Result.andThen];congr 5 <;> omega⟩
theorem info_u64:(Tryz.prog.info? 112).map (fun i=>(i.zero,i.size,i.bytes))=some (some (.int .u64 0),1,8):=by kernel_rfl
theorem make_u64 (n:Nat) (N:Int) (hN:N=n) (hn:n≤1000000) (w:World) :
    (Instr.makeSlice 89 (.int .i64 N) (.int .i64 N)).run Tryz.prog w = .ok (.slice (some ⟨w.heap.size,0,none⟩) n n) (w.alloc (.cells (nums .u64 (List.replicate n 0)).toArray 112)):=by
  subst hN;obtain ⟨i0,hi,hz0,hz1,hz2⟩:=info_parts info_u64;have hr:=run_make (P:=Tryz.prog) w 89 112 i0 _ Tryz.underlying89 hi hz0 .i64 .i64 n n (by omega) (by omega) (by rw [hz2];omega) (by omega);have e:madeCells (Value.cells (.int .u64 0)) (n*1)=(nums .u64 (List.replicate n 0)).toArray:=by
    apply Array.toList_inj.1;rw [show Value.cells (.int .u64 0) = #[.int .u64 0] from rfl,Nat.mul_one,toList_madeCells_one];simp [nums]
  rw [hr,Int.toNat_natCast,hz1,e]
set_option maxHeartbeats 800000 in
set_option maxRecDepth 8000 in
theorem wadd_ge (L S : Option Addr) (lc sc : Nat) (ls ss : List Nat) (w : World) (hL : Rd .u64 w L ls) (hS : Rd .u64 w S ss) (bl : ls.length ≤ 100000) (hle : ss.length ≤ ls.length)
    (dl:Dig 18446744073709551616 ls) (ds:Dig 18446744073709551616 ss) :
    Calls Tryz.prog 186 #[.slice L ls.length lc,.slice S ss.length sc] w
      (OutW (fun ys=>val 18446744073709551616 ys=val 18446744073709551616 ls+val 18446744073709551616 ss∧Nrm ys∧Dig 18446744073709551616 ys∧ys.length≤ls.length+1) w):=by
  have hb:decide (ls.length<ss.length)=false:=by simp;omega
  have hmk:=fun W=>make_u64 (ls.length+1) ((ls.length:Int)+1) (by omega) (by omega) W
  go_enter Tryz.func186,Tryz.ntmps186;go_wp2;clear hmk;go_loopw [6,7,8,23] (fun cy _ _ i wr=>∃ k c:Nat,∃ cur:List Nat,k≤ss.length∧i = .int .i64 k∧cy = .int .u64 c∧c≤1∧cur.length=ls.length+1∧Dig 18446744073709551616 cur ∧
      val 18446744073709551616 (cur.take k)+18446744073709551616 ^ k*c=val 18446744073709551616 (ls.take k)+val 18446744073709551616 (ss.take k)∧Row .u64 112 wr w.heap.size cur∧Below w.heap.size w wr) (fun _ _ _ i _=>ss.length - (intOf i).toNat)
  case atStart=>exact ⟨0,0,_,Nat.zero_le _,rfl,rfl,by omega,List.length_replicate,Dig.zeros (by omega) _,by simp [val],Row.new _ _,(Below.refl _ _).alloc (Nat.le_refl _) _⟩
  case round=>
    obtain ⟨k,c,cur,hk,rfl,rfl,hc1,hcl,hdc,hv,hrow,hbw⟩:=hrel;have HV:=Lib.hid hv;have HCL:=Lib.hid hcl;clear hv hcl
    by_cases hlt:k<ss.length
    · obtain ⟨ad,x,rfl,hbx,ex,cx⟩:=(hL.below hbw).ask (i:=k) (by omega);obtain ⟨bd,y,rfl,hby,ey,cy⟩:=(hS.below hbw).ask hlt;have hkc:k<cur.length:=by have:=HCL.out;omega
      have hcell:=hrow.cell hkc;have hfr:=hrow.frozen k;have hxl:x<18446744073709551616:=by rw [← ex.out];exact dig_getD dl (by omega) k
      have hyl:y<18446744073709551616:=by rw [← ey.out];exact dig_getD ds (by omega) k
      obtain ⟨s,d,hs,hd,hsd,hrun⟩:=wadd64 x y c hxl hyl (by omega);go_wp2;go_roundw
      case rel=>exact ⟨k+1,d,_,by omega,by go_num,rfl,hd,by rw [List.length_set];exact HCL.out,hdc.set k hs,add_step _ k s c d x y cur ls ss hkc (by omega) hlt ex.out ey.out hsd.out HV.out,hrow.set_ k _,hbw.setCell (Nat.le_refl _) _⟩
      case measure=>simp [intOf];omega
    · obtain rfl:k=ss.length:=by omega
      go_wp2;go_loopw [6,9] (fun cy i wr=>∃ k c:Nat,∃ cur:List Nat,k≤ls.length∧i = .int .i64 k∧cy = .int .u64 c∧c≤1∧cur.length=ls.length+1∧Dig 18446744073709551616 cur ∧
          val 18446744073709551616 (cur.take k)+18446744073709551616 ^ k*c=val 18446744073709551616 (ls.take k)+val 18446744073709551616 ss∧Row .u64 112 wr w.heap.size cur∧Below w.heap.size w wr) (fun _ i _=>ls.length - (intOf i).toNat)
      case atStart=>exact ⟨ss.length,c,cur,hle,rfl,rfl,hc1,HCL.out,hdc,by have:=HV.out;rwa [List.take_length (l:=ss)] at this,hrow,hbw⟩
      case round=>
        clear hdc hrow hbw HV HCL hk hlt hc1;obtain ⟨k,c,cur,hk,rfl,rfl,hc1,hcl,hdc,hv,hrow,hbw⟩:=hrel;have HV:=Lib.hid hv;have HCL:=Lib.hid hcl;clear hv hcl
        by_cases hlt:k<ls.length
        · obtain ⟨ad,x,rfl,hbx,ex,cx⟩:=(hL.below hbw).ask hlt;have hkc:k<cur.length:=by have:=HCL.out;omega
          have hcell:=hrow.cell hkc;have hfr:=hrow.frozen k;have hxl:x<18446744073709551616:=by rw [← ex.out];exact dig_getD dl (by omega) k
          obtain ⟨s,d,hs,hd,hsd,hrun⟩:=wadd64 x 0 c hxl (by omega) hc1;simp only [show ((0:Nat):Int)=0 from rfl] at hrun;go_wp2;go_roundw
          case rel=>exact ⟨k+1,d,_,by omega,by go_num,rfl,hd,by rw [List.length_set];exact HCL.out,hdc.set k hs,add_step1 _ k s c d x _ cur ls hkc hlt ex.out (by have:=hsd.out;omega) HV.out,hrow.set_ k _,hbw.setCell (Nat.le_refl _) _⟩
          case measure=>simp [intOf];omega
        · obtain rfl:k=ls.length:=by omega
          have hkc:ls.length<cur.length:=by have:=HCL.out;omega
          have hcell:=hrow.cell hkc;have hfr:=hrow.frozen ls.length;have hrow2:=hrow.set_ ls.length c;have hbw2:=hbw.setCell (p:=⟨w.heap.size,ls.length,none⟩) (Nat.le_refl _) (.int .u64 c);have hdc2:Dig 18446744073709551616 (cur.set ls.length c):=hdc.set _ (by omega);have HV2:Hid (val 18446744073709551616 (cur.set ls.length c)=val 18446744073709551616 ls+val 18446744073709551616 ss):=by
            have h1:=HV.out;rw [List.take_length] at h1;show _=_;rw [← h1,← val_set_take _ cur ls.length c hkc,List.take_of_length_le (by rw [List.length_set];have:=HCL.out;omega)]
          have HL2:Hid ((cur.set ls.length c).length=ls.length+1):=by show _=_;rw [List.length_set];exact HCL.out
          generalize cur.set ls.length c=fin at *;clear HV HCL;go_wp2_with (go_at_call 168;refine (w6trimn _ _ _ fin _ HL2.out hrow2.rd (Nat.le_refl _) (by omega)).mono ?_;rintro e w1 ⟨m,hm,rfl,hv3,hn3,rfl⟩;have HV3:=Lib.hid hv3;clear hv3);go_ret;have hfl:=HL2.out;exact OutW.of_take hm (by omega) hrow2.rw hbw2 ⟨by rw [HV3.out];exact HV2.out,hn3,hdc2.take m,by rw [List.length_take];omega⟩
set_option maxHeartbeats 800000 in
set_option maxRecDepth 8000 in
theorem wadd_lt (L S : Option Addr) (lc sc : Nat) (ls ss : List Nat) (w : World) (hL : Rd .u64 w L ls) (hS : Rd .u64 w S ss) (bl : ls.length ≤ 100000) (hle : ss.length < ls.length)
    (dl:Dig 18446744073709551616 ls) (ds:Dig 18446744073709551616 ss) :
    Calls Tryz.prog 186 #[.slice S ss.length sc,.slice L ls.length lc] w
      (OutW (fun ys=>val 18446744073709551616 ys=val 18446744073709551616 ls+val 18446744073709551616 ss∧Nrm ys∧Dig 18446744073709551616 ys∧ys.length≤ls.length+1) w):=by
  have hb:decide (ss.length<ls.length)=true:=by simp;omega
  have hmk:=fun W=>make_u64 (ls.length+1) ((ls.length:Int)+1) (by omega) (by omega) W
  go_enter Tryz.func186,Tryz.ntmps186;go_wp2;clear hmk;go_loopw [6,7,8,23] (fun cy _ _ i wr=>∃ k c:Nat,∃ cur:List Nat,k≤ss.length∧i = .int .i64 k∧cy = .int .u64 c∧c≤1∧cur.length=ls.length+1∧Dig 18446744073709551616 cur ∧
      val 18446744073709551616 (cur.take k)+18446744073709551616 ^ k*c=val 18446744073709551616 (ls.take k)+val 18446744073709551616 (ss.take k)∧Row .u64 112 wr w.heap.size cur∧Below w.heap.size w wr) (fun _ _ _ i _=>ss.length - (intOf i).toNat)
  case atStart=>exact ⟨0,0,_,Nat.zero_le _,rfl,rfl,by omega,List.length_replicate,Dig.zeros (by omega) _,by simp [val],Row.new _ _,(Below.refl _ _).alloc (Nat.le_refl _) _⟩
  case round=>
    obtain ⟨k,c,cur,hk,rfl,rfl,hc1,hcl,hdc,hv,hrow,hbw⟩:=hrel;have HV:=Lib.hid hv;have HCL:=Lib.hid hcl;clear hv hcl
    by_cases hlt:k<ss.length
    · obtain ⟨ad,x,rfl,hbx,ex,cx⟩:=(hL.below hbw).ask (i:=k) (by omega);obtain ⟨bd,y,rfl,hby,ey,cy⟩:=(hS.below hbw).ask hlt;have hkc:k<cur.length:=by have:=HCL.out;omega
      have hcell:=hrow.cell hkc;have hfr:=hrow.frozen k;have hxl:x<18446744073709551616:=by rw [← ex.out];exact dig_getD dl (by omega) k
      have hyl:y<18446744073709551616:=by rw [← ey.out];exact dig_getD ds (by omega) k
      obtain ⟨s,d,hs,hd,hsd,hrun⟩:=wadd64 x y c hxl hyl (by omega);go_wp2;go_roundw
      case rel=>exact ⟨k+1,d,_,by omega,by go_num,rfl,hd,by rw [List.length_set];exact HCL.out,hdc.set k hs,add_step _ k s c d x y cur ls ss hkc (by omega) hlt ex.out ey.out hsd.out HV.out,hrow.set_ k _,hbw.setCell (Nat.le_refl _) _⟩
      case measure=>simp [intOf];omega
    · obtain rfl:k=ss.length:=by omega
      go_wp2;go_loopw [6,9] (fun cy i wr=>∃ k c:Nat,∃ cur:List Nat,k≤ls.length∧i = .int .i64 k∧cy = .int .u64 c∧c≤1∧cur.length=ls.length+1∧Dig 18446744073709551616 cur ∧
          val 18446744073709551616 (cur.take k)+18446744073709551616 ^ k*c=val 18446744073709551616 (ls.take k)+val 18446744073709551616 ss∧Row .u64 112 wr w.heap.size cur∧Below w.heap.size w wr) (fun _ i _=>ls.length - (intOf i).toNat)
      case atStart=>exact ⟨ss.length,c,cur,Nat.le_of_lt hle,rfl,rfl,hc1,HCL.out,hdc,by have:=HV.out;rwa [List.take_length (l:=ss)] at this,hrow,hbw⟩
      case round=>
        clear hdc hrow hbw HV HCL hk hlt hc1;obtain ⟨k,c,cur,hk,rfl,rfl,hc1,hcl,hdc,hv,hrow,hbw⟩:=hrel;have HV:=Lib.hid hv;have HCL:=Lib.hid hcl;clear hv hcl
        by_cases hlt:k<ls.length
        · obtain ⟨ad,x,rfl,hbx,ex,cx⟩:=(hL.below hbw).ask hlt;have hkc:k<cur.length:=by have:=HCL.out;omega
          have hcell:=hrow.cell hkc;have hfr:=hrow.frozen k;have hxl:x<18446744073709551616:=by rw [← ex.out];exact dig_getD dl (by omega) k
          obtain ⟨s,d,hs,hd,hsd,hrun⟩:=wadd64 x 0 c hxl (by omega) hc1;simp only [show ((0:Nat):Int)=0 from rfl] at hrun;go_wp2;go_roundw
          case rel=>exact ⟨k+1,d,_,by omega,by go_num,rfl,hd,by rw [List.length_set];exact HCL.out,hdc.set k hs,add_step1 _ k s c d x _ cur ls hkc hlt ex.out (by have:=hsd.out;omega) HV.out,hrow.set_ k _,hbw.setCell (Nat.le_refl _) _⟩
          case measure=>simp [intOf];omega
        · obtain rfl:k=ls.length:=by omega
          have hkc:ls.length<cur.length:=by have:=HCL.out;omega
          have hcell:=hrow.cell hkc;have hfr:=hrow.frozen ls.length;have hrow2:=hrow.set_ ls.length c;have hbw2:=hbw.setCell (p:=⟨w.heap.size,ls.length,none⟩) (Nat.le_refl _) (.int .u64 c);have hdc2:Dig 18446744073709551616 (cur.set ls.length c):=hdc.set _ (by omega);have HV2:Hid (val 18446744073709551616 (cur.set ls.length c)=val 18446744073709551616 ls+val 18446744073709551616 ss):=by
            have h1:=HV.out;rw [List.take_length] at h1;show _=_;rw [← h1,← val_set_take _ cur ls.length c hkc,List.take_of_length_le (by rw [List.length_set];have:=HCL.out;omega)]
          have HL2:Hid ((cur.set ls.length c).length=ls.length+1):=by show _=_;rw [List.length_set];exact HCL.out
          generalize cur.set ls.length c=fin at *;clear HV HCL;go_wp2_with (go_at_call 168;refine (w6trimn _ _ _ fin _ HL2.out hrow2.rd (Nat.le_refl _) (by omega)).mono ?_;rintro e w1 ⟨m,hm,rfl,hv3,hn3,rfl⟩;have HV3:=Lib.hid hv3;clear hv3);go_ret;have hfl:=HL2.out;exact OutW.of_take hm (by omega) hrow2.rw hbw2 ⟨by rw [HV3.out];exact HV2.out,hn3,hdc2.take m,by rw [List.length_take];omega⟩
theorem wplus_any (A B:Option Addr) (c d:Nat) (xs ys:List Nat) (w:World) (hx:Rd .u64 w A xs) (hy:Rd .u64 w B ys) (bx:xs.length≤100000) (by_:ys.length≤100000)
    (dx:Dig 18446744073709551616 xs) (dy:Dig 18446744073709551616 ys) :
    Calls Tryz.prog 186 #[.slice A xs.length c,.slice B ys.length d] w
      (OutW (fun zs=>val 18446744073709551616 zs=val 18446744073709551616 xs+val 18446744073709551616 ys∧Nrm zs∧Dig 18446744073709551616 zs∧zs.length≤max xs.length ys.length+1) w):=by
  rcases Nat.lt_or_ge xs.length ys.length with h | h
  · refine (wadd_lt B A d c ys xs w hy hx by_ h dy dx).mono fun e w'=>?_
    rintro ⟨A,c,zs,he,hc,hr,hb,h1,h2,h3,h4⟩;exact ⟨A,c,zs,he,hc,hr,hb,by omega,h2,h3,by omega⟩
  · refine (wadd_ge A B c d xs ys w hx hy bx h dx dy).mono fun e w'=>?_
    rintro ⟨A,c,zs,he,hc,hr,hb,h1,h2,h3,h4⟩;exact ⟨A,c,zs,he,hc,hr,hb,h1,h2,h3,by omega⟩
end Go.Proofs.YtgekmfcbbjeahaaGreatDoor
/- poly's monomials: place, power, exponent, degree. -/
namespace Go.Proofs.YtgekmfcbbjeahaaGreatDoor
open Go.RowKit V
def ex (m i:Nat):Nat:=m / 256 ^ (7 - i) % 256
theorem ex_lt (m i:Nat):ex m i<256:=Nat.mod_lt _ (by omega)
theorem pow256 (i:Nat):(256:Nat) ^ i=2 ^ (8*i):=by rw [Nat.pow_mul]
set_option maxHeartbeats 400000 in
theorem pplace (i:Nat) (w:World) (hi:i≤7) :
    Calls Tryz.prog 123 #[.int .i64 i] w fun e w'=>e = .returned (.int .i64 ((8*(7 - i):Nat):Int))∧w=w':=by
  go_enter Tryz.func123,Tryz.ntmps123;go_wp2;go_ret;exact ⟨ret_int (by omega),rfl⟩
set_option maxHeartbeats 400000 in
theorem ppower (i k:Nat) (w:World) (hi:i≤7) (hk:k<256) :
    Calls Tryz.prog 76 #[.int .i64 i,.int .i64 k] w fun e w'=>e = .returned (.int .u64 ((k*256 ^ (7 - i):Nat):Int))∧w=w':=by
  obtain ⟨p,hp⟩:∃ p,8*(7 - i)=p:=⟨_,rfl⟩;have hpl:=pplace i w hi;rw [hp] at hpl;have hp56:p≤56:=by omega
  have hv:k*2 ^ p<18446744073709551616:=by
    have h1:2 ^ p≤2 ^ 56:=Nat.pow_le_pow_right (by omega) hp56;have h2:k*2 ^ p≤255*2 ^ 56:=Nat.mul_le_mul (by omega) h1;omega
  have HV:=Lib.hid hv;have HP:=Lib.hid hpl;rw [pow256,hp];clear hpl hp hv;go_enter Tryz.func76,Tryz.ntmps76;go_wp2_with fail;refine HP.out.mono ?_;rintro e w2 ⟨rfl,rfl⟩;go_wp2;go_ret
  exact ⟨ret_int (by have h := HV.out; have e : ((k * 2 ^ p : Nat) : Int) = (k : Int) * 2 ^ p := by simp
                     rw [← e];exact IntWalk.u64_in _ (by omega)),rfl⟩
set_option maxHeartbeats 400000 in
theorem pexponent (m i:Nat) (w:World) (hi:i≤7) (hm:m<18446744073709551616) :
    Calls Tryz.prog 75 #[.int .u64 m,.int .i64 i] w fun e w'=>e = .returned (.int .i64 (ex m i:Nat))∧w=w':=by
  obtain ⟨p,hp⟩:∃ p,8*(7 - i)=p:=⟨_,rfl⟩;have hpl:=pplace i w hi;rw [hp] at hpl;have hp56:p≤56:=by omega
  have HP:=Lib.hid hpl;unfold ex;rw [pow256,hp];clear hpl hp;go_enter Tryz.func75,Tryz.ntmps75;go_wp2_with fail;refine HP.out.mono ?_;rintro e w2 ⟨rfl,rfl⟩;have hd:m / 2 ^ p≤m:=Nat.div_le_self _ _;have HB:Hid (bits BinOp.and IntKind.u64 ((m:Int) / 2 ^ p) 255=(m / 2 ^ p % 256:Nat)):=by
    have h:=u64_and_nat (m / 2 ^ p) 255 (by omega) (by omega);rw [show (255:Nat)=2 ^ 8 - 1 from rfl,Nat.and_two_pow_sub_one_eq_mod] at h;have e:((m / 2 ^ p:Nat):Int)=(m:Int) / 2 ^ p:=by simp
    rw [e] at h;exact h
  have hl:m / 2 ^ p % 256<256:=Nat.mod_lt _ (by omega);clear hd;go_wp2;go_ret;exact ⟨ret_int (by show wrap64 (bits BinOp.and IntKind.u64 ((m:Int) / 2 ^ p) 255)=_;rw [HB.out];generalize m / 2 ^ p % 256=y at hl;unfold wrap64;omega),rfl⟩
def degTo (m:Nat):Nat→Nat
  | 0=>0
  | k+1=>degTo m k+ex m k
def deg (m:Nat):Nat:=degTo m 8
theorem degTo_le (m k:Nat):degTo m k≤255*k:=by
  induction k with
  | zero=>simp [degTo]
  | succ k ih=>have:=ex_lt m k;simp only [degTo];omega
set_option maxHeartbeats 400000 in
theorem pdegree (m:Nat) (w:World) (hm:m<18446744073709551616) :
    Calls Tryz.prog 122 #[.int .u64 m] w fun e w'=>e = .returned (.int .i64 (deg m:Nat))∧w=w':=by
  go_enter Tryz.func122,Tryz.ntmps122;go_wp2;go_loop [3,4,5] (fun t _ i=>∃ k:Nat,k≤8∧i = .int .i64 k∧t = .int .i64 (degTo m k:Nat)) (fun _ _ i=>8 - (intOf i).toNat)
  case atStart=>exact ⟨0,by omega,rfl,rfl⟩
  case round=>
    obtain ⟨k,hk,rfl,rfl⟩:=hrel;have hl:=degTo_le m k
    by_cases hlt:k<8
    · have hx:=ex_lt m k;go_wp2_with (go_at_call 75;refine (pexponent m k _ (by omega) hm).mono ?_;rintro e w' ⟨rfl,rfl⟩);go_round
      case rel=>exact ⟨k+1,by omega,by go_num,by go_num⟩
      case measure=>simp [intOf];omega
    · obtain rfl:k=8:=by omega
      go_wp2;go_ret;exact ⟨rfl,rfl⟩
end Go.Proofs.YtgekmfcbbjeahaaGreatDoor
/- poly's pack, unpack, validExps: exponents in a slice and in a word. -/
namespace Go.Proofs.YtgekmfcbbjeahaaGreatDoor
open Go.RowKit V
def packTo (xs:List Nat):Nat→Nat
  | 0=>0
  | k+1=>packTo xs k+xs.getD k 0*256 ^ (7 - k)
def packL (xs:List Nat):Nat:=packTo xs xs.length
theorem packTo_le (xs:List Nat) (h:∀ x ∈ xs,x<256):∀ k,k≤8→packTo xs k+256 ^ (8 - k)≤256 ^ 8
  | 0,_=>by simp [packTo]
  | k + 1, hk => by
    have ih:=packTo_le xs h k (by omega);have hx:xs.getD k 0<256:=dig_getD h (by omega) k;have e:256 ^ (8 - k)=256*256 ^ (8 - (k+1)):=by
      rw [show 8 - k=(8 - (k+1))+1 by omega,Nat.pow_succ,Nat.mul_comm]
    simp only [packTo];rw [show 7 - k=8 - (k+1) by omega];have h2:(xs.getD k 0+1)*256 ^ (8 - (k+1))≤256*256 ^ (8 - (k+1)):=Nat.mul_le_mul_right _ hx;rw [Nat.add_mul,Nat.one_mul] at h2;omega
theorem packTo_lt (xs:List Nat) (h:∀ x ∈ xs,x<256) (k:Nat) (hk:k≤8):packTo xs k<18446744073709551616:=by
  have:=packTo_le xs h k hk;have h2:0<256 ^ (8 - k):=Nat.pow_pos (by omega);omega
set_option maxHeartbeats 400000 in
theorem ppack (A:Option Addr) (c:Nat) (xs:List Nat) (w:World) (hx:Rd .i64 w A xs) (hl:xs.length≤8) (hd:∀ x ∈ xs,x<256) :
    Calls Tryz.prog 106 #[.slice A xs.length c] w fun e w'=>e = .returned (.int .u64 (packL xs:Nat))∧w=w':=by
  have HD:=Lib.hid hd;clear hd;go_enter Tryz.func106,Tryz.ntmps106;go_wp2;go_loop [3,4,5,8] (fun m _ _ i=>∃ k:Nat,k≤xs.length∧i = .int .i64 k∧m = .int .u64 (packTo xs k:Nat)) (fun _ _ _ i=>xs.length - (intOf i).toNat)
  case atStart=>exact ⟨0,by omega,rfl,rfl⟩
  case round=>
    obtain ⟨k,hk,rfl,rfl⟩:=hrel
    by_cases hlt:k<xs.length
    · obtain ⟨ad,x,rfl,hbx,ex_,cx⟩:=hx.ask hlt;have hxl:x<256:=by rw [← ex_.out];exact dig_getD HD.out (by omega) k
      have hp1:=packTo_lt xs HD.out (k+1) (by omega);simp only [packTo,ex_.out] at hp1;have HS:Hid (packTo xs (k+1)=packTo xs k+x*256 ^ (7 - k)):=by show _=_;simp only [packTo,ex_.out]
      generalize hg:x*256 ^ (7 - k)=y at hp1 HS;have HG:=Lib.hid hg;clear hg;have hpw:=fun W=>ppower k x W (by omega) hxl
      rw [HG.out] at hpw;have HPW:=Lib.hid hpw;clear hpw;go_wp2_with (go_at_call 76;refine (HPW.out _).mono ?_;rintro e w' ⟨rfl,rfl⟩);go_round
      case rel=>exact ⟨k+1,by omega,by go_num,by rw [HS.out];go_num⟩
      case measure=>simp [intOf];omega
    · obtain rfl:k=xs.length:=by omega
      go_wp2;go_ret;exact ⟨rfl,rfl⟩
theorem info_int:(Tryz.prog.info? 3).map (fun i=>(i.zero,i.size,i.bytes))=some (some (.int .i64 0),1,8):=by kernel_rfl
theorem make_ints (n:Nat) (N:Int) (hN:N=n) (hn:n≤1000000) (w:World) :
    (Instr.makeSlice 43 (.int .i64 N) (.int .i64 N)).run Tryz.prog w = .ok (.slice (some ⟨w.heap.size,0,none⟩) n n) (w.alloc (.cells (nums .i64 (List.replicate n 0)).toArray 3)):=by
  subst hN;obtain ⟨i0,hi,hz0,hz1,hz2⟩:=info_parts info_int;have hr:=run_make (P:=Tryz.prog) w 43 3 i0 _ Tryz.underlying43 hi hz0 .i64 .i64 n n (by omega) (by omega) (by rw [hz2];omega) (by omega);have e:madeCells (Value.cells (.int .i64 0)) (n*1)=(nums .i64 (List.replicate n 0)).toArray:=by
    apply Array.toList_inj.1;rw [show Value.cells (.int .i64 0) = #[.int .i64 0] from rfl,Nat.mul_one,toList_madeCells_one];simp [nums]
  rw [hr,Int.toNat_natCast,hz1,e]
def exL (m n:Nat):List Nat:=(List.range n).map (ex m)
theorem exL_len (m n:Nat):(exL m n).length=n:=by simp [exL]
theorem exL_get (m n i:Nat) (h:i<n):(exL m n).getD i 0=ex m i:=by simp [exL,List.getD_eq_getElem?_getD,h]
theorem exL_succ (m n:Nat):exL m (n+1)=exL m n ++ [ex m n]:=by simp [exL,List.range_succ]
def UnpackP (m n:Nat) (w:World) (e:Ending) (w':World):Prop:=
  ∃ g,e = .returned (.slice (some ⟨g,0,none⟩) n n)∧Row .i64 3 w' g (exL m n)∧w.heap.size≤g∧Below w.heap.size w w'
theorem set_part (m n k:Nat) (h:k<n):(exL m k ++ List.replicate (n - k) 0).set k (ex m k)=exL m (k+1) ++ List.replicate (n - (k+1)) 0:=by
  rw [List.set_append_right _ _ (by rw [exL_len];omega),exL_len,Nat.sub_self,show n - k=(n - (k+1))+1 by omega,List.replicate_succ,List.set_cons_zero,exL_succ,List.append_assoc];rfl
set_option maxHeartbeats 400000 in
theorem punpack (m n:Nat) (w:World) (hn:n≤8) (hm:m<18446744073709551616) :
    Calls Tryz.prog 98 #[.int .u64 m,.int .i64 n] w (UnpackP m n w):=by
  have hmk:=fun W=>make_ints n (n:Int) rfl (by omega) W
  go_enter Tryz.func98,Tryz.ntmps98;go_wp2;clear hmk;go_loopw [6,11] (fun _ i wr=>∃ k:Nat,k≤n∧i = .int .i64 k∧Row .i64 3 wr w.heap.size (exL m k ++ List.replicate (n - k) 0)∧Below w.heap.size w wr) (fun _ i _=>n - (intOf i).toNat)
  case atStart=>exact ⟨0,by omega,rfl,Row.new _ _,(Below.refl _ _).alloc (Nat.le_refl _) _⟩
  case round=>
    obtain ⟨k,hk,rfl,hrow,hbw⟩:=hrel
    by_cases hlt:k<n
    · have hll:k<(exL m k ++ List.replicate (n - k) 0).length:=by rw [List.length_append,exL_len,List.length_replicate];omega
      have hcell:=hrow.cell hll;have hfr:=hrow.frozen k;go_wp2_with (go_at_call 75;refine (pexponent m k _ (by omega) hm).mono ?_;rintro e w' ⟨rfl,rfl⟩);go_roundw
      case rel=>exact ⟨k+1,by omega,by go_num,by rw [← set_part m n k hlt];exact hrow.set_ k _,hbw.setCell (Nat.le_refl _) _⟩
      case measure=>simp [intOf];omega
    · obtain rfl:k=n:=by omega
      go_wp2;go_ret;exact ⟨_,rfl,by simpa using hrow,Nat.le_refl _,hbw⟩
end Go.Proofs.YtgekmfcbbjeahaaGreatDoor
/- Slices of signed words as a caller hands them in; poly.validExps. -/
namespace Go.Proofs.YtgekmfcbbjeahaaGreatDoor
open Go.RowKit V
def RdI (w:World) (A:Option Addr) (xs:List Int):Prop:=
  0<xs.length → ∃ ad,A=some ad∧ad.block<w.heap.size ∧ ∀ j x,xs[j]?=some x→w.cell? (ad.add j)=some (.int .i64 x)
theorem RdI.below {w w':World} {A:Option Addr} {xs:List Int} (h:RdI w A xs) (hb:Below w.heap.size w w'):RdI w' A xs:=fun hn=>by
  obtain ⟨ad,e,hl,hc⟩:=h hn;exact ⟨ad,e,Nat.lt_of_lt_of_le hl hb.size,fun j x hx=>(hb.cell (by rw [block_of_add];exact hl)).trans (hc j x hx)⟩
theorem RdI.drew {w:World} {A:Option Addr} {xs:List Int} (h:RdI w A xs):RdI w.drew A xs:=h
theorem RdI.ask {w:World} {A:Option Addr} {xs:List Int} (h:RdI w A xs) {k:Nat} (hk:k<xs.length):∃ ad x,A=some ad∧ad.block<w.heap.size∧Hid (xs[k]?=some x)∧w.cell? (ad.add k)=some (.int .i64 x):=by
  obtain ⟨ad,e,hl,hc⟩:=h (by omega);exact ⟨ad,xs[k],e,hl,List.getElem?_eq_getElem hk,hc k _ (List.getElem?_eq_getElem hk)⟩
theorem RdI.rd {w:World} {A:Option Addr} {es:List Nat} (h:RdI w A (es.map fun (x:Nat)=>(x:Int))):Rd .i64 w A es:=fun hn=>by
  obtain ⟨ad,e,hl,hc⟩:=h (by simpa using hn);refine ⟨ad,e,hl,fun j hj=>?_⟩;rw [hc j (es.getD j 0:Nat) (by simp [List.getD_eq_getElem?_getD,hj])]
theorem Rd.ints {w:World} {A:Option Addr} {es:List Nat} (h:Rd .i64 w A es):RdI w A (es.map fun (x:Nat)=>(x:Int)):=fun hn=>by
  obtain ⟨ad,e,hl,hc⟩:=h (by simpa using hn);refine ⟨ad,e,hl,fun j x hx=>?_⟩;have hj:j<es.length:=by have:=(List.getElem?_eq_some_iff.1 hx).1;simpa using this
  rw [hc j hj];simp [hj] at hx;simp [List.getD_eq_getElem?_getD,hj,hx]
def Exp (x:Int):Prop:=0≤x∧x≤40
def EV (n:Int) (es:List Int):Prop:=(es.length:Int)=n∧(∀ x ∈ es,Exp x)∧es.sum≤40
theorem sum_bounds (l:List Int) (h:∀ x ∈ l,Exp x):0≤l.sum∧l.sum≤40*l.length:=by
  induction l with
  | nil=>simp
  | cons a r ih =>
    have h1:=ih fun x hx=>h x (List.mem_cons_of_mem _ hx)
    have h2:=h a List.mem_cons_self;unfold Exp at h2;rw [List.sum_cons,List.length_cons];omega
theorem EV.nat {n : Int} {es : List Int} (h : EV n es) : ∃ ns : List Nat, es = ns.map (fun (x : Nat) => (x : Int)) ∧ (ns.length : Int) = n ∧ ns.sum ≤ 40 := by
  refine ⟨es.map Int.toNat,?_,by simpa using h.1,?_⟩
  · rw [List.map_map];have:es.map ((fun x:Nat=>(x:Int)) ∘ Int.toNat)=es.map id:=List.map_congr_left fun x hx=>by
      have:=(h.2.1 x hx).1;show ((x.toNat:Nat):Int)=x;omega
    rw [this,List.map_id]
  · have key:∀ l:List Int,(∀ x ∈ l,Exp x)→((l.map Int.toNat).sum:Int)=l.sum:=by
      intro l
      induction l with
      | nil=>intro _;rfl
      | cons a r ih =>
        intro hl;have h1:=ih fun x hx=>hl x (List.mem_cons_of_mem _ hx)
        have h2:=(hl a List.mem_cons_self).1;rw [List.map_cons,List.sum_cons,List.sum_cons];omega
    have:=key es h.2.1;have:=h.2.2;omega
theorem EV.of_nat {es:List Nat} {n:Nat} (hl:es.length=n) (hs:es.sum≤40):EV n (es.map fun (x:Nat)=>(x:Int)):=by
  have key:∀ l:List Nat,(l.map (fun (x:Nat)=>(x:Int))).sum=(l.sum:Int):=by
    intro l
    induction l with
    | nil=>rfl
    | cons a r ih=>rw [List.map_cons,List.sum_cons,List.sum_cons,ih];omega
  refine ⟨by simp [hl],fun x hx=>?_,by rw [key];omega⟩;obtain ⟨y,hy,rfl⟩:=List.mem_map.1 hx;have:=le_sum hy;unfold Exp;omega
set_option maxRecDepth 100000 in
set_option maxHeartbeats 800000 in
theorem pvalidExps (n : Int) (A : Option Addr) (c : Nat) (es : List Int) (w : World) (h : RdI w A es) (hn : n ≤ 8) (v : Bool) (hv : v = true ↔ EV n es) :
    Calls Tryz.prog 84 #[.slice A es.length c,.int .i64 n] w fun e w'=>e = .returned (.bool v)∧w=w':=by
  have HV:=Lib.hid hv;clear hv
  by_cases hl:(es.length:Int)=n
  · go_enter Tryz.func84,Tryz.ntmps84;go_wp2;go_loop [5,7,14] (fun d _ i=>∃ k:Nat,k≤es.length∧i = .int .i64 k∧d = .int .i64 (es.take k).sum∧Hid (∀ x ∈ es.take k,Exp x)) (fun _ _ i=>es.length - (intOf i).toNat)
    case atStart=>exact ⟨0,by omega,rfl,rfl,fun x hx=>by simp at hx⟩
    case round=>
      obtain ⟨k,hk,rfl,rfl,hall⟩:=hrel;have hsb:=sum_bounds _ hall.out;rw [List.length_take,Nat.min_eq_left hk] at hsb
      by_cases hlt:k<es.length
      · obtain ⟨ad,x,rfl,hbx,ex_,cx⟩:=h.ask hlt
        by_cases hx:Exp x
        · have hx1:=hx.1;have hx2:=hx.2;have HS:Hid ((es.take (k+1)).sum=(es.take k).sum+x):=by show _=_;rw [List.take_add_one,ex_.out];simp
          have HA:Hid (∀ y ∈ es.take (k+1),Exp y):=by
            intro y hy;rw [List.take_add_one,ex_.out] at hy;rcases List.mem_append.1 hy with h1 | h1
            · exact hall.out y h1
            · simp at h1;rw [h1];exact hx
          generalize (es.take k).sum=s at hsb HS ⊢;clear hx;go_wp2;go_round
          case rel=>exact ⟨k+1,by omega,by go_num,by rw [HS.out],HA⟩
          case measure=>simp [intOf];omega
        · have hvf:v=false:=by
            cases hb:v with
            | false=>rfl
            | true=>exact absurd ((HV.out.1 hb).2.1 x (List.mem_of_getElem? ex_.out)) hx
          subst hvf;generalize (es.take k).sum=s at hsb ⊢
          by_cases h0:0≤x
          · have h40:40<x:=by unfold Exp at hx;omega
            clear hx;go_wp2;go_ret;exact ⟨rfl,rfl⟩
          · clear hx;go_wp2;go_ret;exact ⟨rfl,rfl⟩
      · have he:k=es.length:=by omega
        subst he;rw [List.take_length] at hall hsb ⊢;have hvd:v=decide (es.sum≤40):=by
          have h2:=HV.out;rw [Bool.eq_iff_iff,h2,decide_eq_true_iff];exact ⟨fun h=>h.2.2,fun h=>⟨hl,hall.out,h⟩⟩
        generalize es.sum=s at hsb hvd ⊢;subst hvd;go_wp2;go_ret;exact ⟨rfl,rfl⟩
  · have hvf:v=false:=by
      cases hb:v with
      | false=>rfl
      | true=>exact absurd (HV.out.1 hb).1 hl
    subst hvf;go_enter Tryz.func84,Tryz.ntmps84;go_wp2;go_ret;exact ⟨rfl,rfl⟩
end Go.Proofs.YtgekmfcbbjeahaaGreatDoor
/- wide.bitLen and wide.shortLen: the number of binary digits, and of words of 32 bits. -/
namespace Go.Proofs.YtgekmfcbbjeahaaGreatDoor
open Go.RowKit V
def V64 (xs:List Nat):Nat:=val 18446744073709551616 xs
def Mag64 (xs:List Nat):Prop:=Dig 18446744073709551616 xs∧Nrm xs
theorem Mag64.eq {xs ys:List Nat} (hx:Mag64 xs) (hy:Mag64 ys) (h:V64 xs=V64 ys):xs=ys:=val_inj hx.1 hy.1 hx.2 hy.2 h
theorem mag64_nil:Mag64 []:=⟨fun _ h=>by simp at h,nrm_nil⟩
theorem V64_one (x:Nat):V64 [x]=x:=val_one _ x
theorem mag64_one (x:Nat) (h:x<18446744073709551616) (h0:x≠0):Mag64 [x]:=⟨fun y hy=>by simp at hy;omega,fun _=>by simpa using h0⟩
theorem V64_pos {xs:List Nat} (m:Mag64 xs) (h:0<xs.length):0<V64 xs:=by
  rcases Nat.eq_zero_or_pos (V64 xs) with h0 | h0
  · have:=val_zero (B:=18446744073709551616) (by omega) m.2 h0;rw [this] at h;simp at h
  · exact h0
theorem V64_pos_iff {xs:List Nat} (m:Mag64 xs):0<xs.length↔0<V64 xs:=by
  constructor
  · exact fun h=>V64_pos m h
  · intro h;rcases Nat.eq_zero_or_pos xs.length with h0 | h0
    · rw [List.eq_nil_of_length_eq_zero h0] at h;simp [V64,val] at h
    · exact h0
theorem len_bits64 (x:Nat) (h:x<18446744073709551616) (h0:x≠0):IsBits x (Lib.bitLen x)∧1≤Lib.bitLen x∧Lib.bitLen x≤64:=by
  have h1:=Lib.bitLenAux_bounds 64 x (by omega) h0;exact ⟨⟨h1.2.2,fun _=>h1.2.1⟩,h1.1,Lib.bitLen_le x 64 (by omega) (by omega)⟩
theorem bits_top64 {xs:List Nat} (hd:Dig 18446744073709551616 xs) (h:0<xs.length) {x l:Nat} (ex:xs.getD (xs.length - 1) 0=x) (hl:IsBits x l) (hl1:1≤l):IsBits (V64 xs) (64*(xs.length - 1)+l):=by
  have h1:=val_take_succ 18446744073709551616 xs (xs.length - 1) (by omega);rw [Nat.sub_add_cancel (by omega),List.take_length,ex] at h1;have h2:=val_lt 18446744073709551616 (xs.take (xs.length - 1)) (hd.take _);rw [List.length_take,Nat.min_eq_left (by omega)] at h2;have e:(18446744073709551616:Nat) ^ (xs.length - 1)=2 ^ (64*(xs.length - 1)):=by rw [Nat.pow_mul]
  rw [e] at h1 h2;unfold V64;rw [h1];refine ⟨?_,fun _=>?_⟩
  · have h3:2 ^ (64*(xs.length - 1))*(x+1)≤2 ^ (64*(xs.length - 1))*2 ^ l:=Nat.mul_le_mul_left _ hl.1;rw [Nat.pow_add];rw [Nat.mul_add] at h3;omega
  · have h3:2 ^ (64*(xs.length - 1))*2 ^ (l - 1)≤2 ^ (64*(xs.length - 1))*x:=Nat.mul_le_mul_left _ (hl.2 hl1);rw [show 64*(xs.length - 1)+l - 1=64*(xs.length - 1)+(l - 1) by omega,Nat.pow_add];omega
def BitsM (v m:Nat) (w:World) (e:Ending) (w':World):Prop:=∃ b:Nat,e = .returned (.int .i64 b)∧IsBits v b∧b≤m∧w=w'
set_option maxRecDepth 100000 in
set_option maxHeartbeats 400000 in
theorem wbitLen (A:Option Addr) (ca:Nat) (xs:List Nat) (w:World) (hx:Rd .u64 w A xs) (bx:xs.length≤200000) (mx:Mag64 xs) :
    Calls Tryz.prog 193 #[.slice A xs.length ca] w (BitsM (V64 xs) (64*xs.length) w):=by
  by_cases h0:xs.length=0
  · have hb:((xs.length:Int) == 0)=true:=by simp [h0]
    obtain rfl:xs=[]:=List.eq_nil_of_length_eq_zero h0;go_enter Tryz.func193,Tryz.ntmps193;go_wp2;go_ret;exact ⟨0,rfl,bits_zero,by omega,rfl⟩
  · have hb:((xs.length:Int) == 0)=false:=beq_eq_false_iff_ne.2 (by omega);obtain ⟨ad,x,rfl,hbx,ex,cx⟩:=hx.ask (i:=xs.length - 1) (by omega);have hxl:x<18446744073709551616:=by rw [← ex.out];exact dig_getD mx.1 (by omega) _
    have hx0:x≠0:=by rw [← ex.out];exact mx.2 (by omega)
    obtain ⟨h1,h2,h3⟩:=len_bits64 x hxl hx0;have HB:Hid (IsBits (V64 xs) (64*(xs.length - 1)+Lib.bitLen x)):=bits_top64 mx.1 (by omega) ex.out h1 h2;obtain ⟨l,hl⟩:∃ l,Lib.bitLen x=l:=⟨_,rfl⟩;have hcall:=Tryz.bits_Len64 (x:Int) w (by omega) (by omega);rw [Int.toNat_natCast,hl] at hcall;rw [hl] at HB h2 h3;have HCALL:=Lib.hid hcall;clear hcall h1 hl;go_enter Tryz.func193,Tryz.ntmps193;go_wp2_with fail;refine HCALL.out.mono ?_;rintro e w2 ⟨rfl,rfl⟩;go_wp2;go_ret;exact ⟨64*(xs.length - 1)+l,by go_num,HB.out,by omega,rfl⟩
def IsShort (v n:Nat):Prop:=v<4294967296 ^ n∧(0<n→4294967296 ^ (n - 1)≤v)
theorem short_of_bits {v b:Nat} (h:IsBits v b):IsShort v ((b+31) / 32):=by
  have e:∀ k:Nat,(4294967296:Nat) ^ k=2 ^ (32*k):=fun k=>by rw [Nat.pow_mul]
  constructor
  · rw [e];exact Nat.lt_of_lt_of_le h.1 (Nat.pow_le_pow_right (by omega) (by omega))
  · intro hn;rw [e];exact Nat.le_trans (Nat.pow_le_pow_right (by omega) (by omega)) (h.2 (by omega))
theorem IsShort.eq {v b c:Nat} (h:IsShort v b) (k:IsShort v c):b=c:=by
  have key:∀ b c:Nat,IsShort v b→IsShort v c→b≤c:=fun b c h k=>by
    rcases Nat.lt_or_ge c b with h1 | h1
    · have h2:=h.2 (by omega);have h3:(4294967296:Nat) ^ c≤4294967296 ^ (b - 1):=Nat.pow_le_pow_right (by omega) (by omega);have:=k.1;omega
    · exact h1
  exact Nat.le_antisymm (key b c h k) (key c b k h)
def ShortM (v m:Nat) (w:World) (e:Ending) (w':World):Prop:=∃ n:Nat,e = .returned (.int .i64 n)∧IsShort v n∧n≤m∧w=w'
set_option maxHeartbeats 400000 in
theorem wshortLen (A:Option Addr) (ca:Nat) (xs:List Nat) (w:World) (hx:Rd .u64 w A xs) (bx:xs.length≤200000) (mx:Mag64 xs) :
    Calls Tryz.prog 185 #[.slice A xs.length ca] w (ShortM (V64 xs) (2*xs.length) w):=by
  go_enter Tryz.func185,Tryz.ntmps185;go_wp2_with fail;refine (wbitLen A ca xs _ hx bx mx).mono ?_;rintro e w2 ⟨b,rfl,hb,hbl,rfl⟩;have HS:=Lib.hid (short_of_bits hb);clear hb;go_wp2;go_ret;exact ⟨(b+31) / 32,by go_num,HS.out,by omega,rfl⟩
end Go.Proofs.YtgekmfcbbjeahaaGreatDoor
/- wide.minus. -/
namespace Go.Proofs.YtgekmfcbbjeahaaGreatDoor
open Go.RowKit V
theorem wsub64 (x y c:Nat) (hx:x<18446744073709551616) (hy:y<18446744073709551616) (hc:c≤1):∃ s d:Nat,s<18446744073709551616∧d≤1∧Hid (s+y+c=x+18446744073709551616*d) ∧
    ∀ W,(callFunc 212 #[.int .u64 x,.int .u64 y,.int .u64 c]).run Tryz.prog W = .ok (.value (.tuple #[.int .u64 s,.int .u64 d])) W:=
  ⟨(x + 18446744073709551616 - y - c) % 18446744073709551616, (if x < y + c then 1 else 0), Nat.mod_lt _ (by omega), by split <;> omega, by show _ = _; split <;> omega, fun W => by
    rw [run_callFunc_extern Tryz.func212 (by kernel_rfl) (by kernel_rfl) (by kernel_rfl) (e:=sub64Entry) (by kernel_rfl),run_sub64 x y c hc];rfl⟩
set_option maxHeartbeats 800000 in
set_option maxRecDepth 8000 in
theorem wminus_any (L S : Option Addr) (lc sc : Nat) (ls ss : List Nat) (w : World) (hL : Rd .u64 w L ls) (hS : Rd .u64 w S ss) (bl : ls.length ≤ 100000) (hle : ss.length ≤ ls.length)
    (dl:Dig 18446744073709551616 ls) (ds:Dig 18446744073709551616 ss) (hge:val 18446744073709551616 ss≤val 18446744073709551616 ls) :
    Calls Tryz.prog 187 #[.slice L ls.length lc,.slice S ss.length sc] w
      (OutW (fun ys=>val 18446744073709551616 ys+val 18446744073709551616 ss=val 18446744073709551616 ls∧Nrm ys∧Dig 18446744073709551616 ys∧ys.length≤ls.length) w):=by
  have hmk:=fun W=>make_u64 ls.length ls.length rfl (by omega) W
  go_enter Tryz.func187,Tryz.ntmps187;go_wp2;clear hmk;go_loopw [6,7,8,15] (fun cy _ _ i wr=>∃ k c:Nat,∃ cur:List Nat,k≤ss.length∧i = .int .i64 k∧cy = .int .u64 c∧c≤1∧cur.length=ls.length∧Dig 18446744073709551616 cur ∧
      val 18446744073709551616 (cur.take k)+val 18446744073709551616 (ss.take k)=val 18446744073709551616 (ls.take k)+18446744073709551616 ^ k*c∧Row .u64 112 wr w.heap.size cur∧Below w.heap.size w wr) (fun _ _ _ i _=>ss.length - (intOf i).toNat)
  case atStart=>exact ⟨0,0,_,Nat.zero_le _,rfl,rfl,by omega,List.length_replicate,Dig.zeros (by omega) _,by simp [val],Row.new _ _,(Below.refl _ _).alloc (Nat.le_refl _) _⟩
  case round=>
    obtain ⟨k,c,cur,hk,rfl,rfl,hc1,hcl,hdc,hv,hrow,hbw⟩:=hrel;have HV:=Lib.hid hv;have HCL:=Lib.hid hcl;clear hv hcl
    by_cases hlt:k<ss.length
    · obtain ⟨ad,x,rfl,hbx,ex,cx⟩:=(hL.below hbw).ask (i:=k) (by omega);obtain ⟨bd,y,rfl,hby,ey,cy⟩:=(hS.below hbw).ask hlt;have hkc:k<cur.length:=by have:=HCL.out;omega
      have hcell:=hrow.cell hkc;have hfr:=hrow.frozen k;have hxl:x<18446744073709551616:=by rw [← ex.out];exact dig_getD dl (by omega) k
      have hyl:y<18446744073709551616:=by rw [← ey.out];exact dig_getD ds (by omega) k
      obtain ⟨s,d,hs,hd,hsd,hrun⟩:=wsub64 x y c hxl hyl (by omega);go_wp2;go_roundw
      case rel=>exact ⟨k+1,d,_,by omega,by go_num,rfl,hd,by rw [List.length_set];exact HCL.out,hdc.set k hs,sub_step _ k s c d x y cur ls ss hkc (by omega) hlt ex.out ey.out hsd.out HV.out,hrow.set_ k _,hbw.setCell (Nat.le_refl _) _⟩
      case measure=>simp [intOf];omega
    · obtain rfl:k=ss.length:=by omega
      go_wp2;go_loopw [6,9] (fun cy i wr=>∃ k c:Nat,∃ cur:List Nat,k≤ls.length∧i = .int .i64 k∧cy = .int .u64 c∧c≤1∧cur.length=ls.length∧Dig 18446744073709551616 cur ∧
          val 18446744073709551616 (cur.take k)+val 18446744073709551616 ss=val 18446744073709551616 (ls.take k)+18446744073709551616 ^ k*c∧Row .u64 112 wr w.heap.size cur∧Below w.heap.size w wr) (fun _ i _=>ls.length - (intOf i).toNat)
      case atStart=>exact ⟨ss.length,c,cur,hle,rfl,rfl,hc1,HCL.out,hdc,by have:=HV.out;rwa [List.take_length (l:=ss)] at this,hrow,hbw⟩
      case round=>
        clear hdc hrow hbw HV HCL hk hlt hc1;obtain ⟨k,c,cur,hk,rfl,rfl,hc1,hcl,hdc,hv,hrow,hbw⟩:=hrel;have HV:=Lib.hid hv;have HCL:=Lib.hid hcl;clear hv hcl
        by_cases hlt:k<ls.length
        · obtain ⟨ad,x,rfl,hbx,ex,cx⟩:=(hL.below hbw).ask hlt;have hkc:k<cur.length:=by have:=HCL.out;omega
          have hcell:=hrow.cell hkc;have hfr:=hrow.frozen k;have hxl:x<18446744073709551616:=by rw [← ex.out];exact dig_getD dl (by omega) k
          obtain ⟨s,d,hs,hd,hsd,hrun⟩:=wsub64 x 0 c hxl (by omega) hc1;simp only [show ((0:Nat):Int)=0 from rfl] at hrun;go_wp2;go_roundw
          case rel=>exact ⟨k+1,d,_,by omega,by go_num,rfl,hd,by rw [List.length_set];exact HCL.out,hdc.set k hs,sub_step1 _ k s c d x _ cur ls hkc hlt ex.out (by have:=hsd.out;omega) HV.out,hrow.set_ k _,hbw.setCell (Nat.le_refl _) _⟩
          case measure=>simp [intOf];omega
        · obtain rfl:k=ls.length:=by omega
          have HV2:Hid (val 18446744073709551616 cur+val 18446744073709551616 ss=val 18446744073709551616 ls):=by
            have h1:=HV.out;rw [List.take_length,List.take_of_length_le (by have:=HCL.out;omega)] at h1;exact sub_end hdc HCL.out hge h1 hc1
          clear HV;go_wp2_with (go_at_call 168;refine (w6trimn _ _ _ cur _ HCL.out hrow.rd (Nat.le_refl _) (by omega)).mono ?_;rintro e w1 ⟨m,hm,rfl,hv3,hn3,rfl⟩;have HV3:=Lib.hid hv3;clear hv3);go_ret;have hfl:=HCL.out;exact OutW.of_take hm (by omega) hrow.rw hbw ⟨by rw [HV3.out];exact HV2.out,hn3,hdc.take m,by rw [List.length_take];omega⟩
end Go.Proofs.YtgekmfcbbjeahaaGreatDoor
