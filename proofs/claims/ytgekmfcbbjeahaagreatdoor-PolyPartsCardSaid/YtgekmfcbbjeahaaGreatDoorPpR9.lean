/- isochroneref01.digit and little; numbers of at most 50000 digits. -/
import Derived.Test.YtgekmfcbbjeahaaGreatDoorPpR8
import Derived.Deep.LoopGhost
import Derived.Lib.ItoaNum
import Derived.Test.YtgekmfcbbjeahaaGreatDoorShelf
import Derived.Lib.AppendIntMem
import Derived.Laws.IdiomCopy
import Derived.Lib.SmallJoins
import Derived.Laws.IdiomStrings
namespace Go.Proofs.YtgekmfcbbjeahaaGreatDoor
open Go.RowKit V
def DigitP (r b:Nat) (w:World) (e:Ending) (w':World):Prop:=
  ∃ q:Nat,e = .returned (.int .i64 q)∧q<10000∧b*q≤r∧r<b*(q+1)∧Below w.heap.size w w'
theorem quot_fact (t l:Nat) (ht:t≤999999999999):∃ q:Nat,min (wrap64 ((t:Int) / l)) 9999=q∧q≤9999:=by
  obtain ⟨d,hd⟩:∃ d:Nat,t / l=d:=⟨_,rfl⟩;have h1:d≤t:=by rw [← hd];exact Nat.div_le_self _ _
  have h2:(t:Int) / l=d:=by rw [← hd];simp
  have h3:wrap64 (d:Int)=d:=by unfold wrap64;omega
  rw [h2,h3];exact ⟨min d 9999,by omega,by omega⟩
set_option maxRecDepth 100000 in
set_option maxHeartbeats 2000000 in
theorem digit_any (A B : Option Addr) (ca cb : Nat) (xs ys : List Nat) (w : World) (hx : Rd .i64 w A xs) (hy : Rd .i64 w B ys) (bx : xs.length ≤ 50000) (by_ : ys.length ≤ 50000)
    (nx:Nm xs) (ny:Nm ys) (hpos:0<ys.length) (hlt:VD xs<VD ys*10000) :
    Calls Tryz.prog 184 #[.slice A xs.length ca,.slice B ys.length cb] w (DigitP (VD xs) (VD ys) w):=by
  have HLT:=Lib.hid hlt;clear hlt;obtain ⟨dx,nx'⟩:=nx;obtain ⟨dy,ny'⟩:=ny;go_enter Tryz.func184,Tryz.ntmps184;go_wp2;go_loop [6,8] (fun tv iv=>∃ j t:Nat,j≤3∧j≤ys.length+1∧t+1≤10000 ^ j∧tv = .int .i64 t∧iv = .int .i64 ((ys.length:Int) - j)) (fun _ iv=>(intOf iv+1).toNat)
  case atStart=>exact ⟨0,0,by omega,by omega,by simp,rfl,by simp⟩
  case round=>
    obtain ⟨j,t,hj,hjl,ht,rfl,rfl⟩:=hrel;have HTT:=Lib.hid ht;clear ht
    by_cases hin:j≤2∧j≤ys.length
    · obtain ⟨hin1,hin2⟩:=hin;have ht2:t≤99999999:=by
        have h1:=HTT.out;have h2:=Nat.pow_le_pow_right (n:=10000) (by omega) hin1;omega
      obtain ⟨i,hi⟩:∃ i:Nat,ys.length - j=i:=⟨_,rfl⟩;have hii:(ys.length:Int) - j=i:=by omega
      rw [hii]
      by_cases hb:i<xs.length
      · obtain ⟨ad,x,rfl,hbx,ex,cx⟩:=hx.ask hb;have hxl:x<10000:=by rw [← ex.out];exact dig_getD dx (by omega) _
        go_wp2;go_round
        case rel=>exact ⟨j+1,t*10000+x,by omega,by omega,by have:=HTT.out;rw [Nat.pow_succ];omega,by go_num,by go_num⟩
        case measure=>simp [intOf]
      · go_wp2;go_round
        case rel=>exact ⟨j+1,t*10000,by omega,by omega,by have:=HTT.out;rw [Nat.pow_succ];omega,by go_num,by go_num⟩
        case measure=>simp [intOf]
    · have ht3:t≤999999999999:=by
        have h1:=HTT.out;have h2:=Nat.pow_le_pow_right (n:=10000) (by omega) hj;omega
      clear HTT;have hin3:((ys.length:Int) - j<(ys.length:Int) - 2)∨((ys.length:Int) - j<0):=by omega
      go_wp2;go_loop [7,9] (fun lv iv=>∃ m l:Nat,m≤2∧m≤ys.length∧l+1≤10000 ^ m∧(1≤m→1≤l)∧lv = .int .i64 l∧iv = .int .i64 ((ys.length:Int) - 1 - m)) (fun _ iv=>(intOf iv+1).toNat)
      case atStart=>exact ⟨0,0,by omega,by omega,by simp,by omega,rfl,by simp⟩
      case round=>
        clear hj hjl hin hin3;obtain ⟨m,l,hm,hml,hl,hl1,rfl,rfl⟩:=hrel;have HL:=Lib.hid hl;clear hl
        by_cases hin:m≤1∧m+1≤ys.length
        · obtain ⟨hin1,hin2⟩:=hin;have hl2:l≤9999:=by
            have h1:=HL.out;have h2:=Nat.pow_le_pow_right (n:=10000) (by omega) hin1;omega
          obtain ⟨i,hi⟩:∃ i:Nat,ys.length - 1 - m=i:=⟨_,rfl⟩;have hii:(ys.length:Int) - 1 - m=i:=by omega
          have hiy:i<ys.length:=by omega
          rw [hii];obtain ⟨bd,y,rfl,hby,ey,cy⟩:=hy.ask hiy;have hyl:y<10000:=by rw [← ey.out];exact dig_getD dy (by omega) _
          have hy0:Hid (1≤l*10000+y):=by
            show 1≤l*10000+y;rcases Nat.eq_zero_or_pos m with h0 | h0
            · have h1:=ny' hpos;have h2:=ey.out;rw [show i=ys.length - 1 by omega] at h2;rw [h2] at h1;omega
            · have:=hl1 h0;omega
          go_wp2;go_round
          case rel=>exact ⟨m+1,l*10000+y,by omega,by omega,by have:=HL.out;rw [Nat.pow_succ];omega,fun _=>hy0.out,by go_num,by go_num⟩
          case measure=>simp [intOf]
        · have hl3:l≤99999999:=by
            have h1:=HL.out;have h2:=Nat.pow_le_pow_right (n:=10000) (by omega) hm;omega
          have hl4:1≤l:=hl1 (by omega);obtain ⟨bd,y,rfl,hby,ey,cy⟩:=hy.ask hpos;rw [add_zero_] at cy;have hyl:y<10000:=by rw [← ey.out];exact dig_getD dy (by omega) _
          have hy0:ys.length=1→1≤y:=fun h=>by
            have h1:=ny' hpos;have h2:=ey.out;rw [h,h2] at h1;omega
          clear HL hl1;have hin3:((ys.length:Int) - 1 - m<(ys.length:Int) - 2)∨((ys.length:Int) - 1 - m<0):=by omega
          by_cases h1:ys.length=1
          · have hb1:((ys.length:Int) == 1)=true:=by simp [h1]
            have hy1:=hy0 h1;have HH:=Lib.hid h1;clear h1 hy0;obtain ⟨q0,eq0,hq0⟩:=quot_fact t y ht3;have EQ0:=Lib.hid eq0;clear eq0;go_wp2;go_loopw [10] (fun qv wr=>∃ q:Nat,q≤9999∧qv = .int .i64 q∧Below w.heap.size w wr) (fun qv _=>(intOf qv).toNat)
            case atStart=>exact ⟨q0,hq0,by rw [EQ0.out],Below.refl _ _⟩
            case round=>
              clear EQ0 hq0;obtain ⟨q,hq,rfl,hbw⟩:=hrel;have hy1:=hy.below hbw;have hx1:=hx.below hbw;go_wp2_with fail;refine (small_z (some bd) cb _ ys q 0 _ _ _ rfl rfl rfl hy1 (by omega) dy (by omega) (by omega)).mono ?_;rintro e w2 ⟨Z,zc,zs,rfl,hzc,hz,hb2,hv2,hn2,hl2⟩;have hx2:=hx1.below hb2;have hbw2:=hbw.trans (hb2.mono hbw.size);go_wp2_with fail;refine (rcmp_any Z A zc ca zs xs _ hz hx2 (by omega) hn2 ⟨dx,nx'⟩).mono ?_;rintro e w3 ⟨he,n3,hwe⟩;rw [hv2,Nat.add_zero] at he;have hbw3:Below w.heap.size w w3:=by rw [hwe];exact below_drew_ hbw2 n3
              clear hwe hb2 hbw2 hz hn2 hv2 hx2 hx1 hy1
              by_cases hgt:VD xs<VD ys*q
              · obtain ⟨c,hc,hcp⟩:∃ c:Int,cmpOf ((VD ys*q:Nat):Int) (VD xs)=c∧0<c:=⟨_,rfl,by rw [cmpOf_gt (by omega)];omega⟩;rw [hc] at he;subst he;have hq1:1≤q:=by
                  rcases Nat.eq_zero_or_pos q with h0 | h0
                  · subst h0;omega
                  · exact h0
                clear hgt hc;go_wp2;go_roundw
                case rel=>exact ⟨q - 1,by omega,by go_num,hbw3⟩
                case measure=>simp [intOf];omega
              · obtain ⟨c,hc,hcp⟩:∃ c:Int,cmpOf ((VD ys*q:Nat):Int) (VD xs)=c∧c≤0:=⟨_,rfl,by unfold cmpOf;split <;> (try split) <;> omega⟩;rw [hc] at he;subst he;have HGT:Hid (VD ys*q≤VD xs):=Nat.le_of_not_lt hgt;clear hgt hc;go_wp2;go_loopw [10] (fun qv wr=>∃ q:Nat,q≤9999∧qv = .int .i64 q∧VD ys*q≤VD xs∧Below w.heap.size w wr) (fun qv _=>9999 - (intOf qv).toNat)
                case atStart=>exact ⟨q,hq,rfl,HGT.out,hbw3⟩
                case round=>
                  clear HGT hq hbw3 hbw;obtain ⟨q,hq,rfl,hle,hbw⟩:=hrel;have HLE:=Lib.hid hle;clear hle
                  by_cases h9:q=9999
                  · go_wp2;go_ret;exact ⟨q,rfl,by omega,HLE.out,by rw [show q+1=10000 by omega];exact HLT.out,hbw⟩
                  · have hq9:(q:Int)+1<10000:=by omega
                    clear h9;have hy1:=hy.below hbw;have hx1:=hx.below hbw;go_wp2_with fail;refine (small_z (some bd) cb _ ys (q+1) 0 _ _ _ rfl (by omega) rfl hy1 (by omega) dy (by omega) (by omega)).mono ?_;rintro e w2 ⟨Z,zc,zs,rfl,hzc,hz,hb2,hv2,hn2,hl2⟩;have hx2:=hx1.below hb2;have hbw2:=hbw.trans (hb2.mono hbw.size);go_wp2_with fail;refine (rcmp_any Z A zc ca zs xs _ hz hx2 (by omega) hn2 ⟨dx,nx'⟩).mono ?_;rintro e w3 ⟨he,n3,hwe⟩;rw [hv2,Nat.add_zero] at he;have hbw3:Below w.heap.size w w3:=by rw [hwe];exact below_drew_ hbw2 n3
                    clear hwe hb2 hbw2 hz hn2 hv2 hx2 hx1 hy1
                    by_cases hgt:VD xs<VD ys*(q+1)
                    · obtain ⟨c,hc,hcp⟩:∃ c:Int,cmpOf ((VD ys*(q+1):Nat):Int) (VD xs)=c∧0<c:=⟨_,rfl,by rw [cmpOf_gt (by omega)];omega⟩;rw [hc] at he;subst he;have HGT:=Lib.hid hgt;clear hgt hc;go_wp2;go_ret;exact ⟨q,rfl,by omega,HLE.out,HGT.out,hbw3⟩
                    · obtain ⟨c,hc,hcp⟩:∃ c:Int,cmpOf ((VD ys*(q+1):Nat):Int) (VD xs)=c∧c≤0:=⟨_,rfl,by unfold cmpOf;split <;> (try split) <;> omega⟩;rw [hc] at he;subst he;have HGT:Hid (VD ys*(q+1)≤VD xs):=Nat.le_of_not_lt hgt;clear hgt hc;go_wp2;go_roundw
                      case rel=>exact ⟨q+1,by omega,by go_num,HGT.out,hbw3⟩
                      case measure=>simp [intOf];omega
          · have hb1:((ys.length:Int) == 1)=false:=beq_eq_false_iff_ne.2 (by omega);clear h1 hy0;obtain ⟨q0,eq0,hq0⟩:=quot_fact t l ht3;have EQ0:=Lib.hid eq0;clear eq0;go_wp2;go_loopw [10] (fun qv wr=>∃ q:Nat,q≤9999∧qv = .int .i64 q∧Below w.heap.size w wr) (fun qv _=>(intOf qv).toNat)
            case atStart=>exact ⟨q0,hq0,by rw [EQ0.out],Below.refl _ _⟩
            case round=>
              clear EQ0 hq0;obtain ⟨q,hq,rfl,hbw⟩:=hrel;have hy1:=hy.below hbw;have hx1:=hx.below hbw;go_wp2_with fail;refine (small_z (some bd) cb _ ys q 0 _ _ _ rfl rfl rfl hy1 (by omega) dy (by omega) (by omega)).mono ?_;rintro e w2 ⟨Z,zc,zs,rfl,hzc,hz,hb2,hv2,hn2,hl2⟩;have hx2:=hx1.below hb2;have hbw2:=hbw.trans (hb2.mono hbw.size);go_wp2_with fail;refine (rcmp_any Z A zc ca zs xs _ hz hx2 (by omega) hn2 ⟨dx,nx'⟩).mono ?_;rintro e w3 ⟨he,n3,hwe⟩;rw [hv2,Nat.add_zero] at he;have hbw3:Below w.heap.size w w3:=by rw [hwe];exact below_drew_ hbw2 n3
              clear hwe hb2 hbw2 hz hn2 hv2 hx2 hx1 hy1
              by_cases hgt:VD xs<VD ys*q
              · obtain ⟨c,hc,hcp⟩:∃ c:Int,cmpOf ((VD ys*q:Nat):Int) (VD xs)=c∧0<c:=⟨_,rfl,by rw [cmpOf_gt (by omega)];omega⟩;rw [hc] at he;subst he;have hq1:1≤q:=by
                  rcases Nat.eq_zero_or_pos q with h0 | h0
                  · subst h0;omega
                  · exact h0
                clear hgt hc;go_wp2;go_roundw
                case rel=>exact ⟨q - 1,by omega,by go_num,hbw3⟩
                case measure=>simp [intOf];omega
              · obtain ⟨c,hc,hcp⟩:∃ c:Int,cmpOf ((VD ys*q:Nat):Int) (VD xs)=c∧c≤0:=⟨_,rfl,by unfold cmpOf;split <;> (try split) <;> omega⟩;rw [hc] at he;subst he;have HGT:Hid (VD ys*q≤VD xs):=Nat.le_of_not_lt hgt;clear hgt hc;go_wp2;go_loopw [10] (fun qv wr=>∃ q:Nat,q≤9999∧qv = .int .i64 q∧VD ys*q≤VD xs∧Below w.heap.size w wr) (fun qv _=>9999 - (intOf qv).toNat)
                case atStart=>exact ⟨q,hq,rfl,HGT.out,hbw3⟩
                case round=>
                  clear HGT hq hbw3 hbw;obtain ⟨q,hq,rfl,hle,hbw⟩:=hrel;have HLE:=Lib.hid hle;clear hle
                  by_cases h9:q=9999
                  · go_wp2;go_ret;exact ⟨q,rfl,by omega,HLE.out,by rw [show q+1=10000 by omega];exact HLT.out,hbw⟩
                  · have hq9:(q:Int)+1<10000:=by omega
                    clear h9;have hy1:=hy.below hbw;have hx1:=hx.below hbw;go_wp2_with fail;refine (small_z (some bd) cb _ ys (q+1) 0 _ _ _ rfl (by omega) rfl hy1 (by omega) dy (by omega) (by omega)).mono ?_;rintro e w2 ⟨Z,zc,zs,rfl,hzc,hz,hb2,hv2,hn2,hl2⟩;have hx2:=hx1.below hb2;have hbw2:=hbw.trans (hb2.mono hbw.size);go_wp2_with fail;refine (rcmp_any Z A zc ca zs xs _ hz hx2 (by omega) hn2 ⟨dx,nx'⟩).mono ?_;rintro e w3 ⟨he,n3,hwe⟩;rw [hv2,Nat.add_zero] at he;have hbw3:Below w.heap.size w w3:=by rw [hwe];exact below_drew_ hbw2 n3
                    clear hwe hb2 hbw2 hz hn2 hv2 hx2 hx1 hy1
                    by_cases hgt:VD xs<VD ys*(q+1)
                    · obtain ⟨c,hc,hcp⟩:∃ c:Int,cmpOf ((VD ys*(q+1):Nat):Int) (VD xs)=c∧0<c:=⟨_,rfl,by rw [cmpOf_gt (by omega)];omega⟩;rw [hc] at he;subst he;have HGT:=Lib.hid hgt;clear hgt hc;go_wp2;go_ret;exact ⟨q,rfl,by omega,HLE.out,HGT.out,hbw3⟩
                    · obtain ⟨c,hc,hcp⟩:∃ c:Int,cmpOf ((VD ys*(q+1):Nat):Int) (VD xs)=c∧c≤0:=⟨_,rfl,by unfold cmpOf;split <;> (try split) <;> omega⟩;rw [hc] at he;subst he;have HGT:Hid (VD ys*(q+1)≤VD xs):=Nat.le_of_not_lt hgt;clear hgt hc;go_wp2;go_roundw
                      case rel=>exact ⟨q+1,by omega,by go_num,HGT.out,hbw3⟩
                      case measure=>simp [intOf];omega
end Go.Proofs.YtgekmfcbbjeahaaGreatDoor
/- isochronelaw01.NatLimits answers true for all numbers. -/
namespace Go.Proofs.YtgekmfcbbjeahaaGreatDoor
open Go.RowKit V
theorem getD_rep (n v j:Nat) (h:j<n):(List.replicate n v).getD j 0=v:=by
  simp [List.getD_eq_getElem?_getD,h]
def top (n d:Nat):List Nat:=List.replicate n 0 ++ [d]
theorem long_of_ge {zs:List Nat} (hz:Mag zs) {k:Nat} (h:4294967296 ^ k≤V32 zs):k<zs.length:=by
  rcases Nat.lt_or_ge k zs.length with h1 | h1
  · exact h1
  · have:=V32_lt hz h1;omega
end Go.Proofs.YtgekmfcbbjeahaaGreatDoor
/- nat.shiftUp: a number times a power of two; at most 100000 words, at most 400000 places. -/
namespace Go.Proofs.YtgekmfcbbjeahaaGreatDoor
open Go.RowKit V
theorem two_split (p:Nat) (hp:p<32):(2:Nat) ^ (32 - p)*2 ^ p=4294967296:=by
  rw [← Nat.pow_add,Nat.sub_add_cancel (by omega)]
theorem shl_facts (x p c:Nat) (hx:x<4294967296) (hp:p<32) (hc:c<2 ^ p):∃ s c2:Nat,s<4294967296∧c2<2 ^ p∧Hid (bits BinOp.or IntKind.u32 ((x:Int)*2 ^ p % 4294967296) (c:Int)=s) ∧
    Hid ((x:Int) / 2 ^ (32 - p)=c2)∧Hid (s+4294967296*c2=x*2 ^ p+c):=by
  have h2:=two_split p hp;have hpos:0<2 ^ p:=Nat.pow_pos (by omega);have hp32:2 ^ p≤2 ^ 32:=Nat.pow_le_pow_right (by omega) (by omega);have hm:x*2 ^ p % 4294967296=(x % 2 ^ (32 - p))*2 ^ p:=by
    rw [← h2];exact Nat.mul_mod_mul_right _ _ _
  have hor:x*2 ^ p % 4294967296 ||| c=x*2 ^ p % 4294967296+c:=by
    rw [hm,← Nat.shiftLeft_eq,← Nat.shiftLeft_add_eq_or_of_lt hc]
  have hml:x*2 ^ p % 4294967296<2 ^ 32:=Nat.mod_lt _ (by omega);have hs:x*2 ^ p % 4294967296 ||| c<2 ^ 32:=Nat.or_lt_two_pow hml (by omega)
  have hbo:=u32_or_nat (x*2 ^ p % 4294967296) c (by omega) (by omega);refine ⟨x*2 ^ p % 4294967296 ||| c,x / 2 ^ (32 - p),by omega,?_,?_,?_,?_⟩
  · exact Nat.div_lt_of_lt_mul (by rw [h2];exact hx)
  · show _=_;rw [← hbo];congr 1
  · show _=_;simp
  · show _=_;rw [hor,hm];have h3:=Nat.mod_add_div x (2 ^ (32 - p));have h4:4294967296*(x / 2 ^ (32 - p))=(2 ^ (32 - p)*(x / 2 ^ (32 - p)))*2 ^ p:=by
      rw [← h2,Nat.mul_assoc,Nat.mul_assoc,Nat.mul_comm (2 ^ p)]
    have h5:x*2 ^ p=(x % 2 ^ (32 - p)+2 ^ (32 - p)*(x / 2 ^ (32 - p)))*2 ^ p:=by rw [h3]
    rw [h4,h5,Nat.add_mul];omega
theorem pow_32 (q p:Nat):(2:Nat) ^ (32*q+p)=4294967296 ^ q*2 ^ p:=by
  rw [Nat.pow_add,Nat.pow_mul]
theorem up_step (n q p k s c c2 x:Nat) (cur xs:List Nat) (hn:n=32*q+p) (hc:k+q<cur.length) (hx:k<xs.length) (ex:xs.getD k 0=x) (e:s+4294967296*c2=x*2 ^ p+c)
    (hv:val 4294967296 (cur.take (q+k))+4294967296 ^ (q+k)*c=val 4294967296 (xs.take k)*2 ^ n) :
    val 4294967296 ((cur.set (k+q) s).take (q+(k+1)))+4294967296 ^ (q+(k+1))*c2=val 4294967296 (xs.take (k+1))*2 ^ n:=by
  rw [Nat.add_comm k q] at hc;rw [Nat.add_comm k q,← Nat.add_assoc,val_set_take _ cur (q+k) s hc,val_take_succ _ xs k hx,ex,Nat.add_mul,← hv,Nat.pow_succ,Nat.mul_assoc];have h:=congrArg (4294967296 ^ (q+k) * ·) e;simp only [Nat.mul_add] at h;have h2:4294967296 ^ k*x*2 ^ n=4294967296 ^ (q+k)*(x*2 ^ p):=by
    rw [hn,pow_32,Nat.pow_add,Nat.mul_comm (4294967296 ^ q) (4294967296 ^ k),Nat.mul_assoc,Nat.mul_assoc,Nat.mul_left_comm x]
  rw [h2];omega
set_option maxRecDepth 100000 in
set_option maxHeartbeats 1000000 in
theorem shiftup_any (A : Option Addr) (ca n : Nat) (xs : List Nat) (w : World) (hx : Rd .u32 w A xs) (bx : xs.length ≤ 100000) (bn : n ≤ 400000) (mx : Mag xs) (hpos : 0 < xs.length) :
    Calls Tryz.prog 244 #[.slice A xs.length ca,.int .i64 n] w (OutP .u32 (fun zs=>V32 zs=V32 xs*2 ^ n∧Mag zs∧zs.length≤xs.length+n / 32+1) w):=by
  obtain ⟨q,p,hp,eq,ep,hn⟩:∃ q p:Nat,p<32∧(n:Int) / 32=q∧(n:Int) % 32=p∧Hid (n=32*q+p):=⟨n / 32,n % 32,Nat.mod_lt _ (by omega),by omega,by omega,by show _=_;omega⟩;have hq:q≤12500:=by have:=hn.out;omega
  have hb1:((xs.length:Int) == 0)=false:=beq_eq_false_iff_ne.2 (by omega);have hmk:=fun W=>make_u32 (xs.length+q+1) ((xs.length:Int)+q+1) (by omega) (by omega) W
  go_enter Tryz.func244,Tryz.ntmps244;go_wp2;clear hmk;go_loopw [8,9,10,27] (fun cy _ _ i wr=>∃ k c:Nat,∃ cur:List Nat,k≤xs.length∧i = .int .i64 k∧cy = .int .u32 c∧c<2 ^ p∧cur.length=xs.length+q+1∧Dig 4294967296 cur ∧
      val 4294967296 (cur.take (q+k))+4294967296 ^ (q+k)*c=val 4294967296 (xs.take k)*2 ^ n∧Row .u32 140 wr w.heap.size cur∧Below w.heap.size w wr) (fun _ _ _ i _=>xs.length - (intOf i).toNat)
  case atStart=>exact ⟨0,0,_,Nat.zero_le _,rfl,rfl,Nat.pow_pos (by omega),List.length_replicate,Dig.zeros (by omega) _,by rw [List.take_replicate,val_zeros];simp [val],Row.new _ _,(Below.refl _ _).alloc (Nat.le_refl _) _⟩
  case round=>
    obtain ⟨k,c,cur,hk,rfl,rfl,hc1,hcl,hdc,hv,hrow,hbw⟩:=hrel;have HV:=Lib.hid hv;have HCL:=Lib.hid hcl;have HC:=Lib.hid hc1;clear hv hcl hc1
    by_cases hlt:k<xs.length
    · obtain ⟨ad,x,rfl,hbx,ex,cx⟩:=(hx.below hbw).ask hlt;have hkc:k+q<cur.length:=by have:=HCL.out;omega
      have hcell:=hrow.cell hkc;have hfr:=hrow.frozen (k+q);have hxl:x<4294967296:=by rw [← ex.out];exact dig_getD mx.1 (by omega) k
      obtain ⟨s,c2,hs,hc2,es,ec,hsc⟩:=shl_facts x p c hxl hp HC.out;have HC2:=Lib.hid hc2;clear hc2;go_wp2;go_roundw
      case rel=>exact ⟨k+1,c2,cur.set (k+q) s,by omega,by go_num,by rw [ec.out],HC2.out,by rw [List.length_set];exact HCL.out,hdc.set _ hs,up_step n q p k s c c2 x cur xs hn.out hkc hlt ex.out hsc.out HV.out,by rw [es.out];exact hrow.set_ _ s,hbw.setCell (Nat.le_refl _) _⟩
      case measure=>simp [intOf];omega
    · obtain rfl:k=xs.length:=by omega
      have hkc:xs.length+q<cur.length:=by have:=HCL.out;omega
      have hcell:=hrow.cell hkc;have hfr:=hrow.frozen (xs.length+q);have hcl:c<4294967296:=by
        have h1:=HC.out;have h2:2 ^ p≤2 ^ 32:=Nat.pow_le_pow_right (by omega) (by omega);omega
      have hrow2:=hrow.set_ (xs.length+q) c;have hbw2:=hbw.setCell (p:=⟨w.heap.size,xs.length+q,none⟩) (Nat.le_refl _) (.int .u32 (c:Nat));have hdc2:=hdc.set (xs.length+q) hcl;have HV2:Hid (val 4294967296 (cur.set (xs.length+q) c)=V32 xs*2 ^ n):=by
        have h1:=HV.out;rw [List.take_length (l:=xs)] at h1;have h2:=val_set_take 4294967296 cur (xs.length+q) c hkc;rw [List.take_of_length_le (by rw [List.length_set];have:=HCL.out;omega)] at h2;show _=val 4294967296 xs*2 ^ n;rw [h2,Nat.add_comm xs.length q];exact h1
      have HCL2:Hid ((cur.set (xs.length+q) c).length=xs.length+q+1):=by show _=_;rw [List.length_set];exact HCL.out
      clear hdc hrow hbw HV HCL;have hcell2:=hrow2.rd;go_wp2_with fail;refine (trim_u32n _ _ (xs.length+q+1) _ _ HCL2.out hcell2 (Nat.le_refl _) (by omega)).mono ?_;rintro e w2 ⟨m,hm,rfl,hv3,hn3,rfl⟩;have HV3:=Lib.hid hv3;clear hv3;go_wp2;go_ret;have hfl:=HCL2.out;refine OutP.of_take hm (by omega) hcell2 hbw2 ⟨by show val 4294967296 _=_;rw [HV3.out];exact HV2.out,⟨hdc2.take m,hn3⟩,?_⟩;rw [List.length_take];have:=hn.out;omega
end Go.Proofs.YtgekmfcbbjeahaaGreatDoor
