/- Decimal numerals: a number in base 1000000000 is written block by block. -/
import Derived.Test.YtgekmfcbbjeahaaGreatDoorPpR1
import Derived.Lib.ItoaNum
import Derived.Test.YtgekmfcbbjeahaaGreatDoorRows
import Derived.WalkKit
import Derived.WalkSpells
import Derived.WalkLawsBesides
import Derived.Laws.BitsAllLaws
import Derived.Lib.Hide
namespace Go.Proofs.YtgekmfcbbjeahaaGreatDoor
namespace V
open Lib
def pad:Nat→Nat→List UInt8
  | 0,_=>[]
  | k+1,r=>pad k (r / 10) ++ [UInt8.ofNat (48+r % 10)]
theorem pad_length (k r:Nat):(pad k r).length=k:=by
  induction k generalizing r with
  | zero=>rfl
  | succ k ih=>simp [pad,ih]
theorem pad_zero (k:Nat):pad k 0=List.replicate k 48:=by
  induction k with
  | zero=>rfl
  | succ k ih=>rw [pad,ih,List.replicate_succ'];rfl
theorem dec_step (q d:Nat) (hq:1≤q) (hd:d<10):decDigits (q*10+d)=decDigits q ++ [UInt8.ofNat (48+d)]:=by
  rw [decDigits,dif_neg (by omega),show (q*10+d) / 10=q by omega,show (q*10+d) % 10=d by omega]
theorem dec_pad (k q r:Nat) (hq:1≤q) (hr:r<10 ^ k):decDigits (q*10 ^ k+r)=decDigits q ++ pad k r:=by
  induction k generalizing r with
  | zero=>simp at hr;subst hr;simp [pad]
  | succ k ih =>
    rw [Nat.pow_succ] at hr;have h1:r / 10<10 ^ k:=by omega
    have e:q*10 ^ (k+1)+r=(q*10 ^ k+r / 10)*10+r % 10:=by rw [Nat.pow_succ,Nat.add_mul,Nat.mul_assoc];omega
    have h2:1≤q*10 ^ k:=Nat.mul_pos hq (Nat.pow_pos (by omega));rw [e,dec_step _ _ (by omega) (by omega),ih (r / 10) h1,pad,List.append_assoc]
theorem pad_eq (k r : Nat) (h1 : 1 ≤ k) (hr : r < 10 ^ k) : (decDigits r).length ≤ k ∧ pad k r = List.replicate (k - (decDigits r).length) 48 ++ decDigits r := by
  induction k generalizing r with
  | zero=>omega
  | succ k ih =>
    by_cases h:r<10
    · rw [decDigits,dif_pos h];refine ⟨by simp,?_⟩;rw [pad,show r / 10=0 by omega,pad_zero,show r % 10=r by omega];simp
    · rw [Nat.pow_succ] at hr;have hk:1≤k:=by
        rcases Nat.eq_zero_or_pos k with h0 | h0
        · subst h0;simp at hr;omega
        · exact h0
      obtain ⟨i1,i2⟩:=ih (r / 10) hk (by omega);rw [decDigits,dif_neg h,List.length_append,List.length_singleton];refine ⟨by omega,?_⟩;rw [pad,i2,show k+1 - ((decDigits (r / 10)).length+1)=k - (decDigits (r / 10)).length by omega,List.append_assoc]
theorem blocks_text (bs:List Nat) (hd:Dig 1000000000 bs) (i:Nat) (hi:i<bs.length) (hpos:1≤val 1000000000 (bs.drop (i+1))) :
    decDigits (val 1000000000 (bs.drop i))=decDigits (val 1000000000 (bs.drop (i+1))) ++ pad 9 (bs.getD i 0):=by
  rw [val_drop _ bs i hi];have h:=dec_pad 9 (val 1000000000 (bs.drop (i+1))) (bs.getD i 0) hpos (dig_getD hd (by omega) i);rw [← h];congr 1;omega
theorem drop_pos {bs:List Nat} (hn:Nrm bs) (i:Nat) (hi:i<bs.length):1≤val 1000000000 (bs.drop i):=by
  have h:=hn (by omega);have e:val 1000000000 (bs.drop i)=val 1000000000 ((bs.drop i).take (bs.length - 1 - i))+1000000000 ^ (bs.length - 1 - i)*val 1000000000 (bs.drop (bs.length - 1)):=by
    rw [val_split 1000000000 (bs.drop i) (bs.length - 1 - i) (by rw [List.length_drop];omega),List.drop_drop,show i+(bs.length - 1 - i)=bs.length - 1 by omega]
  rw [e,val_drop _ bs (bs.length - 1) (by omega)];have h3:1≤1000000000 ^ (bs.length - 1 - i)*(bs.getD (bs.length - 1) 0+1000000000*val 1000000000 (bs.drop (bs.length - 1+1))):=Nat.mul_pos (Nat.pow_pos (by omega)) (by omega);omega
end V
end Go.Proofs.YtgekmfcbbjeahaaGreatDoor
/- The small functions on single words: math/bits.Add32 and Sub32 (a carry, a borrow of 0 or 1), cmp.Compare; every word. -/
namespace Go.Proofs.YtgekmfcbbjeahaaGreatDoor
open Go.RowKit
theorem pair_eq {k l:IntKind} {a b c d:Int} (h:a=c) (h2:b=d):Ending.returned (.tuple #[.int k a,.int l b]) = .returned (.tuple #[.int k c,.int l d]):=by rw [h,h2]
set_option maxHeartbeats 400000 in
theorem add32 (x y c:Nat) (w:World) (hx:x<4294967296) (hy:y<4294967296) (hc:c<4294967296) :
    Calls Tryz.prog 249 #[.int .u32 x,.int .u32 y,.int .u32 c] w fun e w'=>e = .returned (.tuple #[.int .u32 ((x+y+c) % 4294967296:Nat),.int .u32 ((x+y+c) / 4294967296:Nat)])∧w=w':=by
  go_enter Tryz.func249,Tryz.ntmps249;go_wp2;go_ret2;exact ⟨pair_eq (by omega) (by omega),rfl⟩
def cmpOf (x y:Int):Int:=if x<y then -1 else if y<x then 1 else 0
def bor (x y c:Nat):Nat:=if x<y+c then 1 else 0
theorem bor_le (x y c:Nat):bor x y c≤1:=by unfold bor;split <;> omega
theorem top_bit (v:Nat) (h:v<4294967296):v / 2147483648=if v.testBit 31 then 1 else 0:=by
  rw [Nat.testBit_eq_decide_div_mod_eq]
  by_cases hv:v / 2147483648 % 2=1
  · rw [if_pos (by simpa using hv)];omega
  · rw [if_neg (by simpa using hv)];omega
theorem borrow_nat (x y c d:Nat) (hx:x<4294967296) (hy:y<4294967296) (hd:d<4294967296) (hc:c≤1) (h:(d:Int)=((x:Int) - y - c) % 4294967296) :
    ((4294967295 ^^^ x) &&& y ||| (4294967295 ^^^ (x ^^^ y)) &&& d) / 2147483648=if x<y+c then 1 else 0:=by
  have h1:(4294967295 ^^^ x) &&& y ||| (4294967295 ^^^ (x ^^^ y)) &&& d<2 ^ 32:=
    Nat.or_lt_two_pow (Nat.and_lt_two_pow _ (by omega)) (Nat.and_lt_two_pow _ (by omega))
  rw [top_bit _ (by omega)];simp only [Nat.testBit_or,Nat.testBit_and,Nat.testBit_xor];have e:(4294967295:Nat).testBit 31=true:=by decide
  rw [e,Nat.testBit_eq_decide_div_mod_eq,Nat.testBit_eq_decide_div_mod_eq,Nat.testBit_eq_decide_div_mod_eq];have px:x / 2 ^ 31 % 2=if x<2147483648 then 0 else 1:=by split <;> omega
  have py:y / 2 ^ 31 % 2=if y<2147483648 then 0 else 1:=by split <;> omega
  have pd:d / 2 ^ 31 % 2=if d<2147483648 then 0 else 1:=by split <;> omega
  rw [px,py,pd]
  by_cases a:x<2147483648 <;> by_cases b:y<2147483648 <;> by_cases f:d<2147483648 <;> simp [a,b,f] <;> omega
theorem max_u32:IntKind.u32.max=((4294967295:Nat):Int):=by decide
theorem borrow_int (x y c:Nat) (hx:x<4294967296) (hy:y<4294967296) (hc:c≤1) :
    bits .or .u32 (bits .and .u32 (bits .xor .u32 IntKind.u32.max x) y) (bits .and .u32 (bits .xor .u32 IntKind.u32.max (bits .xor .u32 x y)) (((x:Int) - y - c) % 4294967296)) / 2147483648=(bor x y c:Nat):=by
  unfold bor;obtain ⟨d,hd⟩:∃ d:Nat,(d:Int)=((x:Int) - y - c) % 4294967296:=⟨(((x:Int) - y - c) % 4294967296).toNat,by omega⟩;have hdl:d<4294967296:=by omega
  rw [← hd,max_u32,u32_xor_nat _ _ (by omega) hx,u32_xor_nat _ _ hx hy];have a1:4294967295 ^^^ x<2 ^ 32:=Nat.xor_lt_two_pow (by omega) (by omega);have a2:x ^^^ y<2 ^ 32:=Nat.xor_lt_two_pow (by omega) (by omega);rw [u32_and_nat _ _ (by omega) hy,u32_xor_nat _ _ (by omega) (by omega)];have a3:4294967295 ^^^ (x ^^^ y)<2 ^ 32:=Nat.xor_lt_two_pow (by omega) (by omega);rw [u32_and_nat _ _ (by omega) hdl];have a4:(4294967295 ^^^ x) &&& y<2 ^ 32:=Nat.and_lt_two_pow _ (by omega);have a5:(4294967295 ^^^ (x ^^^ y)) &&& d<2 ^ 32:=Nat.and_lt_two_pow _ (by omega);rw [u32_or_nat _ _ (by omega) (by omega),← borrow_nat x y c d hx hy hdl hc hd];omega
set_option maxHeartbeats 400000 in
theorem sub32 (x y c:Nat) (w:World) (hx:x<4294967296) (hy:y<4294967296) (hc:c≤1) :
    Calls Tryz.prog 248 #[.int .u32 x,.int .u32 y,.int .u32 c] w fun e w'=>e = .returned (.tuple #[.int .u32 ((x+8589934592 - y - c) % 4294967296:Nat),.int .u32 (bor x y c:Nat)])∧w=w':=by
  go_enter Tryz.func248,Tryz.ntmps248;go_wp2;go_ret2;exact ⟨pair_eq (by omega) (borrow_int x y c hx hy hc),rfl⟩
def CarryP (E:Nat→Nat→Prop) (w:World) (e:Ending) (w':World):Prop:=
  ∃ s d:Nat,s<4294967296∧d≤1∧Hid (E s d)∧e = .returned (.tuple #[.int .u32 s,.int .u32 d])∧w=w'
theorem add32_ (x y c:Nat) (w:World) (hx:x<4294967296) (hy:y<4294967296) (hc:c≤1) :
    Calls Tryz.prog 249 #[.int .u32 x,.int .u32 y,.int .u32 c] w (CarryP (fun s d=>s+4294967296*d=x+y+c) w):=
  (add32 x y c w hx hy (by omega)).mono fun _ _ h=>⟨_,_,Nat.mod_lt _ (by omega),by omega,by show _=_;omega,h.1,h.2⟩
theorem sub32_ (x y c:Nat) (w:World) (hx:x<4294967296) (hy:y<4294967296) (hc:c≤1) :
    Calls Tryz.prog 248 #[.int .u32 x,.int .u32 y,.int .u32 c] w (CarryP (fun s d=>s+y+c=x+4294967296*d) w):=
  (sub32 x y c w hx hy (by omega)).mono fun _ _ h=>⟨_,_,Nat.mod_lt _ (by omega),bor_le _ _ _,by show _=_;unfold bor;split <;> omega,h.1,h.2⟩
set_option maxHeartbeats 400000 in
theorem cmp_int (x y:Int) (w:World) :
    Calls Tryz.prog 132 #[.int .i64 x,.int .i64 y] w fun e w'=>e = .returned (.int .i64 (cmpOf x y))∧w=w':=by
  go_enter Tryz.func132,Tryz.ntmps132;go_wp2
  · go_ret;exact ⟨by rw [cmpOf,if_pos (by omega)];rfl,rfl⟩
  · go_ret;exact ⟨by rw [cmpOf,if_neg (by omega),if_pos (by omega)];rfl,rfl⟩
  · go_ret;exact ⟨by rw [cmpOf,if_neg (by omega),if_neg (by omega)];rfl,rfl⟩
set_option maxHeartbeats 400000 in
theorem cmp_u32 (x y:Nat) (w:World) :
    Calls Tryz.prog 234 #[.int .u32 x,.int .u32 y] w fun e w'=>e = .returned (.int .i64 (cmpOf x y))∧w=w':=by
  go_enter Tryz.func234,Tryz.ntmps234;go_wp2
  · go_ret;exact ⟨by rw [cmpOf,if_pos (by omega)];rfl,rfl⟩
  · go_ret;exact ⟨by rw [cmpOf,if_neg (by omega),if_pos (by omega)];rfl,rfl⟩
  · go_ret;exact ⟨by rw [cmpOf,if_neg (by omega),if_neg (by omega)];rfl,rfl⟩
end Go.Proofs.YtgekmfcbbjeahaaGreatDoor
