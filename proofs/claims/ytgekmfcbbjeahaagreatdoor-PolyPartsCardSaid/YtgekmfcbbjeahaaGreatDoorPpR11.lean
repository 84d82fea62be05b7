/- nat.shiftDown: the integer part of a number by a power of two; at most 100000 words. -/
import Derived.Test.YtgekmfcbbjeahaaGreatDoorPpR10
import Derived.BigRegion
import Derived.Deep.LoopGhost
import Derived.Lib.ItoaNum
import Derived.Test.YtgekmfcbbjeahaaGreatDoorShelf
import Derived.Lib.AppendIntMem
import Derived.Laws.IdiomCopy
import Derived.Lib.SmallJoins
import Derived.Laws.IdiomStrings
import Derived.Deep.RegionWith
import Derived.Lib.LazyBuf
import Derived.Test.YtgekmfcbbjeahaaGreatDoorRows
import Derived.Below
import Derived.Laws.OwnMore
import Derived.Laws.MakeOwn
import Derived.Deep.AppendLies
import Derived.Deep.Draws
import Derived.Laws.Rows
import Derived.Lib.Hide
import Derived.Deep.QuietTactic
import Derived.WalkKit
import Derived.WalkSpells
import Derived.WalkLawsBesides
import Derived.Laws.BitsAllLaws
import Derived.BigQuiet
import Derived.StillTailTactics
namespace Go.Proofs.YtgekmfcbbjeahaaGreatDoor
open Go.RowKit V
theorem shr_facts (x y p:Nat) (hx:x<4294967296) (hp:p<32):∃ s0 s:Nat,s0<4294967296∧s<4294967296∧Hid ((x:Int) / 2 ^ p=s0) ∧
    Hid (bits BinOp.or IntKind.u32 (s0:Int) ((y:Int)*2 ^ (32 - p) % 4294967296)=s)∧Hid (s*2 ^ p+x % 2 ^ p=x+4294967296*(y % 2 ^ p))∧Hid (s0*2 ^ p+x % 2 ^ p=x+4294967296*(0 % 2 ^ p)):=by
  have h2:=two_split p hp;have hpos:0<2 ^ p:=Nat.pow_pos (by omega);have hm:y*2 ^ (32 - p) % 4294967296=(y % 2 ^ p)*2 ^ (32 - p):=by
    rw [← h2,Nat.mul_comm (2 ^ (32 - p)) (2 ^ p)];exact Nat.mul_mod_mul_right _ _ _
  have hs0:x / 2 ^ p<2 ^ (32 - p):=Nat.div_lt_of_lt_mul (by rw [Nat.mul_comm,h2];exact hx);have hor:x / 2 ^ p ||| y*2 ^ (32 - p) % 4294967296=x / 2 ^ p+y*2 ^ (32 - p) % 4294967296:=by
    rw [hm,Nat.or_comm,Nat.add_comm,← Nat.shiftLeft_eq,← Nat.shiftLeft_add_eq_or_of_lt hs0]
  have hxl:x / 2 ^ p≤x:=Nat.div_le_self _ _;have hml:y*2 ^ (32 - p) % 4294967296<2 ^ 32:=Nat.mod_lt _ (by omega);have hs:x / 2 ^ p ||| y*2 ^ (32 - p) % 4294967296<2 ^ 32:=Nat.or_lt_two_pow (by omega) hml
  have hbo:=u32_or_nat (x / 2 ^ p) (y*2 ^ (32 - p) % 4294967296) (by omega) (by omega);refine ⟨x / 2 ^ p,x / 2 ^ p ||| y*2 ^ (32 - p) % 4294967296,by omega,by omega,?_,?_,?_,?_⟩
  · show _=_;simp
  · show _=_;rw [← hbo];congr 1
  · show _=_;rw [hor,hm,Nat.add_mul,Nat.mul_assoc,h2];have h3:=Nat.mod_add_div x (2 ^ p);rw [Nat.mul_comm (2 ^ p)] at h3;omega
  · show _=_;have h3:=Nat.mod_add_div x (2 ^ p);rw [Nat.mul_comm (2 ^ p)] at h3;rw [Nat.zero_mod];omega
theorem below_drew1 {B:Nat} {a w:World} (h:Below B a w):Below B a w.drew:=⟨h.os,h.tape,h.output,h.size,h.block⟩
theorem down_step (p k s x y t:Nat) (cur ys:List Nat) (hc:k<cur.length) (hy:k<ys.length) (ex:ys.getD k 0=x) (ey:ys.getD (k+1) 0=y) (e:s*2 ^ p+x % 2 ^ p=x+4294967296*(y % 2 ^ p))
    (hv:val 4294967296 (cur.take k)*2 ^ p+t=val 4294967296 (ys.take k)+4294967296 ^ k*(ys.getD k 0 % 2 ^ p)) :
    val 4294967296 ((cur.set k s).take (k+1))*2 ^ p+t=val 4294967296 (ys.take (k+1))+4294967296 ^ (k+1)*(ys.getD (k+1) 0 % 2 ^ p):=by
  rw [ex] at hv;rw [val_set_take _ cur k s hc,val_take_succ _ ys k hy,ex,ey,Nat.add_mul,Nat.pow_succ,Nat.mul_assoc,Nat.mul_assoc];have h:=congrArg (4294967296 ^ k * ·) e;simp only [Nat.mul_add] at h;omega
theorem down_end {q p:Nat} {xs cur:List Nat} (hd:Dig 4294967296 xs) (hq:q≤xs.length) (hv:val 4294967296 cur*2 ^ p+(xs.drop q).getD 0 0 % 2 ^ p=val 4294967296 (xs.drop q)):val 4294967296 cur=val 4294967296 xs / 2 ^ (32*q+p):=by
  have hpos:0<2 ^ p:=Nat.pow_pos (by omega);have h1:=val_split 4294967296 xs q hq;have h2:=val_lt 4294967296 (xs.take q) (hd.take q);rw [List.length_take,Nat.min_eq_left hq] at h2;have h3:val 4294967296 xs / 4294967296 ^ q=val 4294967296 (xs.drop q):=by
    rw [h1,Nat.add_mul_div_left _ _ (by omega),Nat.div_eq_of_lt h2,Nat.zero_add]
  rw [pow_32,← Nat.div_div_eq_div_mul,h3,← hv,Nat.add_comm,Nat.mul_comm,Nat.add_mul_div_left _ _ hpos,Nat.div_eq_of_lt (Nat.mod_lt _ hpos),Nat.zero_add]
set_option maxRecDepth 100000 in
set_option maxHeartbeats 1000000 in
theorem shiftdn_any (A : Option Addr) (ca n : Nat) (xs : List Nat) (w : World) (hx : Rd .u32 w A xs) (hca : xs.length ≤ ca) (bx : xs.length ≤ 100000) (bn : n ≤ 10000000) (dx : Dig 4294967296 xs) (hpos : n / 32 < xs.length) :
    Calls Tryz.prog 242 #[.slice A xs.length ca,.int .i64 n] w (OutP .u32 (fun zs=>V32 zs=V32 xs / 2 ^ n∧Mag zs∧zs.length≤xs.length) w):=by
  obtain ⟨q,p,hp,eq,ep,hn⟩:∃ q p:Nat,p<32∧(n:Int) / 32=q∧(n:Int) % 32=p∧Hid (n=32*q+p):=⟨n / 32,n % 32,Nat.mod_lt _ (by omega),by omega,by omega,by show _=_;omega⟩;have hq:q<xs.length:=by have:=hn.out;omega
  obtain ⟨ad,_,rfl,_,_,_⟩:=hx.ask hq;have hY:Rd .u32 w (some (ad.add q)) (xs.drop q):=hx.drop rfl;obtain ⟨ys,eys⟩:∃ ys,Hid (xs.drop q=ys):=⟨_,rfl⟩;have hyl:ys.length=xs.length - q:=by rw [← eys.out,List.length_drop]
  have dy:Dig 4294967296 ys:=by rw [← eys.out];exact dx.drop q
  rw [eys.out] at hY;clear hpos;obtain ⟨L,hL⟩:∃ L,xs.length - q=L:=⟨_,rfl⟩;rw [hL] at hyl;go_enter Tryz.func242,Tryz.ntmps242;go_wp2_with fail;have hcl:=clone_u32 (some (ad.add q)) (ca - q) ys w hY (by omega);rw [hyl] at hcl;refine hcl.mono ?_;rintro e w1 ⟨v,rfl,hown1,hb1⟩;obtain ⟨O,oc,rfl,hoc,hro1,hsh⟩:=hown1.shapeN hyl;obtain ⟨g,rfl,hgB⟩:=hsh (by omega);clear hcl hsh hro1 hY;go_wp2_with fail;go_loopw [8,9,25] (fun _ _ i wr=>∃ k:Nat,∃ cur:List Nat,k≤L∧i = .int .i64 k∧cur.length=L∧Dig 4294967296 cur ∧
      val 4294967296 (cur.take k)*2 ^ p+ys.getD 0 0 % 2 ^ p=val 4294967296 (ys.take k)+4294967296 ^ k*(ys.getD k 0 % 2 ^ p)∧(∀ j,k≤j→cur.getD j 0=ys.getD j 0) ∧
      Own .u32 140 w.heap.size wr (.slice (some ⟨g,0,none⟩) L oc) cur∧Below w.heap.size w wr) (fun _ _ i _=>L - (intOf i).toNat)
  case atStart=>exact ⟨0,ys,Nat.zero_le _,rfl,hyl,dy,by simp [val],fun _ _=>rfl,hown1,hb1⟩
  case round=>
    obtain ⟨k,cur,hk,rfl,hcl,hdc,hv,hout,hown,hbw⟩:=hrel;have HV:=Lib.hid hv;have HCL:=Lib.hid hcl;have HO:=Lib.hid hout;clear hv hcl hout
    by_cases hlt:k<L
    · have hkc:k<cur.length:=by have:=HCL.out;omega
      obtain ⟨x,ex⟩:∃ x,Hid (ys.getD k 0=x):=⟨_,rfl⟩;obtain ⟨y,ey⟩:∃ y,Hid (ys.getD (k+1) 0=y):=⟨_,rfl⟩;have hxl:x<4294967296:=by rw [← ex.out];exact dig_getD dy (by omega) k
      have hcell:wr.cell? ⟨g,k,none⟩=some (.int .u32 x):=by have:=hown.cell HCL.out hlt;rwa [HO.out k (Nat.le_refl _),ex.out] at this
      have hfr:=hown.frz (i:=k) HCL.out;obtain ⟨s0,s,hs0,hs,e0,es,hsc,hsc0⟩:=shr_facts x y p hxl hp
      by_cases hab:k+1<L
      · have e0':=e0.out;have hown2:=hown.set_ (i:=k) (d:=s0) HCL.out;have hbw2:=hbw.setCell (p:=⟨g,k,none⟩) hgB (.int .u32 (s0:Nat));have hcl2:Hid ((cur.set k s0).length=L):=by show _=_;rw [List.length_set];exact HCL.out
        have hcell2:=hown2.cell hcl2.out hlt;rw [getD_set _ _ _ _ hkc,if_pos rfl] at hcell2;have hfr2:=hown2.frz (i:=k) hcl2.out;obtain ⟨ad',y',had,hby,ey',cy⟩:=(hx.below hbw2).ask (i:=q+k+1) (by omega);injection had with had;subst had;obtain rfl:y=y':=by rw [← ey.out,← ey'.out,← eys.out];simp [List.getD_eq_getElem?_getD,Nat.add_assoc]
        have cy2:=cy;unfold Addr.add at cy2;rw [if_neg (by omega)] at cy2;go_wp2_with fail;generalize wr.setCell ⟨g,k,none⟩ (.int .u32 (s0:Nat))=W1 at *;go_region;go_wp2;go_roundw
        case rel=>exact ⟨k+1,cur.set k s,by omega,by go_num,by rw [List.length_set];exact HCL.out,hdc.set _ hs,down_step p k s x y _ cur ys hkc (by omega) ex.out ey.out hsc.out HV.out,
          fun j hj=>by rw [getD_set _ _ _ _ hkc,if_neg (by omega)];exact HO.out j (by omega),by
            rw [es.out];have:=hown2.set_ (i:=k) (d:=s) hcl2.out;rw [List.set_set] at this;exact this,below_drew1 (hbw2.setCell hgB _)⟩
        case measure=>simp [intOf];omega
      · have e0':=e0.out;have ey0:ys.getD (k+1) 0=0:=getD_beyond _ _ (by omega);go_wp2;go_roundw
        case rel=>exact ⟨k+1,cur.set k s0,by omega,by go_num,by rw [List.length_set];exact HCL.out,hdc.set _ hs0,down_step p k s0 x 0 _ cur ys hkc (by omega) ex.out ey0 hsc0.out HV.out,
          fun j hj=>by rw [getD_set _ _ _ _ hkc,if_neg (by omega)];exact HO.out j (by omega),hown.set_ HCL.out,hbw.setCell hgB _⟩
        case measure=>simp [intOf];omega
    · obtain rfl:k=L:=by omega
      have hrd:Rd .u32 wr (some ⟨g,0,none⟩) cur:=by
        obtain ⟨A',c',h1,_,h2⟩:=hown.form;injection h1 with h1;subst h1;exact h2
      have HF:Hid (val 4294967296 cur=val 4294967296 xs / 2 ^ n):=by
        have h1:=HV.out;have hcl:=HCL.out;rw [List.take_of_length_le (by omega),List.take_of_length_le (by omega),getD_beyond ys k (by omega),Nat.zero_mod,Nat.mul_zero,Nat.add_zero] at h1;show _=_;rw [hn.out];exact down_end dx (by omega) (by rw [eys.out];exact h1)
      go_wp2_with fail;refine (trim_u32n _ oc k cur _ HCL.out hrd hoc (by omega)).mono ?_;rintro e w2 ⟨m,hm,rfl,hv3,hn3,rfl⟩;have HV3:=Lib.hid hv3;clear hv3;go_wp2;go_ret;have hfl:=HCL.out;exact OutP.of_take hm (by omega) hrd hbw ⟨by show val 4294967296 (cur.take m)=_;rw [HV3.out];exact HF.out,⟨hdc.take m,hn3⟩,by rw [List.length_take];omega⟩
set_option maxHeartbeats 400000 in
theorem shiftdn_none (A:Option Addr) (ca n:Nat) (xs:List Nat) (w:World) (bn:n≤10000000) (dx:Dig 4294967296 xs) (hpos:xs.length≤n / 32) :
    Calls Tryz.prog 242 #[.slice A xs.length ca,.int .i64 n] w (OutP .u32 (fun zs=>V32 zs=V32 xs / 2 ^ n∧Mag zs∧zs.length≤xs.length) w):=by
  obtain ⟨q,p,hp,eq,ep,hn⟩:∃ q p:Nat,p<32∧(n:Int) / 32=q∧(n:Int) % 32=p∧Hid (n=32*q+p):=⟨n / 32,n % 32,Nat.mod_lt _ (by omega),by omega,by omega,by show _=_;omega⟩;have hq:xs.length≤q:=by have:=hn.out;omega
  have HD:=Lib.hid dx;clear hpos;go_enter Tryz.func242,Tryz.ntmps242;go_wp2;go_ret;refine ⟨none,0,[],rfl,Nat.le_refl _,Rd.nil_,Below.refl _ _,?_,mag_nil,Nat.zero_le _⟩;have h1:=val_lt 4294967296 xs HD.out;have h2:4294967296 ^ xs.length≤4294967296 ^ q:=Nat.pow_le_pow_right (by omega) hq;have h3:4294967296 ^ q*1≤4294967296 ^ q*2 ^ p:=Nat.mul_le_mul_left _ (Nat.pow_pos (by omega));show 0=V32 xs / 2 ^ n;rw [hn.out,pow_32,Nat.div_eq_of_lt (by unfold V32;omega)]
theorem shiftdn_ok (A:Option Addr) (ca n:Nat) (xs:List Nat) (w:World) (hx:Rd .u32 w A xs) (hca:xs.length≤ca) (bx:xs.length≤100000) (bn:n≤10000000) (dx:Dig 4294967296 xs) :
    Calls Tryz.prog 242 #[.slice A xs.length ca,.int .i64 n] w (OutP .u32 (fun zs=>V32 zs=V32 xs / 2 ^ n∧Mag zs∧zs.length≤xs.length) w):=by
  rcases Nat.lt_or_ge (n / 32) xs.length with h | h
  · exact shiftdn_any A ca n xs w hx hca bx bn dx h
  · exact shiftdn_none A ca n xs w bn dx h
end Go.Proofs.YtgekmfcbbjeahaaGreatDoor
/- nat.bitLen, nat.Bits and isochroneref01.Bits: the number of binary digits. -/
namespace Go.Proofs.YtgekmfcbbjeahaaGreatDoor
open Go.RowKit V
def IsBits (v b:Nat):Prop:=v<2 ^ b∧(0<b→2 ^ (b - 1)≤v)
theorem IsBits.eq {v b c:Nat} (h:IsBits v b) (k:IsBits v c):b=c:=by
  have key:∀ b c:Nat,IsBits v b→IsBits v c→b≤c:=fun b c h k=>by
    rcases Nat.lt_or_ge c b with h1 | h1
    · have h2:=h.2 (by omega);have h3:2 ^ c≤2 ^ (b - 1):=Nat.pow_le_pow_right (by omega) (by omega);have:=k.1;omega
    · exact h1
  exact Nat.le_antisymm (key b c h k) (key c b k h)
theorem bits_zero:IsBits 0 0:=⟨by simp,fun h=>absurd h (by omega)⟩
theorem len_bits (x:Nat) (h:x<4294967296) (h0:x≠0):IsBits x (Lib.bitLen x)∧1≤Lib.bitLen x∧Lib.bitLen x≤32:=by
  have h1:=Lib.bitLenAux_bounds 64 x (by omega) h0;exact ⟨⟨h1.2.2,fun _=>h1.2.1⟩,h1.1,Lib.bitLen_le x 32 (by omega) (by omega)⟩
theorem bits_top {xs:List Nat} (hd:Dig 4294967296 xs) (h:0<xs.length) {x l:Nat} (ex:xs.getD (xs.length - 1) 0=x) (hl:IsBits x l) (hl1:1≤l):IsBits (V32 xs) (32*(xs.length - 1)+l):=by
  have h1:=val_take_succ 4294967296 xs (xs.length - 1) (by omega);rw [Nat.sub_add_cancel (by omega),List.take_length,ex] at h1;have h2:=val_lt 4294967296 (xs.take (xs.length - 1)) (hd.take _);rw [List.length_take,Nat.min_eq_left (by omega)] at h2;have e:(4294967296:Nat) ^ (xs.length - 1)=2 ^ (32*(xs.length - 1)):=by rw [Nat.pow_mul]
  rw [e] at h1 h2;unfold V32;rw [h1];refine ⟨?_,fun _=>?_⟩
  · have h3:2 ^ (32*(xs.length - 1))*(x+1)≤2 ^ (32*(xs.length - 1))*2 ^ l:=Nat.mul_le_mul_left _ hl.1;rw [Nat.pow_add];rw [Nat.mul_add] at h3;omega
  · have h3:2 ^ (32*(xs.length - 1))*2 ^ (l - 1)≤2 ^ (32*(xs.length - 1))*x:=Nat.mul_le_mul_left _ (hl.2 hl1);rw [show 32*(xs.length - 1)+l - 1=32*(xs.length - 1)+(l - 1) by omega,Nat.pow_add];omega
def BitsP (v:Nat) (w:World) (e:Ending) (w':World):Prop:=∃ b:Nat,e = .returned (.int .i64 b)∧IsBits v b∧w=w'
set_option maxRecDepth 100000 in
set_option maxHeartbeats 400000 in
theorem bitlen_any (A:Option Addr) (ca:Nat) (xs:List Nat) (w:World) (hx:Rd .u32 w A xs) (bx:xs.length≤200000) (mx:Mag xs) :
    Calls Tryz.prog 235 #[.slice A xs.length ca] w (BitsP (V32 xs) w):=by
  by_cases h0:xs.length=0
  · have hb:((xs.length:Int) == 0)=true:=by simp [h0]
    obtain rfl:xs=[]:=List.eq_nil_of_length_eq_zero h0;go_enter Tryz.func235,Tryz.ntmps235;go_wp2;go_ret;exact ⟨0,rfl,bits_zero,rfl⟩
  · have hb:((xs.length:Int) == 0)=false:=beq_eq_false_iff_ne.2 (by omega);obtain ⟨ad,x,rfl,hbx,ex,cx⟩:=hx.ask (i:=xs.length - 1) (by omega);have hxl:x<4294967296:=by rw [← ex.out];exact dig_getD mx.1 (by omega) _
    have hx0:x≠0:=by rw [← ex.out];exact mx.2 (by omega)
    obtain ⟨h1,h2,h3⟩:=len_bits x hxl hx0;have HB:Hid (IsBits (V32 xs) (32*(xs.length - 1)+Lib.bitLen x)):=bits_top mx.1 (by omega) ex.out h1 h2;obtain ⟨l,hl⟩:∃ l,Lib.bitLen x=l:=⟨_,rfl⟩;have hcall:=Tryz.bits_Len32 (x:Int) w (by omega) (by omega);rw [Int.toNat_natCast,hl] at hcall;rw [hl] at HB h2 h3;have HCALL:=Lib.hid hcall;clear hcall h1 hl;go_enter Tryz.func235,Tryz.ntmps235;go_wp2_with fail;refine HCALL.out.mono ?_;rintro e w2 ⟨rfl,rfl⟩;go_wp2;go_ret;exact ⟨32*(xs.length - 1)+l,by go_num,HB.out,rfl⟩
def Half (V n v:Nat):Prop:=v*2 ^ n≤V∧V<(v+1)*2 ^ n
theorem Half.zero (V:Nat):Half V 0 V:=by unfold Half;simp
theorem Half.step {V n v q r k:Nat} (h:Half V n v) (e:v=q*2 ^ k+r) (hr:r<2 ^ k):Half V (n+k) q:=by
  have h1:q*(2 ^ k*2 ^ n)≤v*2 ^ n:=by rw [← Nat.mul_assoc];exact Nat.mul_le_mul_right _ (by omega)
  have h2:(v+1)*2 ^ n≤(q+1)*(2 ^ k*2 ^ n):=by rw [← Nat.mul_assoc];exact Nat.mul_le_mul_right _ (by rw [Nat.add_mul];omega)
  unfold Half at h ⊢;rw [Nat.pow_add,Nat.mul_comm (2 ^ n)];omega
end Go.Proofs.YtgekmfcbbjeahaaGreatDoor
/- nat.Shift and isochroneref01.Two. -/
namespace Go.Proofs.YtgekmfcbbjeahaaGreatDoor
open Go.RowKit V
theorem rd_nat1 (w:World) (d:Nat):Rd .i64 (w.alloc (.cells #[.int .i64 (d:Nat)] 3)) (some ⟨w.heap.size,0,none⟩) [d]:=(Row.new (k:=.i64) (t:=3) w [d]).rd
theorem nm_one:Nm [1]:=⟨fun x hx=>by simp at hx;omega,fun _=>by simp⟩
end Go.Proofs.YtgekmfcbbjeahaaGreatDoor
/- isochronelaw01.NatShifts answers true for all arguments. -/
namespace Go.Proofs.YtgekmfcbbjeahaaGreatDoor
open Go.RowKit V
theorem pow_words (k:Nat):(4294967296:Nat) ^ k=2 ^ (32*k):=by rw [Nat.pow_mul]
theorem V32_pos {xs:List Nat} (hx:Mag xs) (h:0<xs.length):1≤V32 xs:=by
  have h1:=val_ge (B:=4294967296) hx.2 h;have h2:0<4294967296 ^ (xs.length - 1):=Nat.pow_pos (by omega);unfold V32;omega
end Go.Proofs.YtgekmfcbbjeahaaGreatDoor
/- nat.pow, nat.Pow and isochroneref01.Pow. -/
namespace Go.Proofs.YtgekmfcbbjeahaaGreatDoor
open Go.RowKit V
theorem bits_le {v b k:Nat} (h:IsBits v b) (hv:v<2 ^ k):b≤k:=by
  rcases Nat.lt_or_ge k b with h1 | h1
  · have h2:=h.2 (by omega);have h3:2 ^ k≤2 ^ (b - 1):=Nat.pow_le_pow_right (by omega) (by omega);omega
  · exact h1
theorem bits_words {xs:List Nat} {b k:Nat} (mx:Mag xs) (hl:xs.length≤k) (h:IsBits (V32 xs) b):b≤32*k:=
  bits_le h (by have:=V32_lt mx hl;rw [pow_words] at this;exact this)
end Go.Proofs.YtgekmfcbbjeahaaGreatDoor
/- isochronelaw01.NatPowers answers true for all arguments. -/
namespace Go.Proofs.YtgekmfcbbjeahaaGreatDoor
open Go.RowKit V
def No (w:World) (e:Ending) (w':World):Prop:=e = .returned (.bool false)∧Below w.heap.size w w'
def SomeP (w:World) (e:Ending) (w':World):Prop:=∃ A c m en,e = .returned (.tuple #[.slice A m c,.int .i64 en])∧Below w.heap.size w w'
theorem FitP.some {Q:List Nat→Prop} {w w':World} {e:Ending} (h:FitP Q w e w'):SomeP w e w':=by
  obtain ⟨A,c,zs,h1,h2,h3,h4,h5⟩:=h;rcases h5 with h5 | h5
  · exact ⟨A,c,_,_,h5.2,h3⟩
  · exact ⟨none,0,_,_,h5.2,h3⟩
theorem ErrP.some {n:Int} {w w':World} {e:Ending} (h:ErrP n w e w'):SomeP w e w':=⟨none,0,_,_,h.1,h.2⟩
end Go.Proofs.YtgekmfcbbjeahaaGreatDoor
/- nat.timesAdd: a number times a word and a word more, in place where it can. -/
namespace Go.Proofs.YtgekmfcbbjeahaaGreatDoor
open Go.RowKit V
theorem carry_facts (x f c:Nat) (hx:x<4294967296) (hf:f<4294967296) (hc:c<4294967296):∃ s c2:Nat,s<4294967296∧c2<4294967296∧x*f+c<18446744073709551616∧Hid (((x:Int)*f+c) % 4294967296=s)∧Hid (((x:Int)*f+c) / 4294967296=c2)∧Hid (s+4294967296*c2=x*f+c):=by
  have h1:x*f≤4294967295*4294967295:=Nat.mul_le_mul (by omega) (by omega);have e:((x*f+c:Nat):Int)=(x:Int)*f+c:=by simp
  refine ⟨(x*f+c) % 4294967296,(x*f+c) / 4294967296,Nat.mod_lt _ (by omega),by omega,by omega,?_,?_,by show _=_;omega⟩
  · show _=_;rw [← e];omega
  · show _=_;rw [← e];omega
end Go.Proofs.YtgekmfcbbjeahaaGreatDoor
/- isochroneref01.Text: the decimal digits of a number of at most 1000 digits of the document. -/
namespace Go.Proofs.YtgekmfcbbjeahaaGreatDoor
open Go.RowKit V
def Place (T x k v:Nat):Prop:=(k=1000∧v=T)∨(k=100∧v=T*10+x / 1000)∨(k=10∧v=T*100+x / 100)∨(k=1∧v=T*1000+x / 10)∨(k=0∧v=T*10000+x)
theorem Place.step {T x k v:Nat} (h:Place T x k v) (hx:x<10000) (hk:k≠0):Place T x (k / 10) (v*10+x / k % 10):=by
  unfold Place at h ⊢;rcases h with ⟨rfl,rfl⟩ | ⟨rfl,rfl⟩ | ⟨rfl,rfl⟩ | ⟨rfl,rfl⟩ | ⟨rfl,rfl⟩ <;> omega
theorem Place.done {T x v:Nat} (h:Place T x 0 v):v=T*10000+x:=by unfold Place at h;omega
theorem Place.bound {T x k v:Nat} (h:Place T x k v):v≤T*10000+x:=by unfold Place at h;omega
theorem Place.le {T x k v:Nat} (h:Place T x k v):k≤1000:=by unfold Place at h;omega
end Go.Proofs.YtgekmfcbbjeahaaGreatDoor
/- isochronelaw01.NatTexts answers true for all arguments. -/
namespace Go.Proofs.YtgekmfcbbjeahaaGreatDoor
open Go.RowKit V
theorem dec_short {xs:List Nat} {k:Nat} (hx:Mag xs) (hl:xs.length≤k) (hk:1≤k):(Lib.decDigits (V32 xs)).length≤10*k:=by
  refine (pad_eq (10*k) (V32 xs) (by omega) ?_).1;have h1:=V32_lt hx hl;have h2:4294967296 ^ k≤10000000000 ^ k:=Nat.pow_le_pow_left (by omega) _;have h3:(10000000000:Nat) ^ k=10 ^ (10*k):=by rw [Nat.pow_mul]
  omega
theorem OkP.some {Q:List Nat→Prop} {w w':World} {e:Ending} (h:OkP Q w e w'):SomeP w e w':=by
  obtain ⟨A,c,zs,h1,h2,h3,h4,h5⟩:=h;exact ⟨A,c,_,_,h5,h3⟩
end Go.Proofs.YtgekmfcbbjeahaaGreatDoor
/- nat.takeTimes and nat.addBack: a multiple of the divisor is taken from a window of the rest, or given back. -/
namespace Go.Proofs.YtgekmfcbbjeahaaGreatDoor
open Go.RowKit V
theorem seg_get {pre win post:List Nat} {i k:Nat} (hi:pre.length=i) (hk:k<win.length):(pre ++ (win ++ post)).getD (i+k) 0=win.getD k 0:=by
  rw [List.getD_eq_getElem?_getD,List.getD_eq_getElem?_getD,List.getElem?_append_right (by omega),List.getElem?_append_left (by omega),show i+k - pre.length=k by omega]
theorem seg_set {pre win post:List Nat} {i k s:Nat} (hi:pre.length=i) (hk:k<win.length):(pre ++ (win ++ post)).set (i+k) s=pre ++ (win.set k s ++ post):=by
  rw [List.set_append,if_neg (by omega),List.set_append,if_pos (by omega),show i+k - pre.length=k by omega]
theorem seg_len {pre win post:List Nat} {i:Nat} (hi:pre.length=i):(pre ++ (win ++ post)).length=i+(win.length+post.length):=by simp [hi]
theorem take_step (B k s c c' b b' x v f:Nat) (cur ls ss:List Nat) (hk:k<cur.length) (hl:k<ls.length) (hs:k<ss.length) (ex:ls.getD k 0=x) (ev:ss.getD k 0=v)
    (e:s+v*f+c+b=x+B*(c'+b')) (hv:val B (cur.take k)+f*val B (ss.take k)=val B (ls.take k)+B ^ k*(c+b)) :
    val B ((cur.set k s).take (k+1))+f*val B (ss.take (k+1))=val B (ls.take (k+1))+B ^ (k+1)*(c'+b'):=by
  rw [val_set_take B cur k s hk,val_take_succ B ls k hl,val_take_succ B ss k hs,ex,ev,Nat.pow_succ,Nat.mul_assoc];have h:=congrArg (B ^ k * ·) e;have h2:f*(val B (ss.take k)+B ^ k*v)=f*val B (ss.take k)+B ^ k*(v*f):=by
    rw [Nat.mul_add,Nat.mul_left_comm,Nat.mul_comm f v]
  rw [h2];simp only [Nat.mul_add] at h hv ⊢;omega
theorem take_end (B k s c b b' x t:Nat) (cur ls:List Nat) (hk:cur.length=k+1) (hl:ls.length=k+1) (ex:ls.getD k 0=x)
    (e:s+c+b=x+B*b') (hv:val B (cur.take k)+t=val B (ls.take k)+B ^ k*(c+b)) :
    val B (cur.set k s)+t=val B ls+B ^ (k+1)*b':=by
  have h1:=val_set_take B cur k s (by omega);rw [List.take_of_length_le (by rw [List.length_set];omega)] at h1;have h2:=val_take_succ B ls k (by omega);rw [List.take_of_length_le (by omega),ex] at h2;rw [h1,h2,Nat.pow_succ,Nat.mul_assoc];have h:=congrArg (B ^ k * ·) e;simp only [Nat.mul_add] at h hv ⊢;omega
theorem OnlyAt.cell_ {g:Nat} {w w':World} {p:Addr} (h:OnlyAt (some ⟨g,0,none⟩) w w') (hp:g≠p.block):w'.cell? p=w.cell? p:=
  World.cell?_of_block (h.block p.block fun ad e=>by injection e with e;subst e;exact hp)
theorem OnlyAt.row {k:IntKind} {t:TypeId} {g g2:Nat} {w w':World} {xs:List Nat} (h:OnlyAt (some ⟨g,0,none⟩) w w') (hr:Row k t w g2 xs) (hne:g≠g2):Row k t w' g2 xs:=
  (h.block g2 fun ad e=>by injection e with e;subst e;exact hne).trans hr
def TakeP (g : Nat) (pre win post ds : List Nat) (f : Nat) (w : World) (e : Ending) (w' : World) : Prop :=
  ∃ b : Nat, ∃ win', b ≤ 1 ∧ e = .returned (.bool (decide (b = 1))) ∧ win'.length = win.length ∧ Dig 4294967296 win' ∧ Hid (val 4294967296 win' + f * val 4294967296 ds = val 4294967296 win + 4294967296 ^ win.length * b) ∧
    Row .u32 140 w' g (pre ++ (win' ++ post))∧OnlyAt (some ⟨g,0,none⟩) w w'
set_option maxHeartbeats 1000000 in
theorem take_any (g i n f c d : Nat) (B : Option Addr) (pre win post ds : List Nat) (w : World) (hrow : Row .u32 140 w g (pre ++ (win ++ post))) (hi : pre.length = i) (hwl : win.length = n + 1) (hdl : ds.length = n)
    (hy:Rd .u32 w B ds) (hB:∀ b,B=some b→0<n→b.block<g) (bl:i+n≤200000) (hf:f<4294967296) (dw:Dig 4294967296 win) (dd:Dig 4294967296 ds) :
    Calls Tryz.prog 246 #[.slice (some ⟨g,i,none⟩) (n+1) c,.slice B n d,.int .u32 f] w (TakeP g pre win post ds f w):=by
  have HI:=Lib.hid hi;have HWL:=Lib.hid hwl;have HDL:=Lib.hid hdl;clear hi hwl hdl;go_enter Tryz.func246,Tryz.ntmps246;go_wp2;go_loopw [7,8,9,10,11,14] (fun cv bv _ _ _ kv wr=>∃ k c b:Nat,∃ win',k≤n∧kv = .int .i64 k∧cv = .int .u64 c∧bv = .int .u32 b∧c<4294967296∧b≤1∧win'.length=n+1∧Dig 4294967296 win' ∧
      val 4294967296 (win'.take k)+f*val 4294967296 (ds.take k)=val 4294967296 (win.take k)+4294967296 ^ k*(c+b)∧(∀ j,k≤j→win'.getD j 0=win.getD j 0)∧Row .u32 140 wr g (pre ++ (win' ++ post))∧OnlyAt (some ⟨g,0,none⟩) w wr) (fun _ _ _ _ _ kv _=>n - (intOf kv).toNat)
  case atStart=>exact ⟨0,0,0,win,Nat.zero_le _,rfl,rfl,rfl,by omega,by omega,HWL.out,dw,by simp [val],fun _ _=>rfl,hrow,OnlyAt.refl _ _⟩
  case round=>
    obtain ⟨k,c,b,win',hk,rfl,rfl,rfl,hc,hb,hwl,hdw,hv,hout,hrow',hbw⟩:=hrel;have HV:=Lib.hid hv;have HL:=Lib.hid hwl;have HO:=Lib.hid hout;have hkw:k<win'.length:=by omega
    clear hv hwl hout;obtain ⟨x,ex⟩:∃ x,Hid (win.getD k 0=x):=⟨_,rfl⟩;have hxl:x<4294967296:=by rw [← ex.out];exact dig_getD dw (by omega) k
    have hcell:wr.cell? ⟨g,i+k,none⟩=some (.int .u32 x):=by
      have h1:=hrow'.cell (i:=i+k) (by rw [seg_len HI.out];omega);rwa [seg_get HI.out hkw,HO.out k (Nat.le_refl _),ex.out] at h1
    have hfr:=hrow'.frozen (i+k)
    by_cases hlt:k<n
    · obtain ⟨bd,v,rfl,hby,ev,cv⟩:=hy.ask (i:=k) (by rw [HDL.out];exact hlt);have hbg:bd.block<g:=hB bd rfl (by omega);have cv':wr.cell? (bd.add k)=some (.int .u32 v):=(hbw.cell_ (by rw [block_of_add];exact Nat.ne_of_gt hbg)).trans cv;have hvl:v<4294967296:=by rw [← ev.out];exact dig_getD dd (by omega) k
      obtain ⟨t,c2,ht,hc2,hlim,et,ec,hsc⟩:=carry_facts v f c hvl hf hc;have hlimI:(v:Int)*f+c<18446744073709551616:=by
        have e:((v*f+c:Nat):Int)=(v:Int)*f+c:=by simp
        rw [← e];omega
      have hm0:(0:Int)≤(v:Int)*f:=Int.mul_nonneg (by omega) (by omega);have et':=et.out;clear hlim;go_wp2_with (go_at_call 248;refine (sub32_ x t b _ hxl ht hb).mono ?_;rintro e w1 ⟨s,d2,hs,hd2,hsd,rfl,rfl⟩);go_roundw
      case rel=>
        exact ⟨k+1,c2,d2,win'.set k s,by omega,by go_num,by rw [ec.out],rfl,hc2,hd2,by rw [List.length_set];exact HL.out,hdw.set _ hs,
          take_step _ k s c c2 b d2 x v f win' win ds hkw (by have:=HWL.out;omega) (by rw [HDL.out];exact hlt) ex.out ev.out (by have h1:=hsd.out;have h2:=hsc.out;omega) HV.out,
          fun j hj=>by rw [getD_set _ _ _ _ hkw,if_neg (by omega)];exact HO.out j (by omega),
          by have:=hrow'.set_ (i+k) s;rwa [seg_set HI.out hkw] at this,hbw.setCell rfl _⟩
      case measure=>simp [intOf];omega
    · obtain rfl:k=n:=by omega
      go_wp2_with (go_at_call 248;refine (sub32_ x c b _ hxl hc hb).mono ?_;rintro e w1 ⟨s,d2,hs,hd2,hsd,rfl,rfl⟩);go_ret;have hbl:Ending.returned (.bool ((d2:Int) != 0)) = .returned (.bool (decide (d2=1))):=by
        rcases Nat.le_one_iff_eq_zero_or_eq_one.1 hd2 with h | h
        · subst h;rfl
        · subst h;rfl
      refine ⟨d2,win'.set k s,hd2,hbl,by rw [List.length_set,HL.out,HWL.out],hdw.set _ hs,?_,?_,hbw.setCell rfl _⟩
      · show _=_;have h1:=HV.out;rw [List.take_of_length_le (l:=ds) (by rw [HDL.out];exact Nat.le_refl _)] at h1;rw [HWL.out];exact take_end _ k s c b d2 x _ win' win HL.out HWL.out ex.out hsd.out h1
      · have:=hrow'.set_ (i+k) s;rwa [seg_set HI.out hkw] at this
def BackP (g : Nat) (pre win post ds : List Nat) (w : World) (e : Ending) (w' : World) : Prop :=
  ∃ b : Nat, ∃ win', b ≤ 1 ∧ e = .returned (.tuple #[]) ∧ win'.length = win.length ∧ Dig 4294967296 win' ∧ Hid (val 4294967296 win' + 4294967296 ^ win.length * b = val 4294967296 win + val 4294967296 ds) ∧
    Row .u32 140 w' g (pre ++ (win' ++ post))∧OnlyAt (some ⟨g,0,none⟩) w w'
theorem back_end (B k s c c' x t:Nat) (cur ls:List Nat) (hk:cur.length=k+1) (hl:ls.length=k+1) (ex:ls.getD k 0=x)
    (e:s+B*c'=x+c) (hv:val B (cur.take k)+B ^ k*c=val B (ls.take k)+t) :
    val B (cur.set k s)+B ^ (k+1)*c'=val B ls+t:=by
  have h1:=val_set_take B cur k s (by omega);rw [List.take_of_length_le (by rw [List.length_set];omega)] at h1;have h2:=val_take_succ B ls k (by omega);rw [List.take_of_length_le (by omega),ex] at h2;rw [h1,h2,Nat.pow_succ,Nat.mul_assoc];have h:=congrArg (B ^ k * ·) e;simp only [Nat.mul_add] at h hv ⊢;omega
set_option maxHeartbeats 1000000 in
theorem back_any (g i n c d : Nat) (B : Option Addr) (pre win post ds : List Nat) (w : World) (hrow : Row .u32 140 w g (pre ++ (win ++ post))) (hi : pre.length = i) (hwl : win.length = n + 1) (hdl : ds.length = n)
    (hy:Rd .u32 w B ds) (hB:∀ b,B=some b→0<n→b.block<g) (bl:i+n≤200000) (dw:Dig 4294967296 win) (dd:Dig 4294967296 ds) :
    Calls Tryz.prog 247 #[.slice (some ⟨g,i,none⟩) (n+1) c,.slice B n d] w (BackP g pre win post ds w):=by
  have HI:=Lib.hid hi;have HWL:=Lib.hid hwl;have HDL:=Lib.hid hdl;clear hi hwl hdl;go_enter Tryz.func247,Tryz.ntmps247;go_wp2;go_loopw [4,5,6,9] (fun cv _ _ kv wr=>∃ k c:Nat,∃ win',k≤n∧kv = .int .i64 k∧cv = .int .u32 c∧c≤1∧win'.length=n+1∧Dig 4294967296 win' ∧
      val 4294967296 (win'.take k)+4294967296 ^ k*c=val 4294967296 (win.take k)+val 4294967296 (ds.take k)∧(∀ j,k≤j→win'.getD j 0=win.getD j 0)∧Row .u32 140 wr g (pre ++ (win' ++ post))∧OnlyAt (some ⟨g,0,none⟩) w wr) (fun _ _ _ kv _=>n - (intOf kv).toNat)
  case atStart=>exact ⟨0,0,win,Nat.zero_le _,rfl,rfl,by omega,HWL.out,dw,by simp [val],fun _ _=>rfl,hrow,OnlyAt.refl _ _⟩
  case round=>
    obtain ⟨k,c,win',hk,rfl,rfl,hc,hwl,hdw,hv,hout,hrow',hbw⟩:=hrel;have HV:=Lib.hid hv;have HL:=Lib.hid hwl;have HO:=Lib.hid hout;have hkw:k<win'.length:=by omega
    clear hv hwl hout;obtain ⟨x,ex⟩:∃ x,Hid (win.getD k 0=x):=⟨_,rfl⟩;have hxl:x<4294967296:=by rw [← ex.out];exact dig_getD dw (by omega) k
    have hcell:wr.cell? ⟨g,i+k,none⟩=some (.int .u32 x):=by
      have h1:=hrow'.cell (i:=i+k) (by rw [seg_len HI.out];omega);rwa [seg_get HI.out hkw,HO.out k (Nat.le_refl _),ex.out] at h1
    have hfr:=hrow'.frozen (i+k)
    by_cases hlt:k<n
    · obtain ⟨bd,v,rfl,hby,ev,cv⟩:=hy.ask (i:=k) (by rw [HDL.out];exact hlt);have hbg:bd.block<g:=hB bd rfl (by omega);have cv':wr.cell? (bd.add k)=some (.int .u32 v):=(hbw.cell_ (by rw [block_of_add];exact Nat.ne_of_gt hbg)).trans cv;have hvl:v<4294967296:=by rw [← ev.out];exact dig_getD dd (by omega) k
      go_wp2_with (go_at_call 249;refine (add32_ x v c _ hxl hvl hc).mono ?_;rintro e w1 ⟨s,d2,hs,hd2,hsd,rfl,rfl⟩);go_roundw
      case rel=>
        exact ⟨k+1,d2,win'.set k s,by omega,by go_num,rfl,hd2,by rw [List.length_set];exact HL.out,hdw.set _ hs,
          add_step _ k s c d2 x v win' win ds hkw (by have:=HWL.out;omega) (by rw [HDL.out];exact hlt) ex.out ev.out hsd.out HV.out,
          fun j hj=>by rw [getD_set _ _ _ _ hkw,if_neg (by omega)];exact HO.out j (by omega),
          by have:=hrow'.set_ (i+k) s;rwa [seg_set HI.out hkw] at this,hbw.setCell rfl _⟩
      case measure=>simp [intOf];omega
    · obtain rfl:k=n:=by omega
      obtain ⟨s,d2,hs,hd2,es,hsd⟩:∃ s d2:Nat,s<4294967296∧d2≤1∧Hid (((x:Int)+c) % 4294967296=s)∧Hid (s+4294967296*d2=x+c):=
        ⟨(x+c) % 4294967296,(x+c) / 4294967296,Nat.mod_lt _ (by omega),by omega,by show _=_;omega,by show _=_;omega⟩
      go_wp2;go_end0;refine ⟨d2,win'.set k s,hd2,rfl,by rw [List.length_set,HL.out,HWL.out],hdw.set _ hs,?_,?_,hbw.setCell rfl _⟩
      · show _=_;have h1:=HV.out;rw [List.take_of_length_le (l:=ds) (by rw [HDL.out];exact Nat.le_refl _)] at h1;rw [HWL.out];exact back_end _ k s c d2 x _ win' win HL.out HWL.out ex.out hsd.out h1
      · have:=hrow'.set_ (i+k) s;rw [seg_set HI.out hkw] at this;rw [es.out];exact this
end Go.Proofs.YtgekmfcbbjeahaaGreatDoor
