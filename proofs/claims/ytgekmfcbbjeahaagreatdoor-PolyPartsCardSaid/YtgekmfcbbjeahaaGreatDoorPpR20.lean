/- The reference's rational Mul with the type of the blocks. -/
import Derived.Test.YtgekmfcbbjeahaaGreatDoorPpR19
import Derived.RegionTactic
import Derived.ChangeAlike
namespace Go.Proofs.YtgekmfcbbjeahaaGreatDoor
open Go.RowKit V
set_option maxRecDepth 100000 in
set_option maxHeartbeats 3200000 in
theorem rmulqT (a b:RL) (p q:Rat) (w:World) (ha:a.Ref w p) (hb_:b.Ref w q) (bl:a.ns.length+a.ds.length+b.ns.length+b.ds.length≤9000) :
    Calls Tryz.prog 65 #[.agg #[.bool a.s,.slice a.N a.ns.length a.nc,.slice a.D a.ds.length a.dc],.agg #[.bool b.s,.slice b.N b.ns.length b.nc,.slice b.D b.ds.length b.dc]] w (RefT (p*q) (a.ns.length+b.ns.length+1) (a.ds.length+b.ds.length+1) w):=by
  go_enter Tryz.func65,Tryz.ntmps65;go_wp2_with fail;have hbox:=boxes3 46 w (.bool a.s) (.slice a.N a.ns.length a.nc) (.slice a.D a.ds.length a.dc) (.bool b.s) (.slice b.N b.ns.length b.nc) (.slice b.D b.ds.length b.dc) (.bool false) (.slice none 0 0) (.slice none 0 0);obtain ⟨w1,hwe⟩:∃ x,((w.alloc (.cells #[.bool a.s,.slice a.N a.ns.length a.nc,.slice a.D a.ds.length a.dc] 46)).alloc (.cells #[.bool b.s,.slice b.N b.ns.length b.nc,.slice b.D b.ds.length b.dc] 46)).alloc (.cells #[.bool false,.slice none 0 0,.slice none 0 0] 46)=x:=⟨_,rfl⟩;rw [hwe] at hbox ⊢;obtain ⟨ka1,kb1,kr1,hb1⟩:=hbox;have HWE:=Lib.hid hwe;clear hwe HWE;have ha1:=ha.below hb1;have hb_1:=hb_.below hb1;have hw1:=hb1;clear ha hb_ hb1;have hna1:=ha1.rn;have hda1:=ha1.rd;have hnb1:=hb_1.rn;have hdb1:=hb_1.rd;have mna:=ha1.mn;have mda:=ha1.md;have mnb:=hb_1.mn;have mdb:=hb_1.md;have HQ:=Lib.hid (mul_q ha1.q hb_1.q);have HDP:Hid (0<VD a.ds*VD b.ds):=Nat.mul_pos ha1.q.pos hb_1.q.pos;have e1:¬ (w.heap.size=w.heap.size+1+1):=by omega
  have e2:¬ (w.heap.size+1+1=w.heap.size):=by omega
  obtain ⟨a0,a1,a2,a3,a4,a5,a6⟩:=ka1.facts;obtain ⟨b0,b1,b2,b3,b4,b5,b6⟩:=kb1.facts;go_upto_region 1 with fail;go_region_held3 (fun w'=>w'.cell? ⟨w.heap.size,0,none⟩=some (.bool a.s)∧w'.cell? ⟨w.heap.size,1,none⟩=some (.slice a.N a.ns.length a.nc)∧w'.cell? ⟨w.heap.size,2,none⟩=some (.slice a.D a.ds.length a.dc)∧w'.cell? ⟨w.heap.size+1,0,none⟩=some (.bool b.s)∧w'.cell? ⟨w.heap.size+1,1,none⟩=some (.slice b.N b.ns.length b.nc)∧w'.cell? ⟨w.heap.size+1,2,none⟩=some (.slice b.D b.ds.length b.dc)) (first | exact ⟨‹_›,‹_›,‹_›,‹_›,‹_›,‹_›⟩ | go_keep)
    (first
    | (go_at_call_of 120 (Value.slice a.N a.ns.length a.nc)
       refine (rmul_anyT a.N b.N a.nc b.nc a.ns b.ns _ (by first | exact hna1 | exact hna1.drew | exact hna1.alloc _ | exact (hna1.alloc _).drew | exact hna1.drew.alloc _) (by first | exact hnb1 | exact hnb1.drew | exact hnb1.alloc _ | exact (hnb1.alloc _).drew | exact hnb1.drew.alloc _) (by omega) mna mnb).mono ?_;rintro e wx_ ⟨X,xc,xs,rfl,hxc,hX,hbx,hvx,mx_,hxl⟩;have HVX:=Lib.hid hvx;clear hvx;have hbp0:Below w1.heap.size w1 wx_:=by first | exact hbx | exact below_of_drew hbx (Nat.le_refl _) | exact ((Below.refl _ _).alloc (Nat.le_refl _) _).trans (hbx.mono (by simp)) | exact ((Below.refl _ _).alloc (Nat.le_refl _) _).trans ((below_of_drew hbx (Nat.le_refl _)).mono (by simp)) | exact below_of_drew (((Below.refl _ _).alloc (Nat.le_refl _) _).trans (hbx.mono (by simp))) (Nat.le_refl _)
       have hna_0:=hna1.below hbp0;have hda_0:=hda1.below hbp0;have hnb_0:=hnb1.below hbp0;have hdb_0:=hdb1.below hbp0;have ka_0:=ka1.below hbp0;obtain ⟨ka0wx_,ka1wx_,ka2wx_,ka3wx_,ka4wx_,ka5wx_,ka6wx_⟩:=ka_0.facts;have kb_0:=kb1.below hbp0;obtain ⟨kb0wx_,kb1wx_,kb2wx_,kb3wx_,kb4wx_,kb5wx_,kb6wx_⟩:=kb_0.facts;have kr_0:=kr1.below hbp0;obtain ⟨kr0wx_,kr1wx_,kr2wx_,kr3wx_,kr4wx_,kr5wx_,kr6wx_⟩:=kr_0.facts;have hwq0:=hw1.trans (hbp0.mono hw1.size))
    | (go_at_call_of 120 (Value.slice a.D a.ds.length a.dc)
       refine (rmul_anyT a.D b.D a.dc b.dc a.ds b.ds _ (by first | exact hda_0 | exact hda_0.drew | exact hda_0.alloc _ | exact (hda_0.alloc _).drew | exact hda_0.drew.alloc _) (by first | exact hdb_0 | exact hdb_0.drew | exact hdb_0.alloc _ | exact (hdb_0.alloc _).drew | exact hdb_0.drew.alloc _) (by omega) mda mdb).mono ?_;rintro e wy_ ⟨Y,yc,ys,rfl,hyc,hY,hby,hvy,my_,hyl⟩;have HVY:=Lib.hid hvy;clear hvy;have hyp:0<ys.length:=len_of_VD (by rw [HVY.out];exact HDP.out);have hbp1:Below wx_.heap.size wx_ wy_:=by first | exact hby | exact below_of_drew hby (Nat.le_refl _) | exact ((Below.refl _ _).alloc (Nat.le_refl _) _).trans (hby.mono (by simp)) | exact ((Below.refl _ _).alloc (Nat.le_refl _) _).trans ((below_of_drew hby (Nat.le_refl _)).mono (by simp)) | exact below_of_drew (((Below.refl _ _).alloc (Nat.le_refl _) _).trans (hby.mono (by simp))) (Nat.le_refl _)
       have hna_1:=hna_0.below hbp1;have hda_1:=hda_0.below hbp1;have hnb_1:=hnb_0.below hbp1;have hdb_1:=hdb_0.below hbp1;have hX_1:=hX.below hbp1;have ka_1:=ka_0.below hbp1;obtain ⟨ka0wy_,ka1wy_,ka2wy_,ka3wy_,ka4wy_,ka5wy_,ka6wy_⟩:=ka_1.facts;have kb_1:=kb_0.below hbp1;obtain ⟨kb0wy_,kb1wy_,kb2wy_,kb3wy_,kb4wy_,kb5wy_,kb6wy_⟩:=kb_1.facts;have kr_1:=kr_0.below hbp1;obtain ⟨kr0wy_,kr1wy_,kr2wy_,kr3wy_,kr4wy_,kr5wy_,kr6wy_⟩:=kr_1.facts;have hwq1:=hwq0.trans (hbp1.mono hwq0.size))
    | (go_at_call 119
       refine (rmakeT (a.s != b.s) X Y xc yc xs ys _ (by first | exact hX_1 | exact hX_1.drew | exact hX_1.alloc _ | exact (hX_1.alloc _).drew | exact hX_1.drew.alloc _) (by first | exact hY | exact hY.drew | exact hY.alloc _ | exact (hY.alloc _).drew | exact hY.drew.alloc _) mx_ my_ (by omega) (by omega) hyp).mono ?_;rintro e wm_ ⟨g,rfl,hg,hgt,hg1,hg2,hbm⟩;rw [HVX.out,HVY.out,HQ.out] at hg;have hbp2:Below wy_.heap.size wy_ wm_:=by first | exact hbm | exact below_of_drew hbm (Nat.le_refl _) | exact ((Below.refl _ _).alloc (Nat.le_refl _) _).trans (hbm.mono (by simp)) | exact ((Below.refl _ _).alloc (Nat.le_refl _) _).trans ((below_of_drew hbm (Nat.le_refl _)).mono (by simp)) | exact below_of_drew (((Below.refl _ _).alloc (Nat.le_refl _) _).trans (hbm.mono (by simp))) (Nat.le_refl _)
       have hna_2:=hna_1.below hbp2;have hda_2:=hda_1.below hbp2;have hnb_2:=hnb_1.below hbp2;have hdb_2:=hdb_1.below hbp2;have hX_2:=hX_1.below hbp2;have hY_2:=hY.below hbp2;have ka_2:=ka_1.below hbp2;obtain ⟨ka0wm_,ka1wm_,ka2wm_,ka3wm_,ka4wm_,ka5wm_,ka6wm_⟩:=ka_2.facts;have kb_2:=kb_1.below hbp2;obtain ⟨kb0wm_,kb1wm_,kb2wm_,kb3wm_,kb4wm_,kb5wm_,kb6wm_⟩:=kb_2.facts;have kr_2:=kr_1.below hbp2;obtain ⟨kr0wm_,kr1wm_,kr2wm_,kr3wm_,kr4wm_,kr5wm_,kr6wm_⟩:=kr_2.facts;have hwq2:=hwq1.trans (hbp2.mono hwq1.size)))
  all_goals
    go_wp2_with fail;refine bodyPost_ret (v:=.agg #[.bool g.s,.slice g.N g.ns.length g.nc,.slice g.D g.ds.length g.dc]) (by simp [results,Tryz.results65,go_sem,kr0wm_,kr1wm_,kr2wm_]) rfl ?_;exact RefT.put g hg hgt kr_2 (by omega) hwq2 (by omega) (by omega)
end Go.Proofs.YtgekmfcbbjeahaaGreatDoor
/- wide.fromShort and wide.toShort. -/
namespace Go.Proofs.YtgekmfcbbjeahaaGreatDoor
open Go.RowKit V
theorem pairs_zeros:∀ n,pairs (List.replicate n 0)=List.replicate ((n+1) / 2) 0
  | 0=>rfl
  | 1=>rfl
  | n + 2 => by
    have:=pairs_zeros n;rw [List.replicate_succ,List.replicate_succ,pairs,this,show (n+2+1) / 2=(n+1) / 2+1 by omega,List.replicate_succ]
theorem pairs_set:∀ (l:List Nat) (k x:Nat),k<l.length→l.getD k 0=0→pairs (l.set k x)=(pairs l).set (k / 2) ((pairs l).getD (k / 2) 0+x*4294967296 ^ (k % 2))
  | [],k,x,h,_=>by simp at h
  | [a], k, x, h, h0 => by
    obtain rfl:k=0:=by simp at h;omega
    simp at h0;subst h0;simp [pairs]
  | a :: b :: r, 0, x, _, h0 => by
    simp at h0;subst h0;simp [pairs];omega
  | a :: b :: r, 1, x, _, h0 => by
    simp at h0;subst h0;simp [pairs,Nat.mul_comm]
  | a :: b :: r, k + 2, x, h, h0 => by
    have ih:=pairs_set r k x (by simpa using h) (by simpa using h0);rw [show (k+2) / 2=k / 2+1 by omega,show (k+2) % 2=k % 2 by omega];simp only [List.set_cons_succ,pairs,ih,List.getD_cons_succ]
theorem pairs_odd_lt:∀ (l:List Nat) (k:Nat),k % 2=1→k<l.length→l.getD k 0=0→Dig 4294967296 l→(pairs l).getD (k / 2) 0<4294967296
  | [],k,_,h,_,_=>by simp at h
  | [a],k,h1,h,_,_=>by simp at h;omega
  | a :: b :: r,0,h1,_,_,_=>by omega
  | a :: b :: r, 1, _, _, h0, hd => by
    simp at h0;subst h0;simpa [pairs] using hd a (by simp)
  | a :: b :: r, k + 2, h1, h, h0, hd => by
    rw [show (k+2) / 2=k / 2+1 by omega];simp only [pairs,List.getD_cons_succ];exact pairs_odd_lt r k (by omega) (by simpa using h) (by simpa using h0) (fun x hx=>hd x (by simp [hx]))
theorem pairs_even_zero:∀ (l:List Nat) (k:Nat),k % 2=0→(∀ j,k≤j→l.getD j 0=0)→(pairs l).getD (k / 2) 0=0
  | [],k,_,_=>by simp [pairs]
  | [a],0,_,h0=>by have:=h0 0 (by omega);simpa [pairs] using this
  | [a], k + 1, _, _ => by
    simp only [pairs];rw [List.getD_eq_getElem?_getD,List.getElem?_eq_none (by simp;omega)];rfl
  | a :: b :: r, 0, _, h0 => by
    have h1:=h0 0 (by omega);have h2:=h0 1 (by omega);simp at h1 h2;simp [pairs,h1,h2]
  | a :: b :: r,1,h,_=>by omega
  | a :: b :: r, k + 2, h, h0 => by
    rw [show (k+2) / 2=k / 2+1 by omega];simp only [pairs,List.getD_cons_succ];exact pairs_even_zero r k (by omega) (fun j hj=>by have:=h0 (j+2) (by omega);simpa using this)
def part (xs:List Nat) (k:Nat):List Nat:=xs.take k ++ List.replicate (xs.length - k) 0
theorem part_len (xs:List Nat) (k:Nat) (h:k≤xs.length):(part xs k).length=xs.length:=by
  unfold part;rw [List.length_append,List.length_take,List.length_replicate];omega
theorem part_beyond (xs:List Nat) (k j:Nat) (h:k≤xs.length) (hj:k≤j):(part xs k).getD j 0=0:=by
  unfold part;rw [List.getD_eq_getElem?_getD,List.getElem?_append_right (by rw [List.length_take];omega),List.getElem?_replicate];split <;> rfl
theorem part_set (xs:List Nat) (k:Nat) (h:k<xs.length):(part xs k).set k (xs.getD k 0)=part xs (k+1):=by
  unfold part;rw [List.set_append_right _ _ (by rw [List.length_take];omega),List.length_take,Nat.min_eq_left (by omega),Nat.sub_self,show xs.length - k=(xs.length - (k+1))+1 by omega,List.replicate_succ,List.set_cons_zero,take_succ xs k h,List.append_assoc];rfl
theorem part_dig (xs:List Nat) (k:Nat) (h:Dig 4294967296 xs):Dig 4294967296 (part xs k):=(h.take k).append (Dig.zeros (by omega) _)
theorem or_step (xs:List Nat) (k x o:Nat) (h:k<xs.length) (hd:Dig 4294967296 xs) (ex_:xs.getD k 0=x) (eo:(pairs (part xs k)).getD (k / 2) 0=o) :
    Hid (pairs (part xs (k+1))=(pairs (part xs k)).set (k / 2) (o+x*4294967296 ^ (k % 2)))∧o ||| x*4294967296 ^ (k % 2)=o+x*4294967296 ^ (k % 2)∧o<4294967296∧o+x*4294967296 ^ (k % 2)<18446744073709551616:=by
  have hx:x<4294967296:=by rw [← ex_];exact dig_getD hd (by omega) k
  have h1:(part xs k).getD k 0=0:=part_beyond xs k k (by omega) (Nat.le_refl _);have h2:=pairs_set (part xs k) k x (by rw [part_len xs k (by omega)];exact h) h1;rw [eo,← ex_,part_set xs k h] at h2;rw [ex_] at h2;refine ⟨h2,?_⟩;rcases Nat.mod_two_eq_zero_or_one k with he | he
  · have:o=0:=by rw [← eo];exact pairs_even_zero _ k he (fun j hj=>part_beyond xs k j (by omega) hj)
    subst this;rw [he];simp;omega
  · have ho:o<4294967296:=by rw [← eo];exact pairs_odd_lt _ k he (by rw [part_len xs k (by omega)];exact h) h1 (part_dig xs k hd)
    rw [he,Nat.pow_one];refine ⟨?_,ho,by omega⟩;have:=Nat.shiftLeft_add_eq_or_of_lt (b:=o) (i:=32) (by omega) x;rw [Nat.shiftLeft_eq,show (2:Nat) ^ 32=4294967296 from rfl] at this;rw [Nat.or_comm,← this,Nat.add_comm]
set_option maxRecDepth 100000 in
set_option maxHeartbeats 1000000 in
theorem wfromShort (A : Option Addr) (ca : Nat) (xs : List Nat) (w : World) (hx : Rd .u32 w A xs) (bx : xs.length ≤ 100000) (dx : Dig 4294967296 xs) :
    Calls Tryz.prog 114 #[.slice A xs.length ca] w (OutW (fun ys=>ys=pairs xs) w):=by
  have hmk:=fun W=>make_u64 ((xs.length+1) / 2) (((xs.length:Int)+1) / 2) (by omega) (by omega) W
  go_enter Tryz.func114,Tryz.ntmps114;go_wp2;clear hmk;go_loopw [4,5,13] (fun _ _ i wr=>∃ k:Nat,k≤xs.length∧i = .int .i64 k∧Row .u64 112 wr w.heap.size (pairs (part xs k))∧Below w.heap.size w wr) (fun _ _ i _=>xs.length - (intOf i).toNat)
  case atStart=>exact ⟨0,by omega,rfl,by simp only [part,List.take_zero,List.nil_append,Nat.sub_zero,pairs_zeros];exact Row.new _ _,(Below.refl _ _).alloc (Nat.le_refl _) _⟩
  case round=>
    obtain ⟨k,hk,rfl,hrow,hbw⟩:=hrel;have hpl:=pairs_len (part xs k);rw [part_len xs k hk] at hpl;have HPL:=Lib.hid hpl
    by_cases hlt:k<xs.length
    · obtain ⟨ad,x,rfl,hbx,ex_,cx⟩:=(hx.below hbw).ask hlt;have hkc:k / 2<(pairs (part xs k)).length:=by omega
      obtain ⟨o,ho⟩:∃ o,Hid ((pairs (part xs k)).getD (k / 2) 0=o):=⟨_,rfl⟩;have hcell:=hrow.cell hkc;rw [ho.out] at hcell;have hfr:=hrow.frozen (k / 2);have hxl:x<4294967296:=by rw [← ex_.out];exact dig_getD dx (by omega) k
      obtain ⟨HS,hor,hol,hsum⟩:=or_step xs k x o hlt dx ex_.out ho.out;clear hpl;obtain ⟨q,hq,e1⟩:∃ q:Nat,Hid (k / 2=q)∧(k:Int) / 2=q:=⟨k / 2,Lib.hid rfl,by omega⟩;rw [hq.out] at hcell hfr HS hkc;have hqb:q≤100000:=by have:=hq.out;omega
      rcases Nat.mod_two_eq_zero_or_one k with he | he
      · rw [he,Nat.pow_zero,Nat.mul_one] at HS hor hsum;have hb:=u64_or_nat o x (by omega) (by omega);rw [hor] at hb;have e2:(k:Int) % 2=0:=by omega
        have e3:(k:Int).tmod 2=0:=by rw [Int.tmod_eq_emod_of_nonneg (by omega)];omega
        have HB:=Lib.hid hb;clear hb hor he;go_wp2_with fail;go_region
        all_goals
          go_wp2;go_roundw
          case rel=>exact ⟨k+1,by omega,by go_num,by rw [HS.out,HB.out];exact (hrow.drew).set_ q _,(below_drew_ hbw 1).setCell (Nat.le_refl _) _⟩
          case measure=>simp [intOf];omega
      · rw [he,Nat.pow_one] at HS hor hsum;have hb:=u64_or_nat o (x*4294967296) (by omega) (by omega);rw [hor,show ((x*4294967296:Nat):Int)=(x:Int)*4294967296 by simp] at hb;have e2:(k:Int) % 2=1:=by omega
        have e3:(k:Int).tmod 2=1:=by rw [Int.tmod_eq_emod_of_nonneg (by omega)];omega
        have HB:=Lib.hid hb;clear hb hor he;go_wp2_with fail;go_region
        all_goals
          go_wp2;go_roundw
          case rel=>exact ⟨k+1,by omega,by go_num,by rw [HS.out,HB.out];exact (hrow.drew).set_ q _,(below_drew_ hbw 1).setCell (Nat.le_refl _) _⟩
          case measure=>simp [intOf];omega
    · obtain rfl:k=xs.length:=by omega
      go_wp2;go_ret;have e:part xs xs.length=xs:=by unfold part;simp
      rw [e] at hrow HPL;exact ⟨_,(xs.length+1) / 2,pairs xs,by rw [HPL.out];rfl,by rw [HPL.out];exact Nat.le_refl _,hrow.rw,hbw,rfl⟩
theorem hlv_short {xs:List Nat} (d:Dig 18446744073709551616 xs) {n:Nat} (h:IsShort (V64 xs) n):n≤2*xs.length∧V32 ((hlv xs).take n)=V64 xs∧Mag ((hlv xs).take n):=by
  have hl:=hlv_len xs;have hv:=val_hlv xs;have hd:=dig_hlv d;have hn:n≤2*xs.length:=by
    rcases Nat.lt_or_ge (2*xs.length) n with h1 | h1
    · have h2:=h.2 (by omega);have h3:=val_lt 4294967296 (hlv xs) hd;rw [hl,hv] at h3;have h4:(4294967296:Nat) ^ (2*xs.length)≤4294967296 ^ (n - 1):=Nat.pow_le_pow_right (by omega) (by omega);unfold V64 at h2;omega
    · exact h1
  have hs:=val_split 4294967296 (hlv xs) n (by omega);have hz:val 4294967296 ((hlv xs).drop n)=0:=by
    rcases Nat.eq_zero_or_pos (val 4294967296 ((hlv xs).drop n)) with h0 | h0
    · exact h0
    · have h1:4294967296 ^ n*1≤4294967296 ^ n*val 4294967296 ((hlv xs).drop n):=Nat.mul_le_mul_left _ h0;have h2:=h.1;unfold V64 at h2;omega
  rw [hz,Nat.mul_zero,Nat.add_zero,hv] at hs;refine ⟨hn,hs.symm,hd.take n,fun hp=>?_⟩;have hln:((hlv xs).take n).length=n:=by rw [List.length_take,hl];omega
  rw [hln] at hp ⊢;intro h0;have h1:=val_take_succ 4294967296 ((hlv xs).take n) (n - 1) (by omega);rw [Nat.sub_add_cancel (by omega),h0,Nat.mul_zero,Nat.add_zero,List.take_of_length_le (by omega),← hs] at h1;have h2:=val_lt 4294967296 (((hlv xs).take n).take (n - 1)) ((hd.take n).take _);rw [List.length_take,hln,Nat.min_eq_left (by omega),← h1] at h2;have h3:=h.2 (by omega);unfold V64 at h3;omega
theorem take_part (ys:List Nat) (n k:Nat) (h:k<n) (hl:n≤ys.length):(ys.take k ++ List.replicate (n - k) 0).set k (ys.getD k 0)=ys.take (k+1) ++ List.replicate (n - (k+1)) 0:=by
  have hlt:(ys.take k).length=k:=by rw [List.length_take];omega
  rw [List.set_append_right _ _ (by omega),hlt,Nat.sub_self,show n - k=(n - (k+1))+1 by omega,List.replicate_succ,List.set_cons_zero,take_succ ys k (by omega),List.append_assoc];rfl
set_option maxRecDepth 100000 in
set_option maxHeartbeats 1000000 in
theorem wtoShort (A : Option Addr) (ca : Nat) (xs : List Nat) (w : World) (hx : Rd .u64 w A xs) (bx : xs.length ≤ 100000) (mx : Mag64 xs) :
    Calls Tryz.prog 146 #[.slice A xs.length ca] w (OutT .u32 140 (fun ys=>V32 ys=V64 xs∧Mag ys) w):=by
  go_enter Tryz.func146,Tryz.ntmps146;go_wp2_with fail;refine (wshortLen A ca xs _ hx (by omega) mx).mono ?_;rintro e w2 ⟨n,rfl,hn,hnl,rfl⟩;obtain ⟨_,hv,hm⟩:=hlv_short mx.1 hn;have HV:=Lib.hid hv;have HM:=Lib.hid hm;have hl:=hlv_len xs;have HL:=Lib.hid hl;clear hv hm hl hn;have hmk:=fun W=>make_u32 n (n:Int) rfl (by omega) W
  go_wp2;clear hmk;go_loopw [4,10] (fun _ i wr=>∃ k:Nat,k≤n∧i = .int .i64 k∧Row .u32 140 wr w.heap.size ((hlv xs).take k ++ List.replicate (n - k) 0)∧Below w.heap.size w wr) (fun _ i _=>n - (intOf i).toNat)
  case atStart=>exact ⟨0,by omega,rfl,Row.new _ _,(Below.refl _ _).alloc (Nat.le_refl _) _⟩
  case round=>
    obtain ⟨k,hk,rfl,hrow,hbw⟩:=hrel
    by_cases hlt:k<n
    · have hkl:k<2*xs.length:=by omega
      obtain ⟨ad,x,rfl,hbx,ex_,cx⟩:=(hx.below hbw).ask (i:=k / 2) (by omega);have hll:k<((hlv xs).take k ++ List.replicate (n - k) 0).length:=by rw [List.length_append,List.length_take,List.length_replicate,HL.out];omega
      have hcell:=hrow.cell hll;have hfr:=hrow.frozen k;have hxl:x<18446744073709551616:=by rw [← ex_.out];exact dig_getD mx.1 (by omega) _
      have HS:Hid ((hlv xs).getD k 0=x / 4294967296 ^ (k % 2) % 4294967296):=by
        rcases hlv_get xs k hkl with h | h
        · show _=_;rw [h,ex_.out]
        · rw [ex_.out] at h;omega
      have HT:=Lib.hid (take_part (hlv xs) n k hlt (by rw [HL.out];omega));obtain ⟨q,hq,e1⟩:∃ q:Nat,Hid (k / 2=q)∧(k:Int) / 2=q:=⟨k / 2,Lib.hid rfl,by omega⟩;rw [hq.out] at cx;have hqb:q<xs.length:=by have:=hq.out;omega
      clear hkl;rcases Nat.mod_two_eq_zero_or_one k with he | he
      · rw [he,Nat.pow_zero,Nat.div_one] at HS;have e2:(k:Int) % 2=0:=by omega
        have e3:(k:Int).tmod 2=0:=by rw [Int.tmod_eq_emod_of_nonneg (by omega)];omega
        clear he;go_wp2;go_roundw
        case rel=>exact ⟨k+1,by omega,by go_num,by rw [← HT.out,HS.out];exact hrow.set_ k _,hbw.setCell (Nat.le_refl _) _⟩
        case measure=>simp [intOf];omega
      · rw [he,Nat.pow_one,Nat.mod_eq_of_lt (show x / 4294967296<4294967296 by omega)] at HS;have e2:(k:Int) % 2=1:=by omega
        have e3:(k:Int).tmod 2=1:=by rw [Int.tmod_eq_emod_of_nonneg (by omega)];omega
        clear he;go_wp2;go_roundw
        case rel=>exact ⟨k+1,by omega,by go_num,by rw [← HT.out,HS.out];exact hrow.set_ k _,hbw.setCell (Nat.le_refl _) _⟩
        case measure=>simp [intOf];omega
    · obtain rfl:k=n:=by omega
      go_wp2;go_ret;have e:(hlv xs).take k ++ List.replicate (k - k) 0=(hlv xs).take k:=by simp
      rw [e] at hrow;have hlen:((hlv xs).take k).length=k:=by rw [List.length_take,HL.out];omega
      exact ⟨_,k,(hlv xs).take k,by rw [hlen];rfl,by rw [hlen];exact Nat.le_refl _,hrow.rt,hbw,HV.out,HM.out⟩
end Go.Proofs.YtgekmfcbbjeahaaGreatDoor
/- wide.Num in memory: IsZero, Fits, Of, Rat, Int. -/
namespace Go.Proofs.YtgekmfcbbjeahaaGreatDoor
open Go.RowKit V
def WQ (s:Bool) (ns ds:List Nat) (q:Rat):Prop:=(ns=[]∧ds=[]∧s=false∧q=0)∨(0<ns.length∧QOf s (V64 ns) (V64 ds) q)
structure RL.Num (w:World) (a:RL) (q:Rat):Prop where
  rn:Rw w a.N a.ns
  rd:Rw w a.D a.ds
  mn:Mag64 a.ns
  md:Mag64 a.ds
  cn:a.ns.length≤a.nc
  cd:a.ds.length≤a.dc
  q:WQ a.s a.ns a.ds q
theorem RL.Num.below {w w':World} {a:RL} {q:Rat} (h:a.Num w q) (hb:Below w.heap.size w w'):a.Num w' q:=
  ⟨h.rn.below hb,h.rd.below hb,h.mn,h.md,h.cn,h.cd,h.q⟩
theorem RL.Num.off {w w':World} {a:RL} {q:Rat} (h:a.Num w q) (ho:Off w w'):a.Num w' q:=⟨h.rn.off ho,h.rd.off ho,h.mn,h.md,h.cn,h.cd,h.q⟩
theorem RL.Num.drew {w:World} {a:RL} {q:Rat} (h:a.Num w q):a.Num w.drew q:=⟨h.rn.drew,h.rd.drew,h.mn,h.md,h.cn,h.cd,h.q⟩
theorem RL.Num.alloc {w:World} {a:RL} {q:Rat} (h:a.Num w q) (o:Obj):a.Num (w.alloc o) q:=h.below ((Below.refl _ _).alloc (Nat.le_refl _) _)
theorem RL.Num.zero_iff {w:World} {a:RL} {q:Rat} (h:a.Num w q):a.ns.length=0↔q=0:=by
  rcases h.q with ⟨h1,_,_,h3⟩ | ⟨h1,h2⟩
  · simp [h1,h3]
  · constructor
    · intro h0;omega
    · intro h0;subst h0;have:=h2.2.1;have hp:=V64_pos h.mn h1;simp at this;omega
theorem RL.Num.nz {w:World} {a:RL} {q:Rat} (h:a.Num w q) (hq:q≠0):0<a.ns.length∧QOf a.s (V64 a.ns) (V64 a.ds) q:=by
  rcases h.q with ⟨_,_,_,h3⟩ | h2
  · exact absurd h3 hq
  · exact h2
theorem RL.Num.dpos {w:World} {a:RL} {q:Rat} (h:a.Num w q) (hq:q≠0):0<a.ds.length:=
  (V64_pos_iff h.md).2 (h.nz hq).2.pos
theorem num_zero (w:World):RL.Num w ⟨false,none,0,[],none,0,[]⟩ 0:=⟨Rw.nil_,Rw.nil_,mag64_nil,mag64_nil,Nat.le_refl _,Nat.le_refl _,.inl ⟨rfl,rfl,rfl,rfl⟩⟩
def NumP (q:Rat) (w:World) (e:Ending) (w':World):Prop:=
  ∃ r:RL,e = .returned (.agg #[.bool r.s,.slice r.N r.ns.length r.nc,.slice r.D r.ds.length r.dc])∧r.Num w' q∧Below w.heap.size w w'
def NumL (q:Rat) (L:Nat) (w:World) (e:Ending) (w':World):Prop:=
  ∃ r:RL,e = .returned (.agg #[.bool r.s,.slice r.N r.ns.length r.nc,.slice r.D r.ds.length r.dc])∧r.Num w' q∧r.ns.length≤L∧r.ds.length≤L∧Below w.heap.size w w'
theorem RL.Num.put3 {t:TypeId} {w:World} {a:RL} {q:Rat} {g n c d e:Nat} {p:Bool} {N D:Option Addr} (h:a.Num w q) (hb:BlkT t w g (.bool p) (.slice N n c) (.slice D d e)) (x y z:Value):a.Num (Go.Proofs.YtgekmfcbbjeahaaGreatDoor.put3 w g x y z) q:=
  ⟨h.rn.put3 hb x y z,h.rd.put3 hb x y z,h.mn,h.md,h.cn,h.cd,h.q⟩
theorem NumL.put {t:TypeId} {w w':World} {q:Rat} {L g n c d e:Nat} {p:Bool} {N D:Option Addr} (r:RL) (hi:r.Num w' q) (hb:BlkT t w' g (.bool p) (.slice N n c) (.slice D d e)) (hg:w.heap.size≤g) (hw:Below w.heap.size w w') (l1:r.ns.length≤L) (l2:r.ds.length≤L) :
    NumL q L w (.returned (.agg #[.bool r.s,.slice r.N r.ns.length r.nc,.slice r.D r.ds.length r.dc])) (Go.Proofs.YtgekmfcbbjeahaaGreatDoor.put3 w' g (.bool r.s) (.slice r.N r.ns.length r.nc) (.slice r.D r.ds.length r.dc)):=
  ⟨r,rfl,hi.put3 hb _ _ _,l1,l2,below_put3 hw hg _ _ _⟩
set_option maxHeartbeats 400000 in
theorem wisZero (s:Bool) (N D:Option Addr) (n nc d dc:Nat) (w:World) :
    Calls Tryz.prog 104 #[.agg #[.bool s,.slice N n nc,.slice D d dc]] w (Gives (.bool (decide (n=0))) w):=by
  by_cases h0:n=0
  · subst h0;go_enter Tryz.func104,Tryz.ntmps104;go_wp2;go_ret;exact ⟨rfl,(Below.refl _ _).alloc (Nat.le_refl _) _⟩
  · have hne:((n:Int) == 0)=false:=beq_eq_false_iff_ne.2 (by omega);rw [decide_eq_false h0];go_enter Tryz.func104,Tryz.ntmps104;go_wp2;go_ret;exact ⟨rfl,(Below.refl _ _).alloc (Nat.le_refl _) _⟩
def WFits (q:Rat) (k:Nat):Prop:=q.num.natAbs<4294967296 ^ k∧(q=0∨q.den<4294967296 ^ k)
theorem short_le {v n:Nat} (h:IsShort v n) (k:Nat):n≤k↔v<4294967296 ^ k:=by
  constructor
  · intro hk;exact Nat.lt_of_lt_of_le h.1 (Nat.pow_le_pow_right (by omega) hk)
  · intro hv;rcases Nat.lt_or_ge k n with h1 | h1
    · have h2:=h.2 (by omega);have h3:(4294967296:Nat) ^ k≤4294967296 ^ (n - 1):=Nat.pow_le_pow_right (by omega) (by omega);omega
    · exact h1
def FitsP (q:Rat) (k:Nat) (w:World) (e:Ending) (w':World):Prop:=∃ b:Bool,e = .returned (.bool b)∧(b=true↔WFits q k)∧Below w.heap.size w w'
set_option maxRecDepth 100000 in
set_option maxHeartbeats 800000 in
theorem wfits (a : RL) (q : Rat) (k : Nat) (w : World) (ha : a.Num w q) (bn : a.ns.length ≤ 100000) (bd : a.ds.length ≤ 100000) :
    Calls Tryz.prog 145 #[.agg #[.bool a.s,.slice a.N a.ns.length a.nc,.slice a.D a.ds.length a.dc],.int .i64 k] w (FitsP q k w):=by
  go_enter Tryz.func145,Tryz.ntmps145;go_wp2_with fail;refine (wshortLen a.N a.nc a.ns _ (ha.rn.alloc _).rd (by omega) ha.mn).mono ?_;rintro e w2 ⟨n,rfl,hn,hnl,rfl⟩;have HN:=Lib.hid hn;clear hn;have hbw:Below w.heap.size w (w.alloc (.cells #[.bool a.s,.slice a.N a.ns.length a.nc,.slice a.D a.ds.length a.dc] 91)):=(Below.refl _ _).alloc (Nat.le_refl _) _
  by_cases hnk:n≤k
  · go_wp2_with fail;refine (wshortLen a.D a.dc a.ds _ (ha.rd.alloc _).rd (by omega) ha.md).mono ?_;rintro e w2 ⟨d,rfl,hd,hdl,rfl⟩;have HD:=Lib.hid hd;clear hd
    by_cases hdk:d≤k
    · go_wp2;go_ret;refine ⟨true,rfl,⟨fun _=>?_,fun _=>rfl⟩,hbw⟩;rcases ha.q with ⟨h1,h0,h2,h3⟩ | ⟨h1,h2⟩
      · subst h3;exact ⟨by simp;exact Nat.pow_pos (by omega),.inl rfl⟩
      · exact ⟨by rw [← h2.2.1];exact (short_le HN.out k).1 hnk,.inr (by rw [← h2.2.2];exact (short_le HD.out k).1 hdk)⟩
    · go_wp2;go_ret;refine ⟨false,rfl,⟨fun h=>by simp at h,fun h=>?_⟩,hbw⟩;exfalso;rcases ha.q with ⟨h1,h0,h2,h3⟩ | ⟨h1,h2⟩
      · have h5:=HD.out;rw [h0] at h5;have:d≤k:=(short_le h5 k).2 (by simp [V64,val];exact Nat.pow_pos (by omega));exact hdk this
      · rcases h.2 with h4 | h4
        · subst h4;have:=h2.2.1;have hp:=V64_pos ha.mn h1;simp at this;omega
        · rw [← h2.2.2] at h4;exact hdk ((short_le HD.out k).2 h4)
  · go_wp2;go_ret;refine ⟨false,rfl,⟨fun h=>by simp at h,fun h=>?_⟩,hbw⟩;exfalso;rcases ha.q with ⟨h1,h0,h2,h3⟩ | ⟨h1,h2⟩
    · have h5:=HN.out;rw [h1] at h5;have:n≤k:=(short_le h5 k).2 (by simp [V64,val];exact Nat.pow_pos (by omega));exact hnk this
    · have h4:=h.1;rw [← h2.2.1] at h4;exact hnk ((short_le HN.out k).2 h4)
theorem wq_int (n:Int):QOf (decide (n<0)) n.natAbs 1 (n:Rat):=⟨by rw [Rat.num_intCast],by simp,by simp⟩
theorem lit64 (w:World) (d:Nat):Rw (w.alloc (.cells #[.int .u64 (d:Nat)] 112)) (some ⟨w.heap.size,0,none⟩) [d]:=(Row.new (k:=.u64) (t:=112) w [d]).rw
set_option maxRecDepth 100000 in
set_option maxHeartbeats 800000 in
theorem wInt_pos (n:Nat) (w:World) (hn:0<n) (hl:n≤9223372036854775807) :
    Calls Tryz.prog 56 #[.int .i64 n] w (NumL ((n:Int):Rat) 1 w):=by
  have hne:((n:Int) == 0)=false:=beq_eq_false_iff_ne.2 (by omega);go_enter Tryz.func56,Tryz.ntmps56;go_wp2;refine bodyPost_ret (v:=.agg #[.bool false,.slice (some ⟨w.heap.size+1,0,none⟩) 1 1,.slice (some ⟨w.heap.size+1+1,0,none⟩) 1 1]) (by simp [results,Tryz.results56,go_sem]) rfl ?_;have hr1:Rw (((w.alloc (.cells #[.bool (decide ((n:Int)<0)),.slice (some ⟨w.heap.size+1,0,none⟩) 1 1,.slice (some ⟨w.heap.size+1+1,0,none⟩) 1 1] 91)).alloc (.cells #[.int .u64 (n:Nat)] 112)).alloc (.cells #[.int .u64 1] 112)) (some ⟨w.heap.size+1,0,none⟩) [n]:=by
    have h:=(lit64 (w.alloc (.cells #[.bool (decide ((n:Int)<0)),.slice (some ⟨w.heap.size+1,0,none⟩) 1 1,.slice (some ⟨w.heap.size+1+1,0,none⟩) 1 1] 91)) n).alloc (.cells #[.int .u64 1] 112);simpa using h
  have hr2:Rw (((w.alloc (.cells #[.bool (decide ((n:Int)<0)),.slice (some ⟨w.heap.size+1,0,none⟩) 1 1,.slice (some ⟨w.heap.size+1+1,0,none⟩) 1 1] 91)).alloc (.cells #[.int .u64 (n:Nat)] 112)).alloc (.cells #[.int .u64 1] 112)) (some ⟨w.heap.size+1+1,0,none⟩) [1]:=by
    have h:=lit64 ((w.alloc (.cells #[.bool (decide ((n:Int)<0)),.slice (some ⟨w.heap.size+1,0,none⟩) 1 1,.slice (some ⟨w.heap.size+1+1,0,none⟩) 1 1] 91)).alloc (.cells #[.int .u64 (n:Nat)] 112)) 1;simpa using h
  refine ⟨⟨false,some ⟨w.heap.size+1,0,none⟩,1,[n],some ⟨w.heap.size+1+1,0,none⟩,1,[1]⟩,rfl,⟨hr1,hr2,mag64_one n (by omega) (by omega),mag64_one 1 (by omega) (by omega),Nat.le_refl _,Nat.le_refl _,.inr ⟨by simp,?_⟩⟩,Nat.le_refl _,Nat.le_refl _,(((Below.refl _ _).alloc (Nat.le_refl _) _).alloc (by simp) _).alloc (by simp;omega) _⟩;have h:=wq_int (n:Int);rw [decide_eq_false (by omega:¬ (n:Int)<0)] at h;show QOf false (V64 [n]) (V64 [1]) _;rw [V64_one,V64_one];exact h
end Go.Proofs.YtgekmfcbbjeahaaGreatDoor
/- Terms of package poly in memory; the degree of a list of terms. -/
namespace Go.Proofs.YtgekmfcbbjeahaaGreatDoor
open Go.RowKit V
structure TM where
  e:Nat
  c:RL
def TM.cells (t:TM):List Value:=[.int .u64 t.e,.bool t.c.s,.slice t.c.N t.c.ns.length t.c.nc,.slice t.c.D t.c.ds.length t.c.dc]
structure TCell (w:World) (p:Addr) (t:TM):Prop where
  c0:w.cell? p=some (.int .u64 t.e)
  c1:w.cell? ⟨p.block,p.off+1,none⟩=some (.bool t.c.s)
  c2:w.cell? ⟨p.block,p.off+2,none⟩=some (.slice t.c.N t.c.ns.length t.c.nc)
  c3:w.cell? ⟨p.block,p.off+3,none⟩=some (.slice t.c.D t.c.ds.length t.c.dc)
theorem TCell.keep {w w':World} {p:Addr} {t:TM} (h:TCell w p t) (hk:∀ q:Addr,q.block=p.block→w'.cell? q=w.cell? q):TCell w' p t:=
  ⟨(hk p rfl).trans h.c0,(hk ⟨p.block,p.off+1,none⟩ rfl).trans h.c1,(hk ⟨p.block,p.off+2,none⟩ rfl).trans h.c2,(hk ⟨p.block,p.off+3,none⟩ rfl).trans h.c3⟩
def TRd (w:World) (A:Option Addr) (ts:List TM):Prop:=
  0<ts.length → ∃ ad,A=some ad∧ad.block<w.heap.size ∧ ∀ j t,ts[j]?=some t→TCell w (ad.add (j*4)) t
theorem TRd.nil_ {w:World} {A:Option Addr}:TRd w A []:=fun h=>by simp at h
theorem TRd.below {w w':World} {A:Option Addr} {ts:List TM} (h:TRd w A ts) (hb:Below w.heap.size w w'):TRd w' A ts:=fun hn=>by
  obtain ⟨ad,e,hl,hc⟩:=h hn;exact ⟨ad,e,Nat.lt_of_lt_of_le hl hb.size,fun j t ht=>(hc j t ht).keep fun q hq=>hb.cell (by rw [hq,block_of_add];exact hl)⟩
theorem TRd.ask {w:World} {A:Option Addr} {ts:List TM} (h:TRd w A ts) {k:Nat} (hk:k<ts.length) :
    ∃ ad t,A=some ad∧ad.block<w.heap.size∧Hid (ts[k]?=some t)∧TCell w (ad.add (k*4)) t:=by
  obtain ⟨ad,e,hl,hc⟩:=h (by omega);exact ⟨ad,ts[k],e,hl,List.getElem?_eq_getElem hk,hc k _ (List.getElem?_eq_getElem hk)⟩
theorem TRd.first {w:World} {A:Option Addr} {t:TM} {ts:List TM} (h:TRd w A (t :: ts)):∃ ad,A=some ad∧ad.block<w.heap.size∧TCell w ad t:=by
  obtain ⟨ad,e,hl,hc⟩:=h (by simp);have:=hc 0 t rfl;rw [Nat.zero_mul,add_zero_] at this;exact ⟨ad,e,hl,this⟩
theorem TRd.drop {w:World} {A:Option Addr} {ts:List TM} (h:TRd w A ts) {m:Nat} {ad:Addr} (hA:A=some ad):TRd w (some (ad.add (m*4))) (ts.drop m):=fun hn=>by
  rw [List.length_drop] at hn;obtain ⟨ad',e,hb,hc⟩:=h (by omega);rw [hA] at e;injection e with e;subst e;refine ⟨_,rfl,by rw [block_of_add];exact hb,fun j t ht=>?_⟩;rw [List.getElem?_drop] at ht;have:=hc _ t ht;rw [add_of_add];rwa [Nat.add_mul] at this
def THolds (w:World) (ts:List TM) (p:List (Nat × Rat)):Prop:=ts.length=p.length ∧ ∀ (j:Nat) (t:TM),ts[j]?=some t → ∃ m q,p[j]?=some (m,q)∧t.e=m∧t.c.Num w q∧t.c.ns.length≤20000∧t.c.ds.length≤20000
theorem THolds.below {w w':World} {ts:List TM} {p:List (Nat × Rat)} (h:THolds w ts p) (hb:Below w.heap.size w w'):THolds w' ts p:=
  ⟨h.1,fun j t ht=>by obtain ⟨m,q,h1,h2,h3,h4⟩:=h.2 j t ht;exact ⟨m,q,h1,h2,h3.below hb,h4⟩⟩
theorem THolds.off {w w':World} {ts:List TM} {p:List (Nat × Rat)} (h:THolds w ts p) (hb:Off w w'):THolds w' ts p:=
  ⟨h.1,fun j t ht=>by obtain ⟨m,q,h1,h2,h3,h4⟩:=h.2 j t ht;exact ⟨m,q,h1,h2,h3.off hb,h4⟩⟩
structure PRd (w:World) (A:Option Addr) (ts:List TM) (p:List (Nat × Rat)):Prop where
  rd:TRd w A ts
  hs:THolds w ts p
theorem PRd.below {w w':World} {A:Option Addr} {ts:List TM} {p:List (Nat × Rat)} (h:PRd w A ts p) (hb:Below w.heap.size w w'):PRd w' A ts p:=⟨h.rd.below hb,h.hs.below hb⟩
def Words (p:List (Nat × Rat)):Prop:=∀ t ∈ p,t.1<18446744073709551616
theorem getD_mem {α:Type} {p:List α} {j:Nat} {x:α} (h:p[j]?=some x):x ∈ p:=List.mem_of_getElem? h
def maxTo (f:Nat→Nat) (p:List (Nat × Rat)):Nat→Int
  | 0=>-1
  | k+1=>max (maxTo f p k) (match p[k]? with | some t=>(f t.1:Int) | none=>-1)
theorem maxTo_le (f:Nat→Nat) (p:List (Nat × Rat)) (B:Nat) (h:∀ m,f m≤B):∀ k,-1≤maxTo f p k∧maxTo f p k≤B
  | 0=>by simp [maxTo]
  | k + 1 => by
    have ih:=maxTo_le f p B h k;simp only [maxTo];cases hp:p[k]? with
    | none=>simp;omega
    | some t=>have:=h t.1;simp;omega
theorem deg_le (m:Nat):deg m≤2040:=degTo_le m 8
set_option maxHeartbeats 400000 in
theorem ptotdeg (A:Option Addr) (c:Nat) (ts:List TM) (p:List (Nat × Rat)) (w:World) (hx:PRd w A ts p) (bx:ts.length≤100000) (hm:Words p) :
    Calls Tryz.prog 68 #[.slice A ts.length c] w fun e w'=>e = .returned (.int .i64 (maxTo deg p p.length))∧Below w.heap.size w w':=by
  have HM:=Lib.hid hm;have HL:=Lib.hid hx.hs.1;clear hm;go_enter Tryz.func68,Tryz.ntmps68;go_wp2;go_loopw [3,5,8] (fun t _ i wr=>∃ k:Nat,k≤ts.length∧i = .int .i64 k∧t = .int .i64 (maxTo deg p k)∧Below w.heap.size w wr) (fun _ _ i _=>ts.length - (intOf i).toNat)
  case atStart=>exact ⟨0,by omega,rfl,rfl,Below.refl _ _⟩
  case round=>
    obtain ⟨k,hk,rfl,rfl,hbw⟩:=hrel;have hml:=maxTo_le deg p 2040 deg_le k
    by_cases hlt:k<ts.length
    · obtain ⟨ad,t,rfl,hb,ht,hc⟩:=(hx.below hbw).rd.ask hlt;obtain ⟨m,q,hp,he,_⟩:=(hx.below hbw).hs.2 k t ht.out;have HS:Hid (maxTo deg p (k+1)=max (maxTo deg p k) (deg t.e)):=by show _=_;simp only [maxTo,hp,he]
      have htl:t.e<18446744073709551616:=by rw [he];exact HM.out _ (getD_mem hp)
      have hdl:=deg_le t.e;obtain ⟨c0,c1,c2,c3⟩:=hc;clear hp he;go_wp2_with (go_at_call 122;refine (pdegree t.e _ htl).mono ?_;rintro e w' ⟨rfl,rfl⟩);go_roundw
      case rel=>exact ⟨k+1,by omega,by go_num,by rw [HS.out];try go_num,hbw.alloc hbw.size _⟩
      case measure=>simp [intOf];omega
    · obtain rfl:k=ts.length:=by omega
      go_wp2;go_ret;exact ⟨by rw [← HL.out];rfl,hbw⟩
end Go.Proofs.YtgekmfcbbjeahaaGreatDoor
