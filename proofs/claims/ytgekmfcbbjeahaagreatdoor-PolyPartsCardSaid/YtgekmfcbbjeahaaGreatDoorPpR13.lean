/- nat.divideLong: long division word by word. -/
import Derived.Test.YtgekmfcbbjeahaaGreatDoorPpR12
import Derived.Laws.CopyOwn
import Derived.IntWalk
import Derived.Deep.RegionWith
import Derived.BigRegion
namespace Go.Proofs.YtgekmfcbbjeahaaGreatDoor
open Go.RowKit V
theorem size_u32:(Tryz.prog.info? 140).map (·.size)=some 1:=by kernel_rfl
theorem nums_app (k:IntKind) (xs ys:List Nat):nums k (xs ++ ys)=nums k xs ++ nums k ys:=by simp [nums]
theorem nums_drop (k:IntKind) (xs:List Nat) (n:Nat):nums k (xs.drop n)=(nums k xs).drop n:=by simp [nums,List.map_drop]
theorem splice_zeros (k:IntKind) (n:Nat) (ss:List Nat):splice (nums k (List.replicate n 0)) 0 (nums k ss)=nums k (ss ++ List.replicate (n - ss.length) 0):=by
  unfold splice;rw [List.take_zero,List.nil_append,Nat.zero_add,nums_len,← nums_drop,nums_app,List.drop_replicate]
theorem val_pad (B:Nat) (ss:List Nat) (n:Nat):val B (ss ++ List.replicate n 0)=val B ss:=by rw [val_append,val_zeros];simp
theorem norm_facts {ys ds:List Nat} {n y l p:Nat} (my:Mag ys) (md:Mag ds) (hn:ys.length=n) (h1:1≤n) (ey:ys.getD (n - 1) 0=y) (hl:IsBits y l) (hl1:1≤l) (hp:l+p=32) (hv:V32 ds=V32 ys*2 ^ p) :
    ds.length=n∧4294967296 ^ (n - 1)*2147483648≤V32 ds:=by
  have e1:=val_take_succ 4294967296 ys (n - 1) (by omega);rw [Nat.sub_add_cancel h1,← hn,List.take_length,hn,ey] at e1;have e2:=val_lt 4294967296 (ys.take (n - 1)) (my.1.take _);rw [List.length_take,Nat.min_eq_left (by omega)] at e2;have hb:2 ^ l*2 ^ p=4294967296:=by rw [← Nat.pow_add,hp]
  have hb2:2 ^ (l - 1)*2 ^ p=2147483648:=by rw [← Nat.pow_add,show l - 1+p=31 by omega]
  have hlo:=hl.2 hl1;have hhi:=hl.1;have g1:V32 ys<4294967296 ^ (n - 1)*2 ^ l:=by
    have h2:4294967296 ^ (n - 1)*(y+1)≤4294967296 ^ (n - 1)*2 ^ l:=Nat.mul_le_mul_left _ hhi;rw [Nat.mul_add] at h2;unfold V32;omega
  have g2:4294967296 ^ (n - 1)*2 ^ (l - 1)≤V32 ys:=by
    have h2:4294967296 ^ (n - 1)*2 ^ (l - 1)≤4294967296 ^ (n - 1)*y:=Nat.mul_le_mul_left _ hlo;unfold V32;omega
  have g3:V32 ds<4294967296 ^ n:=by
    have h2:V32 ys*2 ^ p<4294967296 ^ (n - 1)*2 ^ l*2 ^ p:=Nat.mul_lt_mul_of_pos_right g1 (Nat.pow_pos (by omega));rw [Nat.mul_assoc,hb,← Nat.pow_succ,show (n - 1).succ=n by omega] at h2;rw [hv];exact h2
  have g4:4294967296 ^ (n - 1)*2147483648≤V32 ds:=by
    have h2:4294967296 ^ (n - 1)*2 ^ (l - 1)*2 ^ p≤V32 ys*2 ^ p:=Nat.mul_le_mul_right _ g2;rw [Nat.mul_assoc,hb2] at h2;rw [hv];exact h2
  have g5:ds.length≤n:=len_of_lt (B:=4294967296) (by omega) md.2 g3;have g6:n - 1<ds.length:=long_of_ge md (by
    have:4294967296 ^ (n - 1)*1≤4294967296 ^ (n - 1)*2147483648:=Nat.mul_le_mul_left _ (by omega);omega)
  exact ⟨by omega,g4⟩
theorem init_top {cur:List Nat} {X D m n k p:Nat} (e:val 4294967296 cur=X*2 ^ p) (hl:cur.length=m+1) (hX:X<4294967296 ^ m) (hp:p≤31) (hk:m+1=n+k) (hn:1≤n) (hD:4294967296 ^ (n - 1)*2147483648≤D):val 4294967296 (cur.drop k)<D:=by
  have h1:=val_split 4294967296 cur k (by omega);have h2:2 ^ p≤2 ^ 31:=Nat.pow_le_pow_right (by omega) hp;have h3:X*2 ^ p<4294967296 ^ m*2 ^ 31:=Nat.lt_of_le_of_lt (Nat.mul_le_mul_left _ h2) (Nat.mul_lt_mul_of_pos_right hX (by omega));have h4:(4294967296:Nat) ^ m=4294967296 ^ k*4294967296 ^ (n - 1):=by rw [← Nat.pow_add];congr 1;omega
  rw [h4,Nat.mul_assoc] at h3;have h5:4294967296 ^ k*val 4294967296 (cur.drop k)<4294967296 ^ k*(4294967296 ^ (n - 1)*2 ^ 31):=by omega
  exact Nat.lt_of_lt_of_le (Nat.lt_of_mul_lt_mul_left h5) hD
theorem win_facts {cur:List Nat} {D i n:Nat} (hl:i+n+1≤cur.length) (hd:Dig 4294967296 cur) (hR:val 4294967296 (cur.drop (i+1))<D) (hD:D<4294967296 ^ n) :
    cur=cur.take i ++ ((cur.drop i).take (n+1) ++ (cur.drop i).drop (n+1))∧(cur.take i).length=i∧((cur.drop i).take (n+1)).length=n+1 ∧
    val 4294967296 ((cur.drop i).drop (n+1))=0∧val 4294967296 ((cur.drop i).take (n+1))=val 4294967296 (cur.drop i)∧val 4294967296 ((cur.drop i).take (n+1))<D*4294967296:=by
  have h1:(cur.drop i).drop (n+1)=(cur.drop (i+1)).drop n:=by rw [List.drop_drop,List.drop_drop];congr 1;omega
  have h2:=val_split 4294967296 (cur.drop (i+1)) n (by rw [List.length_drop];omega);have h3:val 4294967296 ((cur.drop i).drop (n+1))=0:=by
    rw [h1];rcases Nat.eq_zero_or_pos (val 4294967296 ((cur.drop (i+1)).drop n)) with h | h
    · exact h
    · have:4294967296 ^ n*1≤4294967296 ^ n*val 4294967296 ((cur.drop (i+1)).drop n):=Nat.mul_le_mul_left _ h;omega
  have h4:=val_split 4294967296 (cur.drop i) (n+1) (by rw [List.length_drop];omega);rw [h3,Nat.mul_zero,Nat.add_zero] at h4;have h5:=val_drop 4294967296 cur i (by omega);have h6:=dig_getD hd (show 0<4294967296 by omega) i;refine ⟨by rw [List.take_append_drop,List.take_append_drop],by rw [List.length_take];omega,by rw [List.length_take,List.length_drop];omega,h3,h4.symm,?_⟩;rw [← h4,h5,Nat.mul_comm D];have h7:4294967296*(val 4294967296 (cur.drop (i+1))+1)≤4294967296*D:=Nat.mul_le_mul_left _ hR;omega
theorem dig_swap {B:Nat} {pre win wf post:List Nat} (h:Dig B (pre ++ (win ++ post))) (hw:Dig B wf):Dig B (pre ++ (wf ++ post)):=by
  intro x hx;rcases List.mem_append.1 hx with h1 | h1
  · exact h x (List.mem_append_left _ h1)
  · rcases List.mem_append.1 h1 with h2 | h2
    · exact hw x h2
    · exact h x (List.mem_append_right _ (List.mem_append_right _ h2))
theorem fit_right {W' f D P Bn:Nat} (h:W'+f*D=P+Bn*0) (hP:P<(f+1)*D):W'+f*D=P∧W'<D:=by
  rw [Nat.add_mul,Nat.one_mul] at hP;omega
theorem fit_back {W' W2 f D P Bn c:Nat} (h:W'+f*D=P+Bn*1) (hW:W'<Bn) (h2:W2+Bn*c=W'+D) (hc:c≤1) (hW2:W2<Bn) (hf:f*D<P+D):1≤f∧W2+(f - 1)*D=P∧W2<D:=by
  have hf1:1≤f:=by
    rcases Nat.eq_zero_or_pos f with h0 | h0
    · subst h0;omega
    · exact h0
  obtain ⟨q,rfl⟩:∃ q,f=q+1:=⟨f - 1,by omega⟩;rw [Nat.add_mul,Nat.one_mul] at h hf;rw [Nat.add_sub_cancel];rcases Nat.le_one_iff_eq_zero_or_eq_one.1 hc with h0 | h0
  · subst h0;omega
  · subst h0;exact ⟨hf1,by omega,by omega⟩
theorem round_sum {cur pre win wf post qs:List Nat} {A D P i q:Nat} (hc:cur=pre ++ (win ++ post)) (hi:pre.length=i) (hp0:val 4294967296 post=0) (hP:val 4294967296 win=P) (hf:val 4294967296 wf+q*D=P) (hfD:val 4294967296 wf<D)
    (hq:i<qs.length) (hq0:qs.getD i 0=0) (hA:val 4294967296 cur+val 4294967296 qs*D=A) :
    val 4294967296 (pre ++ (wf ++ post))+val 4294967296 (qs.set i q)*D=A∧val 4294967296 ((pre ++ (wf ++ post)).drop i)<D:=by
  have h1:=val_set 4294967296 qs i q hq;rw [hq0,Nat.mul_zero,Nat.add_zero] at h1;refine ⟨?_,?_⟩
  · rw [h1,← hA,hc,val_append,val_append,val_append,val_append,hp0,hi,hP,← hf,Nat.add_mul,Nat.mul_zero,Nat.mul_zero,Nat.add_zero,Nat.add_zero,Nat.mul_add,Nat.mul_assoc];omega
  · rw [List.drop_append_of_le_length (by omega),List.drop_of_length_le (by omega),List.nil_append,val_append,hp0,Nat.mul_zero,Nat.add_zero];exact hfD
theorem fin_div {c q X Y t:Nat} (h:c+q*(Y*t)=X*t) (ht:0<t) (hc:c<Y*t):X=q*Y+c / t∧c / t<Y:=by
  have h1:q*Y≤X:=by
    have:q*Y*t≤X*t:=by rw [Nat.mul_assoc];omega
    exact Nat.le_of_mul_le_mul_right this ht
  obtain ⟨z,rfl⟩:∃ z,X=q*Y+z:=⟨X - q*Y,by omega⟩;rw [Nat.add_mul,← Nat.mul_assoc] at h;have hz:c=z*t:=by omega
  rw [hz,Nat.mul_div_cancel _ ht];rw [hz] at hc;exact ⟨rfl,Nat.lt_of_mul_lt_mul_right hc⟩
theorem guess_pos {W f D P Bn:Nat} (h:W+f*D=P+Bn*1) (hW:W<Bn):1≤f:=by
  rcases Nat.eq_zero_or_pos f with h0 | h0
  · subst h0;omega
  · exact h0
theorem take_N (g i n N f c d:Nat) (B:Option Addr) (pre win post ds:List Nat) (w:World) (hN:N=n+1) (hrow:Row .u32 140 w g (pre ++ (win ++ post))) (hi:pre.length=i) (hwl:win.length=n+1) (hdl:ds.length=n)
    (hy:Rd .u32 w B ds) (hB:∀ b,B=some b→0<n→b.block<g) (bl:i+n≤200000) (hf:f<4294967296) (dw:Dig 4294967296 win) (dd:Dig 4294967296 ds) :
    Calls Tryz.prog 246 #[.slice (some ⟨g,i,none⟩) N c,.slice B n d,.int .u32 f] w (TakeP g pre win post ds f w):=by
  subst hN;exact take_any g i n f c d B pre win post ds w hrow hi hwl hdl hy hB bl hf dw dd
theorem back_N (g i n N c d:Nat) (B:Option Addr) (pre win post ds:List Nat) (w:World) (hN:N=n+1) (hrow:Row .u32 140 w g (pre ++ (win ++ post))) (hi:pre.length=i) (hwl:win.length=n+1) (hdl:ds.length=n)
    (hy:Rd .u32 w B ds) (hB:∀ b,B=some b→0<n→b.block<g) (bl:i+n≤200000) (dw:Dig 4294967296 win) (dd:Dig 4294967296 ds) :
    Calls Tryz.prog 247 #[.slice (some ⟨g,i,none⟩) N c,.slice B n d] w (BackP g pre win post ds w):=by
  subst hN;exact back_any g i n c d B pre win post ds w hrow hi hwl hdl hy hB bl dw dd
theorem shiftupN (A:Option Addr) (ca n k:Nat) (xs:List Nat) (w:World) (hk:xs.length=k) (hx:Rd .u32 w A xs) (bx:k≤100000) (bn:n≤400000) (mx:Mag xs) (hpos:0<k) :
    Calls Tryz.prog 244 #[.slice A k ca,.int .i64 n] w (OutP .u32 (fun zs=>V32 zs=V32 xs*2 ^ n∧Mag zs∧zs.length≤k+n / 32+1) w):=by
  subst hk;exact shiftup_any A ca n xs w hx bx bn mx hpos
set_option maxRecDepth 100000 in
set_option maxHeartbeats 2000000 in
theorem divlong_any (A B : Option Addr) (c d m n : Nat) (xs ys : List Nat) (w : World) (hx : Rd .u32 w A xs) (hy : Rd .u32 w B ys) (mx : Mag xs) (my : Mag ys) (hm : xs.length = m) (hn : ys.length = n) (hn2 : 2 ≤ n) (hmn : n ≤ m) (bx : m ≤ 90000) :
    Calls Tryz.prog 237 #[.slice A m c,.slice B n d] w (DivP xs ys w):=by
  obtain ⟨bd,y,rfl,hby,ey,cy⟩:=hy.ask (i:=n - 1) (by omega);have hyl:y<4294967296:=by rw [← ey.out];exact dig_getD my.1 (by omega) _
  have hy0:y≠0:=by rw [← ey.out,← hn];exact my.2 (by omega)
  obtain ⟨hlb,hl1,hl2⟩:=len_bits y hyl hy0;obtain ⟨l,hl⟩:∃ l,Lib.bitLen y=l:=⟨_,rfl⟩;rw [hl] at hlb hl1 hl2;obtain ⟨p,hp⟩:∃ p,l+p=32:=⟨32 - l,by omega⟩;have hlz:=Tryz.bits_LeadingZeros32 (y:Int) w (by omega) (by omega);rw [Int.toNat_natCast,hl,show (32:Int) - (l:Int)=(p:Nat) by omega] at hlz;have HLZ:=Lib.hid hlz;have hp31:p≤31:=by omega
  have hpos:0<m:=by omega
  have HN:=Lib.hid hn;have HM:=Lib.hid hm;have HP:=Lib.hid hp;have HLB:=Lib.hid hlb;obtain ⟨k,hk⟩:∃ k,m+1=n+k:=⟨m+1 - n,by omega⟩;have hmk:=fun W=>make_u32 (m+1) ((m:Int)+1) (by omega) (by omega) W
  have hmk2:=fun W=>make_u32 k ((m:Int) - n+1) (by omega) (by omega) W
  have HK:=Lib.hid hk;have hk1:1≤k:=by omega
  have hk9:k≤90000:=by omega
  clear hlz hn hm hl hlb hy0 hp hk;go_enter Tryz.func237,Tryz.ntmps237;go_wp2_with fail;refine HLZ.out.mono ?_;rintro e w0 ⟨rfl,rfl⟩;go_wp2_with fail;refine (shiftupN (some bd) d p n ys _ HN.out hy (by omega) (by omega) my (by omega)).mono ?_;rintro e w3 ⟨DA,dc,ds,he,hdc,hds3,hb3,hvd,hmd,hld⟩;obtain ⟨hdl,hdtop⟩:=norm_facts my hmd HN.out (by omega) ey.out HLB.out hl1 HP.out hvd;have HVD:=Lib.hid hvd;have HDT:=Lib.hid hdtop;have HDL:=Lib.hid hdl;rw [hdl] at he hdc;subst he;have hx3:=hx.below hb3;clear hvd hdtop hdl hx hy hld cy hby;go_wp2_with fail;have hx4:=hx3.alloc (.cells (nums .u32 (List.replicate (m+1) 0)).toArray 140);have hrow3:=Row.new (k:=.u32) (t:=140) w3 (List.replicate (m+1) 0);refine (shiftupN A c p m xs _ HM.out hx4 (by omega) (by omega) mx (by omega)).mono ?_;rintro e w4 ⟨SA,sc,ss,rfl,hsc,hss4,hb4,hvs,hms,hls⟩;have HVS:=Lib.hid hvs;have hsl:ss.length≤m+1:=by omega
  have hrow4:=hrow3.below hb4 hrow3.lt;have hb34:Below w3.heap.size w3 w4:=((Below.refl _ _).alloc (Nat.le_refl _) _).trans (hb4.mono (by simp));have HMIN:Hid ((nums .u32 ss).length=Nat.min ss.length (m+1)):=by show _=min _ _;rw [nums_len];omega
  have HPOS:Hid (0<(nums .u32 ss).length → ∃ ad,SA=some ad ∧ ∀ j v,(nums .u32 ss)[j]?=some v→w4.cell? (ad.add j)=some v):=fun h=>by
    rw [nums_len] at h;obtain ⟨ad,e1,_,e3⟩:=hss4 h;refine ⟨ad,e1,fun j v hv=>?_⟩;have hj:j<ss.length:=by
      rcases Nat.lt_or_ge j (nums .u32 ss).length with h2 | h2
      · rwa [nums_len] at h2
      · rw [List.getElem?_eq_none h2] at hv;cases hv
    rw [nums_get hj] at hv;rw [← hv];exact e3 j hj
  have HFIT:Hid (0+(nums .u32 ss).length≤(nums .u32 (List.replicate (m+1) 0)).length):=by show _≤_;rw [nums_len,nums_len,List.length_replicate];omega
  have HONE:Hid (∀ v ∈ nums .u32 ss,v.oneCell'=true):=fun v hv=>by
    unfold nums at hv;obtain ⟨q,_,rfl⟩:=List.mem_map.1 hv;rfl
  have HG4:Hid (w4.heap[w3.heap.size]?=some (.cells (nums .u32 (List.replicate (m+1) 0)).toArray 140 (0,0))):=hrow4;clear hvs hls hx4 hrow3 hb4 hss4;go_wp2_with (with_reducible refine wpList_copy_splice rfl (.tmp 28) (.tmp 31) 25 25 rfl 140 Tryz.underlying25 size_u32 _ _ _ _ _ _ rfl rfl w3.heap.size 0 (nums .u32 (List.replicate (m+1) 0)) 140 HG4.out (nums .u32 ss) HMIN.out (fun h=>⟨rfl,HPOS.out h⟩) HFIT.out HONE.out w3.heap.size w3 hb34 (Nat.le_refl _) ?_;intro w5 hg5 hb35);have hcur5:Row .u32 140 w5 w3.heap.size (ss ++ List.replicate (m+1 - ss.length) 0):=by
    have:=hg5.out;rw [splice_zeros] at this;exact this
  have hds0:=hds3;have hds5':=hds3;have hw3:=hb3;clear hg5 HG4 HONE HFIT HPOS HMIN hrow4 hb34 hds3 hx3;have hgh:w3.heap.size<w5.heap.size:=hcur5.lt;have HDB:Hid (∀ b,DA=some b→0<n→b.block<w3.heap.size):=fun b e _=>by
    obtain ⟨ad,e1,h1,_⟩:=hds5' (by rw [HDL.out];omega);rw [e] at e1;injection e1 with e1;rw [e1];exact h1
  clear hds5';obtain ⟨D,eD⟩:∃ D,Hid (V32 ds=D):=⟨_,Lib.hid rfl⟩;obtain ⟨AA,eA⟩:∃ AA,Hid (V32 xs*2 ^ p=AA):=⟨_,Lib.hid rfl⟩;have HDn:Hid (D<4294967296 ^ n):=by show D<_;rw [← eD.out,← HDL.out];exact val_lt _ _ hmd.1
  have hlcur:(ss ++ List.replicate (m+1 - ss.length) 0).length=m+1:=by rw [List.length_append,List.length_replicate];omega
  have hvcur:val 4294967296 (ss ++ List.replicate (m+1 - ss.length) 0)=AA:=by rw [val_pad,← eA.out];exact HVS.out
  have hdcur:Dig 4294967296 (ss ++ List.replicate (m+1 - ss.length) 0):=hms.1.append (Dig.zeros (by omega) _);have htop:Hid (val 4294967296 ((ss ++ List.replicate (m+1 - ss.length) 0).drop k)<D):=
    init_top (X:=V32 xs) (by rw [hvcur];exact eA.out.symm) hlcur (by rw [← HM.out];exact val_lt _ _ mx.1) hp31 HK.out (by omega) (by have:=HDT.out;rwa [eD.out] at this)
  obtain ⟨cur0,hc0⟩:∃ cur0,ss ++ List.replicate (m+1 - ss.length) 0=cur0:=⟨_,rfl⟩;rw [hc0] at hcur5 hlcur hvcur hdcur htop;have HL0:=Lib.hid hlcur;have HV0:=Lib.hid hvcur;clear hc0 hlcur hvcur hms;go_wp2_with fail;go_loopw [10,11,12] (fun iv _ _ wr=>∃ j:Int,∃ cur qs,-1≤j∧j<k∧iv = .int .i64 j∧cur.length=m+1∧qs.length=k∧Dig 4294967296 cur∧Dig 4294967296 qs∧(∀ t:Nat,(t:Int)≤j→qs.getD t 0=0) ∧
      val 4294967296 cur+val 4294967296 qs*D=AA∧val 4294967296 (cur.drop (j+1).toNat)<D∧Row .u32 140 wr w3.heap.size cur∧Row .u32 140 wr w5.heap.size qs∧Below w3.heap.size w3 wr) (fun iv _ _ _=>(intOf iv+1).toNat)
  case atStart=>exact ⟨_,cur0,_,by omega,by omega,rfl,HL0.out,List.length_replicate,hdcur,Dig.zeros (by omega) _,fun t _=>getD_zeros _ _,by rw [val_zeros,Nat.zero_mul,Nat.add_zero];exact HV0.out,by rw [show ((k:Int) - 1+1).toNat=k by omega];exact htop.out,hcur5.alloc _,Row.new _ _,hb35.alloc (by omega) _⟩
  case round=>
    clear htop HL0 HV0 hcur5 hdcur hb35;obtain ⟨j,cur,qs,hj,hjk,rfl,hcl,hql,hdc,hdq,hz,hacc,hrem,hrow,hrowq,hbw⟩:=hrel;have HCL:=Lib.hid hcl;have HQL:=Lib.hid hql;have HZ:=Lib.hid hz;have HACC:=Lib.hid hacc;have HREM:=Lib.hid hrem;clear hcl hql hz hacc hrem;have hdsr:Rd .u32 wr DA ds:=hds0.below hbw
    by_cases h0:j<0
    · have hqr:=hrowq.rd;have hcr:=hrow.rd;go_wp2_with fail;refine (trim_u32n _ k k qs _ HQL.out hqr (Nat.le_refl _) (by omega)).mono ?_;rintro e w6 ⟨mq,hmq,rfl,hv3,hn3,rfl⟩;have HV3:=Lib.hid hv3;clear hv3;go_wp2_with fail;refine (trim_u32n _ (m+1) (m+1) cur _ HCL.out hcr (Nat.le_refl _) (by omega)).mono ?_;rintro e w7 ⟨mr,hmr,rfl,hv4,hn4,rfl⟩;have HV4:=Lib.hid hv4;clear hv4;have hmrl:mr≤m+1:=by rw [← HCL.out];exact hmr
      have hlr:(cur.take mr).length=mr:=by rw [List.length_take,Nat.min_eq_left hmr]
      have hsd:=shiftdn_ok (some ⟨w3.heap.size,0,none⟩) (m+1) p (cur.take mr) wr (hcr.take hmr) (by rw [hlr];exact hmrl) (by rw [hlr];omega) (by omega) (hdc.take mr);rw [hlr] at hsd;have HSD:=Lib.hid hsd;clear hsd;go_wp2_with fail;refine HSD.out.mono ?_;rintro e w8 ⟨R,rc,r,rfl,hrc,hr,hb8,hvr,hmr2,hlr2⟩;have HVR:=Lib.hid hvr;clear hvr;go_wp2;go_ret2;have hmql:mq≤k:=by rw [← HQL.out];exact hmq
      have hml:(qs.take mq).length=mq:=by rw [List.length_take,Nat.min_eq_left hmq]
      have hfin:=fin_div (c:=val 4294967296 cur) (q:=val 4294967296 qs) (X:=V32 xs) (Y:=V32 ys) (t:=2 ^ p) (by rw [← HVD.out,eD.out,eA.out];exact HACC.out) (Nat.pow_pos (by omega)) (by
        have h1:=HREM.out;rw [show (j+1).toNat=0 by omega,List.drop_zero] at h1;rw [← HVD.out,eD.out];exact h1)
      have hrv:V32 r=val 4294967296 cur / 2 ^ p:=by rw [HVR.out];show val 4294967296 (cur.take mr) / _=_;rw [HV4.out]
      refine ⟨some ⟨w5.heap.size,0,none⟩,k,qs.take mq,R,rc,r,by rw [hml];rfl,(hqr.take hmq).below hb8,hr,mag_take hdq hn3,hmr2,by omega,hrc,?_,?_,(hw3.trans (hbw.mono hw3.size)).trans (hb8.mono (Nat.le_trans hw3.size hbw.size))⟩
      · show V32 xs=V32 (qs.take mq)*V32 ys+V32 r;rw [hrv,show V32 (qs.take mq)=val 4294967296 qs from HV3.out _];exact hfin.1
      · show V32 r<V32 ys;rw [hrv];exact hfin.2
    · obtain ⟨i,rfl⟩:=Int.eq_ofNat_of_zero_le (show 0≤j by omega);have hik:i<k:=by omega
      have hin:i+n+1≤m+1:=by have:=HK.out;omega
      have hrem:=HREM.out;rw [show ((i:Int)+1).toNat=i+1 by omega] at hrem;obtain ⟨f1,f2,f3,f4,f5,f6⟩:=win_facts (by rw [HCL.out];exact hin) hdc hrem HDn.out;have hdwin:Dig 4294967296 ((cur.drop i).take (n+1)):=(hdc.drop i).take _;have hwinr:Rd .u32 wr (some ⟨w3.heap.size,i,none⟩) ((cur.drop i).take (n+1)):=by
        have h1:=(hrow.rd.drop (m:=i) rfl).take (m:=n+1) (by rw [List.length_drop,HCL.out];omega);rwa [addr_at] at h1
      obtain ⟨pre,hpre⟩:∃ pre,cur.take i=pre:=⟨_,rfl⟩;obtain ⟨win,hwin⟩:∃ win,(cur.drop i).take (n+1)=win:=⟨_,rfl⟩;obtain ⟨post,hpost⟩:∃ post,(cur.drop i).drop (n+1)=post:=⟨_,rfl⟩;rw [hpre,hwin,hpost] at f1;rw [hpre] at f2;rw [hwin] at f3 f5 f6 hdwin hwinr;rw [hpost] at f4;have hrow2:Row .u32 140 wr w3.heap.size (pre ++ (win ++ post)):=by rw [← f1];exact hrow
      have F1:=Lib.hid f1;have F2:=Lib.hid f2;have F3:=Lib.hid f3;have F4:=Lib.hid f4;obtain ⟨P,eP⟩:∃ P,Hid (val 4294967296 win=P):=⟨_,Lib.hid rfl⟩;have F6:Hid (val 4294967296 win<val 4294967296 ds*4294967296):=by show _;rw [show val 4294967296 ds=D from eD.out];exact f6
      clear f1 f2 f3 f4 f5 f6 hpre hwin hpost hrem HREM hrow;go_wp2_with fail;refine (guess_any ⟨w3.heap.size,i,none⟩ n (i+n+1 - i) (m+1 - i) dc DA win ds wr (by omega) hwinr hdsr F3.out HDL.out hn2 (by omega) hdwin hmd F6.out).mono ?_;rintro e wg ⟨f,rfl,hf,hfu,hfl,hbg⟩;rw [eP.out,show val 4294967296 ds=D from eD.out] at hfu hfl;have HFU:=Lib.hid hfu;have HFL:=Lib.hid hfl;have hdsg:=hdsr.below hbg;have hrowg:=hrow2.below hbg hrow2.lt;have hrowqg:=hrowq.below hbg hrowq.lt;have hbwg:=hbw.trans (hbg.mono hbw.size);clear hfu hfl hdsr hrow2 hrowq hwinr hbg hbw;go_wp2_with fail;refine (take_N w3.heap.size i n (i+n+1 - i) f (m+1 - i) dc DA pre win post ds wg (by omega) hrowg F2.out F3.out HDL.out hdsg HDB.out (by omega) hf hdwin hmd.1).mono ?_;rintro e wt ⟨b,wf,hb1,rfl,hwfl,hdwf,htk,hrowt,hot⟩;rw [eP.out,show val 4294967296 ds=D from eD.out,F3.out] at htk;rw [F3.out] at hwfl;have HTK:=Lib.hid htk;have HWF:=Lib.hid hwfl;have hrowqt:=hot.row hrowqg (Nat.ne_of_lt hgh);have hbt:Below w3.heap.size wg wt:=hot.below fun ad e=>by injection e with e;subst e;exact Nat.le_refl _
      have hbwt:=hbwg.trans hbt;have hdst:=hds0.below hbwt;have hwlt:Hid (val 4294967296 wf<4294967296 ^ (n+1)):=by show _<_;rw [← HWF.out];exact val_lt _ _ hdwf
      clear htk hwfl hrowg hrowqg hdsg hbt hbwg hot;have hiq:i<qs.length:=by rw [HQL.out];exact hik
      by_cases hbb:b=1
      · subst hbb;have hf1:1≤f:=guess_pos HTK.out hwlt.out;have hfc:(f:Int) - 1=((f - 1:Nat):Int):=by omega
        have HFC:=Lib.hid hfc;clear hfc;go_wp2_with fail;refine (back_N w3.heap.size i n (i+n+1 - i) (m+1 - i) dc DA pre wf post ds wt (by omega) hrowt F2.out HWF.out HDL.out hdst HDB.out (by omega) hdwf hmd.1).mono ?_;rintro e wb ⟨c2,w2,hc2,rfl,hw2l,hdw2,hbk,hrowb,hob⟩;rw [show val 4294967296 ds=D from eD.out,HWF.out] at hbk;rw [HWF.out] at hw2l;have HBK:=Lib.hid hbk;have HW2:=Lib.hid hw2l;have hrowqb:=hob.row hrowqt (Nat.ne_of_lt hgh);have hbb:Below w3.heap.size wt wb:=hob.below fun ad e=>by injection e with e;subst e;exact Nat.le_refl _
        have hbwb:=hbwt.trans hbb;have hwlt2:Hid (val 4294967296 w2<4294967296 ^ (n+1)):=by show _<_;rw [← HW2.out];exact val_lt _ _ hdw2
        clear hbk hw2l hrowt hrowqt hdst hbb hbwt hob;obtain ⟨_,s1,s2⟩:=fit_back HTK.out hwlt.out HBK.out hc2 hwlt2.out HFU.out;obtain ⟨r1,r2⟩:=round_sum F1.out F2.out F4.out eP.out s1 s2 hiq (HZ.out i (by omega)) HACC.out;have R1:=Lib.hid r1;have R2:=Lib.hid r2;have hcell:=hrowqb.cell hiq;have hfr:=hrowqb.frozen i;clear s1 s2 r1 r2;go_wp2;go_roundw
        case rel=>exact ⟨_,pre ++ (w2 ++ post),qs.set i (f - 1),by omega,by omega,rfl,by
            have h1:=HCL.out;rw [F1.out,List.length_append,List.length_append,F3.out] at h1;rw [List.length_append,List.length_append,HW2.out];exact h1,by rw [List.length_set];exact HQL.out,by
            have h1:=hdc;rw [F1.out] at h1;exact dig_swap h1 hdw2,hdq.set _ (by omega),fun t ht=>by rw [getD_set _ _ _ _ hiq,if_neg (by omega)];exact HZ.out t (by omega),R1.out,by rw [show ((i:Int) - 1+1).toNat=i by omega];exact R2.out,hrowb.far (Nat.ne_of_lt hgh) _,by rw [HFC.out];exact hrowqb.set_ i (f - 1),hbwb.setCell (by show w3.heap.size≤w5.heap.size;omega) _⟩
        case measure=>simp [intOf]
      · obtain rfl:b=0:=by omega
        obtain ⟨s1,s2⟩:=fit_right HTK.out HFL.out;obtain ⟨r1,r2⟩:=round_sum F1.out F2.out F4.out eP.out s1 s2 hiq (HZ.out i (by omega)) HACC.out;have R1:=Lib.hid r1;have R2:=Lib.hid r2;have hcell:=hrowqt.cell hiq;have hfr:=hrowqt.frozen i;clear s1 s2 r1 r2 hbb;go_wp2;go_roundw
        case rel=>exact ⟨_,pre ++ (wf ++ post),qs.set i f,by omega,by omega,rfl,by
            have h1:=HCL.out;rw [F1.out,List.length_append,List.length_append,F3.out] at h1;rw [List.length_append,List.length_append,HWF.out];exact h1,by rw [List.length_set];exact HQL.out,by
            have h1:=hdc;rw [F1.out] at h1;exact dig_swap h1 hdwf,hdq.set _ hf,fun t ht=>by rw [getD_set _ _ _ _ hiq,if_neg (by omega)];exact HZ.out t (by omega),R1.out,by rw [show ((i:Int) - 1+1).toNat=i by omega];exact R2.out,hrowt.far (Nat.ne_of_lt hgh) _,hrowqt.set_ i f,hbwt.setCell (by show w3.heap.size≤w5.heap.size;omega) _⟩
        case measure=>simp [intOf]
end Go.Proofs.YtgekmfcbbjeahaaGreatDoor
/- nat.mix.of: the sum of two multiples of two numbers, with factors of opposite signs; at most 100000 words. -/
namespace Go.Proofs.YtgekmfcbbjeahaaGreatDoor
open Go.RowKit V
theorem mixsum_step (B k s:Nat) (c c' x y:Int) (a b:Nat) (cur xs ys:List Nat) (hk:k<cur.length) (hx:k<xs.length) (ex:xs.getD k 0=a) (ey:ys.getD k 0=b)
    (e:(s:Int)+B*c'=c+x*a+y*b) (hv:(val B (cur.take k):Int)+(B ^ k:Nat)*c=x*val B (xs.take k)+y*val B (ys.take k)) :
    (val B ((cur.set k s).take (k+1)):Int)+(B ^ (k+1):Nat)*c'=x*val B (xs.take (k+1))+y*val B (ys.take (k+1)):=by
  rw [val_set_take B cur k s hk,val_take_succ B xs k hx,val_take_any,ex,ey,Nat.pow_succ];have h:=congrArg (((B ^ k:Nat):Int) * ·) e;simp only [Int.natCast_add,Int.natCast_mul,Int.mul_add] at h ⊢;have e1:((B ^ k:Nat):Int)*((B:Int)*c')=((B ^ k:Nat):Int)*(B:Int)*c':=by rw [Int.mul_assoc]
  have e2:((B ^ k:Nat):Int)*(x*a)=x*(((B ^ k:Nat):Int)*a):=by rw [Int.mul_left_comm]
  have e3:((B ^ k:Nat):Int)*(y*b)=y*(((B ^ k:Nat):Int)*b):=by rw [Int.mul_left_comm]
  omega
theorem mixsum_end {B n R M:Nat} {c:Int} {cur:List Nat} (hd:Dig B cur) (hl:cur.length=n) (hR:R≤M) (hM:M<B ^ n) (hv:(val B cur:Int)+(B ^ n:Nat)*c=R):val B cur=R:=by
  have h1:=val_lt B cur hd;rw [hl] at h1;rcases Int.lt_trichotomy c 0 with h | h | h
  · have h2:((B ^ n:Nat):Int)*c≤((B ^ n:Nat):Int)*(-1):=Int.mul_le_mul_of_nonneg_left (by omega) (by omega);omega
  · subst h;omega
  · have h2:((B ^ n:Nat):Int)*1≤((B ^ n:Nat):Int)*c:=Int.mul_le_mul_of_nonneg_left (by omega) (by omega);omega
theorem fac_word (x:Int) (a:Nat) (h1 : -2147483648<x) (h2:x<2147483648) (ha:a<4294967296) : -9223372030412324865≤x*a∧x*a≤9223372030412324865∧(0≤x→0≤x*a)∧(x≤0→x*a≤0):=by
  have h0:∀ z:Int,0≤z→z<2147483648→0≤z*a∧z*a≤9223372030412324865:=fun z hz hz2=>by
    refine ⟨Int.mul_nonneg hz (by omega),?_⟩;have:z*a≤2147483647*4294967295:=Int.mul_le_mul (by omega) (by omega) (by omega) (by omega);omega
  rcases Int.le_total 0 x with h | h
  · have:=h0 x h h2;refine ⟨by omega,this.2,fun _=>this.1,fun h3=>?_⟩;have:x=0:=by omega
    subst this;omega
  · have:=h0 (-x) (by omega) (by omega);rw [Int.neg_mul] at this;refine ⟨by omega,by omega,fun h3=>?_,fun _=>by omega⟩;have:x=0:=by omega
    subst this;omega
theorem mix_cut (t:Int) (h1 : -9223372036854775808≤t) (h2:t≤9223372036854775807):∃ (s:Nat) (c:Int),s<4294967296 ∧ -2147483648≤c∧c≤2147483647∧Hid ((s:Int)+(4294967296:Nat)*c=t)∧Hid (t % 4294967296=s)∧Hid (t / 4294967296=c):=by
  refine ⟨(t % 4294967296).toNat,t / 4294967296,by omega,by omega,by omega,?_,?_,Lib.hid rfl⟩
  · show _=_;omega
  · show _=_;omega
theorem cell_new (w:World) (cs:Array Value) (t:TypeId) (i:Nat):(w.alloc (.cells cs t)).cell? ⟨w.heap.size,i,none⟩=cs[i]?:=cell_of_row _ _ i cs t (0,0) (heap_alloc_new w _)
theorem row_new1 (k:IntKind) (t:TypeId) (w:World) (o:Obj) (xs:List Nat):Row k t ((w.alloc o).alloc (.cells (nums k xs).toArray t)) (w.heap.size+1) xs:=by
  have:=Row.new (k:=k) (t:=t) (w.alloc o) xs;rwa [show (w.alloc o).heap.size=w.heap.size+1 by simp] at this
set_option maxRecDepth 100000 in
set_option maxHeartbeats 800000 in
theorem mixof_any (A B : Option Addr) (ca cb R : Nat) (x y : Int) (xs ys : List Nat) (w : World) (hx : Rd .u32 w A xs) (hy : Rd .u32 w B ys) (bx : xs.length ≤ 100000) (hle : ys.length ≤ xs.length)
    (dx:Dig 4294967296 xs) (dy:Dig 4294967296 ys) (hm:Mix x y (V32 xs) (V32 ys) R) (hR:R≤V32 xs) :
    Calls Tryz.prog 216 #[.agg #[.int .i64 x,.int .i64 y],.slice A xs.length ca,.slice B ys.length cb] w (OutP .u32 (fun zs=>V32 zs=R∧Mag zs) w):=by
  obtain ⟨hsg,hxl,hxu,hyl,hyu,heq⟩:=hm;have HEQ:=Lib.hid heq;have HSG:=Lib.hid hsg;have hmk:=fun W=>make_u32 xs.length xs.length rfl (by omega) W
  clear heq hsg;go_enter Tryz.func216,Tryz.ntmps216;go_wp2;clear hmk;go_loopw [8,16] (fun cv i wr=>∃ (k:Nat) (c:Int) (cur:List Nat),k≤xs.length∧i = .int .i64 k∧cv = .int .i64 c ∧ -2147483648≤c∧c≤2147483647∧cur.length=xs.length∧Dig 4294967296 cur ∧
      (val 4294967296 (cur.take k):Int)+(4294967296 ^ k:Nat)*c=x*val 4294967296 (xs.take k)+y*val 4294967296 (ys.take k) ∧
      Row .u32 140 wr (w.heap.size+1) cur∧Below (w.heap.size+1) (w.alloc (.cells #[.int .i64 x,.int .i64 y] 253)) wr) (fun _ i _=>xs.length - (intOf i).toNat)
  case atStart=>exact ⟨0,0,_,Nat.zero_le _,rfl,rfl,by omega,by omega,List.length_replicate,Dig.zeros (by omega) _,by simp [val],row_new1 _ _ _ _ _,(Below.refl _ _).alloc (by simp) _⟩
  case round=>
    obtain ⟨k,c,cur,hk,rfl,rfl,hc1,hc2,hcl,hdc,hv,hrow,hbw⟩:=hrel;have HV:=Lib.hid hv;have HCL:=Lib.hid hcl;have hbx0:=hx.below ((Below.refl _ _).alloc (Nat.le_refl _) (.cells #[.int .i64 x,.int .i64 y] 253));have hby0:=hy.below ((Below.refl _ _).alloc (Nat.le_refl _) (.cells #[.int .i64 x,.int .i64 y] 253));have hwr:=hbw.size;have hcx:wr.cell? ⟨w.heap.size,0,none⟩=some (.int .i64 x):=(hbw.cell (p:=⟨w.heap.size,0,none⟩) (Nat.lt_succ_self _)).trans (cell_new _ _ _ 0);have hcy:wr.cell? ⟨w.heap.size,1,none⟩=some (.int .i64 y):=(hbw.cell (p:=⟨w.heap.size,1,none⟩) (Nat.lt_succ_self _)).trans (cell_new _ _ _ 1);clear hv hcl
    by_cases hlt:k<xs.length
    · have hxr:Rd .u32 wr A xs:=hbx0.keep (B:=w.heap.size+1) (by simp) hwr fun p hp=>hbw.cell hp
      have hyr:Rd .u32 wr B ys:=hby0.keep (B:=w.heap.size+1) (by simp) hwr fun p hp=>hbw.cell hp
      have hkc:k<cur.length:=by have:=HCL.out;omega
      obtain ⟨ad,a,rfl,hba,ea,ca⟩:=hxr.ask hlt;have hal:a<4294967296:=by rw [← ea.out];exact dig_getD dx (by omega) k
      obtain ⟨f1,f2,f3,f4⟩:=fac_word x a hxl hxu hal;obtain ⟨z,hz⟩:∃ z,cur.getD k 0=z:=⟨_,rfl⟩;have hcell:=hrow.cell hkc;have hfr:=hrow.frozen k
      by_cases hky:k<ys.length
      · obtain ⟨bd,b,rfl,hbb,eb,cb⟩:=hyr.ask hky;have hbl:b<4294967296:=by rw [← eb.out];exact dig_getD dy (by omega) k
        obtain ⟨g1,g2,g3,g4⟩:=fac_word y b hyl hyu hbl;have hs1 : -9223372030412324865≤x*a+y*b:=by rcases HSG.out with ⟨h1,h2⟩ | ⟨h1,h2⟩ <;> omega
        have hs2:x*a+y*b≤9223372030412324865:=by rcases HSG.out with ⟨h1,h2⟩ | ⟨h1,h2⟩ <;> omega
        have e1:IntKind.i64.wrap (y*b)=y*b:=IntWalk.i64_in _ ⟨by omega,by omega⟩;have e2:IntKind.i64.wrap (c+x*a+y*b)=c+x*a+y*b:=IntWalk.i64_in _ ⟨by omega,by omega⟩;obtain ⟨s,c2,hs,hc3,hc4,es,em,ed⟩:=mix_cut (c+x*a+y*b) (by omega) (by omega);clear f3 f4 g3 g4;go_wp2_with (go_quiet (fail));go_roundw
        case rel=>exact ⟨k+1,c2,cur.set k s,by omega,by go_num,by rw [ed.out],hc3,hc4,by rw [List.length_set];exact HCL.out,hdc.set _ hs,mixsum_step 4294967296 k s c c2 x y a b cur xs ys hkc hlt ea.out eb.out es.out HV.out,by rw [em.out];exact (hrow.drewN _).set_ k s,(below_drew_ hbw _).setCell (Nat.le_refl _) _⟩
        case measure=>simp [intOf];omega
      · have eb:Hid (ys.getD k 0=0):=getD_beyond ys k (by omega);obtain ⟨s,c2,hs,hc3,hc4,es,em,ed⟩:=mix_cut (c+x*a) (by omega) (by omega);clear f3 f4;go_wp2;go_roundw
        case rel=>exact ⟨k+1,c2,cur.set k s,by omega,by go_num,by rw [ed.out],hc3,hc4,by rw [List.length_set];exact HCL.out,hdc.set _ hs,mixsum_step 4294967296 k s c c2 x y a 0 cur xs ys hkc hlt ea.out eb.out (by rw [es.out];simp) HV.out,by rw [em.out];exact hrow.set_ k s,hbw.setCell (Nat.le_refl _) _⟩
        case measure=>simp [intOf];omega
    · obtain rfl:k=xs.length:=by omega
      have hrd:=hrow.rd;have HF:Hid (val 4294967296 cur=R):=by
        have h1:=HV.out;rw [List.take_of_length_le (by have:=HCL.out;omega),List.take_length,List.take_of_length_le (by omega)] at h1;exact mixsum_end hdc HCL.out hR (val_lt _ xs dx) (h1.trans HEQ.out)
      have hcl:=Nat.le_of_eq HCL.out;go_wp2_with (go_at_call 203;refine (trim_u32n _ _ _ cur _ HCL.out hrd (Nat.le_refl _) (by omega)).mono ?_;rintro e w2 ⟨m,hm,rfl,hv3,hn3,rfl⟩;have HV3:=Lib.hid hv3;clear hv3);go_ret;exact OutP.of_take hm (by have:=HCL.out;omega) hrd (((Below.refl _ _).alloc (Nat.le_refl _) _).trans (hbw.mono (by simp))) ⟨by show val 4294967296 (cur.take m)=R;rw [HV3.out];exact HF.out,hdc.take m,hn3⟩
end Go.Proofs.YtgekmfcbbjeahaaGreatDoor
/- nat.divide and nat.DivMod: quotient and remainder; at most 90000 words. -/
namespace Go.Proofs.YtgekmfcbbjeahaaGreatDoor
open Go.RowKit V
set_option maxHeartbeats 400000 in
theorem div_many (A B:Option Addr) (c d:Nat) (xs ys:List Nat) (w:World) (hx:Rd .u32 w A xs) (hy:Rd .u32 w B ys) (bx:xs.length≤90000) (mx:Mag xs) (my:Mag ys) (hge:V32 ys≤V32 xs) (hl:2≤ys.length) :
    Calls Tryz.prog 215 #[.slice A xs.length c,.slice B ys.length d] w (DivP xs ys w):=by
  obtain ⟨k,hk,hk0⟩:∃ k:Int,Hid (cmpOf (V32 xs) (V32 ys)=k)∧0≤k:=⟨_,rfl,by unfold cmpOf;split <;> (try split) <;> omega⟩;have hb1:((ys.length:Int) == 1)=false:=beq_eq_false_iff_ne.2 (by omega);have hlen:=mx.len_le my hge;clear hge;go_enter Tryz.func215,Tryz.ntmps215;go_wp2_with fail;refine (compare_any A B c d xs ys _ hx hy (by omega) mx.1 my.1 mx.2 my.2).mono ?_;rintro e w1 ⟨he,n1,hwe⟩;have he2:e = .returned (.int .i64 k):=by rw [he,← hk.out];rfl
  subst he2;have hb1':Below w.heap.size w w1:=by rw [hwe];exact below_drew_ (Below.refl _ _) n1
  have hx1:=hx.below hb1';have hy1:=hy.below hb1';clear he hwe hk;go_wp2_with fail;refine (divlong_any A B c d xs.length ys.length xs ys _ hx1 hy1 mx my rfl rfl hl hlen bx).mono ?_;rintro e w2 ⟨Q,qc,q,R,rc,r,rfl,h1,h2,h3,h4,h5,h6,h7,h8,h9⟩;go_wp2;go_ret2;exact ⟨Q,qc,q,R,rc,r,rfl,h1,h2,h3,h4,h5,h6,h7,h8,hb1'.trans (h9.mono hb1'.size)⟩
theorem div_any (A B:Option Addr) (c d:Nat) (xs ys:List Nat) (w:World) (hx:Rd .u32 w A xs) (hy:Rd .u32 w B ys) (bx:xs.length≤90000) (mx:Mag xs) (my:Mag ys) (hpos:0<ys.length) :
    Calls Tryz.prog 215 #[.slice A xs.length c,.slice B ys.length d] w (DivP xs ys w):=by
  rcases Nat.lt_or_ge (V32 xs) (V32 ys) with h | h
  · exact div_less A B c d xs ys w hx hy (by omega) mx my h
  · rcases Nat.lt_or_ge 1 ys.length with h1 | h1
    · exact div_many A B c d xs ys w hx hy bx mx my h h1
    · exact div_one A B c d xs ys w hx hy (by omega) mx my h (by omega)
end Go.Proofs.YtgekmfcbbjeahaaGreatDoor
/- nat.low and nat.rootShort. -/
namespace Go.Proofs.YtgekmfcbbjeahaaGreatDoor
open Go.RowKit V
set_option maxRecDepth 100000 in
set_option maxHeartbeats 400000 in
theorem low_any (A:Option Addr) (ca:Nat) (xs:List Nat) (w:World) (hx:Rd .u32 w A xs) (dx:Dig 4294967296 xs) (hl:xs.length≤2) :
    Calls Tryz.prog 219 #[.slice A xs.length ca] w (Plain (.int .u64 (V32 xs)) w):=by
  match xs,hl with
  | [], _ =>
    go_enter Tryz.func219,Tryz.ntmps219;go_wp2;go_ret;exact ⟨rfl,rfl⟩
  | [a], _ =>
    obtain ⟨ad,x,rfl,hb,ex,cx⟩:=hx.ask (i:=0) (by simp);rw [add_zero_] at cx;obtain rfl:a=x:=ex.out;have hal:a<4294967296:=dx a (by simp);have hv:Hid (V32 [a]=a):=V32_one a;go_enter Tryz.func219,Tryz.ntmps219;go_wp2;go_ret;exact ⟨by rw [hv.out];rfl,rfl⟩
  | [a, b], _ =>
    obtain ⟨ad,x,rfl,hb,ex,cx⟩:=hx.ask (i:=0) (by simp);rw [add_zero_] at cx;obtain rfl:a=x:=ex.out;obtain ⟨ad',y,had,_,ey,cy⟩:=hx.ask (i:=1) (by simp);injection had with had;subst had;obtain rfl:b=y:=ey.out;have cy2:=cy;unfold Addr.add at cy2;rw [if_neg (by omega)] at cy2;have hal:a<4294967296:=dx a (by simp);have hbl:b<4294967296:=dx b (by simp);have hv:Hid (V32 [a,b]=a+4294967296*b):=V32_two a b;have hor:bits BinOp.or IntKind.u64 (a:Int) ((b:Int)*4294967296)=((a+4294967296*b:Nat):Int):=by
      have h1:=or_join b a hbl hal;have h2:bits BinOp.or IntKind.u64 (a:Int) ((b:Int)*4294967296)=bits BinOp.or IntKind.u64 ((b:Int)*4294967296) (a:Int):=by simp only [bits,BitVec.or_comm]
      rw [h2,h1];omega
    go_enter Tryz.func219,Tryz.ntmps219;go_wp2;go_ret;exact ⟨by rw [hv.out];simp,rfl⟩
end Go.Proofs.YtgekmfcbbjeahaaGreatDoor
