/- wide: remainderWord and divideWord of one word. -/
import Derived.Test.YtgekmfcbbjeahaaGreatDoorPpR33
attribute [local go_sem ↓] Go.wp_at_zero Go.wp_at_succ
namespace Go.Proofs.YtgekmfcbbjeahaaGreatDoor
open Go.RowKit V
theorem one_ask {w:World} {A:Option Addr} {x:Nat} (h:Rw w A [x]):∃ ad,A=some ad∧ad.block<w.heap.size∧w.cell? ad=some (.int .u64 (x:Nat)):=by
  obtain ⟨ad,y,e,hb,hy,hc⟩:=h.rd.ask (i:=0) (by simp);rw [add_zero_] at hc;have:y=x:=by rw [← hy.out];rfl
  subst this;exact ⟨ad,e,hb,hc⟩
set_option maxHeartbeats 800000 in
theorem wremWord1 (A:Option Addr) (ca x y:Nat) (w:World) (hA:Rw w A [x]) (hx:x<18446744073709551616) (hy:y<18446744073709551616) (hp:0<y) :
    Calls Tryz.prog 164 #[.slice A 1 ca,.int .u64 y] w (Gives (.int .u64 (x % y:Nat)) w):=by
  obtain ⟨ad,rfl,hb,hc⟩:=one_ask hA;have H:=Lib.hid (rem64_0 x y w hx hy hp);have hbase:Below w.heap.size w w:=Below.refl _ _;go_enter Tryz.func164,Tryz.ntmps164;go_wp2;go_loopw [5,6,10] (fun sr si _ wr=>(sr = .int .u64 0∧si = .int .i64 0∧w=wr)∨(sr = .int .u64 (x % y:Nat)∧si = .int .i64 (-1)∧Below w.heap.size w wr)) (fun _ si _ _=>(intOf si+1).toNat)
  case atStart=>exact .inl ⟨rfl,rfl,rfl⟩
  case round=>
    rcases hrel with ⟨rfl,rfl,rfl⟩ | ⟨rfl,rfl,hbw⟩
    · go_wp2_with fail;refine H.out.mono ?_;rintro e w2 ⟨rfl,hb2⟩;go_wp2_with fail;go_roundw
      case rel=>exact .inr ⟨rfl,rfl,hb2⟩
      case measure=>simp [intOf]
    · go_wp2;go_ret;exact ⟨rfl,hbw⟩
def DivW (x y:Nat) (w:World) (e:Ending) (w':World):Prop:=
  ∃ Q qc qs R rc rs,e = .returned (.tuple #[.slice Q (qs:List Nat).length qc,.slice R (rs:List Nat).length rc])∧qs.length≤qc∧Rw w' Q qs∧V64 qs=x / y∧Mag64 qs∧qs.length≤1∧Below w.heap.size w w'
set_option maxRecDepth 100000 in
set_option maxHeartbeats 1600000 in
theorem wdivWord1 (A : Option Addr) (ca x y : Nat) (w : World) (hA : Rw w A [x]) (hx : x < 18446744073709551616) (hy : y < 18446744073709551616) (hp : 0 < y) :
    Calls Tryz.prog 199 #[.slice A 1 ca,.int .u64 y] w (DivW x y w):=by
  obtain ⟨ad,rfl,hb,hc⟩:=one_ask hA;have hmk:∀ W,(Instr.makeSlice 89 (.int .i64 1) (.int .i64 1)).run Tryz.prog W = .ok (.slice (some ⟨W.heap.size,0,none⟩) 1 1) (W.alloc (.cells (nums .u64 [0]).toArray 112)):=fun W=>make_u64 1 1 rfl (by omega) W
  have H:=Lib.hid (fun W=>div64_0 x y W hx hy hp);have kz:=Row.new (k:=.u64) (t:=112) w [0];have hb0:Below w.heap.size w (w.alloc (.cells (nums .u64 [0]).toArray 112)):=(Below.refl _ _).alloc (Nat.le_refl _) _;have hcz:(w.alloc (.cells (nums .u64 [0]).toArray 112)).cell? ad=some (.int .u64 (x:Nat)):=(hb0.cell hb).trans hc;go_enter Tryz.func199,Tryz.ntmps199;go_upto_region 3 with fail;obtain ⟨w1,hw1⟩:∃ z,w.alloc (.cells (nums .u64 [0]).toArray 112)=z:=⟨_,rfl⟩;rw [hw1] at kz hb0 hcz ⊢;clear hw1 hmk;go_wp2_with fail;go_loopw [6,7,14] (fun sr si _ wr=>(sr = .int .u64 0∧si = .int .i64 0∧w1=wr)∨(sr = .int .u64 (x % y:Nat)∧si = .int .i64 (-1)∧Row .u64 112 wr w.heap.size [x / y]∧Below w.heap.size w wr)) (fun _ si _ _=>(intOf si+1).toNat)
  case atStart=>exact .inl ⟨rfl,rfl,rfl⟩
  case round=>
    rcases hrel with ⟨rfl,rfl,rfl⟩ | ⟨rfl,rfl,hrow,hbw⟩
    · go_wp2_with fail;refine (H.out _).mono ?_;rintro e w2 ⟨rfl,hb2⟩;have k2:=kz.below hb2 kz.lt;have hc2:=k2.cell (i:=0) (by simp);have hf2:=k2.frozen 0;have hr2:=k2.set_ 0 (x / y);have hw2:=hb0.trans (hb2.mono hb0.size);go_wp2_with fail;go_roundw
      case rel=>exact .inr ⟨rfl,rfl,hr2,hw2.setCell (Nat.le_refl _) _⟩
      case measure=>simp [intOf]
    · have hrw:=hrow.rw;have T1:=Lib.hid (w6trim (some ⟨w.heap.size,0,none⟩) 1 [x / y] wr hrow.rd (by simp) (by simp));have hqd:x / y<18446744073709551616:=Nat.lt_of_le_of_lt (Nat.div_le_self _ _) hx;have k3:=Row.new (k:=.u64) (t:=112) wr [x % y];have T2:=Lib.hid (w6trim (some ⟨wr.heap.size,0,none⟩) 1 [x % y] _ k3.rd (by simp) (by simp));go_wp2_with fail;refine T1.out.mono ?_;rintro e w3 ⟨m,hm,rfl,hv,hn,rfl⟩;have HV:=Lib.hid hv;clear hv;go_wp2_with fail;refine T2.out.mono ?_;rintro e w3 ⟨m2,hm2,rfl,hv2,hn2,rfl⟩;go_wp2_with fail;go_ret2;have hl1:(([x / y]:List Nat).take m).length=m:=by rw [List.length_take,Nat.min_eq_left hm]
      have hl2:(([x % y]:List Nat).take m2).length=m2:=by rw [List.length_take,Nat.min_eq_left hm2]
      have hm1:m≤1:=hm;refine ⟨some ⟨w.heap.size,0,none⟩,1,([x / y]:List Nat).take m,some ⟨wr.heap.size,0,none⟩,1,([x % y]:List Nat).take m2,by rw [hl1,hl2];rfl,by omega,(hrw.alloc _).take hm,?_,⟨fun z hz=>?_,hn⟩,by omega,hbw.alloc hbw.size _⟩
      · show val _ _=_;rw [HV.out];simp [val]
      · have:=List.mem_of_mem_take hz;simp at this;omega
end Go.Proofs.YtgekmfcbbjeahaaGreatDoor
/- wide: gcd and quotient of numbers of one word. -/
attribute [local go_sem ↓] Go.wp_at_zero Go.wp_at_succ
namespace Go.Proofs.YtgekmfcbbjeahaaGreatDoor
open Go.RowKit V
theorem V64_one1 (x:Nat):V64 [x]=x:=by simp [V64,val]
theorem mag1_lt {x:Nat} (m:Mag64 [x]):x<18446744073709551616:=m.1 x (by simp)
theorem mag1_pos {x:Nat} (m:Mag64 [x]):0<x:=by
  have h:=V64_pos m (by simp);rw [V64_one1] at h;omega
set_option maxRecDepth 100000 in
set_option maxHeartbeats 1600000 in
theorem wdivide1 (A B:Option Addr) (ca cb x y:Nat) (w:World) (hA:Rw w A [x]) (hB:Rw w B [y]) (mx:Mag64 [x]) (my:Mag64 [y]) :
    Calls Tryz.prog 170 #[.slice A 1 ca,.slice B 1 cb] w (DivW x y w):=by
  have hx:=mag1_lt mx;have hy:=mag1_lt my;have hp:=mag1_pos my;obtain ⟨bd,rfl,hbb,hbc⟩:=one_ask hB;have HC:=Lib.hid (wcompare_any A (some bd) ca cb [x] [y] w hA.rd hB.rd (by simp) mx.1 my.1 mx.2 my.2);rw [show val 18446744073709551616 [x]=x from V64_one1 x,show val 18446744073709551616 [y]=y from V64_one1 y] at HC
  by_cases hlt:x<y
  · rw [cmpOf_lt (by omega)] at HC;have hdv:Hid (x / y=0):=Nat.div_eq_of_lt hlt;go_enter Tryz.func170,Tryz.ntmps170;go_wp2_with fail;refine HC.out.mono ?_;rintro e w2 ⟨rfl,n1,hwe⟩;have hb2:Below w.heap.size w w2:=by rw [hwe];exact below_drew_ (Below.refl _ _) n1
    clear hwe;go_wp2_with fail;go_ret2;exact ⟨none,0,[],A,ca,[x],rfl,Nat.le_refl _,Rw.nil_,by rw [hdv.out];rfl,mag64_nil,by simp,hb2⟩
  · have hcp:0≤cmpOf (x:Int) (y:Int):=by unfold cmpOf;split <;> (try split) <;> omega
    obtain ⟨C,hC⟩:∃ C,cmpOf (x:Int) (y:Int)=C:=⟨_,rfl⟩;rw [hC] at HC hcp;have hcn:¬ C<0:=by omega
    clear hC hcp;go_enter Tryz.func170,Tryz.ntmps170;go_wp2_with fail;refine HC.out.mono ?_;rintro e w2 ⟨rfl,n1,hwe⟩;have hb2:Below w.heap.size w w2:=by rw [hwe];exact below_drew_ (Below.refl _ _) n1
    have hbc2:w2.cell? bd=some (.int .u64 (y:Nat)):=(hb2.cell hbb).trans hbc;have HD:=Lib.hid (wdivWord1 A ca x y w2 (hA.below hb2) hx hy hp);clear hwe;go_wp2_with fail;refine HD.out.mono ?_;rintro e w3 ⟨Q,qc,qs,R,rc,rs,rfl,h1,h2,h3,h4,h5,h6⟩;go_wp2_with fail;go_ret2;exact ⟨Q,qc,qs,R,rc,rs,rfl,h1,h2,h3,h4,h5,hb2.trans (h6.mono hb2.size)⟩
set_option maxRecDepth 100000 in
set_option maxHeartbeats 1600000 in
theorem quo_word {x y:Nat} (mx:Mag64 [x]) (my:Mag64 [y]):QuoOk [x] [y]:=by
  by_cases h1:y=1
  · subst h1;exact quo_one [x] mx
  · intro A B ca cb w hA hB _ _;have ho:One1 [y]=false:=by unfold One1;simp [h1]
    have HD:=Lib.hid (fun W (hW:Below w.heap.size w W)=>wdivide1 A B ca cb x y W (hA.below hW) (hB.below hW) mx my);go_enter Tryz.func126,Tryz.ntmps126;go_wp2_with fail;refine (wisOne B cb [y] _ hB.rd (by simp)).mono ?_;rintro e w' ⟨he,rfl⟩;rw [ho] at he;subst he;go_wp2_with fail;refine (HD.out _ (Below.refl _ _)).mono ?_;rintro e w3 ⟨Q,qc,qs,R,rc,rs,rfl,h1,h2,h3,h4,h5,h6⟩;go_wp2_with fail;go_ret;exact ⟨Q,qc,qs,rfl,h1,h2,h6,by rw [V64_one1,V64_one1];exact h3,h4,h5⟩
set_option maxRecDepth 100000 in
set_option maxHeartbeats 3200000 in
theorem gcd_word {x y : Nat} (mx : Mag64 [x]) (my : Mag64 [y]) : GcdOk [x] [y] := by
  by_cases h1:y=1
  · subst h1;exact gcd_right [x] (by simp) mx
  · intro A B ca cb w hA hB cA cB;have hx:=mag1_lt mx;have hy:=mag1_lt my;have px:=mag1_pos mx;have py:=mag1_pos my;have hoy:One1 [y]=false:=by unfold One1;simp [h1]
    by_cases h2:x=1
    · subst h2;have hox:One1 [1]=true:=one1_one;go_enter Tryz.func124,Tryz.ntmps124;go_wp2_with fail;refine (wisOne A ca [1] _ hA.rd (by simp)).mono ?_;rintro e w' ⟨he,rfl⟩;rw [hox] at he;subst he;go_wp2;go_ret;exact ⟨A,ca,[1],rfl,cA,hA,Below.refl _ _,by rw [V64_one1,V64_one1,Nat.gcd_one_left],mx⟩
    have hox:One1 [x]=false:=by unfold One1;simp [h2]
    obtain ⟨ad,rfl,hab,hac⟩:=one_ask hA;obtain ⟨bd,rfl,hbb,hbc⟩:=one_ask hB;have HC:=Lib.hid (wcompare_any (some ad) (some bd) ca cb [x] [y] w hA.rd hB.rd (by simp) mx.1 my.1 mx.2 my.2);rw [show val 18446744073709551616 [x]=x from V64_one1 x,show val 18446744073709551616 [y]=y from V64_one1 y] at HC;go_enter Tryz.func124,Tryz.ntmps124;go_wp2_with fail;refine (wisOne (some ad) ca [x] _ hA.rd (by simp)).mono ?_;rintro e w' ⟨he,rfl⟩;rw [hox] at he;subst he;go_wp2_with fail;refine (wisOne (some bd) cb [y] _ hB.rd (by simp)).mono ?_;rintro e w' ⟨he,rfl⟩;rw [hoy] at he;subst he;go_wp2_with fail;refine HC.out.mono ?_;rintro e w2 ⟨he,n1,hwe⟩;have hb2:Below w.heap.size w w2:=by rw [hwe];exact below_drew_ (Below.refl _ _) n1
    have hA2:=hA.below hb2;have hB2:=hB.below hb2;have hbc2:w2.cell? bd=some (.int .u64 (y:Nat)):=(hb2.cell hbb).trans hbc;have hac2:w2.cell? ad=some (.int .u64 (x:Nat)):=(hb2.cell hab).trans hac;have hbb0:bd.block<w2.heap.size:=Nat.lt_of_lt_of_le hbb hb2.size;have hab2:ad.block<w2.heap.size:=Nat.lt_of_lt_of_le hab hb2.size;clear hwe HC
    by_cases hlt:x<y
    · rw [cmpOf_lt (by omega)] at he;subst he;go_wp2_with fail;go_loopw [0,1] (fun s0 s1 wr=>s0 = .slice (some bd) 1 cb∧s1 = .slice (some ad) 1 ca∧w2=wr) (fun _ _ _=>0)
      case atStart=>exact ⟨rfl,rfl,rfl⟩
      case round=>
      obtain ⟨rfl,rfl,rfl⟩:=hrel;go_upto_region 14 with fail;have hq2:Below w2.heap.size w2 w2:=Below.refl _ _;go_region_held3 (fun w'=>w'.cell? ad=some (.int .u64 (x:Nat))) (first | assumption | go_keep)
        (first
        | (go_at_call 164
           refine (wremWord1 (some bd) cb y x _ (by first | exact hB2 | exact hB2.drew) hy hx px).mono ?_;rintro e wa ⟨rfl,hba⟩;have hba2:Below w2.heap.size w2 wa:=by first | exact below_of_drew hba (Nat.le_refl _) | exact hba
           have hca:wa.cell? ad=some (.int .u64 (x:Nat)):=(hba2.cell hab2).trans hac2)
        | (go_at_call 163
           refine (wgcdWord x (y % x) _ hx (Nat.lt_trans (Nat.mod_lt _ px) hx)).mono ?_;rintro e wb ⟨rfl,hbb2⟩;have hcb:wb.cell? ad=some (.int .u64 (x:Nat)):=(hbb2.cell (Nat.lt_of_lt_of_le hab2 hba2.size)).trans hca))
      all_goals
        go_wp2_with fail;have hG:Nat.gcd x (y % x)=Nat.gcd x y:=by rw [wgcd_mod,Nat.gcd_comm]
        have hgl:Nat.gcd x y<18446744073709551616:=Nat.lt_of_le_of_lt (Nat.gcd_le_left _ px) hx;have hgp:0<Nat.gcd x y:=Nat.gcd_pos_of_pos_left _ px;have kr:=Row.new (k:=.u64) (t:=112) wb [Nat.gcd x (y % x)];go_ret;refine ⟨some ⟨wb.heap.size,0,none⟩,1,[Nat.gcd x (y % x)],rfl,Nat.le_refl _,kr.rw,?_,by rw [V64_one1,V64_one1,V64_one1,hG],?_⟩
        · exact (hb2.trans ((hba2.trans (hbb2.mono hba2.size)).mono hb2.size)).alloc (hb2.trans ((hba2.trans (hbb2.mono hba2.size)).mono hb2.size)).size _
        · rw [hG];exact mag64_one _ hgl (by omega)
    · have hcp : 0 ≤ cmpOf (x : Int) (y : Int) := by unfold cmpOf; split <;> (try split) <;> omega
      obtain ⟨C,hC⟩:∃ C,cmpOf (x:Int) (y:Int)=C:=⟨_,rfl⟩;rw [hC] at he hcp;subst he;have hcn:¬ C<0:=by omega
      clear hC hcp;go_wp2_with fail;go_loopw [0,1] (fun s0 s1 wr=>s0 = .slice (some ad) 1 ca∧s1 = .slice (some bd) 1 cb∧w2=wr) (fun _ _ _=>0)
      case atStart=>exact ⟨rfl,rfl,rfl⟩
      case round=>
      obtain ⟨rfl,rfl,rfl⟩:=hrel;go_upto_region 14 with fail;have hq2:Below w2.heap.size w2 w2:=Below.refl _ _;go_region_held3 (fun w'=>w'.cell? bd=some (.int .u64 (y:Nat))) (first | assumption | go_keep)
        (first
        | (go_at_call 164
           refine (wremWord1 (some ad) ca x y _ (by first | exact hA2 | exact hA2.drew) hx hy py).mono ?_;rintro e wa ⟨rfl,hba⟩;have hba2:Below w2.heap.size w2 wa:=by first | exact below_of_drew hba (Nat.le_refl _) | exact hba
           have hca:wa.cell? bd=some (.int .u64 (y:Nat)):=(hba2.cell hbb0).trans hbc2)
        | (go_at_call 163
           refine (wgcdWord y (x % y) _ hy (Nat.lt_trans (Nat.mod_lt _ py) hy)).mono ?_;rintro e wb ⟨rfl,hbb2⟩;have hcb:wb.cell? bd=some (.int .u64 (y:Nat)):=(hbb2.cell (Nat.lt_of_lt_of_le hbb0 hba2.size)).trans hca))
      all_goals
        go_wp2_with fail;have hG:Nat.gcd y (x % y)=Nat.gcd x y:=by rw [wgcd_mod]
        have hgl:Nat.gcd x y<18446744073709551616:=Nat.lt_of_le_of_lt (Nat.gcd_le_left _ px) hx;have hgp:0<Nat.gcd x y:=Nat.gcd_pos_of_pos_left _ px;have kr:=Row.new (k:=.u64) (t:=112) wb [Nat.gcd y (x % y)];go_ret;refine ⟨some ⟨wb.heap.size,0,none⟩,1,[Nat.gcd y (x % y)],rfl,Nat.le_refl _,kr.rw,?_,by rw [V64_one1,V64_one1,V64_one1,hG],?_⟩
        · exact (hb2.trans ((hba2.trans (hbb2.mono hba2.size)).mono hb2.size)).alloc (hb2.trans ((hba2.trans (hbb2.mono hba2.size)).mono hb2.size)).size _
        · rw [hG];exact mag64_one _ hgl (by omega)
end Go.Proofs.YtgekmfcbbjeahaaGreatDoor
/- wide: products of rational numbers whose parts are single words. -/
namespace Go.Proofs.YtgekmfcbbjeahaaGreatDoor
open Go.RowKit V
theorem mag_single {xs:List Nat} (m:Mag64 xs) (hp:0<V64 xs) (hl:V64 xs<18446744073709551616):∃ x,xs=[x]∧x=V64 xs:=by
  have h1:0<xs.length:=(V64_pos_iff m).2 hp;have h2:xs.length≤1:=by
    refine len_of_lt (B:=18446744073709551616) (by omega) m.2 ?_;show V64 xs<_;rw [Nat.pow_one];exact hl
  match xs,h1,h2 with
  | [x],_,_=>exact ⟨x,rfl,(V64_one1 x).symm⟩
theorem mulOk_word {p q:Rat} (hp0:p≠0) (hq0:q≠0) (h1:p.num.natAbs<18446744073709551616) (h2:p.den<18446744073709551616) (h3:q.num.natAbs<18446744073709551616) (h4:q.den<18446744073709551616):MulOk p q:=fun a b w ha hb=>by
  have hpn:0<p.num.natAbs:=Int.natAbs_pos.2 fun h=>hp0 (Rat.num_eq_zero.1 h)
  have hqn:0<q.num.natAbs:=Int.natAbs_pos.2 fun h=>hq0 (Rat.num_eq_zero.1 h)
  obtain ⟨_,qa⟩:=ha.nz hp0;obtain ⟨_,qb⟩:=hb.nz hq0;obtain ⟨x1,e1,v1⟩:=mag_single ha.mn (by rw [qa.2.1];exact hpn) (by rw [qa.2.1];exact h1);obtain ⟨x2,e2,v2⟩:=mag_single ha.md (by rw [qa.2.2];exact p.den_pos) (by rw [qa.2.2];exact h2);obtain ⟨y1,e3,v3⟩:=mag_single hb.mn (by rw [qb.2.1];exact hqn) (by rw [qb.2.1];exact h3);obtain ⟨y2,e4,v4⟩:=mag_single hb.md (by rw [qb.2.2];exact q.den_pos) (by rw [qb.2.2];exact h4);have mx1:Mag64 [x1]:=by rw [← e1];exact ha.mn
  have mx2:Mag64 [x2]:=by rw [← e2];exact ha.md
  have my1:Mag64 [y1]:=by rw [← e3];exact hb.mn
  have my2:Mag64 [y2]:=by rw [← e4];exact hb.md
  have single:∀ {gl:List Nat} {u v:Nat},Mag64 gl→V64 gl=Nat.gcd u v→0<u→u<18446744073709551616 → ∃ g,gl=[g]∧g=Nat.gcd u v:=fun {gl u v} mg hg hu hl=>by
    obtain ⟨g,h5,h6⟩:=mag_single mg (by rw [hg];exact Nat.gcd_pos_of_pos_left _ hu) (by rw [hg];exact Nat.lt_of_le_of_lt (Nat.gcd_le_left _ hu) hl);exact ⟨g,h5,h6.trans hg⟩
  have quok:∀ {x:Nat} {gl:List Nat} {u v:Nat},Mag64 [x]→Mag64 gl→V64 gl=Nat.gcd u v→0<u→u<18446744073709551616→QuoOk [x] gl:=fun {x gl u v} mx mg hg hu hl=>by
    obtain ⟨g,h5,_⟩:=single mg hg hu hl;rw [h5] at mg ⊢;exact quo_word mx mg
  have times:∀ {xl yl:List Nat},Mag64 xl→Mag64 yl→0<V64 xl→0<V64 yl→xl.length≤1→yl.length≤1→TimOk xl yl:=fun {xl yl} mx my hx hy lx ly=>
    tim_short xl yl mx my ((V64_pos_iff mx).2 hx) ((V64_pos_iff my).2 hy) (by omega) (by omega) (.inl (by omega))
  have pd:∀ {n u v:Nat} {gl:List Nat},V64 gl=Nat.gcd u v→0<u→n=u∨n=v→0<n→0<n / V64 gl:=fun {n u v gl} hg hu hn h0=>by
    rw [hg];rcases hn with rfl | rfl
    · exact Nat.div_pos (Nat.gcd_le_left _ h0) (Nat.gcd_pos_of_pos_left _ h0)
    · exact Nat.div_pos (Nat.gcd_le_right _ h0) (Nat.gcd_pos_of_pos_right _ h0)
  have p1:=mag1_pos mx1;have p2:=mag1_pos mx2;have p3:=mag1_pos my1;have p4:=mag1_pos my2;have b1:=mag1_lt mx1;have b3:=mag1_lt my1;have t1:V64 [x1]=x1:=V64_one1 x1;have t2:V64 [x2]=x2:=V64_one1 x2;have t3:V64 [y1]=y1:=V64_one1 y1;have t4:V64 [y2]=y2:=V64_one1 y2;refine (wMul_of a b p q w ha hb hp0 hq0 ?_ ?_ ?_ ?_).mono ?_
  · rw [e1,e2,e3,e4];exact ⟨gcd_word mx1 my2,gcd_word my1 mx2⟩
  · intro gl hl mg mh _ _ hg hh;have hg:=hg.out;have hh:=hh.out;rw [e1,e4,t1,t4] at hg;rw [e3,e2,t3,t2] at hh;rw [e1,e2,e3,e4];exact ⟨quok mx1 mg hg p1 b1,quok my1 mh hh p3 b3,quok mx2 mh hh p3 b3,quok my2 mg hg p1 b1⟩
  · intro gl hl xl yl mx my hg hh hx hy lx ly;have hg:=hg.out;have hh:=hh.out;have hx:=hx.out;have hy:=hy.out;rw [e1,e4,t1,t4] at hg;rw [e3,e2,t3,t2] at hh;rw [e1,t1] at hx;rw [e3,t3] at hy;rw [e1] at lx;rw [e3] at ly;exact times mx my (by rw [hx];exact pd hg p1 (.inl rfl) p1) (by rw [hy];exact pd hh p3 (.inl rfl) p3) lx ly
  · intro gl hl xl yl mx my hg hh hx hy lx ly;have hg:=hg.out;have hh:=hh.out;have hx:=hx.out;have hy:=hy.out;rw [e1,e4,t1,t4] at hg;rw [e3,e2,t3,t2] at hh;rw [e2,t2] at hx;rw [e4,t4] at hy;rw [e2] at lx;rw [e4] at ly;exact times mx my (by rw [hx];exact pd hh p3 (.inr rfl) p2) (by rw [hy];exact pd hg p1 (.inr rfl) p4) lx ly
  · rintro e w' ⟨r,he,hr,l1,l2,hw⟩;rw [e1,e2,e3,e4] at l1 l2;exact ⟨r,he,hr,Nat.le_trans l1 (by simp only [List.length_singleton];omega),Nat.le_trans l2 (by simp only [List.length_singleton];omega),hw⟩
end Go.Proofs.YtgekmfcbbjeahaaGreatDoor
