/- isochroneref03.Same: yes for two polynomials with the same terms. -/
import Derived.Test.YtgekmfcbbjeahaaGreatDoorPpR44
import Derived.Lib.Strings
import Derived.Lib.Builder
import Derived.Lib.AppendStr
import Derived.Lib.UnsafeStr
import Derived.Laws.Externs
import Derived.Laws.Concat
import Derived.Deep.RegionLaw
import Derived.Deep.CutBlock
attribute [local go_sem ↓] Go.wp_at_zero Go.wp_at_succ
namespace Go.Proofs.YtgekmfcbbjeahaaGreatDoor
open Go.RowKit V
theorem RL.Is.same {w:World} {a b:RL} {q:Rat} (ha:a.Is w q) (hb:b.Is w q):b.s=a.s∧b.ns=a.ns∧b.ds=a.ds:=by
  obtain ⟨e1,e2,e3⟩:=hb.q.inj ha.q;exact ⟨e1,hb.mn.eq ha.mn e2,hb.md.eq ha.md e3⟩
set_option maxRecDepth 100000 in
set_option maxHeartbeats 3200000 in
theorem psame_yes (n : Nat) (A B : Option Addr) (c d : Nat) (ms ms2 : List MM) (P : PL) (w : World) (ha : ARd w A ms (up n P)) (hb : ARd w B ms2 (up n P)) (hn : n ≤ 8) (hl : ms.length ≤ 100000) :
    Calls Tryz.prog 23 #[.agg #[.int .i64 n,.slice A ms.length c],.agg #[.int .i64 n,.slice B ms2.length d]] w (Yes w):=by
  have hll:ms2.length=ms.length:=by rw [hb.hs.1,ha.hs.1]
  obtain ⟨ka,kb,hb0⟩:=pboxes2 w (.int .i64 n) (.slice A ms.length c) (.int .i64 n) (.slice B ms2.length d);have HA:=Lib.hid ha;have HB:=Lib.hid hb;clear ha hb;rw [hll] at ka kb hb0 ⊢;go_enter Tryz.func23,Tryz.ntmps23;go_upto_region 1 with fail;obtain ⟨w1,hw1⟩:∃ x,(w.alloc (.cells #[.int .i64 n,.slice A ms.length c] 24)).alloc (.cells #[.int .i64 n,.slice B ms.length d] 24)=x:=⟨_,rfl⟩;rw [hw1] at ka kb hb0 ⊢;clear hw1;obtain ⟨a0,a1,a2,a3,a4⟩:=ka.facts;obtain ⟨b0,b1,b2,b3,b4⟩:=kb.facts;go_wp2_with fail;clear a0 a1 a2 a3 a4 b0 b1 b2 b3 b4;go_loopw [26] (fun si wr=>∃ (k:Nat),k≤ms.length∧si = .int .i64 k∧Blk2c 24 wr (w.heap.size+1) (.int .i64 n) (.slice B ms.length d)∧Below w.heap.size w wr) (fun si _=>ms.length - (intOf si).toNat)
  case atStart=>exact ⟨0,by omega,rfl,kb,hb0⟩
  case round=>
    obtain ⟨k,hk,rfl,kb1,hbw⟩:=hrel;clear hb0 ka kb
    by_cases hlt:k<ms.length
    · obtain ⟨ad,m,rfl,hb1,hm,hc⟩:=(HA.out.below hbw).rd.ask hlt;obtain ⟨es,q,hp,hrd,hmn,hmc,his,l1,l2⟩:=(HA.out.below hbw).hs.2 k m hm.out;obtain ⟨bd,m2,rfl,hb2,hm2,hc2⟩:=(HB.out.below hbw).rd.ask (k:=k) (by omega);obtain ⟨es2,q2,hp2,hrd2,hmn2,hmc2,his2,_⟩:=(HB.out.below hbw).hs.2 k m2 hm2.out;rw [hp] at hp2;injection hp2 with hp2;injection hp2 with e1 e2;subst e1 e2;obtain ⟨e1,e2,e3⟩:=his.same his2;have hel:es.length=n:=by
        obtain ⟨x,_,rfl⟩:=up_get n P hp;exact exL_len _ _
      rw [hel] at hmn hmn2;obtain ⟨X,mn,xc,⟨s,N,nc,ns,D,dc,ds⟩⟩:=m;obtain ⟨X2,mn2,xc2,⟨s2,N2,nc2,ns2,D2,dc2,ds2⟩⟩:=m2;dsimp only at hmn hmn2 e1 e2 e3 hmc hmc2 l1 l2 hrd hrd2;have hmn:=hmn.symm;have hmn2:=hmn2.symm;subst e1 e2 e3 hmn hmn2;have HIS:=Lib.hid his;have HIS2:=Lib.hid his2;have HRD:=Lib.hid hrd;have HRD2:=Lib.hid hrd2;clear hm hm2 hp hmc hmc2 his his2 hrd hrd2;obtain ⟨c0,c1,c2,c3⟩:=hc;have hc2':=hc2.keep (w':=wr.alloc (.cells #[.slice X n xc,.bool s2,.slice N ns2.length nc,.slice D ds2.length dc] 79)) fun q hq=>((Below.refl wr.heap.size wr).alloc (Nat.le_refl _) _).cell (by rw [hq,block_of_add];exact hb2)
      obtain ⟨d0,d1,d2,d3⟩:=hc2';dsimp only at c0 c1 c2 c3 d0 d1 d2 d3;obtain ⟨q0,q1,q2,q3,q4⟩:=kb1.facts;have HK1:=Lib.hid ((Blk4.new 79 wr (.slice X n xc) (.bool s2) (.slice N ns2.length nc) (.slice D ds2.length dc)).alloc (.cells #[.slice X2 n xc2,.bool s2,.slice N2 ns2.length nc2,.slice D2 ds2.length dc2] 79));have HK2:=Lib.hid (Blk4.new 79 (wr.alloc (.cells #[.slice X n xc,.bool s2,.slice N ns2.length nc,.slice D ds2.length dc] 79)) (.slice X2 n xc2) (.bool s2) (.slice N2 ns2.length nc2) (.slice D2 ds2.length dc2));have HQ:=Lib.hid (((Below.refl wr.heap.size wr).alloc (Nat.le_refl _) (.cells #[.slice X n xc,.bool s2,.slice N ns2.length nc,.slice D ds2.length dc] 79)).alloc (by simp) (.cells #[.slice X2 n xc2,.bool s2,.slice N2 ns2.length nc2,.slice D2 ds2.length dc2] 79));have hplt:=kb1.lt;go_upto_region 7 with fail;obtain ⟨w2,hw2⟩:∃ x,(wr.alloc (.cells #[.slice X n xc,.bool s2,.slice N ns2.length nc,.slice D ds2.length dc] 79)).alloc (.cells #[.slice X2 n xc2,.bool s2,.slice N2 ns2.length nc2,.slice D2 ds2.length dc2] 79)=x:=⟨_,rfl⟩;rw [show (wr.alloc (.cells #[.slice X n xc,.bool s2,.slice N ns2.length nc,.slice D ds2.length dc] 79)).heap.size=wr.heap.size+1 by simp] at HK2;rw [hw2] at HK1 HK2 HQ
      try rw [hw2]
      clear hw2 c0 c1 c2 c3 d0 d1 d2 d3 q0 q1 q2 q3 q4;have k1:=HK1.out;have k2:=HK2.out;have hq:=HQ.out;clear HK1 HK2 HQ;have HS:=Lib.hid (qsame_yes s2 N N2 D D2 nc nc2 dc dc2 ns2 ds2 w2 (HIS.out.below hq).rn (HIS2.out.below hq).rn (HIS.out.below hq).rd (HIS2.out.below hq).rd (by omega) (by omega));obtain ⟨c0,c1,c2,c3,c4,c5,c6,c7,c8⟩:=k1.facts;obtain ⟨d0,d1,d2,d3,d4,d5,d6,d7,d8⟩:=k2.facts;go_wp2_with fail;refine HS.out.mono ?_;rintro e w3 ⟨rfl,hb3⟩;have k1:=k1.below hb3;have k2:=k2.below hb3;have hq3:=hq.trans (hb3.mono hq.size);clear c0 c1 c2 c3 c4 c5 c6 c7 c8 d0 d1 d2 d3 d4 d5 d6 d7 d8 hq hb3 HS;obtain ⟨c0,c1,c2,c3,c4,c5,c6,c7,c8⟩:=k1.facts;obtain ⟨d0,d1,d2,d3,d4,d5,d6,d7,d8⟩:=k2.facts;have HR1:=Lib.hid (HRD.out.below hq3);have HR2:=Lib.hid (HRD2.out.below hq3);go_wp2_with fail;clear c0 c1 c2 c3 c4 c5 c6 c7 c8 d0 d1 d2 d3 d4 d5 d6 d7 d8;go_loopw [8,54] (fun _ sj wq=>∃ (i:Nat),i≤n∧sj = .int .i64 i∧Below w3.heap.size w3 wq) (fun _ sj _=>n - (intOf sj).toNat)
      case atStart=>exact ⟨0,by omega,rfl,Below.refl _ _⟩
      case round=>
        obtain ⟨i,hi,rfl,hbq⟩:=hrel
        by_cases hil:i<n
        · obtain ⟨xd,x,rfl,hbx,hex,hcx⟩:=(HR1.out.below hbq).ask (i:=i) (by rw [hel];exact hil);obtain ⟨yd,y,rfl,hby,hey,hcy⟩:=(HR2.out.below hbq).ask (i:=i) (by rw [hel];exact hil);obtain rfl:x=y:=by rw [← hex.out,← hey.out]
          obtain ⟨c0,c1,c2,c3,c4,c5,c6,c7,c8⟩:=(k1.below hbq).facts;obtain ⟨d0,d1,d2,d3,d4,d5,d6,d7,d8⟩:=(k2.below hbq).facts;have hil2:(i:Int)<(n:Int):=by omega
          go_upto_region 12 with fail;go_quiet (fail);go_wp2_with fail;go_roundw
          case rel=>exact ⟨i+1,by omega,by go_num,below_drew_ hbq _⟩
          case measure=>simp [intOf];omega
        · obtain rfl:i=n:=by omega
          have HW:=Lib.hid (hbw.trans ((hq3.trans (hbq.mono hq3.size)).mono hbw.size));have HKB:=Lib.hid (kb1.below (hq3.trans (hbq.mono hq3.size)));go_wp2_with fail;go_roundw
          case rel=>exact ⟨k+1,by omega,by go_num,HKB.out,HW.out⟩
          case measure=>simp [intOf];omega
    · obtain rfl:k=ms.length:=by omega
      go_wp2;go_ret;exact ⟨rfl,hbw⟩
end Go.Proofs.YtgekmfcbbjeahaaGreatDoor
/- isochroneref03.Is: yes for a polynomial that is the one wanted. -/
namespace Go.Proofs.YtgekmfcbbjeahaaGreatDoor
open Go.RowKit V
theorem QPR.drew {l:Nat} {w:World} {A:Option Addr} {ts:List TR} {p:PL} (h:QPR l w A ts p):QPR l w.drew A ts p:=h.below (below_drew_ (Below.refl _ _) 1)
set_option maxRecDepth 100000 in
set_option maxHeartbeats 1600000 in
theorem pis_yes (n:Nat) (A B:Option Addr) (c d:Nat) (ms:List MM) (ts:List TR) (P p:PL) (l:Nat) (w:World) (ha:ARd w A ms (up n P)) (h:QPR l w B ts p) (hp:DN p) (hw:Words p) (hn:n≤8) (hl:l≤200) (h4:ts.length≤4000) (hm:ms.length≤100000) (he:P=nfOf p) :
    Calls Tryz.prog 17 #[.agg #[.int .i64 n,.slice A ms.length c],.slice B ts.length d,.int .i64 n] w (Yes w):=by
  subst he;have k1:=Blk2c.new 24 w (.int .i64 n) (.slice A ms.length c);have hb1:Below w.heap.size w (w.alloc (.cells #[.int .i64 n,.slice A ms.length c] 24)):=(Below.refl _ _).alloc (Nat.le_refl _) _;go_enter Tryz.func17,Tryz.ntmps17;go_upto_region 1 with fail;obtain ⟨w1,hw1⟩:∃ x,w.alloc (.cells #[.int .i64 n,.slice A ms.length c] 24)=x:=⟨_,rfl⟩;rw [hw1] at k1 hb1 ⊢;clear hw1;have HA:=Lib.hid (ha.below hb1);have h1:=h.below hb1;clear ha h;obtain ⟨a0,a1,a2,a3,a4⟩:=k1.facts;go_region_held3 (fun w'=>w'.cell? ⟨w.heap.size,0,none⟩=some (.int .i64 n)∧w'.cell? ⟨w.heap.size,1,none⟩=some (.slice A ms.length c)) (first | (with_reducible exact ⟨‹_›,‹_›⟩) | go_keep)
    (first
    | (go_at_call 62
       refine (pto n B d ts p l _ (by first | exact h1 | exact h1.drew) hp hw hn hl h4).mono ?_;rintro e wx_ ⟨C,cc,us,rfl,hcc,hc,hbx⟩;have hbxq:Below w1.heap.size w1 wx_:=by first | exact below_of_drew hbx (Nat.le_refl _) | exact hbx
       obtain ⟨b0,b1,b2,b3,b4⟩:=(k1.below hbxq).facts)
    | (go_at_call 23
       refine (psame_yes n A C c cc ms us (nfOf p) _ (HA.out.below hbxq) hc hn hm).mono ?_;rintro e wy_ ⟨rfl,hby⟩;obtain ⟨d0,d1,d2,d3,d4⟩:=((k1.below hbxq).below hby).facts))
  all_goals
    go_wp2_with fail;go_ret;exact ⟨rfl,hb1.trans ((hbxq.trans (hby.mono hbxq.size)).mono hb1.size)⟩
end Go.Proofs.YtgekmfcbbjeahaaGreatDoor
/- isochronelaw03.one: a monomial with coefficient 1. -/
attribute [local go_sem ↓] Go.wp_at_zero Go.wp_at_succ
namespace Go.Proofs.YtgekmfcbbjeahaaGreatDoor
open Go.RowKit V
def ZRow (w:World) (g k:Nat):Prop:=Row .i64 3 w g (List.replicate k 0)
theorem ZRow.new (w:World) (k:Nat):ZRow (w.alloc (.cells (nums .i64 (List.replicate k 0)).toArray 3)) w.heap.size k:=Row.new _ _
theorem ZRow.lt {w:World} {g k:Nat} (h:ZRow w g k):g<w.heap.size:=Row.lt h
theorem ZRow.below {w w':World} {g k:Nat} (h:ZRow w g k) (hb:Below w.heap.size w w'):ZRow w' g k:=Row.below h hb h.lt
theorem ZRow.alloc {w:World} {g k:Nat} (h:ZRow w g k) (o:Obj):ZRow (w.alloc o) g k:=h.below ((Below.refl _ _).alloc (Nat.le_refl _) o)
end Go.Proofs.YtgekmfcbbjeahaaGreatDoor
/- Plain facts about monomials with coefficient 1. -/
namespace Go.Proofs.YtgekmfcbbjeahaaGreatDoor
open Go.RowKit V
theorem nf_one1 (M:Nat):NF [(M,(1:Rat))]:=⟨List.pairwise_singleton _ _,fun t ht=>by simp at ht;rw [ht];show (1:Rat)≠0;decide⟩
end Go.Proofs.YtgekmfcbbjeahaaGreatDoor
