/- poly.Valid. -/
import Derived.Test.YtgekmfcbbjeahaaGreatDoorPpR27
attribute [local go_sem ↓] Go.wp_at_zero Go.wp_at_succ
namespace Go.Proofs.YtgekmfcbbjeahaaGreatDoor
open Go.RowKit V
def RHolds (w:World) (ms:List MM) (es:List (List Int)):Prop:=ms.length=es.length ∧ ∀ (j:Nat) (m:MM),ms[j]?=some m → ∃ e,es[j]?=some e∧RdI w m.X e∧m.n=e.length∧m.n≤m.xc∧m.c.Raw w
structure PRaw (w:World) (A:Option Addr) (ms:List MM) (es:List (List Int)):Prop where
  rd:MRd w A ms
  hs:RHolds w ms es
theorem PRaw.below {w w':World} {A:Option Addr} {ms:List MM} {es:List (List Int)} (h:PRaw w A ms es) (hb:Below w.heap.size w w'):PRaw w' A ms es:=
  ⟨h.rd.below hb,h.hs.1,fun j m hm=>by obtain ⟨e,h1,h2,h3,h4,h5⟩:=h.hs.2 j m hm;exact ⟨e,h1,h2.below hb,h3,h4,h5.below hb⟩⟩
structure PVto (n:Int) (ms:List MM) (es:List (List Int)) (k:Nat):Prop where
  good:∀ j e m,j<k→es[j]?=some e→ms[j]?=some m→EV n e∧m.c.CV
  desc:∀ j a b,j+1<k→es[j]?=some a→es[j+1]?=some b→0<lexI a b
structure PVal (n:Int) (ms:List MM) (es:List (List Int)):Prop where
  lo:0≤n
  hi:n≤8
  len:ms.length≤4000
  all:PVto n ms es ms.length
theorem PVto.zero (n:Int) (ms:List MM) (es:List (List Int)):PVto n ms es 0:=⟨fun j e m h=>by omega,fun j a b h=>by omega⟩
theorem PVto.succ {n:Int} {ms:List MM} {es:List (List Int)} {k:Nat} (h:PVto n ms es k) {e:List Int} {m:MM} (he:es[k]?=some e) (hm:ms[k]?=some m) (h1:EV n e) (h2:m.c.CV) (h3:∀ j a,k=j+1→es[j]?=some a→0<lexI a e):PVto n ms es (k+1):=by
  refine ⟨fun j e' m' hj he' hm'=>?_,fun j a b hj ha hb=>?_⟩
  · rcases Nat.lt_or_ge j k with hlt | hge
    · exact h.good j e' m' hlt he' hm'
    · obtain rfl:j=k:=by omega
      rw [he] at he';rw [hm] at hm';cases he';cases hm';exact ⟨h1,h2⟩
  · rcases Nat.lt_or_ge (j+1) k with hlt | hge
    · exact h.desc j a b hlt ha hb
    · obtain rfl:k=j+1:=by omega
      rw [he] at hb;cases hb;exact h3 j a rfl ha
theorem not_false_of {v:Bool} {P:Prop} (hv:v=true↔P) (h:¬ P):v=false:=by
  cases hb:v with
  | false=>rfl
  | true=>exact absurd (hv.1 hb) h
set_option maxRecDepth 100000 in
set_option maxHeartbeats 1600000 in
theorem pvalid (n : Int) (A : Option Addr) (c : Nat) (ms : List MM) (es : List (List Int)) (w : World) (h : PRaw w A ms es) (v : Bool) (hv : v = true ↔ PVal n ms es) :
    Calls Tryz.prog 40 #[.agg #[.int .i64 n,.slice A ms.length c]] w (Gives (.bool v) w):=by
  have HV:=Lib.hid hv;clear hv;have HC:=Lib.hid (pisCount n);have hb0:Below w.heap.size w (w.alloc (.cells #[.int .i64 n,.slice A ms.length c] 24)):=(Below.refl _ _).alloc (Nat.le_refl _) _;have kp:=Blk2c.new 24 w (.int .i64 n) (.slice A ms.length c)
  by_cases hn:0≤n∧n≤8
  · rw [decide_eq_true hn] at HC
    by_cases hl:ms.length≤4000
    · have h8 := hn.2; have HN := Lib.hid hn; clear hn; go_enter Tryz.func40, Tryz.ntmps40; go_wp2_with fail; refine (HC.out _).mono ?_; rintro e0 w1 ⟨rfl, rfl⟩; go_wp2; go_loopw [3, 4, 18] (fun _ _ i wr => ∃ k : Nat, k ≤ ms.length ∧ i = .int .i64 k ∧ Hid (PVto n ms es k) ∧ Below w.heap.size w wr ∧ Blk2c 24 wr w.heap.size (.int .i64 n) (.slice A ms.length c)) (fun _ _ i _ => ms.length - (intOf i).toNat)
      case atStart=>exact ⟨0,Nat.zero_le _,rfl,PVto.zero _ _ _,hb0,kp⟩
      case round=>
        obtain ⟨k,hk,rfl,HTO,hbw,kp1⟩:=hrel;clear hb0 kp
        by_cases hlt:k<ms.length
        · obtain ⟨ad, m, rfl, hb, hm, hc⟩ := (h.below hbw).rd.ask hlt; obtain ⟨e, he, hre, hme, hmc, hraw⟩ := (h.below hbw).hs.2 _ m hm.out; have HE := Lib.hid he; obtain ⟨c0, c1, c2, c3⟩ := hc; have kb := Blk4.new 79 wr (.slice m.X e.length m.xc) (.bool m.c.s) (.slice m.c.N m.c.ns.length m.c.nc) (.slice m.c.D m.c.ds.length m.c.dc); have hb1 : Below wr.heap.size wr (wr.alloc (.cells #[.slice m.X e.length m.xc, .bool m.c.s, .slice m.c.N m.c.ns.length m.c.nc, .slice m.c.D m.c.ds.length m.c.dc] 79)) := (Below.refl _ _).alloc (Nat.le_refl _) _; rw [hme] at c0; clear he hmc; obtain ⟨q0, q1, q2, q3, hplt⟩ := kp1.facts; have hne1 : ¬ wr.heap.size = w.heap.size := by omega
          have hne2:¬ w.heap.size=wr.heap.size:=by omega
          by_cases hE:EV n e
          · by_cases hC:m.c.CV
            · clear HC; go_wp2_with fail; refine (pvalidExps n m.X m.xc e _ (hre.below hb1) h8 true ⟨fun _ => hE, fun _ => rfl⟩).mono ?_; rintro e0 w2 ⟨rfl, rfl⟩; go_wp2_with fail; refine (pvalidCoef m.c _ (hraw.below hb1) true ⟨fun _ => hC, fun _ => rfl⟩).mono ?_; rintro e0 w2 ⟨rfl, hb2⟩; have hb12 := hb1.trans (hb2.mono hb1.size); have kp2 := kp1.below hb12; have kb2 := kb.below hb2; have hw2 := hbw.trans (hb12.mono hbw.size); obtain ⟨p0, p1, p2, p3, p4⟩ := kp2.facts; obtain ⟨a0, a1, a2, a3, a4, a5, a6, a7, a8⟩ := kb2.facts; clear c0 c1 c2 c3 q0 q1 q2 q3; go_upto_region 8 with fail
              by_cases hk0:k=0
              · have hT:decide (0<k)=false:=decide_eq_false (by omega);have HK0:=Lib.hid hk0;clear hk0;refine wp_region_held_drew (S:=fun w'=>w'.cell? ⟨w.heap.size,1,none⟩=some (.slice (some ad) ms.length c)) (by kernel_rfl) ?_ (fun hHeld=>?_)
                · first | exact ⟨‹_›⟩ | go_keep
                refine wpAnyH_take (i:=0) (v:=?v0) rfl (by kernel_rfl) (by kernel_rfl) (by kernel_rfl) (fun _ _ _ h=>h) (Or.inl ⟨by rfl,?hy0⟩) (by assumption) ?rest0
                case hy0=>
                  intro w hSw
                  (try dsimp only at hSw)
                  go_simp
                  all_goals with_reducible rfl
                simp only [Act.put,List.getElem_toArray,List.getElem_cons_zero,List.setIfInBounds_toArray,List.set_cons_zero,List.set_cons_succ];refine wpAnyH_take (i:=1) (v:=?v1) rfl (by kernel_rfl) (by kernel_rfl) (by kernel_rfl) (fun _ _ _ h=>h) (Or.inl ⟨by rfl,?hy1⟩) (by assumption) ?rest1
                case hy1=>
                  intro w hSw
                  (try dsimp only at hSw)
                  go_simp
                  all_goals with_reducible rfl
                simp only [Act.put,List.getElem_toArray,List.getElem_cons_zero,List.getElem_cons_succ,List.setIfInBounds_toArray,List.set_cons_zero,List.set_cons_succ];refine wpAnyH_take (i:=2) (v:=?v2) rfl (by kernel_rfl) (by kernel_rfl) (by kernel_rfl) (fun _ _ _ h=>h) (Or.inl ⟨by rfl,?hy2⟩) (by assumption) ?rest2
                case hy2=>
                  intro w hSw
                  (try dsimp only at hSw)
                  go_simp
                  all_goals with_reducible rfl
                simp only [Act.put,List.getElem_toArray,List.getElem_cons_zero,List.getElem_cons_succ,List.setIfInBounds_toArray,List.set_cons_zero,List.set_cons_succ];refine wpAnyH_take (i:=3) (v:=undef) rfl (by kernel_rfl) (by kernel_rfl) (by kernel_rfl) (fun _ _ _ h=>h) (Or.inr ⟨by rfl,rfl⟩) (by assumption) ?rest3;simp only [Act.put,List.getElem_toArray,List.getElem_cons_zero,List.getElem_cons_succ,List.setIfInBounds_toArray,List.set_cons_zero,List.set_cons_succ];refine wpAnyH_take (i:=4) (v:=undef) rfl (by kernel_rfl) (by kernel_rfl) (by kernel_rfl) (fun _ _ _ h=>h) (Or.inr ⟨by rfl,rfl⟩) (by assumption) ?rest4;simp only [Act.put,List.getElem_toArray,List.getElem_cons_zero,List.getElem_cons_succ,List.setIfInBounds_toArray,List.set_cons_zero,List.set_cons_succ];refine wpAnyH_take (i:=5) (v:=undef) rfl (by kernel_rfl) (by kernel_rfl) (by kernel_rfl) (fun _ _ _ h=>h) (Or.inr ⟨by rfl,rfl⟩) (by assumption) ?rest5;simp only [Act.put,List.getElem_toArray,List.getElem_cons_zero,List.getElem_cons_succ,List.setIfInBounds_toArray,List.set_cons_zero,List.set_cons_succ];refine wpAnyH_take (i:=6) (v:=undef) rfl (by kernel_rfl) (by kernel_rfl) (by kernel_rfl) (fun _ _ _ h=>h) (Or.inr ⟨by rfl,rfl⟩) (by assumption) ?rest6;simp only [Act.put,List.getElem_toArray,List.getElem_cons_zero,List.getElem_cons_succ,List.setIfInBounds_toArray,List.set_cons_zero,List.set_cons_succ];refine wpAnyH_take (i:=7) (v:=undef) rfl (by kernel_rfl) (by kernel_rfl) (by kernel_rfl) (fun _ _ _ h=>h) (Or.inr ⟨by rfl,rfl⟩) (by assumption) ?rest7;simp only [Act.put,List.getElem_toArray,List.getElem_cons_zero,List.getElem_cons_succ,List.setIfInBounds_toArray,List.set_cons_zero,List.set_cons_succ];refine wpAnyH_take (i:=8) (v:=undef) rfl (by kernel_rfl) (by kernel_rfl) (by kernel_rfl) (fun _ _ _ h=>h) (Or.inr ⟨by rfl,rfl⟩) (by assumption) ?rest8;simp only [Act.put,List.getElem_toArray,List.getElem_cons_zero,List.getElem_cons_succ,List.setIfInBounds_toArray,List.set_cons_zero,List.set_cons_succ];refine wpAnyH_take (i:=9) (v:=undef) rfl (by kernel_rfl) (by kernel_rfl) (by kernel_rfl) (fun _ _ _ h=>h) (Or.inr ⟨by rfl,rfl⟩) (by assumption) ?rest9;simp only [Act.put,List.getElem_toArray,List.getElem_cons_zero,List.getElem_cons_succ,List.setIfInBounds_toArray,List.set_cons_zero,List.set_cons_succ];refine wpAnyH_take (i:=10) (v:=undef) rfl (by kernel_rfl) (by kernel_rfl) (by kernel_rfl) (fun _ _ _ h=>h) (Or.inr ⟨by rfl,rfl⟩) (by assumption) ?rest10;simp only [Act.put,List.getElem_toArray,List.getElem_cons_zero,List.getElem_cons_succ,List.setIfInBounds_toArray,List.set_cons_zero,List.set_cons_succ];refine wpAnyH_take (i:=11) (v:=undef) rfl (by kernel_rfl) (by kernel_rfl) (by kernel_rfl) (fun _ _ _ h=>h) (Or.inr ⟨by rfl,rfl⟩) (by assumption) ?rest11;simp only [Act.put,List.getElem_toArray,List.getElem_cons_zero,List.getElem_cons_succ,List.setIfInBounds_toArray,List.set_cons_zero,List.set_cons_succ];refine wpAnyH_take (i:=12) (v:=undef) rfl (by kernel_rfl) (by kernel_rfl) (by kernel_rfl) (fun _ _ _ h=>h) (Or.inr ⟨by rfl,rfl⟩) (by assumption) ?rest12;simp only [Act.put,List.getElem_toArray,List.getElem_cons_zero,List.getElem_cons_succ,List.setIfInBounds_toArray,List.set_cons_zero,List.set_cons_succ];refine wpAnyH_take (i:=13) (v:=undef) rfl (by kernel_rfl) (by kernel_rfl) (by kernel_rfl) (fun _ _ _ h=>h) (Or.inr ⟨by rfl,rfl⟩) (by assumption) ?rest13;simp only [Act.put,List.getElem_toArray,List.getElem_cons_zero,List.getElem_cons_succ,List.setIfInBounds_toArray,List.set_cons_zero,List.set_cons_succ];refine wpAnyH_take (i:=14) (v:=?v14) rfl (by kernel_rfl) (by kernel_rfl) (by kernel_rfl) (fun _ _ _ h=>h) (Or.inl ⟨by rfl,?hy14⟩) (by assumption) ?rest14
                case hy14=>
                  intro w hSw
                  (try dsimp only at hSw)
                  go_simp
                  all_goals with_reducible rfl
                simp only [Act.put,List.getElem_toArray,List.getElem_cons_zero,List.getElem_cons_succ,List.setIfInBounds_toArray,List.set_cons_zero,List.set_cons_succ];refine wpAnyH_done (by kernel_rfl) ?_ _;go_wp2;go_roundw
                case rel=>exact ⟨k+1,by omega,by go_num,HTO.out.succ HE.out hm.out hE hC (fun j a hj=>by have:=HK0.out;omega),by first | exact hw2 | exact below_drew_ hw2 1,by first | exact kp2 | exact kp2.below (below_drew_ (Below.refl _ _) 1)⟩
                case measure=>simp [intOf];omega
              · have hT:decide (0<k)=true:=decide_eq_true (by omega);obtain ⟨j,hj⟩:∃ j,k=j+1:=⟨k - 1,by omega⟩;have hsub:(k:Int) - 1=(j:Int):=by omega
                have hwr:IntKind.i64.wrap ((k:Int) - 1)=(j:Int):=by rw [hsub];exact IntWalk.i64_in _ ⟨by omega,by omega⟩
                clear hsub;have hjl:j<ms.length:=by omega
                have hj0:(0:Int)≤(j:Int):=Int.natCast_nonneg _;have hj1:(j:Int)<(ms.length:Int):=by omega
                have HJ:=Lib.hid hj;clear hj;obtain ⟨ad',m',e2,hb',hm',hc'⟩:=(h.below hw2).rd.ask hjl;cases e2;obtain ⟨e',he',hre',hme',hmc',hraw'⟩:=(h.below hw2).hs.2 _ m' hm'.out;have HE':=Lib.hid he';obtain ⟨d0,d1,d2,d3⟩:=hc';rw [hme'] at d0;clear he' hmc' hme' hraw';have hre2:=hre.below hb12;have hel:e.length≤1000000:=by have:=hE.1;omega
                have hel':e'.length≤1000000:=by have:=(HTO.out.good j e' m' (by have:=HJ.out;omega) HE'.out hm'.out).1.1;omega
                have HCMP:=Lib.hid (fun W (b1:Below w2.heap.size w2 W)=>pcompare m'.X m.X m'.xc m.xc e' e W (hre'.below b1) (hre2.below b1) hel' hel)
                by_cases hlx:0<lexI e' e
                · have HLX:=Lib.hid hlx;generalize hlg:lexI e' e=y at hlx HCMP;go_region_held3 (fun w'=>w'.cell? ⟨w.heap.size,1,none⟩=some (.slice (some ad) ms.length c)∧w'.cell? (ad.add (j*4))=some (.slice m'.X e'.length m'.xc)∧w'.cell? ⟨wr.heap.size,0,none⟩=some (.slice m.X e.length m.xc)) (first | (with_reducible exact ⟨‹_›,‹_›,‹_›⟩) | go_keep)
                    ((go_at_call 86
                      refine (HCMP.out _ (by first | exact Below.refl _ _ | exact below_drew_ (Below.refl _ _) 1)).mono ?_;rintro e0 w3_ ⟨rfl,hw3⟩;have hbq:Below w2.heap.size w2 w3_:=by first | (rw [← hw3];exact Below.refl _ _) | (rw [← hw3];exact below_drew_ (Below.refl _ _) 1)
                      have s1:=(kp2.below hbq).facts.c1;have s2:=(hbq.cell (by rw [block_of_add];exact hb')).trans d0;have s3:=(kb2.below hbq).facts.c0;clear hw3))
                  all_goals
                    go_wp2;go_roundw
                    case rel=>exact ⟨k+1,by omega,by go_num,HTO.out.succ HE.out hm.out hE hC (fun i a hi ha=>by obtain rfl:i=j:=by { have:=HJ.out;omega };rw [HE'.out] at ha;cases ha;exact HLX.out),hw2.trans (hbq.mono hw2.size),kp2.below hbq⟩
                    case measure=>simp [intOf];omega
                · obtain rfl:v=false:=not_false_of HV.out fun hp=>hlx (hp.all.desc j e' e (by have:=HJ.out;omega) HE'.out (by rw [← HJ.out];exact HE.out))
                  generalize hlg:lexI e' e=y at hlx HCMP;go_region_held3 (fun w'=>w'.cell? ⟨w.heap.size,1,none⟩=some (.slice (some ad) ms.length c)∧w'.cell? (ad.add (j*4))=some (.slice m'.X e'.length m'.xc)∧w'.cell? ⟨wr.heap.size,0,none⟩=some (.slice m.X e.length m.xc)) (first | (with_reducible exact ⟨‹_›,‹_›,‹_›⟩) | go_keep)
                    ((go_at_call 86
                      refine (HCMP.out _ (by first | exact Below.refl _ _ | exact below_drew_ (Below.refl _ _) 1)).mono ?_;rintro e0 w3_ ⟨rfl,hw3⟩;have hbq:Below w2.heap.size w2 w3_:=by first | (rw [← hw3];exact Below.refl _ _) | (rw [← hw3];exact below_drew_ (Below.refl _ _) 1)
                      have s1:=(kp2.below hbq).facts.c1;have s2:=(hbq.cell (by rw [block_of_add];exact hb')).trans d0;have s3:=(kb2.below hbq).facts.c0;clear hw3))
                  all_goals
                    go_wp2;go_ret;exact ⟨rfl,hw2.trans (hbq.mono hw2.size)⟩
            · obtain rfl:v=false:=not_false_of HV.out fun hp=>hC (hp.all.good k e m hlt HE.out hm.out).2
              clear HC;go_wp2_with fail;refine (pvalidExps n m.X m.xc e _ (hre.below hb1) h8 true ⟨fun _=>hE,fun _=>rfl⟩).mono ?_;rintro e0 w2 ⟨rfl,rfl⟩;go_wp2_with fail;refine (pvalidCoef m.c _ (hraw.below hb1) false ⟨fun hh=>(by cases hh),fun hh=>absurd hh hC⟩).mono ?_;rintro e0 w2 ⟨rfl,hb2⟩;go_wp2;go_ret;exact ⟨rfl,hbw.trans ((hb1.trans (hb2.mono hb1.size)).mono hbw.size)⟩
          · obtain rfl:v=false:=not_false_of HV.out fun hp=>hE (hp.all.good k e m hlt HE.out hm.out).1
            clear HC;go_wp2_with fail;refine (pvalidExps n m.X m.xc e _ (hre.below hb1) h8 false ⟨fun hh=>(by cases hh),fun hh=>absurd hh hE⟩).mono ?_;rintro e0 w2 ⟨rfl,rfl⟩;go_wp2;go_ret;exact ⟨rfl,hbw.trans (hb1.mono hbw.size)⟩
        · obtain rfl:k=ms.length:=by omega
          obtain rfl:v=true:=HV.out.2 ⟨HN.out.1,HN.out.2,hl,HTO.out⟩;go_wp2;go_ret;exact ⟨rfl,hbw⟩
    · obtain rfl:v=false:=not_false_of HV.out fun hp=>hl hp.len
      go_enter Tryz.func40,Tryz.ntmps40;go_wp2_with fail;refine (HC.out _).mono ?_;rintro e0 w1 ⟨rfl,rfl⟩;go_wp2;go_ret;exact ⟨rfl,hb0⟩
  · rw [decide_eq_false hn] at HC;obtain rfl:v=false:=not_false_of HV.out fun hp=>hn ⟨hp.lo,hp.hi⟩
    go_enter Tryz.func40,Tryz.ntmps40;go_wp2_with fail;refine (HC.out _).mono ?_;rintro e0 w1 ⟨rfl,rfl⟩;go_wp2;go_ret;exact ⟨rfl,hb0⟩
end Go.Proofs.YtgekmfcbbjeahaaGreatDoor
/- A polynomial in normal form, unpacked and stored, is valid. -/
namespace Go.Proofs.YtgekmfcbbjeahaaGreatDoor
open Go.RowKit V
def exI (m n:Nat):List Int:=(exL m n).map fun (x:Nat)=>(x:Int)
theorem exI_len (m n:Nat):(exI m n).length=n:=by rw [exI,List.length_map,exL_len]
theorem exI_get (m n k:Nat) (h:k<n):(exI m n)[k]?=some ((ex m k:Nat):Int):=by
  rw [exI,List.getElem?_map,exL,List.getElem?_map,List.getElem?_range h];rfl
theorem div_step (a k:Nat) (h:k<8):a / 256 ^ (7 - k)=256*(a / 256 ^ (8 - k))+ex a k:=by
  have e:8 - k=(7 - k)+1:=by omega
  unfold ex;rw [e,Nat.pow_succ,← Nat.div_div_eq_div_mul];omega
theorem lex_pos {n a b : Nat} (hn : n ≤ 8) (hab : b / 256 ^ (8 - n) < a / 256 ^ (8 - n)) : ∀ j k, k + j = n → a / 256 ^ (8 - k) = b / 256 ^ (8 - k) → 0 < lexI ((exI a n).drop k) ((exI b n).drop k)
  | 0, k, h, e => by
    have:k=n:=by omega
    subst this;omega
  | j + 1, k, h, e => by
    have hk:k<n:=by omega
    rw [lexI_step (exI_get a n k hk) (exI_get b n k hk)];have ha:=div_step a k (by omega);have hb:=div_step b k (by omega);rw [e] at ha
    by_cases h1:ex a k<ex b k
    · exfalso;have hlt:a / 256 ^ (7 - k)≤b / 256 ^ (7 - k):=by omega
      have key:∀ x:Nat,x / 256 ^ (8 - n)=x / 256 ^ (8 - n):=fun _=>rfl
      have hlt2:a / 256 ^ (7 - k)<b / 256 ^ (7 - k):=by omega
      have hab2:a<b:=by
        rcases Nat.lt_or_ge a b with h | h
        · exact h
        · have:=Nat.div_le_div_right (c:=256 ^ (7 - k)) h;omega
      have:=Nat.div_le_div_right (c:=256 ^ (8 - n)) (Nat.le_of_lt hab2);omega
    · by_cases h2:ex b k<ex a k
      · rw [if_neg (by omega),if_pos (by omega)];decide
      · rw [if_neg (by omega),if_neg (by omega)];refine lex_pos hn hab j (k+1) (by omega) ?_;have e3:8 - (k+1)=7 - k:=by omega
        rw [e3,ha,hb];omega
def On (n m:Nat):Prop:=m % 256 ^ (8 - n)=0
theorem lex_on {n a b:Nat} (hn:n≤8) (ha:a<18446744073709551616) (hb:b<18446744073709551616) (oa:On n a) (ob:On n b) (h:b<a):0<lexI (exI a n) (exI b n):=by
  have e:b / 256 ^ (8 - n)<a / 256 ^ (8 - n):=by
    rcases Nat.lt_or_ge (b / 256 ^ (8 - n)) (a / 256 ^ (8 - n)) with h1 | h1
    · exact h1
    · have e1:=Nat.div_add_mod a (256 ^ (8 - n));have e2:=Nat.div_add_mod b (256 ^ (8 - n));unfold On at oa ob;rw [oa] at e1;rw [ob] at e2;have:=Nat.mul_le_mul_left (256 ^ (8 - n)) h1;omega
  exact lex_pos hn e n 0 (by omega) (by rw [Nat.div_eq_of_lt (by simpa using ha),Nat.div_eq_of_lt (by simpa using hb)])
theorem exL_sum (m:Nat):∀ n,(exL m n).sum=degTo m n
  | 0=>rfl
  | n + 1 => by
    rw [exL_succ,List.sum_append,exL_sum m n];simp [degTo]
theorem degTo_mono (m:Nat):∀ {n k:Nat},n≤k→degTo m n≤degTo m k
  | n, 0, h => by
    have:n=0:=by omega
    subst this;exact Nat.le_refl _
  | n, k + 1, h => by
    rcases Nat.lt_or_ge n (k+1) with h1 | h1
    · have:=degTo_mono m (n:=n) (k:=k) (by omega);simp only [degTo];omega
    · have:n=k+1:=by omega
      subst this;exact Nat.le_refl _
structure PIn (n:Nat) (p:PL):Prop where
  nv:n≤8
  nf:NF p
  len:p.length≤4000
  fits:∀ t ∈ p,TFits t.1 t.2
  words:Words p
  on:∀ t ∈ p,On n t.1
theorem up_get (n:Nat) (p:PL) {j:Nat} {e:List Nat} {q:Rat} (h:(up n p)[j]?=some (e,q)):∃ m,p[j]?=some (m,q)∧e=exL m n:=by
  rw [up,List.getElem?_map] at h;cases hp:p[j]? with
  | none=>rw [hp] at h;cases h
  | some t =>
    rw [hp] at h;simp only [Option.map_some,Option.some.injEq,Prod.mk.injEq] at h;exact ⟨t.1,by rw [← h.2],h.1.symm⟩
theorem RL.Is.raw_ {w:World} {a:RL} {q:Rat} (h:a.Is w q):a.Raw w:=⟨h.rn,h.rd,h.cn,h.cd,h.mn.1,h.md.1⟩
theorem ARd.raw {w:World} {A:Option Addr} {ms:List MM} {n:Nat} {p:PL} (h:ARd w A ms (up n p)):PRaw w A ms (p.map fun t=>exI t.1 n):=by
  refine ⟨h.rd,by rw [h.hs.1,up,List.length_map,List.length_map],fun j m hm=>?_⟩;obtain ⟨es,q,h1,h2,h3,h4,h5,_⟩:=h.hs.2 j m hm;obtain ⟨x,h6,rfl⟩:=up_get n p h1;exact ⟨exI x n,by rw [List.getElem?_map,h6];rfl,h2.ints,by rw [h3,exL_len,exI_len],h4,h5.raw_⟩
theorem ARd.val {w : World} {A : Option Addr} {ms : List MM} {n : Nat} {p : PL} (h : ARd w A ms (up n p)) (hp : PIn n p) : PVal n ms (p.map fun t => exI t.1 n) := by
  have hl:ms.length=p.length:=by rw [h.hs.1,up,List.length_map]
  have hnv:=hp.nv;refine ⟨by omega,by omega,by rw [hl];exact hp.len,fun j e m _ he hm=>?_,fun j a b _ ha hb=>?_⟩
  · obtain ⟨es,q,h1,h2,h3,h4,h5,l1,l2⟩:=h.hs.2 j m hm;obtain ⟨x,h6,rfl⟩:=up_get n p h1;rw [List.getElem?_map,h6] at he;injection he with he;subst he;have hx:=List.mem_of_getElem? h6;refine ⟨EV.of_nat (exL_len x n) ?_,?_,l1,l2,h5.okv (by omega) (by omega)⟩
    · rw [exL_sum];exact Nat.le_trans (degTo_mono x hp.nv) (hp.fits _ hx).1
    · rcases Nat.eq_zero_or_pos m.c.ns.length with h0 | h0
      · exfalso;have hz:=h5.q.2.1;rw [List.eq_nil_of_length_eq_zero h0] at hz;have:q=0:=by
          have hz2:q.num.natAbs=0:=by rw [← hz];rfl
          exact Rat.num_eq_zero.1 (Int.natAbs_eq_zero.1 hz2)
        exact hp.nf.nz _ hx this
      · exact h0
  · rw [List.getElem?_map] at ha hb; cases h1 : p[j]? with
    | none=>rw [h1] at ha;cases ha
    | some x =>
      cases h2:p[j+1]? with
      | none=>rw [h2] at hb;cases hb
      | some y =>
        rw [h1] at ha;rw [h2] at hb;injection ha with ha;injection hb with hb;subst ha hb;obtain ⟨i1,e1⟩:=List.getElem?_eq_some_iff.1 h1;obtain ⟨i2,e2⟩:=List.getElem?_eq_some_iff.1 h2;have hlt:=List.pairwise_iff_getElem.1 hp.nf.desc j (j+1) i1 i2 (by omega);rw [e1,e2] at hlt;exact lex_on hp.nv (hp.words _ (List.mem_of_getElem? h1)) (hp.words _ (List.mem_of_getElem? h2)) (hp.on _ (List.mem_of_getElem? h1)) (hp.on _ (List.mem_of_getElem? h2)) hlt
theorem packTo_exL {m n:Nat} (hm:m<18446744073709551616) (hn:n≤8):∀ k,k≤n→packTo (exL m n) k=256 ^ (8 - k)*(m / 256 ^ (8 - k))
  | 0, _ => by
    show 0=_;rw [Nat.div_eq_of_lt (by simpa using hm),Nat.mul_zero]
  | k + 1, h => by
    have ih:=packTo_exL hm hn k (by omega);simp only [packTo];rw [ih,exL_get m n k (by omega)];have e:=div_step m k (by omega);have e1:8 - (k+1)=7 - k:=by omega
    have e2:256 ^ (8 - k)=256 ^ (7 - k)*256:=by rw [← Nat.pow_succ];congr 1;omega
    rw [e1,e,Nat.mul_add,e2,Nat.mul_assoc,Nat.mul_comm (ex m k)]
theorem pk_up {n:Nat} {p:PL} (h:PIn n p):pk (up n p)=p:=by
  unfold pk up;rw [List.map_map]
  conv=>rhs;rw [← List.map_id p]
  refine List.map_congr_left fun t ht=>?_
  · show (packL (exL t.1 n),t.2)=t;have hl:packL (exL t.1 n)=t.1:=by
      unfold packL;rw [exL_len,packTo_exL (h.words t ht) h.nv n (Nat.le_refl _)];have:=Nat.div_add_mod t.1 (256 ^ (8 - n));have ho:=h.on t ht;unfold On at ho;omega
    rw [hl]
theorem eok_up {n:Nat} {p:PL} (h:PIn n p):EOk n (up n p):=⟨h.nv,fun t ht=>by
  obtain ⟨x,hx,rfl⟩:=List.mem_map.1 ht;exact ⟨exL_len _ _,by
    show (exL x.1 n).sum≤40;rw [exL_sum];exact Nat.le_trans (degTo_mono x.1 h.nv) (h.fits x hx).1⟩⟩
end Go.Proofs.YtgekmfcbbjeahaaGreatDoor
/- The exponents of the reference: arrays of eight ints; before, Total. -/
attribute [local go_sem ↓] Go.wp_at_zero Go.wp_at_succ
namespace Go.Proofs.YtgekmfcbbjeahaaGreatDoor
open Go.RowKit V
abbrev arrV (xs:List Int):Array Value:=(xs.map (Value.int .i64)).toArray
def IRow (w:World) (g:Nat) (xs:List Int):Prop:=w.heap[g]?=some (.cells (arrV xs) 80 (0,0))
theorem IRow.new (w:World) (xs:List Int):IRow (w.alloc (.cells (arrV xs) 80)) w.heap.size xs:=heap_alloc_new w _
theorem IRow.lt {w:World} {g:Nat} {xs:List Int} (h:IRow w g xs):g<w.heap.size:=by
  rcases Nat.lt_or_ge g w.heap.size with hlt | hge
  · exact hlt
  · unfold IRow at h;rw [Array.getElem?_eq_none hge] at h;cases h
theorem IRow.below {w w':World} {g:Nat} {xs:List Int} (h:IRow w g xs) (hb:Below w.heap.size w w'):IRow w' g xs:=(hb.block g h.lt).trans h
theorem IRow.alloc {w:World} {g:Nat} {xs:List Int} (h:IRow w g xs) (o:Obj):IRow (w.alloc o) g xs:=(Below.heap_alloc w o g h.lt).trans h
theorem IRow.cell {w:World} {g:Nat} {xs:List Int} (h:IRow w g xs) {k:Nat} {x:Int} (hk:xs[k]?=some x):w.cell? ⟨g,k,none⟩=some (.int .i64 x):=by
  rw [cell_of_row w g k _ _ (0,0) h,List.getElem?_toArray,List.getElem?_map,hk];rfl
theorem IRow.frozen {w:World} {g:Nat} {xs:List Int} (h:IRow w g xs) (k:Nat):w.frozen? ⟨g,k,none⟩=false:=by
  unfold IRow at h;simp [World.frozen?,h]
theorem lexI_same:∀ xs:List Int,lexI xs xs=0
  | []=>rfl
  | x :: r=>by rw [lexI,if_neg (by omega),if_neg (by omega),lexI_same r]
set_option maxRecDepth 100000 in
set_option maxHeartbeats 1600000 in
theorem pbefore (xs ys : List Int) (w : World) (la : xs.length = 8) (lb : ys.length = 8) :
    Calls Tryz.prog 87 #[.agg (arrV xs),.agg (arrV ys)] w (Gives (.bool (decide (0<lexI xs ys))) w):=by
  have h1:=(IRow.new w xs).alloc (.cells (arrV ys) 80);have h2:=IRow.new (w.alloc (.cells (arrV xs) 80)) ys;rw [show (w.alloc (.cells (arrV xs) 80)).heap.size=w.heap.size+1 by simp] at h2;have hb:Below w.heap.size w ((w.alloc (.cells (arrV xs) 80)).alloc (.cells (arrV ys) 80)):=((Below.refl _ _).alloc (Nat.le_refl _) _).alloc (by simp) _;obtain ⟨X,hX⟩:∃ X,arrV xs=X:=⟨_,rfl⟩;obtain ⟨Y,hY⟩:∃ Y,arrV ys=Y:=⟨_,rfl⟩;rw [hX,hY] at h1 h2 hb;rw [hX,hY];clear hX hY;obtain ⟨w1,hw1⟩:∃ x,(w.alloc (.cells X 80)).alloc (.cells Y 80)=x:=⟨_,rfl⟩;rw [hw1] at h1 h2 hb;have H1:=Lib.hid h1;have H2:=Lib.hid h2;have HW:=Lib.hid hw1;clear h1 h2 hw1;go_enter Tryz.func87,Tryz.ntmps87;go_wp2;rw [HW.out];go_loopw [5,6] (fun _ si wr=>∃ k:Nat,k≤8∧si = .int .i64 k∧Hid (lexI xs ys=lexI (xs.drop k) (ys.drop k))∧Below w.heap.size w wr∧Below w1.heap.size w1 wr) (fun _ si _=>8 - (intOf si).toNat)
  case atStart=>exact ⟨0,by omega,rfl,rfl,hb,Below.refl _ _⟩
  case round=>
    obtain ⟨k,hk,rfl,hlex,hbw,hbw1⟩:=hrel
    by_cases hlt:k<8
    · obtain ⟨a,ha⟩:∃ a,xs[k]?=some a:=⟨_,List.getElem?_eq_getElem (by omega)⟩;obtain ⟨b,hb'⟩:∃ b,ys[k]?=some b:=⟨_,List.getElem?_eq_getElem (by omega)⟩;have c1:=(H1.out.below hbw1).cell ha;have c2:=(H2.out.below hbw1).cell hb';have HST:=Lib.hid (lexI_step ha hb');clear ha hb';rcases Int.lt_trichotomy a b with hab | hab | hab
      · have HL:Hid (lexI xs ys = -1):=by show _=_;rw [hlex.out,HST.out,if_pos hab]
        have hne:¬ a=b:=by omega
        go_upto_region 4 with fail;go_region;go_wp2_with fail;go_region;go_wp2_with fail;go_ret;exact ⟨by show Ending.returned (.bool (decide (b<a)))=_;rw [HL.out,decide_eq_false (by omega)];rfl,hbw.drew.drew⟩
      · subst hab;have HL:Hid (lexI xs ys=lexI (xs.drop (k+1)) (ys.drop (k+1))):=by show _=_;rw [hlex.out,HST.out,if_neg (by omega),if_neg (by omega)]
        go_upto_region 4 with fail;go_region;go_wp2_with fail;go_roundw
        case rel=>exact ⟨k+1,by omega,by go_num,HL,hbw.drew,hbw1.drew⟩
        case measure=>simp [intOf];omega
      · have HL:Hid (lexI xs ys=1):=by show _=_;rw [hlex.out,HST.out,if_neg (by omega),if_pos hab]
        have hne:¬ a=b:=by omega
        go_upto_region 4 with fail;go_region;go_wp2_with fail;go_region;go_wp2_with fail;go_ret;exact ⟨by rw [HL.out];rfl,hbw.drew.drew⟩
    · obtain rfl:k=8:=by omega
      have h0:lexI xs ys=0:=by
        rw [hlex.out,List.drop_eq_nil_of_le (by omega),List.drop_eq_nil_of_le (by omega)];rfl
      have H0:=Lib.hid h0;clear h0;go_wp2;go_ret;exact ⟨by rw [H0.out];rfl,hbw⟩
def sumI (xs:List Int):Nat→Int
  | 0=>0
  | k+1=>sumI xs k+(xs[k]?.getD 0)
theorem sumI_all:∀ (xs:List Int),sumI xs xs.length=xs.sum:=fun xs=>by
  have key:∀ k,k≤xs.length→sumI xs k=(xs.take k).sum:=fun k=>by
    induction k with
    | zero=>intro _;rfl
    | succ k ih =>
      intro h;obtain ⟨x,hx⟩:∃ x,xs[k]?=some x:=⟨_,List.getElem?_eq_getElem (by omega)⟩;have e:xs.take (k+1)=xs.take k ++ [x]:=by rw [List.take_add_one,hx];rfl
      rw [e,List.sum_append,← ih (by omega)];simp [sumI,hx]
  have:=key xs.length (Nat.le_refl _);rwa [List.take_length] at this
theorem sumI_bound {xs:List Int} (h:∀ x ∈ xs,Exp x):∀ k,0≤sumI xs k∧sumI xs k≤40*k
  | 0=>by simp [sumI]
  | k + 1 => by
    have ih:=sumI_bound h k;simp only [sumI];cases hx:xs[k]? with
    | none=>simp;omega
    | some x =>
      have:=h x (List.mem_of_getElem? hx);unfold Exp at this;simp;omega
set_option maxRecDepth 100000 in
set_option maxHeartbeats 1600000 in
theorem ptotal (xs : List Int) (w : World) (la : xs.length = 8) (he : ∀ x ∈ xs, Exp x) :
    Calls Tryz.prog 71 #[.agg (arrV xs)] w (Gives (.int .i64 xs.sum) w):=by
  have hb:Below w.heap.size w (w.alloc (.cells (arrV xs) 80)):=(Below.refl _ _).alloc (Nat.le_refl _) _;obtain ⟨x0,x1,x2,x3,x4,x5,x6,x7,rfl⟩:∃ a b c d e f g h,xs=[a,b,c,d,e,f,g,h]:=by
    match xs,la with
    | [a,b,c,d,e,f,g,h],_=>exact ⟨a,b,c,d,e,f,g,h,rfl⟩
  have h1:=IRow.new w [x0,x1,x2,x3,x4,x5,x6,x7];have c0:=h1.cell (k:=0) rfl;have c1:=h1.cell (k:=1) rfl;have c2:=h1.cell (k:=2) rfl;have c3:=h1.cell (k:=3) rfl;have c4:=h1.cell (k:=4) rfl;have c5:=h1.cell (k:=5) rfl;have c6:=h1.cell (k:=6) rfl;have c7:=h1.cell (k:=7) rfl;have HSB:=Lib.hid (sumI_bound he);have HSA:=Lib.hid (sumI_all [x0,x1,x2,x3,x4,x5,x6,x7]);clear h1 he la;go_enter Tryz.func71,Tryz.ntmps71;go_wp2;clear c0 c1 c2 c3 c4 c5 c6 c7;go_loopw [3,5,7] (fun ss _ si wr=>∃ k:Nat,k≤8∧si = .int .i64 k∧ss = .int .i64 (sumI [x0,x1,x2,x3,x4,x5,x6,x7] k)∧Below w.heap.size w wr) (fun _ _ si _=>8 - (intOf si).toNat)
  case atStart=>exact ⟨0,by omega,rfl,rfl,hb⟩
  case round=>
    obtain ⟨k,hk,rfl,rfl,hbw⟩:=hrel
    by_cases hlt:k<8
    · have hs1:=HSB.out k;have hs2:=HSB.out (k+1);obtain ⟨x,hx⟩:∃ x,[x0,x1,x2,x3,x4,x5,x6,x7][k]?=some x:=⟨_,List.getElem?_eq_getElem (by simpa using hlt)⟩;have hsx:sumI [x0,x1,x2,x3,x4,x5,x6,x7] (k+1)=sumI [x0,x1,x2,x3,x4,x5,x6,x7] k+x:=by simp only [sumI,hx];rfl
      rw [hsx] at hs2;have HSX:=Lib.hid hsx;have HX:=Lib.hid hx;obtain ⟨S,hS⟩:∃ S,sumI [x0,x1,x2,x3,x4,x5,x6,x7] k=S:=⟨_,rfl⟩;rw [hS] at hs1 hs2 ⊢;have HSS:=Lib.hid hS;clear hsx hx hS;have hk8:k=0∨k=1∨k=2∨k=3∨k=4∨k=5∨k=6∨k=7:=by omega
      have hsw:IntKind.i64.wrap (S+x)=S+x:=IntWalk.i64_in _ (by omega);obtain ⟨kn,hkn⟩:∃ kn,k+1=kn:=⟨_,rfl⟩;have HSX2:Hid (sumI [x0,x1,x2,x3,x4,x5,x6,x7] kn=S+x):=by show _=_;rw [← hkn,HSX.out,HSS.out]
      have HKN:=Lib.hid hkn;clear hkn;clear HSX HSS;have i0:∀ W,(Instr.index 80 (.agg #[.int .i64 x0,.int .i64 x1,.int .i64 x2,.int .i64 x3,.int .i64 x4,.int .i64 x5,.int .i64 x6,.int .i64 x7]) (.int .i64 0)).run Tryz.prog W = .ok (.int .i64 x0) W:=fun _=>by kernel_rfl
      have i1:∀ W,(Instr.index 80 (.agg #[.int .i64 x0,.int .i64 x1,.int .i64 x2,.int .i64 x3,.int .i64 x4,.int .i64 x5,.int .i64 x6,.int .i64 x7]) (.int .i64 1)).run Tryz.prog W = .ok (.int .i64 x1) W:=fun _=>by kernel_rfl
      have i2:∀ W,(Instr.index 80 (.agg #[.int .i64 x0,.int .i64 x1,.int .i64 x2,.int .i64 x3,.int .i64 x4,.int .i64 x5,.int .i64 x6,.int .i64 x7]) (.int .i64 2)).run Tryz.prog W = .ok (.int .i64 x2) W:=fun _=>by kernel_rfl
      have i3:∀ W,(Instr.index 80 (.agg #[.int .i64 x0,.int .i64 x1,.int .i64 x2,.int .i64 x3,.int .i64 x4,.int .i64 x5,.int .i64 x6,.int .i64 x7]) (.int .i64 3)).run Tryz.prog W = .ok (.int .i64 x3) W:=fun _=>by kernel_rfl
      have i4:∀ W,(Instr.index 80 (.agg #[.int .i64 x0,.int .i64 x1,.int .i64 x2,.int .i64 x3,.int .i64 x4,.int .i64 x5,.int .i64 x6,.int .i64 x7]) (.int .i64 4)).run Tryz.prog W = .ok (.int .i64 x4) W:=fun _=>by kernel_rfl
      have i5:∀ W,(Instr.index 80 (.agg #[.int .i64 x0,.int .i64 x1,.int .i64 x2,.int .i64 x3,.int .i64 x4,.int .i64 x5,.int .i64 x6,.int .i64 x7]) (.int .i64 5)).run Tryz.prog W = .ok (.int .i64 x5) W:=fun _=>by kernel_rfl
      have i6:∀ W,(Instr.index 80 (.agg #[.int .i64 x0,.int .i64 x1,.int .i64 x2,.int .i64 x3,.int .i64 x4,.int .i64 x5,.int .i64 x6,.int .i64 x7]) (.int .i64 6)).run Tryz.prog W = .ok (.int .i64 x6) W:=fun _=>by kernel_rfl
      have i7:∀ W,(Instr.index 80 (.agg #[.int .i64 x0,.int .i64 x1,.int .i64 x2,.int .i64 x3,.int .i64 x4,.int .i64 x5,.int .i64 x6,.int .i64 x7]) (.int .i64 7)).run Tryz.prog W = .ok (.int .i64 x7) W:=fun _=>by kernel_rfl
      rcases hk8 with rfl | rfl | rfl | rfl | rfl | rfl | rfl | rfl
      all_goals
        have hx:=HX.out;simp only [List.getElem?_cons_zero,List.getElem?_cons_succ,Option.some.injEq] at hx;subst hx;go_wp2_with fail;go_roundw
        case rel=>
          have hkn:=HKN.out;exact ⟨kn,by omega,by rw [← hkn];rfl,by rw [HSX2.out,← hsw],hbw⟩
        case measure=>simp [intOf]
    · obtain rfl:k=8:=by omega
      go_wp2;go_ret;exact ⟨by show Ending.returned (.int .i64 (sumI _ 8))=_;rw [← HSA.out];rfl,hbw⟩
end Go.Proofs.YtgekmfcbbjeahaaGreatDoor
