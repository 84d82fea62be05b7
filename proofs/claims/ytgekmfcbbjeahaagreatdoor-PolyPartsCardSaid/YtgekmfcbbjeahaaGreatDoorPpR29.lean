/- isochroneref03.Valid, both ways; None. -/
import Derived.Test.YtgekmfcbbjeahaaGreatDoorPpR28
attribute [local go_sem ↓] Go.wp_at_zero Go.wp_at_succ
namespace Go.Proofs.YtgekmfcbbjeahaaGreatDoor
open Go.RowKit V
def fillI (e:List Int) (i:Nat):List Int:=e.take i ++ List.replicate (8 - i) 0
def pad (e:List Int):List Int:=fillI e e.length
theorem fillI_len {e:List Int} {i:Nat} (h:i≤e.length) (h8:e.length≤8):(fillI e i).length=8:=by
  rw [fillI,List.length_append,List.length_take,List.length_replicate];omega
theorem fillI_get {e:List Int} {i:Nat} (h:i<e.length) (h8:e.length≤8):(fillI e i)[i]?=some 0:=by
  rw [fillI,List.getElem?_append_right (by rw [List.length_take];omega),List.length_take,List.getElem?_replicate,if_pos (by omega)]
theorem fillI_set {e:List Int} {i:Nat} {x:Int} (hx:e[i]?=some x) (h8:e.length≤8):(fillI e i).set i x=fillI e (i+1):=by
  have hi:=(List.getElem?_eq_some_iff.1 hx).1;have e1:8 - i=(8 - (i+1))+1:=by omega
  rw [fillI,fillI,List.set_append_right _ _ (by rw [List.length_take];omega),List.length_take,Nat.min_eq_left (by omega),Nat.sub_self,e1,List.replicate_succ,List.set_cons_zero,List.take_add_one,hx];simp
theorem lexI_app (z:List Int):∀ {a b:List Int},a.length=b.length→lexI (a ++ z) (b ++ z)=lexI a b
  | [],[],_=>lexI_same z
  | [],_ :: _,h=>by simp at h
  | _ :: _,[],h=>by simp at h
  | x :: r, y :: s, h => by
    rw [List.cons_append,List.cons_append,lexI,lexI,lexI_app z (by simpa using h)]
theorem lexI_pad {a b:List Int} (h:a.length=b.length):lexI (pad a) (pad b)=lexI a b:=by
  rw [pad,pad,fillI,fillI,List.take_length,List.take_length,h];exact lexI_app _ h
theorem sum_zeros:∀ n:Nat,(List.replicate n (0:Int)).sum=0
  | 0=>rfl
  | n+1=>by rw [List.replicate_succ,List.sum_cons,sum_zeros n];rfl
theorem sum_pad (e:List Int):(pad e).sum=e.sum:=by
  rw [pad,fillI,List.take_length,List.sum_append,sum_zeros,Int.add_zero]
theorem exp_pad {e:List Int} (h:∀ x ∈ e,Exp x):∀ x ∈ pad e,Exp x:=fun x hx=>by
  rw [pad,fillI,List.take_length] at hx;rcases List.mem_append.1 hx with hx | hx
  · exact h x hx
  · rw [(List.mem_replicate.1 hx).2];exact ⟨by omega,by omega⟩
theorem IRow.set_ {w:World} {g:Nat} {xs:List Int} (h:IRow w g xs) (i:Nat) (x:Int):IRow (w.setCell ⟨g,i,none⟩ (.int .i64 x)) g (xs.set i x):=by
  unfold IRow at h ⊢;simp [World.setCell,Array.getElem?_modify,h,arrV,List.map_set]
theorem IRow.far {w:World} {g:Nat} {xs:List Int} (h:IRow w g xs) {y i:Nat} (hne:g≠y) (u:Value):IRow (w.setCell ⟨y,i,none⟩ u) g xs:=(Below.heap_setCell w ⟨y,i,none⟩ u g hne).trans h
theorem eight {xs:List Int} (h:xs.length=8):∃ a b c d e f g i,xs=[a,b,c,d,e,f,g,i]:=by
  match xs,h with
  | [a,b,c,d,e,f,g,i],_=>exact ⟨a,b,c,d,e,f,g,i,rfl⟩
abbrev put8 (w:World) (g:Nat) (y0 y1 y2 y3 y4 y5 y6 y7:Int):World:=(((((((w.setCell ⟨g,0,none⟩ (.int .i64 y0)).setCell ⟨g,1,none⟩ (.int .i64 y1)).setCell ⟨g,2,none⟩ (.int .i64 y2)).setCell ⟨g,3,none⟩ (.int .i64 y3)).setCell ⟨g,4,none⟩ (.int .i64 y4)).setCell ⟨g,5,none⟩ (.int .i64 y5)).setCell ⟨g,6,none⟩ (.int .i64 y6)).setCell ⟨g,7,none⟩ (.int .i64 y7)
theorem IRow.put8 {w:World} {g:Nat} {z0 z1 z2 z3 z4 z5 z6 z7:Int} (h:IRow w g [z0,z1,z2,z3,z4,z5,z6,z7]) (y0 y1 y2 y3 y4 y5 y6 y7:Int):IRow (Go.Proofs.YtgekmfcbbjeahaaGreatDoor.put8 w g y0 y1 y2 y3 y4 y5 y6 y7) g [y0,y1,y2,y3,y4,y5,y6,y7]:=
  (((((((h.set_ 0 y0).set_ 1 y1).set_ 2 y2).set_ 3 y3).set_ 4 y4).set_ 5 y5).set_ 6 y6).set_ 7 y7
theorem below_put8 {B:Nat} {a w:World} (h:Below B a w) {g:Nat} (hg:B≤g) (y0 y1 y2 y3 y4 y5 y6 y7:Int):Below B a (put8 w g y0 y1 y2 y3 y4 y5 y6 y7):=
  (((((((h.setCell (p:=⟨g,0,none⟩) hg _).setCell (p:=⟨g,1,none⟩) hg _).setCell (p:=⟨g,2,none⟩) hg _).setCell (p:=⟨g,3,none⟩) hg _).setCell (p:=⟨g,4,none⟩) hg _).setCell (p:=⟨g,5,none⟩) hg _).setCell (p:=⟨g,6,none⟩) hg _).setCell (p:=⟨g,7,none⟩) hg _
theorem PVto.bad {n:Int} {ms:List MM} {es:List (List Int)} {k:Nat} {e:List Int} {m:MM} (hk:k<ms.length) (he:es[k]?=some e) (hm:ms[k]?=some m) (h:¬ (EV n e∧m.c.CV)):¬ PVal n ms es:=fun hp=>h (hp.all.good k e m hk he hm)
set_option maxRecDepth 100000 in
set_option maxHeartbeats 6400000 in
theorem prvalid (n : Int) (A : Option Addr) (c : Nat) (ms : List MM) (es : List (List Int)) (w : World) (h : PRaw w A ms es) (v : Bool) (hv : v = true ↔ PVal n ms es) :
    Calls Tryz.prog 41 #[.agg #[.int .i64 n,.slice A ms.length c]] w (Gives (.bool v) w):=by
  have HV:=Lib.hid hv;have HF:=Lib.hid (fun (h:¬ PVal n ms es)=>not_false_of hv h);have HH:=Lib.hid h;clear hv h;have hb0:Below w.heap.size w (w.alloc (.cells #[.int .i64 n,.slice A ms.length c] 24)):=(Below.refl _ _).alloc (Nat.le_refl _) _;have kp:=Blk2c.new 24 w (.int .i64 n) (.slice A ms.length c)
  by_cases hn0:n<0
  · have hvf:v=false:=HF.out (fun h=>by have:=h.lo;omega);subst hvf;go_enter Tryz.func41,Tryz.ntmps41;go_wp2;go_ret;exact ⟨rfl,hb0⟩
  · by_cases hn8:8<n
    · have hvf:v=false:=HF.out (fun h=>by have:=h.hi;omega);subst hvf;go_enter Tryz.func41,Tryz.ntmps41;go_wp2;go_ret;exact ⟨rfl,hb0⟩
    · by_cases hl : 4000 < ms.length
      · have hvf:v=false:=HF.out (fun h=>by have:=h.len;omega);subst hvf;have hl2:(4000:Int)<(ms.length:Int):=by omega
        go_enter Tryz.func41,Tryz.ntmps41;go_wp2;go_ret;exact ⟨rfl,hb0⟩
      · have hl2 : ¬ (4000 : Int) < (ms.length : Int) := by omega
        have HZ:=Lib.hid (IRow.new (w.alloc (.cells #[.int .i64 n,.slice A ms.length c] 24)) [0,0,0,0,0,0,0,0]);rw [show (w.alloc (.cells #[.int .i64 n,.slice A ms.length c] 24)).heap.size=w.heap.size+1 by simp] at HZ;go_enter Tryz.func41,Tryz.ntmps41;go_wp2;go_loopw [26] (fun si wr=>∃ (k:Nat) (L:List Int),k≤ms.length∧si = .int .i64 k∧Hid (PVto n ms es k)∧Hid (IRow wr (w.heap.size+1) L)∧L.length=8∧Hid (∀ j a,k=j+1→es[j]?=some a→L=pad a)∧Blk2c 24 wr w.heap.size (.int .i64 n) (.slice A ms.length c)∧Below w.heap.size w wr) (fun si _=>ms.length - (intOf si).toNat)
        case atStart=>exact ⟨0,[0,0,0,0,0,0,0,0],by omega,rfl,PVto.zero _ _ _,HZ,rfl,fun j a h=>by omega,kp.alloc _,hb0.alloc (by simp) _⟩
        case round=>
          obtain ⟨k,L,hk,rfl,hto,hlast,hL8,hpad,kp1,hbw⟩:=hrel;clear hb0 kp
          by_cases hlt:k<ms.length
          · obtain ⟨ad, m, rfl, hb, hm, hc⟩ := (HH.out.below hbw).rd.ask hlt; obtain ⟨e, he, hre, hme, hmc, hraw⟩ := (HH.out.below hbw).hs.2 _ m hm.out; obtain ⟨c0, c1, c2, c3⟩ := hc; rw [hme] at c0; have HE := Lib.hid he; have HMM := Lib.hid hm.out; have HBAD := Lib.hid (fun (hh : ¬ (EV n e ∧ m.c.CV)) => HF.out (PVto.bad hlt he hm.out hh)); have HKB := Lib.hid (Blk4.new 79 wr (.slice m.X e.length m.xc) (.bool m.c.s) (.slice m.c.N m.c.ns.length m.c.nc) (.slice m.c.D m.c.ds.length m.c.dc)); have hq : Below wr.heap.size wr (wr.alloc (.cells #[.slice m.X e.length m.xc, .bool m.c.s, .slice m.c.N m.c.ns.length m.c.nc, .slice m.c.D m.c.ds.length m.c.dc] 79)) := (Below.refl _ _).alloc (Nat.le_refl _) _; have HRE := Lib.hid (hre.below hq); have HRAW := Lib.hid (hraw.below hq); have HKP := Lib.hid (kp1.below hq); have HLA := Lib.hid (hlast.out.below hq); have HW1 := Lib.hid (hbw.trans (hq.mono hbw.size)); have hplt := kp1.lt; obtain ⟨b0, b1, b2, b3, b4, b5, b6, b7, b8⟩ := HKB.out.facts; obtain ⟨q0, q1, q2, q3, q4⟩ := HKP.out.facts; have HTG := Lib.hid hb; clear he hre hraw hmc kp1 hq hm hme hb hlast; obtain ⟨W, hW⟩ : ∃ x, wr.alloc (.cells #[.slice m.X e.length m.xc, .bool m.c.s, .slice m.c.N m.c.ns.length m.c.nc, .slice m.c.D m.c.ds.length m.c.dc] 79) = x := ⟨_, rfl⟩; rw [hW] at HKB HRE HRAW HKP HLA HW1 b0 b1 b2 b3 b4 b5 b6 b7 b8 q0 q1 q2 q3 q4; have HWE := Lib.hid hW; clear hW; go_upto_region 7 with fail; rw [HWE.out]; clear HWE c0 c1 c2 c3
            by_cases hlen:(e.length:Int)=n
            · obtain rfl := hlen; have ht : ((e.length : Int) != (e.length : Int)) = false := by simp
              by_cases hsh:m.c.ns.length≤200∧m.c.ds.length≤200
              · have HSY := Lib.hid (fun W => qshort_yes m.c.s m.c.N m.c.D m.c.ns.length m.c.nc m.c.ds.length m.c.dc 200 W hsh.1 hsh.2); have HSH := Lib.hid hsh; clear hsh
                by_cases hval:m.c.Val
                · have HVL := Lib.hid (fun W (h : m.c.Raw W) => rqvalid m.c.s m.c.N m.c.D m.c.nc m.c.dc m.c.ns m.c.ds W h.rn h.rd h.dn h.dd true ⟨fun _ => hval, fun _ => rfl⟩); have HVA := Lib.hid hval; clear hval; go_wp2_with fail; refine (HSY.out _).mono ?_; rintro e1 W1 ⟨rfl, hb1⟩; obtain ⟨b0, b1, b2, b3, b4, b5, b6, b7, b8⟩ := (HKB.out.below hb1).facts; go_wp2_with fail; refine (HVL.out _ (HRAW.out.below hb1)).mono ?_; rintro e1 W2 ⟨rfl, hb2⟩; have hb12 := hb1.trans (hb2.mono hb1.size); have HKB2 := Lib.hid (HKB.out.below hb12); have HRE2 := Lib.hid (HRE.out.below hb12); have HKP2 := Lib.hid (HKP.out.below hb12); have HLA2 := Lib.hid (HLA.out.below hb12); have HW2 := Lib.hid (HW1.out.trans (hb12.mono HW1.out.size)); clear hb1 hb2 hb12 b0 b1 b2 b3 b4 b5 b6 b7 b8 q0 q1 q2 q3 q4 HKB HRE HRAW HKP HLA HSY HVL; obtain ⟨b0, b1, b2, b3, b4, b5, b6, b7, b8⟩ := HKB2.out.facts
                  by_cases hz:m.c.ns.length=0
                  · have hvf:v=false:=HBAD.out (fun h=>by have:=h.2.1;omega);subst hvf;have hze:((m.c.ns.length:Int) == 0)=true:=by rw [beq_iff_eq];omega
                    have HZ0:=Lib.hid hz;clear hz;go_wp2_with fail;go_ret;exact ⟨rfl,HW2.out⟩
                  · have hze : ((m.c.ns.length : Int) == 0) = false := by rw [beq_eq_false_iff_ne]; omega
                    have HCV:Hid m.c.CV:=⟨by omega,HSH.out.1,HSH.out.2,HVA.out⟩;have he8:e.length≤8:=by omega
                    have HEB:=Lib.hid (IRow.new W2 (fillI e 0));have hq2:Below W2.heap.size W2 (W2.alloc (.cells (arrV (fillI e 0)) 80)):=(Below.refl _ _).alloc (Nat.le_refl _) _;have HRE3:=Lib.hid (HRE2.out.below hq2);have HKP3:=Lib.hid (HKP2.out.below hq2);have HLA3:=Lib.hid (HLA2.out.below hq2);have HW3:=Lib.hid (HW2.out.trans (hq2.mono HW2.out.size));have hs3:=HW2.out.size;have hs4:=HLA2.out.lt;have hs5:=HKP2.out.lt;clear hq2 hz;go_wp2_with fail;go_loopw [59] (fun si wq=>∃ i:Nat,i≤e.length∧si = .int .i64 i∧Hid (∀ x ∈ e.take i,Exp x)∧Hid (IRow wq W2.heap.size (fillI e i))∧Below W2.heap.size W2 wq∧Below w.heap.size w wq) (fun si _=>e.length - (intOf si).toNat)
                    case atStart=>exact ⟨0,by omega,rfl,fun x hx=>by simp at hx,HEB,(Below.refl _ _).alloc (Nat.le_refl _) _,HW3.out⟩
                    case round=>
                      obtain ⟨i,hi,rfl,hex,heb,hw2q,hwq⟩:=hrel
                      by_cases hil:i<e.length
                      · obtain ⟨ad2, x, hAX, hb2, hx, hxc⟩ := (HRE2.out.below hw2q).ask hil; have HXX := Lib.hid hx.out
                        by_cases hx0:x<0
                        · have hvf:v=false:=HBAD.out (fun h=>by have:=(h.1.2.1 x (List.mem_of_getElem? hx.out)).1;omega);subst hvf;go_wp2_with fail;go_ret;exact ⟨rfl,hwq⟩
                        · by_cases hx40:40<x
                          · have hvf:v=false:=HBAD.out (fun h=>by have:=(h.1.2.1 x (List.mem_of_getElem? hx.out)).2;omega);subst hvf;go_wp2_with fail;go_ret;exact ⟨rfl,hwq⟩
                          · have ec:=heb.out.cell (fillI_get hil he8);have ef:=heb.out.frozen i;have hi8:i<8:=by omega
                            have HN:=Lib.hid (heb.out.set_ i x);rw [fillI_set HXX.out he8] at HN;have HEX2:Hid (∀ y ∈ e.take (i+1),Exp y):=fun y hy=>by
                              rw [List.take_add_one,HXX.out] at hy;rcases List.mem_append.1 hy with hy | hy
                              · exact hex.out y hy
                              · simp at hy;rw [hy];exact ⟨by omega,by omega⟩
                            clear hx;go_wp2_with fail;go_roundw
                            case rel=>exact ⟨i+1,by omega,by go_num,HEX2,HN,hw2q.setCell (p:=⟨W2.heap.size,i,none⟩) (Nat.le_refl _) _,hwq.setCell (p:=⟨W2.heap.size,i,none⟩) hs3 _⟩
                            case measure=>simp [intOf];omega
                      · obtain rfl:i=e.length:=by omega
                        have HEX:=Lib.hid hex.out;rw [List.take_length] at HEX;have HLQ:=Lib.hid (HLA2.out.below hw2q);have HKQ:=Lib.hid (HKP2.out.below hw2q);obtain ⟨y0,y1,y2,y3,y4,y5,y6,y7,hy⟩:=eight (fillI_len (Nat.le_refl e.length) he8);obtain ⟨z0,z1,z2,z3,z4,z5,z6,z7,hz8⟩:=eight hL8;have HPY:Hid (pad e=[y0,y1,y2,y3,y4,y5,y6,y7]):=hy;have HEY:=Lib.hid (exp_pad HEX.out);rw [HPY.out] at HEY;have HSU:=Lib.hid (sum_pad e);rw [HPY.out] at HSU;rw [hy] at heb;rw [hz8] at HLQ hpad;have HTOT:=Lib.hid (fun W=>ptotal [y0,y1,y2,y3,y4,y5,y6,y7] W rfl HEY.out);have HBEF:=Lib.hid (fun W=>pbefore [z0,z1,z2,z3,z4,z5,z6,z7] [y0,y1,y2,y3,y4,y5,y6,y7] W rfl rfl);rw [HSU.out] at HTOT;clear hy hz8 hex;have c0:=heb.out.cell (k:=0) rfl;have c1:=heb.out.cell (k:=1) rfl;have c2:=heb.out.cell (k:=2) rfl;have c3:=heb.out.cell (k:=3) rfl;have c4:=heb.out.cell (k:=4) rfl;have c5:=heb.out.cell (k:=5) rfl;have c6:=heb.out.cell (k:=6) rfl;have c7:=heb.out.cell (k:=7) rfl;go_wp2_with fail;refine (HTOT.out _).mono ?_;rintro e1 W5 ⟨rfl,hb5⟩;have HE5:=Lib.hid (heb.out.below hb5);have HL5:=Lib.hid (HLQ.out.below hb5);have HK5:=Lib.hid (HKQ.out.below hb5);have HW5:=Lib.hid (hwq.trans (hb5.mono hwq.size));clear hb5 c0 c1 c2 c3 c4 c5 c6 c7
                        by_cases hsum:40<e.sum
                        · have hvf:v=false:=HBAD.out (fun h=>by have:=h.1.2.2;omega);subst hvf;go_wp2_with fail;go_ret;exact ⟨rfl,HW5.out⟩
                        · by_cases hk0:k=0
                          · have HK0:=Lib.hid hk0;have hkz:¬ (0:Int)<(k:Int):=by omega
                            have HDESC:Hid (∀ j a,k=j+1→es[j]?=some a→0<lexI a e):=fun j a hj=>by have:=HK0.out;omega
                            clear hk0;have c0:=HE5.out.cell (k:=0) rfl;have c1:=HE5.out.cell (k:=1) rfl;have c2:=HE5.out.cell (k:=2) rfl;have c3:=HE5.out.cell (k:=3) rfl;have c4:=HE5.out.cell (k:=4) rfl;have c5:=HE5.out.cell (k:=5) rfl;have c6:=HE5.out.cell (k:=6) rfl;have c7:=HE5.out.cell (k:=7) rfl;have d0:=HL5.out.cell (k:=0) rfl;have d1:=HL5.out.cell (k:=1) rfl;have d2:=HL5.out.cell (k:=2) rfl;have d3:=HL5.out.cell (k:=3) rfl;have d4:=HL5.out.cell (k:=4) rfl;have d5:=HL5.out.cell (k:=5) rfl;have d6:=HL5.out.cell (k:=6) rfl;have d7:=HL5.out.cell (k:=7) rfl;have f0:=HL5.out.frozen 0;have f1:=HL5.out.frozen 1;have f2:=HL5.out.frozen 2;have f3:=HL5.out.frozen 3;have f4:=HL5.out.frozen 4;have f5:=HL5.out.frozen 5;have f6:=HL5.out.frozen 6;have f7:=HL5.out.frozen 7;go_wp2_with fail;go_roundw
                            case rel=>
                              refine ⟨k+1,[y0,y1,y2,y3,y4,y5,y6,y7],by omega,by go_num,hto.out.succ HE.out HMM.out ⟨rfl,HEX.out,by omega⟩ HCV.out HDESC.out,HL5.out.put8 y0 y1 y2 y3 y4 y5 y6 y7,rfl,fun j a hj ha=>?_,?_,below_put8 HW5.out (by omega) y0 y1 y2 y3 y4 y5 y6 y7⟩
                              · obtain rfl:j=k:=by omega
                                rw [HE.out] at ha;injection ha with ha;rw [← ha];exact HPY.out.symm
                              · exact ((((((((HK5.out).far (by omega) _).far (by omega) _).far (by omega) _).far (by omega) _).far (by omega) _).far (by omega) _).far (by omega) _).far (by omega) _
                            case measure=>simp [intOf];omega
                          · have hkz:(0:Int)<(k:Int):=by omega
                            obtain ⟨a,ha⟩:∃ a,es[k - 1]?=some a:=⟨_,List.getElem?_eq_getElem (by have:=HH.out.hs.1;omega)⟩;have HLA5:Hid ([z0,z1,z2,z3,z4,z5,z6,z7]=pad a):=hpad.out (k - 1) a (by omega) ha;have HAL:Hid (a.length=e.length):=by
                              obtain ⟨m',hm'⟩:∃ m',ms[k - 1]?=some m':=⟨_,List.getElem?_eq_getElem (by omega)⟩;have h1:=((hto.out.good (k - 1) a m' (by omega) ha hm').1).1;show _=_;omega
                            have HLX:Hid (lexI [z0,z1,z2,z3,z4,z5,z6,z7] [y0,y1,y2,y3,y4,y5,y6,y7]=lexI a e):=by
                              show _=_;rw [HLA5.out,← HPY.out];exact lexI_pad HAL.out
                            have HAK:=Lib.hid ha;rw [HLX.out] at HBEF;clear hk0 ha
                            by_cases hord:0<lexI a e
                            · rw [decide_eq_true hord] at HBEF; have HDESC : Hid (∀ j a', k = j + 1 → es[j]? = some a' → 0 < lexI a' e) := fun j a' hj ha' => by
                                obtain rfl:j=k - 1:=by omega
                                rw [HAK.out] at ha';injection ha' with ha';rw [← ha'];exact hord
                              clear hord;have c0:=HE5.out.cell (k:=0) rfl;have c1:=HE5.out.cell (k:=1) rfl;have c2:=HE5.out.cell (k:=2) rfl;have c3:=HE5.out.cell (k:=3) rfl;have c4:=HE5.out.cell (k:=4) rfl;have c5:=HE5.out.cell (k:=5) rfl;have c6:=HE5.out.cell (k:=6) rfl;have c7:=HE5.out.cell (k:=7) rfl;have d0:=HL5.out.cell (k:=0) rfl;have d1:=HL5.out.cell (k:=1) rfl;have d2:=HL5.out.cell (k:=2) rfl;have d3:=HL5.out.cell (k:=3) rfl;have d4:=HL5.out.cell (k:=4) rfl;have d5:=HL5.out.cell (k:=5) rfl;have d6:=HL5.out.cell (k:=6) rfl;have d7:=HL5.out.cell (k:=7) rfl;go_wp2_with fail;refine (HBEF.out _).mono ?_;rintro e1 W6 ⟨rfl,hb6⟩;have HE6:=Lib.hid (HE5.out.below hb6);have HL6:=Lib.hid (HL5.out.below hb6);have HK6:=Lib.hid (HK5.out.below hb6);have HW6:=Lib.hid (HW5.out.trans (hb6.mono HW5.out.size));clear hb6 c0 c1 c2 c3 c4 c5 c6 c7 d0 d1 d2 d3 d4 d5 d6 d7;have c0:=HE6.out.cell (k:=0) rfl;have c1:=HE6.out.cell (k:=1) rfl;have c2:=HE6.out.cell (k:=2) rfl;have c3:=HE6.out.cell (k:=3) rfl;have c4:=HE6.out.cell (k:=4) rfl;have c5:=HE6.out.cell (k:=5) rfl;have c6:=HE6.out.cell (k:=6) rfl;have c7:=HE6.out.cell (k:=7) rfl;have d0:=HL6.out.cell (k:=0) rfl;have d1:=HL6.out.cell (k:=1) rfl;have d2:=HL6.out.cell (k:=2) rfl;have d3:=HL6.out.cell (k:=3) rfl;have d4:=HL6.out.cell (k:=4) rfl;have d5:=HL6.out.cell (k:=5) rfl;have d6:=HL6.out.cell (k:=6) rfl;have d7:=HL6.out.cell (k:=7) rfl;have f0:=HL6.out.frozen 0;have f1:=HL6.out.frozen 1;have f2:=HL6.out.frozen 2;have f3:=HL6.out.frozen 3;have f4:=HL6.out.frozen 4;have f5:=HL6.out.frozen 5;have f6:=HL6.out.frozen 6;have f7:=HL6.out.frozen 7;go_wp2_with fail;go_roundw
                              case rel=>
                                refine ⟨k+1,[y0,y1,y2,y3,y4,y5,y6,y7],by omega,by go_num,hto.out.succ HE.out HMM.out ⟨rfl,HEX.out,by omega⟩ HCV.out HDESC.out,HL6.out.put8 y0 y1 y2 y3 y4 y5 y6 y7,rfl,fun j a hj ha=>?_,?_,below_put8 HW6.out (by omega) y0 y1 y2 y3 y4 y5 y6 y7⟩
                                · obtain rfl:j=k:=by omega
                                  rw [HE.out] at ha;injection ha with ha;rw [← ha];exact HPY.out.symm
                                · exact ((((((((HK6.out).far (by omega) _).far (by omega) _).far (by omega) _).far (by omega) _).far (by omega) _).far (by omega) _).far (by omega) _).far (by omega) _
                              case measure=>simp [intOf];omega
                            · rw [decide_eq_false hord] at HBEF;have hvf:v=false:=HF.out (fun h=>hord (by
                                have h1:=h.all.desc (k - 1) a e (by omega) HAK.out (by rw [show k - 1+1=k by omega];exact HE.out);exact h1))
                              subst hvf;clear hord;have c0:=HE5.out.cell (k:=0) rfl;have c1:=HE5.out.cell (k:=1) rfl;have c2:=HE5.out.cell (k:=2) rfl;have c3:=HE5.out.cell (k:=3) rfl;have c4:=HE5.out.cell (k:=4) rfl;have c5:=HE5.out.cell (k:=5) rfl;have c6:=HE5.out.cell (k:=6) rfl;have c7:=HE5.out.cell (k:=7) rfl;have d0:=HL5.out.cell (k:=0) rfl;have d1:=HL5.out.cell (k:=1) rfl;have d2:=HL5.out.cell (k:=2) rfl;have d3:=HL5.out.cell (k:=3) rfl;have d4:=HL5.out.cell (k:=4) rfl;have d5:=HL5.out.cell (k:=5) rfl;have d6:=HL5.out.cell (k:=6) rfl;have d7:=HL5.out.cell (k:=7) rfl;go_wp2_with fail;refine (HBEF.out _).mono ?_;rintro e1 W6 ⟨rfl,hb6⟩;have HW6:=Lib.hid (HW5.out.trans (hb6.mono HW5.out.size));go_wp2_with fail;go_ret;exact ⟨rfl,HW6.out⟩
                · have hvf:v=false:=HBAD.out (fun h=>hval h.2.2.2.2);subst hvf;have HVL:=Lib.hid (fun W (h:m.c.Raw W)=>rqvalid m.c.s m.c.N m.c.D m.c.nc m.c.dc m.c.ns m.c.ds W h.rn h.rd h.dn h.dd false ⟨fun h=>(by cases h),fun h=>absurd h hval⟩);go_wp2_with fail;refine (HSY.out _).mono ?_;rintro e1 W1 ⟨rfl,hb1⟩;obtain ⟨b0,b1,b2,b3,b4,b5,b6,b7,b8⟩:=(HKB.out.below hb1).facts;go_wp2_with fail;refine (HVL.out _ (HRAW.out.below hb1)).mono ?_;rintro e1 W2 ⟨rfl,hb2⟩;have HW2:=Lib.hid (HW1.out.trans ((hb1.trans (hb2.mono hb1.size)).mono HW1.out.size));go_wp2_with fail;go_ret;exact ⟨rfl,HW2.out⟩
              · have hvf:v=false:=HBAD.out (fun h=>hsh ⟨h.2.2.1,h.2.2.2.1⟩);subst hvf;have HSN:=Lib.hid (fun W=>qshort_no m.c.s m.c.N m.c.D m.c.ns.length m.c.nc m.c.ds.length m.c.dc 200 W hsh);clear hsh;go_wp2_with fail;refine (HSN.out _).mono ?_;rintro e1 W1 ⟨rfl,hb1⟩;have HW2:=Lib.hid (HW1.out.trans (hb1.mono HW1.out.size));go_wp2_with fail;go_ret;exact ⟨rfl,HW2.out⟩
            · have hvf:v=false:=HBAD.out (fun h=>hlen h.1.1);subst hvf;have ht:((e.length:Int) != n)=true:=by rw [bne_iff_ne];exact hlen
              go_wp2_with fail;go_ret;exact ⟨rfl,HW1.out⟩
          · obtain rfl:k=ms.length:=by omega
            have hvt:v=true:=HV.out.2 ⟨by omega,by omega,by omega,hto.out⟩;subst hvt;go_wp2;go_ret;exact ⟨rfl,hbw⟩
end Go.Proofs.YtgekmfcbbjeahaaGreatDoor
/- A valid polynomial that a caller hands in is one in normal form. -/
namespace Go.Proofs.YtgekmfcbbjeahaaGreatDoor
open Go.RowKit V
theorem packTo_mul (xs:List Nat):∀ k,k≤8→packTo xs k % 256 ^ (8 - k)=0
  | 0,_=>by simp [packTo]
  | k + 1, h => by
    have ih:=packTo_mul xs k (by omega);have e1:8 - (k+1)=7 - k:=by omega
    have e2:256 ^ (8 - k)=256 ^ (7 - k)*256:=by rw [← Nat.pow_succ];congr 1;omega
    rw [e2] at ih;rw [e1];obtain ⟨q,hq⟩:=Nat.dvd_of_mod_eq_zero ih;simp only [packTo];rw [hq,Nat.mul_assoc,Nat.mul_comm (xs.getD k 0),← Nat.mul_add];exact Nat.mul_mod_right _ _
theorem packTo_ex (xs:List Nat) (hx:∀ x ∈ xs,x<256):∀ k,k≤8 → ∀ i,i<k→ex (packTo xs k) i=xs.getD i 0
  | 0,_,i,hi=>by omega
  | k + 1, h, i, hi => by
    have hd:xs.getD k 0<256:=dig_getD hx (by omega) k;have hm:=packTo_mul xs k (by omega);have e2:256 ^ (8 - k)=256 ^ (7 - k)*256:=by rw [← Nat.pow_succ];congr 1;omega
    obtain ⟨q,hq⟩:=Nat.dvd_of_mod_eq_zero hm;have hp:0<256 ^ (7 - k):=Nat.pow_pos (by omega);simp only [packTo];rcases Nat.lt_or_ge i k with hlt | hge
    · have ih:=packTo_ex xs hx k (by omega) i hlt;rw [← ih];unfold ex;have e3:256 ^ (7 - i)=256 ^ (8 - k)*256 ^ (k - 1 - i):=by rw [← Nat.pow_add];congr 1;omega
      rw [e3,← Nat.div_div_eq_div_mul,← Nat.div_div_eq_div_mul,hq];congr 2;have h8:0<256 ^ (8 - k):=Nat.pow_pos (by omega);rw [Nat.mul_add_div h8,Nat.mul_div_cancel_left _ h8,Nat.div_eq_of_lt,Nat.add_zero];rw [e2,Nat.mul_comm];exact (Nat.mul_lt_mul_left hp).2 hd
    · obtain rfl:i=k:=by omega
      unfold ex;rw [hq,e2,Nat.mul_assoc,Nat.mul_comm (xs.getD i 0),← Nat.mul_add,Nat.mul_div_cancel_left _ hp];omega
theorem exL_packL {xs:List Nat} (hl:xs.length≤8) (hx:∀ x ∈ xs,x<256):exL (packL xs) xs.length=xs:=by
  refine List.ext_getElem (by rw [exL_len]) fun i h1 h2=>?_
  have h3:=packTo_ex xs hx xs.length hl i h2;have h4:=exL_get (packL xs) xs.length i h2;rw [List.getD_eq_getElem?_getD,List.getElem?_eq_getElem h1] at h4;rw [List.getD_eq_getElem?_getD,List.getElem?_eq_getElem h2] at h3;exact h4.trans h3
theorem on_packL {xs:List Nat} (hl:xs.length≤8):On xs.length (packL xs):=packTo_mul xs xs.length hl
theorem packL_lt {xs:List Nat} (hl:xs.length≤8) (hx:∀ x ∈ xs,x<256):packL xs<18446744073709551616:=packTo_lt xs hx _ hl
theorem ex_on {n m i:Nat} (ho:On n m) (h1:n≤i) (h2:i<8):ex m i=0:=by
  unfold ex;unfold On at ho;obtain ⟨q,rfl⟩:=Nat.dvd_of_mod_eq_zero ho;have e:256 ^ (8 - n)=256 ^ (7 - i)*(256*256 ^ (i - n)):=by
    rw [← Nat.pow_succ',← Nat.pow_add];congr 1;omega
  rw [e,Nat.mul_assoc,Nat.mul_div_cancel_left _ (Nat.pow_pos (by omega)),Nat.mul_assoc,Nat.mul_mod_right]
theorem degTo_on {n m : Nat} (ho : On n m) : ∀ k, n ≤ k → k ≤ 8 → degTo m k = degTo m n
  | 0, h, _ => by obtain rfl : n = 0 := by omega
                  rfl
  | k + 1, h, h8 => by
    rcases Nat.lt_or_ge k n with hlt | hge
    · obtain rfl:n=k+1:=by omega
      rfl
    · show degTo m k+ex m k=_;rw [degTo_on ho k hge (by omega),ex_on ho hge (by omega),Nat.add_zero]
theorem deg_packL {xs:List Nat} (hl:xs.length≤8) (hx:∀ x ∈ xs,x<256):deg (packL xs)=xs.sum:=by
  unfold deg;rw [degTo_on (on_packL hl) 8 hl (Nat.le_refl _),← exL_sum,exL_packL hl hx]
theorem lexI_anti : ∀ {a b : List Int}, 0 < lexI a b → 0 < lexI b a → False
  | [],[],h1,_=>by simp [lexI] at h1
  | [],_ :: _,h1,_=>by simp [lexI] at h1
  | _ :: _,[],_,h2=>by simp [lexI] at h2
  | x :: r, y :: s, h1, h2 => by
    rw [lexI] at h1 h2;split at h1
    · omega
    · split at h1
      · rw [if_pos (by omega)] at h2;omega
      · rw [if_neg (by omega),if_neg (by omega)] at h2;exact lexI_anti h1 h2
theorem on_lex {n a b:Nat} (hn:n≤8) (ha:a<18446744073709551616) (hb:b<18446744073709551616) (oa:On n a) (ob:On n b) (h:0<lexI (exI a n) (exI b n)):b<a:=by
  rcases Nat.lt_trichotomy a b with h1 | h1 | h1
  · exact (lexI_anti h (lex_on hn hb ha ob oa h1)).elim
  · rw [h1,lexI_same] at h;omega
  · exact h1
def polyOf (ms:List MM) (es:List (List Int)):PL:=List.zipWith (fun m e=>(packL (e.map Int.toNat),mkRat (sgn m.c.s (V32 m.c.ns)) (V32 m.c.ds))) ms es
theorem polyOf_get {ms:List MM} {es:List (List Int)} {j:Nat} {m:MM} {e:List Int} (hm:ms[j]?=some m) (he:es[j]?=some e):(polyOf ms es)[j]?=some (packL (e.map Int.toNat),mkRat (sgn m.c.s (V32 m.c.ns)) (V32 m.c.ds)):=by
  rw [polyOf,List.getElem?_zipWith,hm,he]
theorem EV.toNat {n:Int} {e:List Int} (h:EV n e):e=(e.map Int.toNat).map (fun (x:Nat)=>(x:Int))∧((e.map Int.toNat).length:Int)=n∧(e.map Int.toNat).sum≤40:=by
  obtain ⟨ns,rfl,h2,h3⟩:=h.nat;have e1:(ns.map (fun (x:Nat)=>(x:Int))).map Int.toNat=ns:=by
    rw [List.map_map]
    conv=>rhs;rw [← List.map_id ns]
    exact List.map_congr_left fun x _=>Int.toNat_natCast x
  rw [e1];exact ⟨rfl,h2,h3⟩
theorem fits_of_len {w:World} {r:RL} {q:Rat} (h:r.Is w q) (l1:r.ns.length≤200) (l2:r.ds.length≤200):WFits q 200:=by
  obtain ⟨_,h2,h3⟩:=h.q;exact ⟨by rw [← h2];exact V32_lt h.mn l1,.inr (by rw [← h3];exact V32_lt h.md l2)⟩
theorem PRaw.poly {w:World} {A:Option Addr} {n:Nat} {ms:List MM} {es:List (List Int)} (h:PRaw w A ms es) (hv:PVal n ms es):ARd w A ms (up n (polyOf ms es))∧PIn n (polyOf ms es):=by
  have hn:n≤8:=by have:=hv.hi;omega
  have hll:ms.length=es.length:=h.hs.1;have hpl:(polyOf ms es).length=ms.length:=by rw [polyOf,List.length_zipWith];omega
  have key:∀ (j:Nat) (m:MM),ms[j]?=some m → ∃ (xs:List Nat) (q:Rat),es[j]?=some (xs.map fun (x:Nat)=>(x:Int))∧(polyOf ms es)[j]?=some (packL xs,q)∧xs.length=n∧xs.sum≤40∧(∀ x ∈ xs,x<256) ∧
      Rd .i64 w m.X xs∧m.n=n∧m.n≤m.xc∧m.c.Is w q∧m.c.ns.length≤200∧m.c.ds.length≤200∧q≠0:=fun j m hm=>by
    obtain ⟨e,h1,h2,h3,h4,h5⟩:=h.hs.2 j m hm;have hj:=(List.getElem?_eq_some_iff.1 hm).1;obtain ⟨g1,g2⟩:=hv.all.good j e m hj h1 hm;obtain ⟨e1,e2,e3⟩:=g1.toNat;obtain ⟨p1,l1,l2,vv⟩:=g2;have hq:=h5.is vv;refine ⟨e.map Int.toNat,_,by rw [h1];exact congrArg some e1,polyOf_get hm h1,by omega,e3,fun x hx=>by have:=le_sum hx;omega,?_,?_,h4,hq,l1,l2,fun h0=>?_⟩
    · rw [e1] at h2;exact h2.rd
    · rw [h3];have e4:(e.map Int.toNat).length=e.length:=List.length_map _;omega
    · have h6:=hq.q.2.1;rw [h0] at h6;have h7:0<V32 m.c.ns:=V32_pos hq.mn p1;rw [h6] at h7;exact absurd h7 (by decide)
  have hat:∀ (j:Nat) (t:Nat × Rat),(polyOf ms es)[j]?=some t → ∃ m,ms[j]?=some m:=fun j t ht=>by
    have hj:=(List.getElem?_eq_some_iff.1 ht).1;exact ⟨ms[j]'(by omega),List.getElem?_eq_getElem (by omega)⟩
  refine ⟨⟨h.rd,by rw [up,List.length_map,hpl],fun j m hm=>?_⟩,hn,⟨?_,fun t ht=>?_⟩,by rw [hpl];exact hv.len,fun t ht=>?_,fun t ht=>?_,fun t ht=>?_⟩
  · obtain ⟨xs,q,k1,k2,k3,k4,k5,k6,k7,k8,k9,l1,l2,_⟩:=key j m hm;refine ⟨xs,q,?_,k6,by omega,k8,k9,l1,l2⟩;rw [up,List.getElem?_map,k2];show some (exL (packL xs) n,q)=some (xs,q);rw [← k3,exL_packL (by omega) k5]
  · refine List.pairwise_iff_getElem.2 fun i j hi hj hij=>?_
    have step:∀ (a:Nat) (h1:a<(polyOf ms es).length) (h2:a+1<(polyOf ms es).length),(polyOf ms es)[a+1].1<(polyOf ms es)[a].1:=fun a h1 h2=>by
      obtain ⟨m1,hm1⟩:=hat a _ (List.getElem?_eq_getElem h1);obtain ⟨m2,hm2⟩:=hat (a+1) _ (List.getElem?_eq_getElem h2);obtain ⟨xs,q,k1,k2,k3,k4,k5,_⟩:=key a m1 hm1;obtain ⟨ys,r,j1,j2,j3,j4,j5,_⟩:=key (a+1) m2 hm2;have e1:=List.getElem?_eq_getElem h1;have e2:=List.getElem?_eq_getElem h2;rw [k2] at e1;rw [j2] at e2;injection e1 with e1;injection e2 with e2;rw [← e1,← e2];have hd:=hv.all.desc a _ _ (by omega) k1 j1;have x1:exI (packL xs) n=xs.map fun (x:Nat)=>(x:Int):=by rw [exI,← k3,exL_packL (by omega) k5]
      have x2:exI (packL ys) n=ys.map fun (x:Nat)=>(x:Int):=by rw [exI,← j3,exL_packL (by omega) j5]
      refine on_lex hn (packL_lt (by omega) k5) (packL_lt (by omega) j5) ?_ ?_ (by rw [x1,x2];exact hd)
      · have:=on_packL (xs:=xs) (by omega);rwa [k3] at this
      · have:=on_packL (xs:=ys) (by omega);rwa [j3] at this
    have all:∀ (d a:Nat) (h1:a<(polyOf ms es).length) (h2:a+(d+1)<(polyOf ms es).length),(polyOf ms es)[a+(d+1)].1<(polyOf ms es)[a].1:=fun d=>by
      induction d with
      | zero=>exact fun a h1 h2=>step a h1 h2
      | succ d ih=>exact fun a h1 h2=>Nat.lt_trans (step (a+(d+1)) (by omega) (by omega)) (ih a h1 (by omega))
    have:=all (j - i - 1) i hi (by omega);have e:i+(j - i - 1+1)=j:=by omega
    simpa only [e] using this
  all_goals
    obtain ⟨j,hj⟩:=List.getElem?_of_mem ht;obtain ⟨m,hm⟩:=hat j t hj;obtain ⟨xs,q,k1,k2,k3,k4,k5,k6,k7,k8,k9,l1,l2,k10⟩:=key j m hm;rw [hj] at k2;injection k2 with k2;subst k2
  · exact k10
  · exact ⟨by rw [deg_packL (by omega) k5];exact k4,fits_of_len k9 l1 l2⟩
  · exact packL_lt (by omega) k5
  · have:=on_packL (xs:=xs) (by omega);rwa [k3] at this
end Go.Proofs.YtgekmfcbbjeahaaGreatDoor
