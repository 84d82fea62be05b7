/- isochroneref03.Degree and Small. -/
import Derived.Test.YtgekmfcbbjeahaaGreatDoorPpR30
import Derived.Deep.DrawnRows
attribute [local go_sem ↓] Go.wp_at_zero Go.wp_at_succ
namespace Go.Proofs.YtgekmfcbbjeahaaGreatDoor
open Go.RowKit V
theorem sum_cast:∀ l:List Nat,(l.map fun (x:Nat)=>(x:Int)).sum=(l.sum:Nat)
  | []=>rfl
  | a :: r=>by rw [List.map_cons,List.sum_cons,List.sum_cons,sum_cast r];omega
theorem exI_sum (m:Nat):(exI m 8).sum=(deg m:Nat):=by
  rw [exI,sum_cast,exL_sum];rfl
def dTo (l:List Nat):Nat→Int
  | 0=>-1
  | k+1=>max (dTo l k) (deg (l[k]?.getD 0))
theorem dTo_le (l:List Nat):∀ k,-1≤dTo l k∧dTo l k≤2040
  | 0=>by simp [dTo]
  | k + 1 => by
    have:=dTo_le l k;have:=deg_le (l[k]?.getD 0);simp only [dTo];omega
theorem exI_exp {m:Nat} (h:deg m≤40):∀ x ∈ exI m 8,Exp x:=fun x hx=>by
  obtain ⟨y,hy,rfl⟩:=List.mem_map.1 hx;have h1:=le_sum hy;rw [exL_sum] at h1;unfold Exp;have h2:degTo m 8≤40:=h;exact ⟨by omega,by omega⟩
set_option maxRecDepth 100000 in
set_option maxHeartbeats 1600000 in
theorem pdegE (A : Option Addr) (c : Nat) (ts : List TR) (w : World) (h : QRd w A ts) (he : ∀ t ∈ ts, deg t.m ≤ 40) (hl : ts.length ≤ 100000) :
    Calls Tryz.prog 26 #[.slice A ts.length c] w (Gives (.int .i64 (dTo (ts.map TR.m) ts.length)) w):=by
  have HE:=Lib.hid he;clear he;go_enter Tryz.func26,Tryz.ntmps26;go_wp2;go_loopw [3,8] (fun sv si wr=>∃ (k:Nat),k≤ts.length∧si = .int .i64 k∧sv = .int .i64 (dTo (ts.map TR.m) k)∧Below w.heap.size w wr) (fun _ si _=>ts.length - (intOf si).toNat)
  case atStart=>exact ⟨0,by omega,rfl,rfl,Below.refl _ _⟩
  case round=>
    obtain ⟨k,hk,rfl,rfl,hbw⟩:=hrel
    by_cases hlt:k<ts.length
    · obtain ⟨ad,t,rfl,hb,ht,hc⟩:=(h.below hbw).ask hlt;have hdt:=HE.out t (List.mem_of_getElem? ht.out);have HS:Hid (dTo (ts.map TR.m) (k+1)=max (dTo (ts.map TR.m) k) (deg t.m:Nat)):=by
        show _=_;rw [dTo,List.getElem?_map,ht.out];rfl
      have hdl:=dTo_le (ts.map TR.m) k;have HT:=Lib.hid (fun W=>ptotal (exI t.m 8) W (exI_len _ _) (exI_exp hdt));obtain ⟨S,hS⟩:∃ S,dTo (ts.map TR.m) k=S:=⟨_,rfl⟩;rw [hS] at hdl HS ⊢;have HSS:=Lib.hid hS;clear hS;have hev:arrV (exI t.m 8) = #[.int .i64 (ex t.m 0:Nat),.int .i64 (ex t.m 1:Nat),.int .i64 (ex t.m 2:Nat),.int .i64 (ex t.m 3:Nat),.int .i64 (ex t.m 4:Nat),.int .i64 (ex t.m 5:Nat),.int .i64 (ex t.m 6:Nat),.int .i64 (ex t.m 7:Nat)]:=rfl;rw [hev] at HT;have hsum:=exI_sum t.m;have HSUM:=Lib.hid hsum;obtain ⟨D,hD⟩:∃ D:Nat,deg t.m=D:=⟨_,rfl⟩;rw [hD] at hdt HS HSUM;clear hev hsum hD;obtain ⟨c0,c1,c2,c3,c4,c5,c6,c7,c8,c9,c10⟩:=hc;go_wp2_with fail;refine (HT.out _).mono ?_;rintro e w2 ⟨rfl,hb2⟩;rw [HSUM.out];go_wp2_with fail;go_roundw
      case rel=>exact ⟨k+1,by omega,by go_num,by rw [HS.out];try go_num,hbw.trans ((((Below.refl _ _).alloc (Nat.le_refl _) _).trans (hb2.mono (by simp))).mono hbw.size)⟩
      case measure=>simp [intOf];omega
    · obtain rfl:k=ts.length:=by omega
      go_wp2;go_ret;exact ⟨rfl,hbw⟩
structure Sm (n:Int) (ms:List MM) (es:List (List Int)) (t d k:Nat):Prop where
  val:PVal n ms es
  len:ms.length≤t
  short:∀ m ∈ ms,m.c.ns.length≤k∧m.c.ds.length≤k
  deg:dTo ((polyOf ms es).map Prod.fst) (polyOf ms es).length≤d
theorem polyOf_deg {w:World} {A:Option Addr} {n:Nat} {ms:List MM} {es:List (List Int)} (h:PRaw w A ms es) (hv:PVal n ms es):∀ t ∈ polyOf ms es,Go.Proofs.YtgekmfcbbjeahaaGreatDoor.deg t.1≤40:=fun t ht=>((h.poly hv).2.fits t ht).1
theorem polyOf_len {w:World} {A:Option Addr} {ms:List MM} {es:List (List Int)} (h:PRaw w A ms es):(polyOf ms es).length=ms.length:=by
  have:=h.hs.1;rw [polyOf,List.length_zipWith];omega
set_option maxRecDepth 100000 in
set_option maxHeartbeats 3200000 in
theorem psmall (n : Int) (A : Option Addr) (c : Nat) (ms : List MM) (es : List (List Int)) (t d k : Nat) (w : World) (h : PRaw w A ms es) (ht : t ≤ 4000) (v : Bool) (hv : v = true ↔ Sm n ms es t d k) :
    Calls Tryz.prog 48 #[.agg #[.int .i64 n,.slice A ms.length c],.int .i64 t,.int .i64 d,.int .i64 k] w (Gives (.bool v) w):=by
  have HV:=Lib.hid hv;have HF:=Lib.hid (fun (h:¬ Sm n ms es t d k)=>not_false_of hv h);have HH:=Lib.hid h;clear hv h;have hb0:Below w.heap.size w (w.alloc (.cells #[.int .i64 n,.slice A ms.length c] 24)):=(Below.refl _ _).alloc (Nat.le_refl _) _;have kp:=Blk2c.new 24 w (.int .i64 n) (.slice A ms.length c)
  by_cases hn0:n<0
  · have hvf:v=false:=HF.out (fun h=>by have:=h.val.lo;omega);subst hvf;go_enter Tryz.func48,Tryz.ntmps48;go_wp2;go_ret;exact ⟨rfl,hb0⟩
  · by_cases hn8:8<n
    · have hvf:v=false:=HF.out (fun h=>by have:=h.val.hi;omega);subst hvf;go_enter Tryz.func48,Tryz.ntmps48;go_wp2;go_ret;exact ⟨rfl,hb0⟩
    · by_cases hl : t < ms.length
      · have hvf:v=false:=HF.out (fun h=>by have:=h.len;omega);subst hvf;have hl2:((t:Nat):Int)<(ms.length:Int):=by omega
        go_enter Tryz.func48,Tryz.ntmps48;go_wp2;go_ret;exact ⟨rfl,hb0⟩
      · have hl2:¬ ((t:Nat):Int)<(ms.length:Int):=by omega
        go_enter Tryz.func48,Tryz.ntmps48;go_wp2;go_loopw [29] (fun si wr=>∃ (j:Nat),j≤ms.length∧si = .int .i64 j∧Hid (∀ i m,i<j→ms[i]?=some m→m.c.ns.length≤k∧m.c.ds.length≤k)∧Blk2c 24 wr w.heap.size (.int .i64 n) (.slice A ms.length c)∧Below w.heap.size w wr) (fun si _=>ms.length - (intOf si).toNat)
        case atStart=>exact ⟨0,by omega,rfl,fun i m hi=>absurd hi (by omega),kp,hb0⟩
        case round=>
          obtain ⟨j,hj,rfl,hsh0,kp1,hbw⟩:=hrel;clear hb0 kp
          by_cases hlt:j<ms.length
          · obtain ⟨ad,m,rfl,hb,hm,hc⟩:=(HH.out.below hbw).rd.ask hlt;obtain ⟨c0,c1,c2,c3⟩:=hc;have HKB:=Lib.hid (Blk4.new 79 wr (.slice m.X m.n m.xc) (.bool m.c.s) (.slice m.c.N m.c.ns.length m.c.nc) (.slice m.c.D m.c.ds.length m.c.dc));have hq:Below wr.heap.size wr (wr.alloc (.cells #[.slice m.X m.n m.xc,.bool m.c.s,.slice m.c.N m.c.ns.length m.c.nc,.slice m.c.D m.c.ds.length m.c.dc] 79)):=(Below.refl _ _).alloc (Nat.le_refl _) _;have HW1:=Lib.hid (hbw.trans (hq.mono hbw.size));have HKP:=Lib.hid (kp1.below hq);obtain ⟨b0,b1,b2,b3,b4,b5,b6,b7,b8⟩:=HKB.out.facts;have HTG:=Lib.hid hb;clear hq hb;obtain ⟨W,hW⟩:∃ x,wr.alloc (.cells #[.slice m.X m.n m.xc,.bool m.c.s,.slice m.c.N m.c.ns.length m.c.nc,.slice m.c.D m.c.ds.length m.c.dc] 79)=x:=⟨_,rfl⟩;rw [hW] at HKB HKP HW1 b0 b1 b2 b3 b4 b5 b6 b7 b8;have HWE:=Lib.hid hW;clear hW;go_upto_region 6 with fail;rw [HWE.out];clear HWE c0 c1 c2 c3
            by_cases hsh:m.c.ns.length≤k∧m.c.ds.length≤k
            · have HSY:=Lib.hid (qshort_yes m.c.s m.c.N m.c.D m.c.ns.length m.c.nc m.c.ds.length m.c.dc k W hsh.1 hsh.2);have HSH:=Lib.hid hsh;clear hsh;go_wp2_with fail;refine HSY.out.mono ?_;rintro e1 W1 ⟨rfl,hb1⟩;have HW2:=Lib.hid (HW1.out.trans (hb1.mono HW1.out.size));have HKP2:=Lib.hid (HKP.out.below hb1);clear hb1 HSY;go_wp2_with fail;go_roundw
              case rel=>
                refine ⟨j+1,by omega,by go_num,fun i m' hi hm'=>?_,HKP2.out,HW2.out⟩;rcases Nat.lt_or_ge i j with h1 | h1
                · exact hsh0.out i m' h1 hm'
                · obtain rfl:i=j:=by omega
                  rw [hm.out] at hm';injection hm' with hm';subst hm';exact HSH.out
              case measure=>simp [intOf];omega
            · have hvf:v=false:=HF.out (fun h=>hsh (h.short m (List.mem_of_getElem? hm.out)));subst hvf;have HSN:=Lib.hid (qshort_no m.c.s m.c.N m.c.D m.c.ns.length m.c.nc m.c.ds.length m.c.dc k W hsh);clear hsh;go_wp2_with fail;refine HSN.out.mono ?_;rintro e1 W1 ⟨rfl,hb1⟩;have HW2:=Lib.hid (HW1.out.trans (hb1.mono HW1.out.size));go_wp2_with fail;go_ret;exact ⟨rfl,HW2.out⟩
          · obtain rfl:j=ms.length:=by omega
            have hall:Hid (∀ m ∈ ms,m.c.ns.length≤k∧m.c.ds.length≤k):=fun m hm=>by
              obtain ⟨i,hi⟩:=List.getElem?_of_mem hm;exact hsh0.out i m (List.getElem?_eq_some_iff.1 hi).1 hi
            obtain ⟨a0,a1,a2,a3,a4⟩:=kp1.facts
            by_cases hval:PVal n ms es
            · have HVA:=Lib.hid hval;have HVY:=Lib.hid (prvalid n A c ms es wr (HH.out.below hbw) true ⟨fun _=>hval,fun _=>rfl⟩);have HOF:=Lib.hid (fun W (hW:Below wr.heap.size wr W)=>pofE n A c ms es W ((HH.out.below hbw).below hW) hval);have hdeg:Hid (∀ t ∈ polyOf ms es,Go.Proofs.YtgekmfcbbjeahaaGreatDoor.deg t.1≤40):=by
                have h0:0≤n:=by omega
                obtain ⟨N,rfl⟩:=Int.eq_ofNat_of_zero_le h0;exact polyOf_deg HH.out hval
              have HPL:=Lib.hid (polyOf_len HH.out);have h4000:=hval.len;clear hval;go_wp2_with fail;refine HVY.out.mono ?_;rintro e1 W1 ⟨rfl,hb1⟩;have kp2:=kp1.below hb1;have HW1:=Lib.hid (hbw.trans (hb1.mono hbw.size));clear a0 a1 a2 a3 a4;obtain ⟨a0,a1,a2,a3,a4⟩:=kp2.facts;go_wp2_with fail;refine (HOF.out _ hb1).mono ?_;rintro e1 W2 ⟨Q,qc,ts,rfl,hqc,hqr,hqm,hb2⟩;have htl:ts.length=ms.length:=by
                have h1:=congrArg List.length hqm;rw [List.length_map,List.length_map,HPL.out] at h1;exact h1
              have HDG:=Lib.hid (pdegE Q qc ts W2 hqr (fun t ht=>by
                have h1:t.m ∈ (polyOf ms es).map Prod.fst:=by rw [← hqm];exact List.mem_map.2 ⟨t,ht,rfl⟩
                obtain ⟨u,hu,he⟩:=List.mem_map.1 h1;rw [← he];exact hdeg.out u hu) (by omega))
              rw [hqm,htl] at HDG;have HW2:=Lib.hid (HW1.out.trans (hb2.mono HW1.out.size));have hdl:=dTo_le ((polyOf ms es).map Prod.fst) ms.length;obtain ⟨D,hD⟩:∃ D,dTo ((polyOf ms es).map Prod.fst) ms.length=D:=⟨_,rfl⟩;rw [hD] at HDG hdl;have HD:=Lib.hid hD;clear hD hqm hb1 kp1 a0 a1 a2 a3 a4
              by_cases hle:D≤(d:Int)
              · have hvt:v=true:=HV.out.2 ⟨HVA.out,by omega,hall.out,by rw [HPL.out,HD.out];exact hle⟩;subst hvt;go_wp2_with fail;refine HDG.out.mono ?_;rintro e1 W3 ⟨rfl,hb3⟩;have HW3:=Lib.hid (HW2.out.trans (hb3.mono HW2.out.size));go_wp2_with fail;go_ret;exact ⟨rfl,HW3.out⟩
              · have hvf:v=false:=HF.out (fun h=>hle (by rw [← HD.out,← HPL.out];exact h.deg));subst hvf;go_wp2_with fail;refine HDG.out.mono ?_;rintro e1 W3 ⟨rfl,hb3⟩;have HW3:=Lib.hid (HW2.out.trans (hb3.mono HW2.out.size));go_wp2_with fail;go_ret;exact ⟨by simp [hle],HW3.out⟩
            · have hvf:v=false:=HF.out (fun h=>hval h.val);subst hvf;have HVN:=Lib.hid (prvalid n A c ms es wr (HH.out.below hbw) false ⟨fun hh=>(by cases hh),fun hh=>absurd hh hval⟩);clear hval;go_wp2_with fail;refine HVN.out.mono ?_;rintro e1 W1 ⟨rfl,hb1⟩;have HW1:=Lib.hid (hbw.trans (hb1.mono hbw.size));go_wp2_with fail;go_ret;exact ⟨rfl,HW1.out⟩
end Go.Proofs.YtgekmfcbbjeahaaGreatDoor
/- poly.checkPair; poly.Var refused. -/
attribute [local go_sem ↓] Go.wp_at_zero Go.wp_at_succ
namespace Go.Proofs.YtgekmfcbbjeahaaGreatDoor
open Go.RowKit V
set_option maxRecDepth 100000 in
set_option maxHeartbeats 1600000 in
theorem ppair_ok (n:Int) (A B:Option Addr) (c d:Nat) (ms ms2:List MM) (es es2:List (List Int)) (w:World) (h:PRaw w A ms es) (h2:PRaw w B ms2 es2) (hv:PVal n ms es) (hv2:PVal n ms2 es2) :
    Calls Tryz.prog 51 #[.agg #[.int .i64 n,.slice A ms.length c],.agg #[.int .i64 n,.slice B ms2.length d]] w (Gives (.int .i64 0) w):=by
  have hb0:Below w.heap.size w ((w.alloc (.cells #[.int .i64 n,.slice A ms.length c] 24)).alloc (.cells #[.int .i64 n,.slice B ms2.length d] 24)):=((Below.refl _ _).alloc (Nat.le_refl _) _).alloc (by simp) _;have k1:=(Blk2c.new 24 w (.int .i64 n) (.slice A ms.length c)).alloc (.cells #[.int .i64 n,.slice B ms2.length d] 24);have k2:Blk2c 24 ((w.alloc (.cells #[.int .i64 n,.slice A ms.length c] 24)).alloc (.cells #[.int .i64 n,.slice B ms2.length d] 24)) (w.heap.size+1) (.int .i64 n) (.slice B ms2.length d):=by
    have:=Blk2c.new 24 (w.alloc (.cells #[.int .i64 n,.slice A ms.length c] 24)) (.int .i64 n) (.slice B ms2.length d);simpa using this
  go_enter Tryz.func51,Tryz.ntmps51;go_wp2_with fail;refine (pvalid n A c ms es _ (h.below hb0) true ⟨fun _=>hv,fun _=>rfl⟩).mono ?_;rintro e w1 ⟨rfl,hb1⟩;have hb2:=hb0.trans (hb1.mono hb0.size);have j1:=k1.below hb1;have j2:=k2.below hb1;obtain ⟨p0,p1,p2,p3,p4⟩:=j1.facts;obtain ⟨q0,q1,q2,q3,q4⟩:=j2.facts;have h2':=h2.below hb2;go_wp2_with fail;refine (pvalid n B d ms2 es2 _ h2' true ⟨fun _=>hv2,fun _=>rfl⟩).mono ?_;rintro e w2 ⟨rfl,hb3⟩;have hb4:=hb2.trans (hb3.mono hb2.size);obtain ⟨r0,r1,r2,r3,r4⟩:=(j1.below hb3).facts;obtain ⟨s0,s1,s2,s3,s4⟩:=(j2.below hb3).facts;clear p0 p1 p2 p3 p4 q0 q1 q2 q3 q4;go_wp2;go_ret;exact ⟨rfl,hb4⟩
set_option maxRecDepth 100000 in
set_option maxHeartbeats 400000 in
theorem pvar_range (n i:Int) (w:World) (hbad:¬ (0≤n∧n≤8)∨((0≤n∧n≤8)∧(i<0∨(0≤i∧n≤i)))) :
    Calls Tryz.prog 31 #[.int .i64 n,.int .i64 i] w (PolyErr 1 w):=by
  have HC:=Lib.hid (pisCount n);have hb0:Below w.heap.size w (w.alloc (.cells #[.int .i64 0,.slice none 0 0] 24)):=(Below.refl _ _).alloc (Nat.le_refl _) _;obtain ⟨p0,p1,p2,p3,p4⟩:=(Blk2c.new 24 w (.int .i64 0) (.slice none 0 0)).facts;rcases hbad with hn | ⟨hn,hi | ⟨h0,hi⟩⟩
  · rw [decide_eq_false hn] at HC;go_enter Tryz.func31,Tryz.ntmps31;go_wp2_with fail;refine (HC.out _).mono ?_;rintro e w1 ⟨rfl,rfl⟩;go_wp2_with fail;refine bodyPost_ret (v:=.tuple #[.agg #[.int .i64 0,.slice none 0 0],.int .i64 1]) (by simp [results,Tryz.results31,go_sem,p0,p1]) rfl ?_;exact ⟨rfl,hb0⟩
  · rw [decide_eq_true hn] at HC;go_enter Tryz.func31,Tryz.ntmps31;go_wp2_with fail;refine (HC.out _).mono ?_;rintro e w1 ⟨rfl,rfl⟩;go_wp2_with fail;refine bodyPost_ret (v:=.tuple #[.agg #[.int .i64 0,.slice none 0 0],.int .i64 1]) (by simp [results,Tryz.results31,go_sem,p0,p1]) rfl ?_;exact ⟨rfl,hb0⟩
  · rw [decide_eq_true hn] at HC;go_enter Tryz.func31,Tryz.ntmps31;go_wp2_with fail;refine (HC.out _).mono ?_;rintro e w1 ⟨rfl,rfl⟩;go_wp2_with fail;refine bodyPost_ret (v:=.tuple #[.agg #[.int .i64 0,.slice none 0 0],.int .i64 1]) (by simp [results,Tryz.results31,go_sem,p0,p1]) rfl ?_;exact ⟨rfl,hb0⟩
end Go.Proofs.YtgekmfcbbjeahaaGreatDoor
/- poly.load, with what is known of the slice's capacity. -/
attribute [local go_sem ↓] Go.wp_at_zero Go.wp_at_succ
namespace Go.Proofs.YtgekmfcbbjeahaaGreatDoor
open Go.RowKit V
def PolyC (p:List (Nat × Rat)) (w:World) (e:Ending) (w':World):Prop:=
  ∃ A c ts,e = .returned (.slice A (ts:List TM).length c)∧ts.length≤c∧PRd w' A ts p∧Below w.heap.size w w'∧(A=none→c=0)∧c=ts.length
set_option maxRecDepth 100000 in
set_option maxHeartbeats 1600000 in
theorem ploadc (N : Int) (A : Option Addr) (c n : Nat) (ms : List MM) (p : AL) (w : World) (hx : ARd w A ms p) (bx : ms.length ≤ 100000) (he : EOk n p) :
    Calls Tryz.prog 54 #[.agg #[.int .i64 N,.slice A ms.length c]] w (PolyC (pk p) w):=by
  have HE:=Lib.hid he;have HL:=Lib.hid hx.hs.1;have hmk:=fun W=>make_terms ms.length (ms.length:Int) rfl (by omega) W
  clear he;go_enter Tryz.func54,Tryz.ntmps54;go_wp2;clear hmk;go_loopw [4,5,13] (fun _ _ i wr=>∃ ts:List TM,ts.length≤ms.length∧i = .int .i64 ts.length∧TRow wr (w.heap.size+1) (ts ++ List.replicate (ms.length - ts.length) TM0)∧THolds wr ts ((pk p).take ts.length)∧Below w.heap.size w wr) (fun _ _ i _=>ms.length - (intOf i).toNat)
  case atStart=>
    refine ⟨[],Nat.zero_le _,rfl,?_,THolds.nil _,((Below.refl _ _).alloc (Nat.le_refl _) _).alloc (by simp) _⟩;have:=TRow.new (w.alloc (.cells #[.int .i64 N,.slice A ms.length c] 24)) (List.replicate ms.length TM0);simpa using this
  case round=>
    obtain ⟨ts,hk,rfl,hrow,hth,hbw⟩:=hrel
    by_cases hlt:ts.length<ms.length
    · obtain ⟨ad,m,rfl,hb,hm,hc⟩:=(hx.below hbw).rd.ask hlt;obtain ⟨es,q,hp,hr,hn,hnc,hci,hcl1,hcl2⟩:=(hx.below hbw).hs.2 _ m hm.out;obtain ⟨c0,c1,c2,c3⟩:=hc;have kb:=Blk4.new 79 wr (.slice m.X es.length m.xc) (.bool m.c.s) (.slice m.c.N m.c.ns.length m.c.nc) (.slice m.c.D m.c.ds.length m.c.dc);have hb1:Below wr.heap.size wr (wr.alloc (.cells #[.slice m.X es.length m.xc,.bool m.c.s,.slice m.c.N m.c.ns.length m.c.nc,.slice m.c.D m.c.ds.length m.c.dc] 79)):=(Below.refl _ _).alloc (Nat.le_refl _) _;have hes:es.length≤8 ∧ ∀ x ∈ es,x<256:=HE.out.small (getD_mem hp);have HES:=Lib.hid hes.2;have hel:=hes.1;have HP:Hid ((pk p)[ts.length]?=some (packL es,q)):=by show _=_;simp [pk,hp]
      clear hes hp;go_wp2_with fail;obtain ⟨w1,hwe⟩:∃ x,wr.alloc (.cells #[.slice m.X es.length m.xc,.bool m.c.s,.slice m.c.N m.c.ns.length m.c.nc,.slice m.c.D m.c.ds.length m.c.dc] 79)=x:=⟨_,rfl⟩;rw [hwe] at kb hb1 ⊢;have hr1:=hr.below hb1;have hci1:=hci.below hb1;have hrow1:=hrow.keep hb1;have hlt0:=hrow.lt;have hne1:¬ wr.heap.size=w.heap.size+1:=by omega
      have hne2:¬ w.heap.size+1=wr.heap.size:=by omega
      have hw1:=hbw.trans (hb1.mono hbw.size);have hth1:=hth.below hb1;have hwz:=hw1.size;have hrl:=hrow1.lt;have hgr:=kb.lt;clear hwe hr hci hrow hbw hth c0 c1 c2 c3 hb1 hb;obtain ⟨a0,a1,a2,a3,a4,a5,a6,a7,a8⟩:=kb.facts;have hk0:(0:Int)≤(ts.length:Int):=Int.natCast_nonneg _;have hk1:(ts.length:Int)<(ms.length:Int):=by omega
      have hget:(ts ++ List.replicate (ms.length - ts.length) TM0)[ts.length]?=some TM0:=by
        rw [List.getElem?_append_right (Nat.le_refl _),Nat.sub_self,List.getElem?_replicate,if_pos (by omega)]
      go_region_held3 (fun w'=>w'.cell? ⟨wr.heap.size,0,none⟩=some (.slice m.X es.length m.xc)∧w'.cell? ⟨wr.heap.size,1,none⟩=some (.bool m.c.s)∧w'.cell? ⟨wr.heap.size,2,none⟩=some (.slice m.c.N m.c.ns.length m.c.nc)∧w'.cell? ⟨wr.heap.size,3,none⟩=some (.slice m.c.D m.c.ds.length m.c.dc)) (first | (with_reducible exact ⟨‹_›,‹_›,‹_›,‹_›⟩) | go_keep)
        (first
        | (go_at_call 106
           refine (ppack m.X m.xc es _ (by first | exact hr1 | exact hr1.drew | exact hr1.below hbx | exact (hr1.below hbx).drew) hel HES.out).mono ?_;rintro e wp ⟨rfl,rfl⟩)
        | (go_at_call 59
           refine (wOf m.c q _ (by first | exact hci1 | exact hci1.below (below_drew_ (Below.refl _ _) 1)) (by omega) (by omega)).mono ?_;rintro e wx_ ⟨r,rfl,hrn,hl1,hl2,hbx⟩;have hbq:Below w1.heap.size w1 wx_:=by first | exact below_of_drew hbx (Nat.le_refl _) | exact hbx
           obtain ⟨b0,b1,b2,b3,b4,b5,b6,b7,b8⟩:=(kb.below hbq).facts;have hrow2:=hrow1.keep hbq;obtain ⟨r0,r1,r2,r3⟩:=hrow2.tcell hget;have f0:=hrow2.frozen (ts.length*4);have f1:=hrow2.frozen (ts.length*4+1);have f2:=hrow2.frozen (ts.length*4+2);have f3:=hrow2.frozen (ts.length*4+3)))
      all_goals
        go_wp2;go_roundw
        case rel=>
          exact fill_step wx_ w (w.heap.size+1) ts ms.length (packL es) r q (pk p) hlt hrow2 (hth1.below hbq) HP.out hrn (Nat.le_trans hl1 (by omega)) (Nat.le_trans hl2 (by omega)) (hw1.trans (hbq.mono hw1.size)) (Nat.le_succ _)
        case measure=>simp [intOf];omega
    · obtain he:ts.length=ms.length:=by omega
      have HE2:=Lib.hid he;clear he;go_wp2;go_ret;have e1:ts.length=ms.length:=HE2.out;rw [e1,Nat.sub_self,List.replicate_zero,List.append_nil] at hrow;rw [e1,List.take_of_length_le (by simp [pk,← HL.out])] at hth;exact ⟨some ⟨w.heap.size+1,0,none⟩,ms.length,ts,by rw [e1];rfl,by omega,⟨hrow.rd,hth⟩,hbw,(fun h=>by cases h),e1.symm⟩
end Go.Proofs.YtgekmfcbbjeahaaGreatDoor
/- poly.Add of valid polynomials. -/
attribute [local go_sem ↓] Go.wp_at_zero Go.wp_at_succ
namespace Go.Proofs.YtgekmfcbbjeahaaGreatDoor
open Go.RowKit V
theorem box3p (w:World) (a b a2 b2 r s:Value) :
    Blk2c 24 (((w.alloc (.cells #[a,b] 24)).alloc (.cells #[a2,b2] 24)).alloc (.cells #[r,s] 24)) w.heap.size a b∧Blk2c 24 (((w.alloc (.cells #[a,b] 24)).alloc (.cells #[a2,b2] 24)).alloc (.cells #[r,s] 24)) (w.heap.size+1) a2 b2 ∧
    Blk2c 24 (((w.alloc (.cells #[a,b] 24)).alloc (.cells #[a2,b2] 24)).alloc (.cells #[r,s] 24)) (w.heap.size+1+1) r s:=by
  refine ⟨((Blk2c.new _ w a b).alloc _).alloc _,?_,?_⟩
  · have:=(Blk2c.new 24 (w.alloc (.cells #[a,b] 24)) a2 b2).alloc (.cells #[r,s] 24);rwa [show (w.alloc (.cells #[a,b] 24)).heap.size=w.heap.size+1 by simp] at this
  · have:=Blk2c.new 24 ((w.alloc (.cells #[a,b] 24)).alloc (.cells #[a2,b2] 24)) r s;rwa [show ((w.alloc (.cells #[a,b] 24)).alloc (.cells #[a2,b2] 24)).heap.size=w.heap.size+1+1 by simp] at this
theorem cells22 {t u:TypeId} {w:World} {g h:Nat} {a b x y:Value} (k:Blk2c t w g a b) (j:Blk2c u w h x y):w.cell? ⟨g,0,none⟩=some a∧w.cell? ⟨g,1,none⟩=some b∧w.cell? ⟨h,0,none⟩=some x∧w.cell? ⟨h,1,none⟩=some y:=⟨k.facts.c0,k.facts.c1,j.facts.c0,j.facts.c1⟩
set_option maxRecDepth 100000 in
set_option maxHeartbeats 1600000 in
theorem padd_ok (n:Nat) (A B:Option Addr) (c d:Nat) (ms ns:List MM) (P Q:PL) (w:World) (ha:ARd w A ms (up n P)) (hb:ARd w B ns (up n Q)) (hP:PIn n P) (hQ:PIn n Q) (hadd:∀ t ∈ P,∀ u ∈ Q,AddOk t.2 u.2) (hws:Words (addL P Q)) (hfit:∀ t ∈ addL P Q,TFits t.1 t.2) (hlen:(addL P Q).length≤4000) :
    Calls Tryz.prog 12 #[.agg #[.int .i64 n,.slice A ms.length c],.agg #[.int .i64 n,.slice B ns.length d]] w (StoreOk n (addL P Q) w):=by
  have HA:=Lib.hid ha;have HB:=Lib.hid hb;have hnv:=hP.nv;have hba:Below w.heap.size w (((w.alloc (.cells #[.int .i64 n,.slice A ms.length c] 24)).alloc (.cells #[.int .i64 n,.slice B ns.length d] 24)).alloc (.cells #[.int .i64 0,.slice none 0 0] 24)):=(((Below.refl _ _).alloc (Nat.le_refl _) _).alloc (by simp) _).alloc (by simp;omega) _;have HCP:=Lib.hid (ppair_ok (n:Int) A B c d ms ns _ _ _ (ha.raw.below hba) (hb.raw.below hba) (ha.val hP) (hb.val hQ));obtain ⟨k1,k2,k3⟩:=box3p w (.int .i64 n) (.slice A ms.length c) (.int .i64 n) (.slice B ns.length d) (.int .i64 0) (.slice none 0 0);have hml:ms.length≤4000:=by rw [ha.hs.1,up,List.length_map];exact hP.len
  have hnl:ns.length≤4000:=by rw [hb.hs.1,up,List.length_map];exact hQ.len
  have HP:=Lib.hid hP;have HQ:=Lib.hid hQ;have HPK:=Lib.hid (pk_up hP);have HQK:=Lib.hid (pk_up hQ);clear ha hb hP hQ;have HADD:=Lib.hid hadd;have HWS:=Lib.hid hws;have HFIT:=Lib.hid hfit;have HLEN:=Lib.hid hlen;clear hadd hws hfit hlen;go_enter Tryz.func12,Tryz.ntmps12;go_wp2_with fail;refine HCP.out.mono ?_;rintro e w1 ⟨rfl,hb1⟩;have hb2:=hba.trans (hb1.mono hba.size);have j1:=k1.below hb1;have j2:=k2.below hb1;have j3:=k3.below hb1;have HS0:=cells22 j1 j2;have HBW:=Lib.hid hb2;clear hba hb1 k1 k2 k3 HCP;go_upto_region 4 with fail;obtain ⟨p0,p1,p2,p3,p4⟩:=j3.facts;refine wp_region_held_drew (S:=fun w'=>w'.cell? ⟨w.heap.size,0,none⟩=some (.int .i64 n)∧w'.cell? ⟨w.heap.size,1,none⟩=some (.slice A ms.length c)∧w'.cell? ⟨w.heap.size+1,0,none⟩=some (.int .i64 n)∧w'.cell? ⟨w.heap.size+1,1,none⟩=some (.slice B ns.length d)) (by kernel_rfl) ?_ (fun hHeld=>?_)
  · first | exact HS0 | go_keep
  refine wpAnyH_take (i:=0) (v:=?v0) rfl (by kernel_rfl) (by kernel_rfl) (by kernel_rfl) (fun _ _ _ h=>h) (Or.inl ⟨by rfl,?hy0⟩) (by assumption) ?rest0
  case hy0=>
    intro w hSw
    (try dsimp only at hSw)
    go_simp
    all_goals with_reducible rfl
  simp only [Act.put,List.getElem_toArray,List.getElem_cons_zero,List.setIfInBounds_toArray,List.set_cons_zero,List.set_cons_succ];refine wpAnyH_take (i:=1) (v:=?v1) rfl (by kernel_rfl) (by kernel_rfl) (by kernel_rfl) (fun _ _ _ h=>h) (Or.inl ⟨by rfl,?hy1⟩) (by assumption) ?rest1
  case hy1=>
    intro w hSw
    (try dsimp only at hSw)
    go_simp
    all_goals with_reducible rfl
  simp only [Act.put,List.getElem_toArray,List.getElem_cons_zero,List.getElem_cons_succ,List.setIfInBounds_toArray,List.set_cons_zero,List.set_cons_succ];refine wpAnyH_take (i:=2) (v:=?v2) rfl (by kernel_rfl) (by kernel_rfl) (by kernel_rfl) (fun _ _ _ h=>h) (Or.inl ⟨by rfl,?hy2⟩) (by assumption) ?rest2
  case hy2=>
    intro w hSw
    (try dsimp only at hSw)
    go_simp
    all_goals with_reducible rfl
  simp only [Act.put,List.getElem_toArray,List.getElem_cons_zero,List.getElem_cons_succ,List.setIfInBounds_toArray,List.set_cons_zero,List.set_cons_succ];refine wpAnyH_take (i:=4) (v:=?v4) rfl (by kernel_rfl) (by kernel_rfl) (by kernel_rfl) (fun _ _ _ h=>h) (Or.inl ⟨by rfl,?hy4⟩) (by assumption) ?rest4
  case hy4=>
    intro w hSw
    (try dsimp only at hSw)
    go_simp
    all_goals with_reducible rfl
  simp only [Act.put,List.getElem_toArray,List.getElem_cons_zero,List.getElem_cons_succ,List.setIfInBounds_toArray,List.set_cons_zero,List.set_cons_succ];refine wpAnyH_ready (rs:=[3]) (by kernel_rfl) (by simp) ?_;refine AllReadyH.cons (o:=_) rfl (fun K hK=>?_) AllReadyH.nil;go_simp;go_at_call 54;refine (ploadc n A c n ms (up n P) _ (HA.out.below (by first | exact HBW.out | exact below_drew_ HBW.out 1)) (by omega) (eok_up HP.out)).mono ?_;rintro e x1 ⟨X,xc,xs,rfl,hxc,hx,hbx,hxn,hxe⟩;have hq1:Below w1.heap.size w1 x1:=by first | exact hbx | exact below_of_drew hbx (Nat.le_refl _)
  have HS_:=cells22 (j1.below hq1) (j2.below hq1);rw [HPK.out] at hx;have HX:=Lib.hid hx;have HXL:=Lib.hid hx.hs.1;have HXI:=Lib.hid (And.intro hxc (And.intro hxn hxe));clear hx hxc hxn hxe;go_wp2_with fail;refine hK.out _ _ ?_ (fun hHeld=>?_)
  · first | exact HS_ | go_keep
  clear hK K
  try simp only [Act.put,List.getElem_toArray,List.getElem_cons_zero,List.getElem_cons_succ,List.setIfInBounds_toArray,List.set_cons_zero,List.set_cons_succ]
  refine wpAnyH_ready (rs:=[5]) (by kernel_rfl) (by simp) ?_;refine AllReadyH.cons (o:=_) rfl (fun K hK=>?_) AllReadyH.nil;go_simp;go_at_call 54;refine (ploadc n B d n ns (up n Q) _ (HB.out.below (HBW.out.trans (hq1.mono HBW.out.size))) (by omega) (eok_up HQ.out)).mono ?_;rintro e x2 ⟨Y,yc,ys,rfl,hyc,hy,hby,hyn,hye⟩;have hq2:=hq1.trans (hby.mono hq1.size);clear HS_;have HS_:=cells22 (j1.below hq2) (j2.below hq2);rw [HQK.out] at hy;have HY:=Lib.hid hy;have HYL:=Lib.hid hy.hs.1;have HX2:=Lib.hid (HX.out.below hby);have HYI:=Lib.hid (And.intro hyc (And.intro hyn hye));clear hy hyc hyn hye;go_wp2_with fail;refine hK.out _ _ ?_ (fun hHeld=>?_)
  · first | exact HS_ | go_keep
  clear hK K
  try simp only [Act.put,List.getElem_toArray,List.getElem_cons_zero,List.getElem_cons_succ,List.setIfInBounds_toArray,List.set_cons_zero,List.set_cons_succ]
  refine wpAnyH_ready (rs:=[6]) (by kernel_rfl) (by simp) ?_;refine AllReadyH.cons (o:=_) rfl (fun K hK=>?_) AllReadyH.nil;go_simp;go_at_call 53;have HSU:=psum X Y xc yc xs ys P Q x2 HX2.out HY.out (by rw [HXL.out];exact Nat.le_trans HP.out.len (by decide)) (by rw [HYL.out];exact Nat.le_trans HQ.out.len (by decide)) HXI.out.1 HYI.out.1 (by rw [HXI.out.2.2,HXL.out];exact Nat.le_trans HP.out.len (by decide)) (by rw [HYI.out.2.2,HYL.out];exact Nat.le_trans HQ.out.len (by decide)) HXI.out.2.1 HYI.out.2.1 HP.out.words HQ.out.words HADD.out;refine HSU.mono ?_;clear HSU;rintro e x3 ⟨Z,zc,zs,rfl,hzc,hz,hbz⟩;have hq3:=hq2.trans (hbz.mono hq2.size);clear HS_;have HS_:=cells22 (j1.below hq3) (j2.below hq3);have HZ:=Lib.hid hz;have HZL:=Lib.hid hz.hs.1;clear hz;go_wp2_with fail;refine hK.out _ _ ?_ (fun hHeld=>?_)
  · first | exact HS_ | go_keep
  clear hK K
  try simp only [Act.put,List.getElem_toArray,List.getElem_cons_zero,List.getElem_cons_succ,List.setIfInBounds_toArray,List.set_cons_zero,List.set_cons_succ]
  refine wpAnyH_ready (rs:=[7]) (by kernel_rfl) (by simp) ?_;refine AllReadyH.cons (o:=_) rfl (fun K hK=>?_) AllReadyH.nil;go_simp;go_at_call 52;refine (pstore_ok n Z zc zs _ _ HZ.out (by rw [HZL.out];exact HLEN.out) hnv HWS.out HFIT.out).mono ?_;rintro e x4 ⟨C,cc,us,rfl,hcc,hat,hbu⟩;have hq4:=hq3.trans (hbu.mono hq3.size);clear HS_;have HS_:=cells22 (j1.below hq4) (j2.below hq4);have HAT:=Lib.hid hat;clear hat;have kz4:=j3.below hq4;obtain ⟨g0,g1,g2,g3,g4⟩:=kz4.facts;go_wp2_with fail;refine hK.out _ _ ?_ (fun hHeld=>?_)
  · first | exact HS_ | go_keep
  clear hK K
  try simp only [Act.put,List.getElem_toArray,List.getElem_cons_zero,List.getElem_cons_succ,List.setIfInBounds_toArray,List.set_cons_zero,List.set_cons_succ]
  refine wpAnyH_take (i:=8) (v:=?v8) rfl (by kernel_rfl) (by kernel_rfl) (by kernel_rfl) (fun _ _ _ h=>h) (Or.inl ⟨by rfl,?hy8⟩) (by assumption) ?rest8
  case hy8=>
    intro w hSw
    (try dsimp only at hSw)
    go_simp
    all_goals with_reducible rfl
  simp only [Act.put,List.getElem_toArray,List.getElem_cons_zero,List.getElem_cons_succ,List.setIfInBounds_toArray,List.set_cons_zero,List.set_cons_succ];refine wpAnyH_take (i:=9) (v:=?v9) rfl (by kernel_rfl) (by kernel_rfl) (by kernel_rfl) (fun _ _ _ h=>h) (Or.inl ⟨by rfl,?hy9⟩) (by assumption) ?rest9
  case hy9=>
    intro w hSw
    (try dsimp only at hSw)
    go_simp
    all_goals with_reducible rfl
  simp only [Act.put,List.getElem_toArray,List.getElem_cons_zero,List.getElem_cons_succ,List.setIfInBounds_toArray,List.set_cons_zero,List.set_cons_succ];refine wpAnyH_ready (rs:=[10]) (by kernel_rfl) (by simp) ?_;refine AllReadyH.cons (o:=_) rfl (fun K hK=>?_) AllReadyH.nil;go_simp;refine hK.out _ _ ?_ (fun hHeld=>?_)
  · first | exact cells22 (((j1.below hq4).far (by omega) _).far (by omega) _) (((j2.below hq4).far (by omega) _).far (by omega) _) | go_keep
  clear hK K
  try simp only [Act.put,List.getElem_toArray,List.getElem_cons_zero,List.getElem_cons_succ,List.setIfInBounds_toArray,List.set_cons_zero,List.set_cons_succ]
  refine wpAnyH_take (i:=11) (v:=?v11) rfl (by kernel_rfl) (by kernel_rfl) (by kernel_rfl) (fun _ _ _ h=>h) (Or.inl ⟨by rfl,?hy11⟩) (by assumption) ?rest11
  case hy11=>
    intro w hSw
    (try dsimp only at hSw)
    go_simp
    all_goals with_reducible rfl
  simp only [Act.put,List.getElem_toArray,List.getElem_cons_zero,List.getElem_cons_succ,List.setIfInBounds_toArray,List.set_cons_zero,List.set_cons_succ];refine wpAnyH_done (by kernel_rfl) ?_ _;go_wp2_with fail;refine bodyPost_ret (v:=.tuple #[.agg #[.int .i64 n,.slice C us.length cc],.int .i64 0]) (by simp [results,Tryz.results12,go_sem,g0,g1]) rfl ?_;exact ⟨C,cc,us,rfl,hcc,HAT.out.put2 kz4.ty (by decide) (by decide) _ _,((HBW.out.trans (hq4.mono HBW.out.size)).setCell (by show w.heap.size≤w.heap.size+1+1;omega) _).setCell (by show w.heap.size≤w.heap.size+1+1;omega) _⟩
end Go.Proofs.YtgekmfcbbjeahaaGreatDoor
/- Rows of products in memory: slices of pointers to rows, the rows' keys, the heap that they make. -/
namespace Go.Proofs.YtgekmfcbbjeahaaGreatDoor
open Go.RowKit V
def PtrV (g:Nat):Value:=.pointer (some ⟨g,0,none⟩)
def OwnG (B:Nat) (w:World) (v:Value) (hp:List Nat):Prop:=w.ownsRow B 194 1 v hp.length (hp.map PtrV)
theorem grown_of_below {w w':World} (h:Below w.heap.size w w') (row:Option Nat):w.grownBy w' row:=⟨h.os,h.tape,h.output,h.size,fun k hk _=>h.block k hk⟩
theorem grown_refl (w:World) (row:Option Nat):w.grownBy w row:=⟨rfl,rfl,rfl,Nat.le_refl _,fun _ _ _=>rfl⟩
theorem grown_trans {a b c:World} {row:Option Nat} (h:a.grownBy b row) (k:b.grownBy c row):a.grownBy c row:=
  ⟨k.os.trans h.os,k.tape.trans h.tape,k.output.trans h.output,Nat.le_trans h.size k.size,fun i hi hn=>(k.block i (Nat.lt_of_lt_of_le hi h.size) hn).trans (h.block i hi hn)⟩
theorem grown_set {a w:World} {q:Nat} (h:a.grownBy w (some q)) (i:Nat) (u:Value):a.grownBy (w.setCell ⟨q,i,none⟩ u) (some q):=
  grown_trans h ⟨rfl,rfl,rfl,by simp [World.setCell],fun k _ hk=>Below.heap_setCell w ⟨q,i,none⟩ u k (fun e=>hk (by rw [e]))⟩
section
variable {B:Nat} {w w':World} {v:Value} {hp:List Nat}
theorem OwnG.below (h:OwnG B w v hp) (hb:Below w.heap.size w w'):OwnG B w' v hp:=ownsRow_below h hb
theorem OwnG.nil_ (B:Nat) (w:World):OwnG B w (.slice none 0 0) []:=World.ownsRow_nil _ _ _ _
theorem OwnG.lt (h:OwnG B w v hp):∀ q,v.ownBlock=some q→B≤q∧q<w.heap.size:=World.ownsRow.lt h
theorem OwnG.ty (h:OwnG B w v hp):∀ q,v.ownBlock=some q→HasT w q 194:=ownsRow_type h
theorem OwnG.kept {row:Option Nat} (h:OwnG B w v hp) (hg:w.grownBy w' row) (hne:v.ownBlock=none∨v.ownBlock≠row):OwnG B w' v hp:=World.ownsRow.kept h hg hne
theorem OwnG.form (h:OwnG B w v hp):∃ A c,v = .slice A hp.length c∧hp.length≤c∧c≤maxLen∧(A=none→hp=[]∧c=0):=by
  rcases h.2 with ⟨rfl,h0⟩ | ⟨g,cap,cur,rfl,_,h3,hc,hm,_⟩
  · have:hp=[]:=List.eq_nil_of_length_eq_zero h0;subst this;exact ⟨none,0,rfl,Nat.le_refl _,by decide,fun _=>⟨rfl,rfl⟩⟩
  · exact ⟨_,cap,rfl,hc,hm,(fun h=>by cases h)⟩
theorem OwnG.ask (h:OwnG B w v hp) (hn:0<hp.length):∃ q c,v = .slice (some ⟨q,0,none⟩) hp.length c∧hp.length≤c∧c≤maxLen∧B≤q∧q<w.heap.size:=by
  obtain ⟨A,c,rfl,h1,h2,h3⟩:=h.form;rcases h.2 with ⟨_,h0⟩ | ⟨g,cap,cur,he,hb,h3,hc,hm,_⟩
  · omega
  · injection he with e1 e2 e3;subst e1;subst e3;exact ⟨g,c,rfl,h1,h2,hb,(h.lt g rfl).2⟩
theorem OwnG.cell {q c:Nat} (h:OwnG B w (.slice (some ⟨q,0,none⟩) hp.length c) hp) {j g:Nat} (hj:hp[j]?=some g):w.cell? ⟨q,j,none⟩=some (.pointer (some ⟨g,0,none⟩)):=by
  obtain ⟨hl,he⟩:=List.getElem?_eq_some_iff.1 hj;rw [World.ownsRow.cellAt h j (by omega),List.getElem?_map,hj];rfl
theorem OwnG.frozen {q n c:Nat} (h:OwnG B w (.slice (some ⟨q,0,none⟩) n c) hp) (hn:n=hp.length) (j:Nat):w.frozen? ⟨q,j,none⟩=false:=by
  subst hn;exact World.ownsRow.frozenAt h j
theorem swp_eq {α:Type} {xs:List α} {i j:Nat} {a b:α} (hi:xs[i]?=some a) (hj:xs[j]?=some b):swp xs i j=(xs.set i b).set j a:=by
  unfold swp;rw [hi,hj]
theorem OwnG.swap {q c:Nat} (h:OwnG B w (.slice (some ⟨q,0,none⟩) hp.length c) hp) {i j a b:Nat} (hi:hp[i]?=some a) (hj:hp[j]?=some b) :
    OwnG B ((w.setCell ⟨q,i,none⟩ (.pointer (some ⟨b,0,none⟩))).setCell ⟨q,j,none⟩ (.pointer (some ⟨a,0,none⟩))) (.slice (some ⟨q,0,none⟩) hp.length c) (swp hp i j):=by
  rw [swp_eq hi hj];have h1:=(World.ownsRow.stored h i (PtrV b)).1;have h2:=(World.ownsRow.stored h1 j (PtrV a)).1;show World.ownsRow _ _ _ _ _ ((hp.set i b).set j a).length (((hp.set i b).set j a).map PtrV);rw [List.map_set,List.map_set,List.length_set,List.length_set];exact h2
theorem OwnG.pop {q c n:Nat} {g:Nat} (h:OwnG B w (.slice (some ⟨q,0,none⟩) (n+1) c) (hp ++ [g])) (hn:n=hp.length):OwnG B w (.slice (some ⟨q,0,none⟩) n c) hp:=by
  subst hn;refine ownsRow_pop (last:=[PtrV g]) (by simp) ?_;have h':w.ownsRow B 194 1 (.slice (some ⟨q,0,none⟩) (hp.length+1) c) (hp ++ [g]).length ((hp ++ [g]).map PtrV):=h;rw [List.length_append,List.map_append] at h';exact h'
theorem OwnG.none_ {q n c:Nat} (h:OwnG B w (.slice (some ⟨q,0,none⟩) n c) hp) (hn:n=hp.length):OwnG B w (.slice (some ⟨q,0,none⟩) 0 c) []:=by
  subst hn;rcases h.2 with ⟨h0,_⟩ | ⟨g,cap,cur,he,hb,h3,hc,hm,hs,_⟩
  · cases h0
  · injection he with e1 e2 e3;injection e1 with e1;injection e1 with e1;subst e1 e3;exact ⟨rfl,.inr ⟨q,c,cur,rfl,hb,h3,Nat.zero_le _,hm,hs,by simp⟩⟩
end
structure RKey (w:World) (g e n:Nat):Prop where
  c0:w.cell? ⟨g,0,none⟩=some (.int .u64 e)
  c5:w.cell? ⟨g,5,none⟩=some (.int .u64 n)
  lt:g<w.heap.size
theorem RKey.grown {w w':World} {g e n:Nat} {row:Option Nat} (h:RKey w g e n) (hg:w.grownBy w' row) (hne:row≠some g):RKey w' g e n:=
  have hb:=hg.block g h.lt (fun h=>hne h.symm)
  ⟨(World.cell?_of_block (w:=w) hb).trans h.c0,(World.cell?_of_block (w:=w) hb).trans h.c5,Nat.lt_of_lt_of_le h.lt hg.size⟩
structure HM (B:Nat) (w:World) (v:Value) (hp:List Nat) (E N:Nat→Nat):Prop where
  own:OwnG B w v hp
  key:∀ g ∈ hp,RKey w g (E g) (N g)
  small:∀ g ∈ hp,E g<18446744073709551616
  far:∀ g ∈ hp,v.ownBlock≠some g
section
variable {B:Nat} {w w':World} {v:Value} {hp:List Nat} {E N:Nat→Nat}
theorem HM.below (h:HM B w v hp E N) (hb:Below w.heap.size w w'):HM B w' v hp E N:=
  ⟨h.own.below hb,fun g hg=>(h.key g hg).grown (grown_of_below hb none) (by simp),h.small,h.far⟩
theorem HM.swap {q c:Nat} (h:HM B w (.slice (some ⟨q,0,none⟩) hp.length c) hp E N) {i j a b:Nat} (hi:hp[i]?=some a) (hj:hp[j]?=some b) :
    HM B ((w.setCell ⟨q,i,none⟩ (.pointer (some ⟨b,0,none⟩))).setCell ⟨q,j,none⟩ (.pointer (some ⟨a,0,none⟩))) (.slice (some ⟨q,0,none⟩) hp.length c) (swp hp i j) E N:=by
  have hp':(swp hp i j).Perm hp:=swp_perm (List.getElem?_eq_some_iff.1 hi).1 (List.getElem?_eq_some_iff.1 hj).1;exact ⟨h.own.swap hi hj,fun g hg=>(h.key g (hp'.mem_iff.1 hg)).grown (row:=some q) (grown_set (grown_set (grown_refl _ _) _ _) _ _) (h.far g (hp'.mem_iff.1 hg)),
    fun g hg=>h.small g (hp'.mem_iff.1 hg),fun g hg=>h.far g (hp'.mem_iff.1 hg)⟩
end
end Go.Proofs.YtgekmfcbbjeahaaGreatDoor
