/- A region that draws its order, whose last operation may write what the region has loaded: as the library's law on held cells, but that S need not hold behind the last operation. -/
import Derived.Test.YtgekmfcbbjeahaaGreatDoorPpR7
import Derived.Test.YtgekmfcbbjeahaaGreatDoorRows
import Derived.WalkKit
import Derived.WalkSpells
import Derived.WalkLawsBesides
import Derived.Laws.BitsAllLaws
import Derived.BigQuiet
import Derived.StillTailTactics
import Derived.Deep.RegionHeld3
import Derived.Test.YtgekmfcbbjeahaaGreatDoorShelf
import Derived.Lib.AppendIntMem
import Derived.Laws.IdiomCopy
import Derived.Lib.SmallJoins
import Derived.Laws.IdiomStrings
import Derived.Lib.LazyBuf
import Derived.Deep.LoopGhost
import Derived.Lib.ItoaNum
namespace Go.Proofs.YtgekmfcbbjeahaaGreatDoor
open Go
section
variable {P:Program} {ops:Array Oper} {Q:Exit→Act→World→Prop} {md:Region.Mode} {S:World→Prop} {L:Nat}
def wpAnyL (P : Program) (md : Region.Mode) (ops : Array Oper) (Q : Exit → Act → World → Prop) (S : World → Prop) (L : Nat) : Nat → Array Bool → Act → World → Prop
  | 0,listed,a,w=>Region.ready md ops listed=[]∧Q .normal a w
  | fuel + 1, listed, a, w =>
    (Region.ready md ops listed=[]→Q .normal a w) ∧
    ∀ i ∈ Region.ready md ops listed,wpOp P ops Q i (fun a' w'=>((listed.setIfInBounds i true).getD L true=false→S w')∧wpAnyL P md ops Q S L fuel (listed.setIfInBounds i true) a' w') a w
theorem wpAny_of_last:∀ (fuel:Nat) (listed:Array Bool) (a:Act) (w:World),wpAnyL P md ops Q S L fuel listed a w→wpAny P md ops Q fuel listed a w
  | 0,_,_,_,h=>h
  | fuel+1,_,_,_,h=>⟨h.1,fun i hi=>wpOp_mono (fun a' w' h'=>wpAny_of_last fuel _ a' w' h'.2) (h.2 i hi)⟩
def waits (md:Region.Mode) (ops:Array Oper) (L i:Nat):Bool:=match ops[L]? with
  | some o=>o.after.any fun e=>Region.binds md e && e.on == i
  | none=>false
theorem waits_ne {i:Nat} {listed:Array Bool} (hw:waits md ops L i=true) (hr:i ∈ Region.ready md ops listed):L ∉ Region.ready md ops listed:=fun hL=>by
  obtain ⟨_,oL,hoL,hall⟩:=mem_ready.1 hL;unfold waits at hw;rw [hoL] at hw;obtain ⟨e,he,hb⟩:=Array.any_eq_true'.1 hw;simp at hb;have h1:=hall e he hb.1;have h0:=(mem_ready.1 hr).1;rw [hb.2] at h1;rcases Nat.lt_or_ge i listed.size with h' | h'
  · simp [h'] at h0 h1;rw [h0] at h1;cases h1
  · simp [Array.getElem?_eq_none h'] at h1
theorem wpAnyL_first {i : Nat} {oi : Oper} {v : Value} (hi : ops[i]? = some oi) (hsel : ∀ (j : Nat) (o : Oper) cs b, ops[j]? = some o → o.op ≠ .select cs b)
    (hQ:∀ c a w,Q (.panic c) (a.put oi.dst v) w→Q (.panic c) a w) :
    ∀ (fuel : Nat) (listed : Array Bool) (a : Act) (w : World), listed.getD L true = false → waits md ops L i = true →
      (∀ j oj,ops[j]?=some oj→j≠i→listed.getD j true=false→(∀ e ∈ oj.after,Region.binds md e=true→e.on≠i)→oi.apart ops oj=true) →
      i ∈ Region.ready md ops listed→YieldsIf P ops S oi v a→S w →
      wpAnyL P md ops Q S L fuel (listed.setIfInBounds i true) (a.put oi.dst v) w→wpAnyL P md ops Q S L (fuel+1) listed a w:=by
  intro fuel
  induction fuel with
  | zero =>
    intro listed a w hl hw _ hr hy hS H;refine ⟨fun h=>(by rw [h] at hr;cases hr),fun j hj=>?_⟩
    by_cases hji:j=i
    · subst hji;exact hy.wpOp hi hS ⟨fun _=>hS,H⟩
    · have:=ready_mono hj hji;rw [H.1] at this;cases this
  | succ fuel ih =>
    intro listed a w hl hw hfree hr hy hS H;refine ⟨fun h=>(by rw [h] at hr;cases hr),fun j hj=>?_⟩
    by_cases hji:j=i
    · subst hji;exact hy.wpOp hi hS ⟨fun _=>hS,H⟩
    · have h1:=H.2 j (ready_mono hj hji);obtain ⟨hjun,oj,hoj,hall⟩:=mem_ready.1 hj;have hnot:∀ e ∈ oj.after,Region.binds md e=true→e.on≠i:=fun e he hb heq=>by
        have h1:=hall e he hb;have h0:=(mem_ready.1 hr).1;rw [heq] at h1;rcases Nat.lt_or_ge i listed.size with h' | h'
        · simp [h'] at h0 h1;rw [h0] at h1;cases h1
        · simp [Array.getElem?_eq_none h'] at h1
      have h2:=wpOp_putIf hoj (hfree j oj hoj hji hjun hnot) (fun cs b=>hsel i oi cs b hi) (fun cs b=>hsel j oj cs b hoj) hQ hy h1;have hfree':∀ k ok,ops[k]?=some ok→k≠i→(listed.setIfInBounds j true).getD k true=false →
          (∀ e ∈ ok.after,Region.binds md e=true→e.on≠i)→oi.apart ops ok=true:=fun k ok hk hki hun hno=>by
        refine hfree k ok hk hki ?_ hno
        by_cases hjk:j=k
        · subst hjk;exact hjun
        · rw [getD_set_ne true hjk] at hun;exact hun
      have hri:i ∈ Region.ready md ops (listed.setIfInBounds j true):=ready_mono hr (Ne.symm hji);have hjL:j≠L:=fun e=>waits_ne hw hr (e ▸ hj)
      have hiL:i≠L:=fun e=>waits_ne hw hr (e ▸ hr)
      have hl1:(listed.setIfInBounds j true).getD L true=false:=by rw [getD_set_ne true hjL];exact hl
      have hl2:((listed.setIfInBounds i true).setIfInBounds j true).getD L true=false:=by rw [getD_set_ne true hjL,getD_set_ne true hiL];exact hl
      refine wpOp_mono (fun a' w' h3=>⟨fun _=>h3.2.1 hl2,ih (listed.setIfInBounds j true) a' w' hl1 hw hfree' hri h3.1 (h3.2.1 hl2) ?_⟩) h2;rw [Array.setIfInBounds_comm _ _ hji];exact h3.2.2
theorem wpAnyL_take {i:Nat} {oi:Oper} {v:Value} {fuel:Nat} {listed:Array Bool} {a:Act} {w:World} (hi:ops[i]?=some oi)
    (hs:Region.noSelect ops=true) (hf:Region.free md ops listed i=true) (hr:(Region.ready md ops listed).contains i=true)
    (hQ:∀ c a w,Q (.panic c) (a.put oi.dst v) w→Q (.panic c) a w) (hl:listed.getD L true=false) (hw:waits md ops L i=true) (hy:YieldsIf P ops S oi v a) (hS:S w)
    (h:wpAnyL P md ops Q S L fuel (listed.setIfInBounds i true) (a.put oi.dst v) w):wpAnyL P md ops Q S L (fuel+1) listed a w:=
  wpAnyL_first hi (Region.noSelect_spec hs) hQ fuel listed a w hl hw (Region.free_spec hi hf) (by simpa using hr) hy hS h
theorem wpAnyL_done {listed:Array Bool} {a:Act} {w:World} (hr:Region.ready md ops listed=[]) (h:Q .normal a w):∀ fuel,wpAnyL P md ops Q S L fuel listed a w
  | 0=>⟨hr,h⟩
  | _+1=>⟨fun _=>h,by rw [hr];simp⟩
theorem wpAnyL_next {fuel:Nat} {listed:Array Bool} {a:Act} {w:World} (i:Nat) {o:Oper} (hr:Region.ready md ops listed=[i]) (ho:ops[i]?=some o)
    (h:∀ K':Act→World→Prop,Shut (∀ a w,S w→(S w→wpAnyL P md ops Q S L fuel (listed.setIfInBounds i true) a w)→K' a w)→if Region.wanted o (yielded ops a.tmps)=true then Oper.wp P o a w K' Q else K' (a.put o.dst undef) w):wpAnyL P md ops Q S L (fuel+1) listed a w:=
  ⟨fun h0=>(by rw [hr] at h0;cases h0),by
    rw [hr];intro j hj;obtain rfl:j=i:=by simpa using hj
    exact wpOp_step ho (fun K' hK=>h K' (fun a w hS hW=>hK a w ⟨fun _=>hS,hW hS⟩))⟩
theorem wpAnyL_last {fuel:Nat} {listed:Array Bool} {a:Act} {w:World} {o:Oper} (hr:Region.ready md ops listed=[L]) (hl:(listed.setIfInBounds L true).getD L true=true) (hr2:Region.ready md ops (listed.setIfInBounds L true)=[]) (ho:ops[L]?=some o)
    (h:∀ K':Act→World→Prop,Shut (∀ a w,Q .normal a w→K' a w)→if Region.wanted o (yielded ops a.tmps)=true then Oper.wp P o a w K' Q else K' (a.put o.dst undef) w):wpAnyL P md ops Q S L (fuel+1) listed a w:=
  ⟨fun h0=>(by rw [hr] at h0;cases h0),by
    rw [hr];intro j hj;obtain rfl:j=L:=by simpa using hj
    exact wpOp_step ho (fun K' hK=>h K' (fun a w hq=>hK a w ⟨fun hne=>(by rw [hl] at hne;cases hne),wpAnyL_done hr2 hq _⟩))⟩
theorem wp_region_last (L:Nat) {id:Nat} {a:Act} {w:World} (hm:P.follows .mixedOrders=true) (hS:S w.drew)
    (h:S w.drew→wpAnyL P .any ops Q S L ops.size (Array.replicate ops.size false) a w.drew):(Code.region id ops true).wp P Q a w:=
  wp_region_any hm (wpAny_of_last _ _ _ _ (h hS))
end
end Go.Proofs.YtgekmfcbbjeahaaGreatDoor
/- nat.Text: the decimal digits of a valid magnitude; it leans on the library's contract for strconv.AppendUint. -/
namespace Go.Proofs.YtgekmfcbbjeahaaGreatDoor
open Go.RowKit V
def asN (l:List UInt8):List Nat:=l.map fun b=>b.toNat
theorem asN_len (l:List UInt8):(asN l).length=l.length:=by simp [asN]
theorem asN_cells (l:List UInt8):nums .u8 (asN l)=Lib.byteCells l:=by simp [nums,asN,Lib.byteCells]
theorem own_bytes {e:TypeId} {B:Nat} {w:World} {v:Value} {l:List UInt8}:Own .u8 e B w v (asN l)↔w.ownsRow B e 1 v l.length (Lib.byteCells l):=by
  unfold Own;rw [asN_len,asN_cells]
theorem dec_len9 {r:Nat} (h:r<1000000000):(Lib.decDigits r).length≤9:=(pad_eq 9 r (by omega) (by omega)).1
theorem dec_pos (r:Nat):0<(Lib.decDigits r).length:=by
  rw [Lib.decDigits];split <;> simp
def AppP (B:Nat) (l:List UInt8) (w:World) (e:Ending) (w':World):Prop:=
  ∃ v',e = .returned v'∧Own .u8 5 B w' v' (asN l)∧Below B w w'∧Lib.OthersKept 5 none w w'
set_option maxHeartbeats 400000 in
theorem appendUint (B u:Nat) (hu:u<1000000000) (v:Value) (l:List UInt8) (w:World) (hown:Own .u8 5 B w v (asN l)) (hB:B≤w.heap.size) (hlim:l.length≤1000000)
    (htab : Lib.TabIs Tryz.prog w "internal/strconv.uint64pow10" .u64 Lib.pow10Tab) :
    Calls Tryz.prog 173 #[v,.int .u64 u,.int .i64 10] w (AppP B (l ++ Lib.decDigits u) w):=by
  have hl:∀ v',Own .u8 5 B v' v (asN l)→v'.ownsRow B 5 1 v l.length (Lib.byteCells l):=fun _ h=>own_bytes.1 h
  have hc:Calls Tryz.prog 204 #[v,.int .u64 u,.int .i64 10] w (AppP B (l ++ Lib.decDigits u) w):=by
    have fin:∀ e w',(∃ v',e=Ending.returned v'∧w'.ownsRow B 5 1 v' (l.length+(Lib.decDigits u).length) (Lib.byteCells l ++ Lib.byteCells (Lib.decDigits u))∧Below B w w'∧Lib.OthersKept 5 none w w')→AppP B (l ++ Lib.decDigits u) w e w':=by
      rintro e w' ⟨v',he,h1,h2,h3⟩;refine ⟨v',he,own_bytes.2 ?_,h2,h3⟩;rw [List.length_append,show Lib.byteCells (l ++ Lib.decDigits u)=Lib.byteCells l ++ Lib.byteCells (Lib.decDigits u) by simp [Lib.byteCells]];exact h1
    by_cases h:u<100
    · exact (Tryz.internal_strconv_AppendUint_10_small B l.length u h v (Lib.byteCells l) w (hl w hown) hB (by omega)).mono fin
    · exact (Tryz.internal_strconv_AppendUint_10_big B l.length u (by omega) (by omega) v (Lib.byteCells l) w (hl w hown) hB (by omega) htab).mono fin
  have HC:=Lib.hid hc;clear hc hl;go_enter Tryz.func173,Tryz.ntmps173;go_wp2_with (go_at_call 204;refine HC.out.mono ?_;rintro e w1 ⟨v',rfl,h1,h2,h3⟩);go_ret;exact ⟨v',rfl,h1,h2,h3⟩
theorem below_setCells {B b:Nat} (hB:B≤b):∀ (vs:List Value) (o:Nat) (w:World),Below B w (w.setCells b o vs)
  | [],_,_=>Below.refl _ _
  | v :: r,o,w=>((Below.refl B w).setCell (p:=⟨b,o,none⟩) hB v).trans (below_setCells hB r (o+1) _)
theorem wpList_copy_cells {P:Program} {w:World} {ops:Array Oper} {rest:List Oper} {o:Oper} {a:Act} {Q:Exit→Act→World→Prop} (hgd:o.guard=none) (d s:Operand) (dT sT:TypeId)
    (ho:o.op = .call { callee:=.builtin .copy,args:=#[d,s],argTypes:=#[dT,sT] }) (elem:TypeId) (hu:P.underlying dT=some (.slice elem)) (hsz:(P.info? elem).map (·.size)=some 1)
    (b off dLen dCap:Nat) (ad:Addr) (sLen sCap:Nat) (hd:a.eval d = .slice (some ⟨b,off,none⟩) dLen dCap) (hs:a.eval s = .slice (some ad) sLen sCap) (cs:List Value) (hn:cs.length=Nat.min sLen dLen)
    (hsrc:∀ j v,cs[j]?=some v→w.cell? (ad.add j)=some v) (hc:∀ j,j<cs.length→(w.cell? ⟨b,off+j,none⟩).isSome=true) (hf:∀ j,j<cs.length→w.frozen? ⟨b,off+j,none⟩=false) (h1:∀ v ∈ cs,v.oneCell'=true)
    (h:∀ w',Hid (∀ j (hj:j<cs.length),w'.cell? ⟨b,off+j,none⟩=some cs[j])→Hid (∀ x:Addr,(x.block=b→x.spot=none→x.off<off∨off+cs.length≤x.off)→w'.cell? x=w.cell? x)→Below b w w'→wpList P ops Q rest (a.put o.dst (goInt cs.length)) w') :
    wpList P ops Q (o :: rest) a w:=by
  refine wpList_plain hgd fun K hK=>?_
  have hrun:=run_copy_cells (P:=P) w dT sT o.type elem b off dLen dCap ad sLen sCap cs hu hsz hn hsrc hc hf h1;unfold Oper.wp;simp [execOp,ho,resolve,invoke,builtin,hd,hs,hrun,Result.andThen];exact hK _ _ (h _ (fun j hj=>World.cell?_setCells_in b cs off w hc j hj) (fun x hx=>World.cell?_setCells_out b cs off w x hx) (below_setCells (Nat.le_refl _) cs off w))
theorem info_u8:(Tryz.prog.info? 5).map (fun i=>(i.zero,i.size,i.bytes))=some (some (.int .u8 0),1,1):=by kernel_rfl
theorem size_u8:(Tryz.prog.info? 5).map (·.size)=some 1:=by kernel_rfl
abbrev zeros9 (w:World):World:=w.alloc (.cells #[.int .u8 48,.int .u8 48,.int .u8 48,.int .u8 48,.int .u8 48,.int .u8 48,.int .u8 48,.int .u8 48,.int .u8 48] 5 (9,10))
theorem zeros9_cell (w:World) (j:Nat) (hj:j<9):(zeros9 w).cell? ⟨w.heap.size,j,none⟩=some (.int .u8 48):=by
  rw [World.cell?_alloc_mark]
  match j,hj with
  | 0,_=>rfl
  | 1,_=>rfl
  | 2,_=>rfl
  | 3,_=>rfl
  | 4,_=>rfl
  | 5,_=>rfl
  | 6,_=>rfl
  | 7,_=>rfl
  | 8,_=>rfl
theorem zeros9_frozen (w:World) (j:Nat) (hj:j<9):(zeros9 w).frozen? ⟨w.heap.size,j,none⟩=false:=by
  rw [World.frozen?_alloc_mark];simp;omega
theorem pad_get (r:Nat) (hr:r<1000000000) (j:Nat):(asN (pad 9 r)).getD j 0=if j<9 - (Lib.decDigits r).length then 48 else (asN (Lib.decDigits r)).getD (j - (9 - (Lib.decDigits r).length)) 0:=by
  rw [(pad_eq 9 r (by omega) (by omega)).2];simp only [asN,List.map_append,List.map_replicate,List.getD_eq_getElem?_getD]
  by_cases h:j<9 - (Lib.decDigits r).length
  · rw [if_pos h,List.getElem?_append_left (by rw [List.length_replicate];exact h),List.getElem?_replicate,if_pos h];rfl
  · rw [if_neg h,List.getElem?_append_right (by rw [List.length_replicate];omega),List.length_replicate]
theorem pad_rd (w w':World) (r n:Nat) (hr:r<1000000000) (hn:(Lib.decDigits r).length=n)
    (h1:∀ j (hj:j<(Lib.byteCells (Lib.decDigits r)).length),w'.cell? ⟨w.heap.size,9 - n+j,none⟩=some (Lib.byteCells (Lib.decDigits r))[j])
    (h2:∀ x:Addr,(x.block=w.heap.size→x.spot=none→x.off<9 - n∨9 - n+(Lib.byteCells (Lib.decDigits r)).length≤x.off)→w'.cell? x=(zeros9 w).cell? x)
    (hs:(zeros9 w).heap.size≤w'.heap.size):Rd .u8 w' (some ⟨w.heap.size,0,none⟩) (asN (pad 9 r)):=fun _=>by
  subst hn;refine ⟨_,rfl,by simp at hs;show w.heap.size<_;omega,fun j hj=>?_⟩;rw [asN_len,pad_length] at hj;have e:(⟨w.heap.size,0,none⟩:Addr).add j=⟨w.heap.size,j,none⟩:=by unfold Addr.add;split <;> simp_all
  rw [e,pad_get r hr j];have h9:=dec_len9 hr;have hbl:(Lib.byteCells (Lib.decDigits r)).length=(Lib.decDigits r).length:=Lib.byteCells_length _
  by_cases h:j<9 - (Lib.decDigits r).length
  · rw [if_pos h,h2 _ (fun _ _=>.inl h),zeros9_cell w j hj];rfl
  · rw [if_neg h];have h3:=h1 (j - (9 - (Lib.decDigits r).length)) (by omega);rw [show 9 - (Lib.decDigits r).length+(j - (9 - (Lib.decDigits r).length))=j by omega] at h3;rw [h3];have h4:=nums_get (k:=.u8) (xs:=asN (Lib.decDigits r)) (j:=j - (9 - (Lib.decDigits r).length)) (by rw [asN_len];omega);rw [asN_cells] at h4;rw [← h4,List.getElem?_eq_getElem]
def TextP (xs:List Nat) (w:World) (e:Ending) (w':World):Prop:=
  e = .returned (.tuple #[.string ⟨(Lib.decDigits (V32 xs)).toArray⟩,.int .i64 0])∧Below w.heap.size w w'
set_option maxRecDepth 100000 in
set_option maxHeartbeats 1000000 in
theorem text_any (A : Option Addr) (c : Nat) (xs : List Nat) (w : World) (hx : Rd .u32 w A xs) (mx : Mag xs) (lx : xs.length ≤ 4096)
    (htab : Lib.TabBelow Tryz.prog w.heap.size w "internal/strconv.uint64pow10" .u64 Lib.pow10Tab) :
    Calls Tryz.prog 128 #[.slice A xs.length c] w (TextP xs w):=by
  have ox:Ok xs:=⟨lx,mx.2⟩;have HT:=Lib.hid htab;clear htab;go_enter Tryz.func128,Tryz.ntmps128;go_wp2_with (first
    | (go_at_call 111;refine (valid_yes A c xs _ hx ox).mono ?_;rintro e w1 ⟨rfl,rfl⟩)
    | (go_at_call 172;fail))
  refine (tsplit_any A c xs _ hx (by omega) mx.1 mx.2).mono ?_;rintro e w2 ⟨v,bs,rfl,hownb,hbl,hbv,hbd,hbn,hblen,hb2⟩;obtain ⟨S,sc,rfl,hsc,hsr⟩:=hownb.form;obtain ⟨sd,x,rfl,hbx,ex,cx⟩:=hsr.ask (i:=bs.length - 1) (by omega);have hxl:x<1000000000:=by rw [← ex.out];exact dig_getD hbd (by omega) _
  have HBV:=Lib.hid hbv;have HBN:=Lib.hid hbn;have hnil:Own .u8 5 w2.heap.size w2 (.slice none 0 0) (asN []):=Own.nil_;have htab2:=(HT.out.on hb2).here;clear hbv hbn;have HT2:=Lib.hid htab2;clear htab2;go_wp2_with fail;refine (appendUint w2.heap.size x hxl _ [] _ hnil (Nat.le_refl _) (by simp) HT2.out).mono ?_;rintro e w3 ⟨tv,rfl,hownt,hb3,hok3⟩;go_wp2;have hlow:Hid (Lib.decDigits x=Lib.decDigits (val 1000000000 (bs.drop (bs.length - 1)))):=by
    show _=_;rw [val_drop _ bs _ (by omega),ex.out,List.drop_of_length_le (by omega)];simp [val]
  have hl9:=dec_len9 hxl;go_loopw [6,7,8,9] (fun v i _ _ wr=>∃ j:Int,∃ l:List UInt8,-1≤j∧j<bs.length - 1∧i = .int .i64 j∧Own .u8 5 w2.heap.size wr v (asN l)∧l=Lib.decDigits (val 1000000000 (bs.drop (j+1).toNat)) ∧
      (l.length:Int)+9*(j+1)≤9*bs.length∧Below w2.heap.size w2 wr) (fun _ i _ _ _=>(intOf i+1).toNat)
  case atStart=>exact ⟨_,Lib.decDigits x,by omega,by omega,rfl,hownt,by rw [hlow.out];congr 3;omega,by omega,hb3⟩
  case round=>
    obtain ⟨j,l,hj,hjl,rfl,hown,hl,hll,hbw⟩:=hrel;have HL:=Lib.hid hl;clear hl hownt hok3 hb3
    by_cases h0:j<0
    · have hfin:l=Lib.decDigits (V32 xs):=by rw [HL.out,show (j+1).toNat=0 by omega,List.drop_zero,HBV.out]
      have hlp:0<l.length:=by rw [hfin];exact dec_pos _
      have HF:=Lib.hid hfin;clear hfin;obtain ⟨T,tc,rfl,htc,htr,hsh⟩:=hown.shapeN (asN_len l);obtain ⟨tg,rfl,htg⟩:=hsh hlp;have hcell:∀ i (hi:i<l.length),wr.cell? ((⟨tg,0,none⟩:Addr).add i)=some (.int .u8 (l[i].toNat:Int)):=fun i hi=>by
        obtain ⟨ad,e,_,hc⟩:=htr (by rw [asN_len];exact hlp);injection e with e;subst e;rw [hc i (by rw [asN_len];exact hi)];simp [asN,List.getD_eq_getElem?_getD,List.getElem?_eq_getElem hi]
      have hcv:=run_convert_bytes_back (P:=Tryz.prog) wr 71 9 5 ⟨tg,0,none⟩ tc l Tryz.underlying71 Tryz.underlying5 Tryz.underlying9 hcell;clear hcell hsh;go_wp2;go_ret2;exact ⟨congrArg (fun q:List UInt8=>Ending.returned (.tuple #[.string ⟨q.toArray⟩,.int .i64 0])) HF.out,hb2.trans (hbw.mono hb2.size)⟩
    · obtain ⟨k,rfl⟩:=Int.eq_ofNat_of_zero_le (show 0≤j by omega);obtain ⟨sd',r,hse,hbr,er,cr⟩:=(hsr.below hbw).ask (i:=k) (by omega);injection hse with hse;subst hse;have hrl:r<1000000000:=by rw [← er.out];exact dig_getD hbd (by omega) _
      have hdl:=dec_len9 hrl;have hdp:=dec_pos r;have HT4:=Lib.hid ((HT.out.on (hb2.trans (hbw.mono hb2.size))).here);go_wp2_with fail;refine (appendUint wr.heap.size r hrl _ [] _ Own.nil_ (Nat.le_refl _) (by simp) HT4.out).mono ?_;rintro e w4 ⟨dv,rfl,hownd,hb4,hok4⟩;rw [List.nil_append] at hownd;obtain ⟨n,hn⟩:∃ n,Hid ((asN (Lib.decDigits r)).length=n):=⟨_,rfl⟩;obtain ⟨D,dc,rfl,hdc,hrd,hshd⟩:=hownd.shapeN hn.out;have hn1:1≤n:=by rw [← hn.out,asN_len];exact hdp
      have hn9:n≤9:=by rw [← hn.out,asN_len];exact hdl
      clear hdp hdl;obtain ⟨dg,rfl,hdg⟩:=hshd (by omega);clear hshd;have hcs:=Go.Joins.run_convert_bytes_const_at (P:=Tryz.prog) w4 71 5 #[.int .u8 48,.int .u8 48,.int .u8 48,.int .u8 48,.int .u8 48,.int .u8 48,.int .u8 48,.int .u8 48,.int .u8 48] 9 9 w4.heap.size rfl Tryz.underlying71 Tryz.underlying5;have hdn:(Lib.byteCells (Lib.decDigits r)).length=n:=by rw [Lib.byteCells_length,← asN_len];exact hn.out
      have HDN:=Lib.hid hdn;have HZC:Hid (∀ j,j<(Lib.byteCells (Lib.decDigits r)).length→((zeros9 w4).cell? ⟨w4.heap.size,9 - n+j,none⟩).isSome=true):=fun j hj=>by rw [zeros9_cell w4 _ (by omega)];rfl
      have HZF:Hid (∀ j,j<(Lib.byteCells (Lib.decDigits r)).length→(zeros9 w4).frozen? ⟨w4.heap.size,9 - n+j,none⟩=false):=fun j hj=>zeros9_frozen w4 _ (by omega)
      have HSRC:Hid (∀ j v,(Lib.byteCells (Lib.decDigits r))[j]?=some v→(zeros9 w4).cell? ((⟨dg,0,none⟩:Addr).add j)=some v):=fun j v hv=>by
        obtain ⟨ad,e,_,hc⟩:=(hrd.alloc (.cells #[.int .u8 48,.int .u8 48,.int .u8 48,.int .u8 48,.int .u8 48,.int .u8 48,.int .u8 48,.int .u8 48,.int .u8 48] 5 (9,10))) (by have:=hn.out;omega);injection e with e;subst e;have hj:j<(asN (Lib.decDigits r)).length:=by
          rcases Nat.lt_or_ge j (Lib.byteCells (Lib.decDigits r)).length with h | h
          · rw [asN_len,← Lib.byteCells_length];exact h
          · rw [List.getElem?_eq_none h] at hv;cases hv
        rw [← asN_cells,nums_get hj] at hv;rw [← hv];exact hc j hj
      have HONE:Hid (∀ v ∈ Lib.byteCells (Lib.decDigits r),v.oneCell'=true):=fun v hv=>by
        unfold Lib.byteCells at hv;obtain ⟨q,_,rfl⟩:=List.mem_map.1 hv;rfl
      have HMIN:Hid ((Lib.byteCells (Lib.decDigits r)).length=Nat.min n (9 - (9 - n))):=by show _=_;rw [hdn];show n=min n (9 - (9 - n));omega
      clear hdn;have HNL:Hid ((Lib.decDigits r).length=n):=by show _=_;rw [← asN_len];exact hn.out
      have HPL:Hid ((asN (pad 9 r)).length=9):=by show _=_;rw [asN_len,pad_length]
      have hlen:(asN l).length+9≤1000000:=by rw [asN_len];omega
      have HLEN:=Lib.hid hlen;have hsz4:=hb4.size;clear hlen;go_wp2_with (first
        | (with_reducible refine wpList_copy_cells rfl (.tmp 42) (.tmp 43) 71 71 rfl 5 Tryz.underlying71 size_u8 w4.heap.size (9 - n) _ _ ⟨dg,0,none⟩ _ _ rfl rfl (Lib.byteCells (Lib.decDigits r)) HMIN.out HSRC.out HZC.out HZF.out HONE.out ?_;intro w5 hin5 hout5 hb5;have hrd5:=pad_rd w4 w5 r n hrl HNL.out hin5.out hout5.out hb5.size;have hb45:Below wr.heap.size wr w5:=(hb4.alloc hsz4 _).trans (hb5.mono hsz4);have hown5:=hown.kept hb45;have hbw5:=hbw.trans (hb45.mono hbw.size);clear hin5 hout5)
        | (at_builtin;refine wpList_appN rfl (.tmp 45) (.tmp 46) 71 5 rfl .u8 1 info_u8 Tryz.underlying71 (by omega) w2.heap.size _ (asN l) (asN (pad 9 r)) rfl hown5 ⟨w4.heap.size,0,none⟩ 9 9 HPL.out rfl hrd5 hbw5 (Nat.le_refl _) HLEN.out ?_;intro v' w6 hown6 hb6))
      go_roundw
      case rel=>
        refine ⟨_,l ++ pad 9 r,by omega,by omega,rfl,by rw [show asN (l ++ pad 9 r)=asN l ++ asN (pad 9 r) by simp [asN]];exact hown6,?_,by rw [List.length_append,pad_length];omega,hb6⟩;have h1:=blocks_text bs hbd k (by omega) (drop_pos (HBN.out (by omega)) (k+1) (by omega));rw [er.out] at h1;rw [show ((k:Int) - 1+1).toNat=k by omega,h1,HL.out,show ((k:Int)+1).toNat=k+1 by omega]
      case measure=>simp [intOf]
end Go.Proofs.YtgekmfcbbjeahaaGreatDoor
/- nat.DivMod over nat.divide's contract; isochronelaw01.awake answers true. -/
namespace Go.Proofs.YtgekmfcbbjeahaaGreatDoor
open Go.RowKit V
abbrev lit (w:World) (xs:List Nat):World:=w.alloc (.cells (nums .u32 xs).toArray 140)
theorem below_drew_ {B:Nat} {a w:World} (h:Below B a w) (n:Nat):Below B a (w.drewN n):=⟨h.os,h.tape,h.output,h.size,h.block⟩
theorem mag_one (a:Nat) (h:a<4294967296) (h0:a≠0):Mag [a]:=⟨fun x hx=>by simp at hx;omega,fun _=>by simpa using h0⟩
theorem V32_one (a:Nat):V32 [a]=a:=by unfold V32;simp [val]
theorem V32_two (a b:Nat):V32 [a,b]=a+4294967296*b:=by unfold V32;simp [val]
end Go.Proofs.YtgekmfcbbjeahaaGreatDoor
/- isochronelaw01.NatRing answers true for all slices. -/
namespace Go.Proofs.YtgekmfcbbjeahaaGreatDoor
open Go.RowKit V
theorem FitP.small {Q:List Nat→Prop} {w w':World} {e:Ending} (h:FitP Q w e w') (hq:∀ zs,Q zs→zs.length≤4096):OkP Q w e w':=by
  obtain ⟨A,c,zs,h1,h2,h3,h4,h5⟩:=h;have:=hq zs h4;rcases h5 with h5 | h5
  · exact ⟨A,c,zs,h1,h2,h3,h4,h5.2⟩
  · omega
theorem V32_lt {xs:List Nat} (hx:Mag xs) {k:Nat} (h:xs.length≤k):V32 xs<4294967296 ^ k:=
  Nat.lt_of_lt_of_le (val_lt 4294967296 xs hx.1) (Nat.pow_le_pow_right (by omega) h)
end Go.Proofs.YtgekmfcbbjeahaaGreatDoor
/- nat.From and isochroneref01.Int: the number of a machine's word. -/
namespace Go.Proofs.YtgekmfcbbjeahaaGreatDoor
open Go.RowKit V
theorem rd_two (w:World) (r s:Nat):Rd .u32 (w.alloc (.cells #[.int .u32 (r:Nat),.int .u32 (s:Nat)] 140)) (some ⟨w.heap.size,0,none⟩) [r,s]:=(Row.new (k:=.u32) (t:=140) w [r,s]).rd
set_option maxHeartbeats 400000 in
theorem from_any (n:Nat) (w:World) (hn:n<18446744073709551616) :
    Calls Tryz.prog 217 #[.int .u64 n] w (OutP .u32 (fun zs=>V32 zs=n∧Mag zs∧zs.length≤2) w):=by
  obtain ⟨a,b,ha,hb,e1,e2,hv⟩:∃ a b:Nat,a<4294967296∧b<4294967296∧(n:Int) % 4294967296=a∧(n:Int) / 4294967296 % 4294967296=b∧Hid (n=a+4294967296*b):=
    ⟨n % 4294967296,n / 4294967296,Nat.mod_lt _ (by omega),by omega,by omega,by omega,by show _=_;omega⟩
  have hr:=rd_two w a b;clear hn;go_enter Tryz.func217,Tryz.ntmps217;go_wp2_with fail;refine (trim_u32n (some ⟨w.heap.size,0,none⟩) 2 2 [a,b] _ rfl hr (by omega) (by omega)).mono ?_;rintro e w1 ⟨m,hm,rfl,hv3,hn3,rfl⟩;have HV3:=Lib.hid hv3;clear hv3;go_wp2;go_ret;exact OutP.of_take (fin:=[a,b]) hm (by simpa using hm) hr ((Below.refl _ _).alloc (Nat.le_refl _) _) ⟨by show val 4294967296 _=n;rw [HV3.out,hv.out];simp [val],⟨fun x hx=>by
    have:=List.mem_of_mem_take hx;simp at this;omega,hn3⟩,by rw [List.length_take];exact Nat.min_le_right _ 2⟩
theorem int_len {xs:List Nat} (hn:Nm xs) {n:Nat} (hv:VD xs=n) (h:n<10000 ^ 5):xs.length≤5:=
  len_of_lt (B:=10000) (by omega) hn.2 (by show VD xs<_;rw [hv];exact h)
theorem pow_len {k N:Nat} (h:10000 ^ k≤N) (hN:N<10000 ^ 5):k≤4:=by
  rcases Nat.lt_or_ge 4 k with h1 | h1
  · have:=Nat.pow_le_pow_right (n:=10000) (by omega) (show 5≤k by omega);omega
  · exact h1
set_option maxHeartbeats 400000 in
theorem int_any (n : Nat) (w : World) (hn : n ≤ 9223372036854775807) :
    Calls Tryz.prog 89 #[.int .i64 n] w (OutP .i64 (fun zs=>VD zs=n∧Nm zs∧zs.length≤5) w):=by
  obtain ⟨N,HN⟩:∃ N,Hid (n=N):=⟨_,rfl⟩;go_enter Tryz.func89,Tryz.ntmps89;go_wp2;go_loopw [0,3] (fun nv v wr=>∃ m:Nat,∃ out:List Nat,nv = .int .i64 m∧m≤9223372036854775807∧val 10000 out+10000 ^ out.length*m=N∧Dig 10000 out∧(m=0→Nrm out) ∧
      Own .i64 3 w.heap.size wr v out∧Below w.heap.size w wr) (fun nv _ _=>(intOf nv).toNat)
  case atStart=>exact ⟨n,[],rfl,hn,by rw [← HN.out];simp [val],fun _ h=>by simp at h,fun _=>nrm_nil,Own.made (Nat.le_refl _) 0 (by omega),(Below.refl _ _).alloc (Nat.le_refl _) _⟩
  case round=>
    obtain ⟨m,out,rfl,hm,hv,hdo,hnz,hown,hbw⟩:=hrel;have HV:=Lib.hid hv;have HZ:=Lib.hid hnz;clear hv hnz
    by_cases h0:m=0
    · subst h0;obtain ⟨O,oc,rfl,hoc,hro⟩:=hown.form;clear hown;go_wp2;go_ret;have hval:VD out=n:=by have:=HV.out;rw [HN.out];show val 10000 out=N;simpa using this
      exact ⟨O,oc,out,rfl,hoc,hro,hbw,hval,⟨hdo,HZ.out trivial⟩,int_len ⟨hdo,HZ.out trivial⟩ hval (by omega)⟩
    · have hlen:out.length≤4:=by
        have h1:=HV.out;have h2:10000 ^ out.length*1≤10000 ^ out.length*m:=Nat.mul_le_mul_left _ (by omega);have h3:=HN.out;exact pow_len (N:=N) (by omega) (by omega)
      obtain ⟨s,c2,hs,hc2,hlt2,hsc,es,ec⟩:∃ s c2:Nat,s<10000∧c2≤9223372036854775807∧c2<m∧Hid (s+10000*c2=m)∧Hid ((m:Int) % 10000=s)∧Hid ((m:Int) / 10000=c2):=
        ⟨m % 10000,m / 10000,Nat.mod_lt _ (by omega),by omega,by omega,Nat.mod_add_div _ _,by show _=_;omega,by show _=_;omega⟩
      go_wp2_with (at_builtin;refine wpList_app1 rfl (.tmp 7) (.tmp 10) 44 3 rfl .i64 8 info_i64 Tryz.underlying44 (by omega) _ _ out _ s es.out rfl hown rfl hbw (Nat.le_refl _) (by omega) ?_;intro v' w' hown' hbw');go_roundw
      case rel=>exact ⟨c2,out ++ [s],by rw [ec.out],hc2,flush_step 10000 s m c2 _ out hsc.out HV.out,hdo.snoc hs,fun h=>nrm_snoc (by have:=hsc.out;omega),hown',hbw'⟩
      case measure=>simp [intOf];omega
end Go.Proofs.YtgekmfcbbjeahaaGreatDoor
/- What the functions of nat answer where an argument is no valid magnitude. -/
namespace Go.Proofs.YtgekmfcbbjeahaaGreatDoor
open Go.RowKit V
set_option maxHeartbeats 400000 in
theorem valid_no (A:Option Addr) (c:Nat) (xs:List Nat) (w:World) (hx:Rd .u32 w A xs) (ok:¬ Ok xs) :
    Calls Tryz.prog 111 #[.slice A xs.length c] w fun e w'=>e = .returned (.bool false)∧w=w':=by
  by_cases hl:xs.length≤4096
  · have ok2:¬ Nrm xs:=fun h=>ok ⟨hl,h⟩
    have h0:1≤xs.length:=by
      rcases Nat.eq_zero_or_pos xs.length with h | h
      · exact absurd (fun hh=>by omega) ok2
      · exact h
    have hb:((xs.length:Int) == 0)=false:=beq_eq_false_iff_ne.2 (by omega);obtain ⟨ad,x,rfl,hbx,ex,cx⟩:=hx.ask (i:=xs.length - 1) (by omega);have hx0:x=0:=by
      rcases Nat.eq_zero_or_pos x with h | h
      · exact h
      · exact absurd (fun _=>by rw [ex.out];omega) ok2
    subst hx0;clear ok2 ok;go_enter Tryz.func111,Tryz.ntmps111;go_wp2;go_ret;exact ⟨rfl,rfl⟩
  · have hb:((xs.length:Int) == 0)=false:=beq_eq_false_iff_ne.2 (by omega);clear ok;go_enter Tryz.func111,Tryz.ntmps111;go_wp2;go_ret;exact ⟨rfl,rfl⟩
def Plain (v:Value) (w:World) (e:Ending) (w':World):Prop:=e = .returned v∧w=w'
end Go.Proofs.YtgekmfcbbjeahaaGreatDoor
