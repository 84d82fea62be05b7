/- What every row of this seat needs: a slice of words that came in reads as a list; the listed tables as the contracts ask for them. -/
import Derived.Test.YtgekmfcbbjeahaaGreatDoorPpR46
import Derived.Lib.LazyBuf
import Derived.Deep.LoopGhost
import Derived.Lib.ItoaNum
import Derived.Test.YtgekmfcbbjeahaaGreatDoorShelf
import Derived.Lib.AppendIntMem
import Derived.Laws.IdiomCopy
import Derived.Lib.SmallJoins
import Derived.Laws.IdiomStrings
import Derived.ProofKit
import Derived.LaidMore
import Derived.OpenShut
import Derived.Stop.Joined
import Derived.Stop.LaidErr
import Derived.Test.YtgekmfcbbjeahaaGreatDoorRows
import Derived.Below
import Derived.Laws.OwnMore
import Derived.Laws.MakeOwn
import Derived.Deep.AppendLies
import Derived.Deep.Draws
import Derived.Laws.Rows
import Derived.Lib.Hide
import Derived.Deep.QuietTactic
import Derived.WalkKit
import Derived.WalkSpells
import Derived.WalkLawsBesides
import Derived.Laws.BitsAllLaws
import Derived.BigQuiet
import Derived.StillTailTactics
import Derived.Deep.Slices
import Derived.Deep.Strs
import Derived.ChangeSame
namespace Go.Proofs.YtgekmfcbbjeahaaGreatDoor
open Go.ChangeShapes Go.WideShapes Go.ChangeAt Go.WideMaps Go.WideElems Go.RowKit V
theorem own_:ownKnob Tryz.prog.godebug=none:=by kernel_rfl
theorem laidOut_:laidOutB Tryz.prog=true:=by kernel_rfl
theorem gPow : Tryz.prog.globalNamed "internal/strconv.uint64pow10" = some 1 := by kernel_rfl
theorem tPow:(Tryz.prog.globals[1]?).map (·.type)=some 267:=by kernel_rfl
theorem ceU64:Tryz.prog.cellsOf 112=1:=by kernel_rfl
theorem ctPow:Tryz.prog.cellsOf 267=20:=by kernel_rfl
def laid3 : List (String × DataW Unit) := [("math/bits.deBruijn32tab", Rows.laid_math_bits_deBruijn32tab), ("math/bits.deBruijn64tab", Rows.laid_math_bits_deBruijn64tab), ("internal/strconv.uint64pow10", Rows.laid_internal_strconv_uint64pow10)]
theorem door_met (os:Os) (args:Array Value):laidMetH Tryz.prog laid3 ((World.doorLaid Tryz.prog 400 os).forCall (fun _ _=>0) ⟨#[],args,[]⟩).memory:=
  laidMetH_of_parts3 (fuel:=8) (laidMet_of_run' 8 (by kernel_rfl) (by kernel_rfl)) (by kernel_rfl) (by kernel_rfl)
theorem tab_of_laid {W : World} (h : laidMetH Tryz.prog laid3 W) : Lib.TabBelow Tryz.prog W.heap.size W "internal/strconv.uint64pow10" .u64 Lib.pow10Tab := by
  rw [MakeChecks.laidMetH_plain _ _ _ (by kernel_rfl)] at h
  have h2 : laidMet Tryz.prog (("internal/strconv.uint64pow10", Lib.tabData .u64 Lib.pow10Tab) :: []) W := h.tail.tail
  exact Lib.tabBelow_of_tabIs (Lib.tabIs_of_head gPow tPow Tryz.underlying267 Tryz.underlying112 ceU64 ctPow h2)
def InWords (w:World) (a:Option Addr) (len:Nat) (xs:List Nat):Prop:=xs.length=len∧Rd .u32 w a xs∧Dig 4294967296 xs
theorem cell_lt {w:World} {a:Addr} {v:Value} (h:w.cell? a=some v):a.block<w.heap.size:=by
  rcases Nat.lt_or_ge a.block w.heap.size with h1 | h1
  · exact h1
  · unfold World.cell? at h;rw [Array.getElem?_eq_none h1] at h;cases h
theorem bounds_u32' {n:Int} (h:(Lit.int .u32 n).wf=true):0≤n∧n≤4294967295:=by
  simp [Lit.wf,IntKind.min,IntKind.max,IntKind.signed,IntKind.bits] at h;omega
theorem inWords {H : Type} {enc : TypeId × Value → H} {W : World} {a : Option Addr} {len cap fuel : Nat} {x : DataW H × List MemPlace}
    (hf:DataW.trod enc Tryz.prog W 0 (fun _=>true) true fuel 25 (Value.slice a len cap).cells.toList=some x):∃ xs,InWords W a len xs:=by
  rcases open_ints Tryz.underlying25 Tryz.underlying140 (by kernel_rfl) hf with ⟨hcs,_⟩ | ⟨x,l,c,zs,hcs,_,hl,hm,hz,_,hcell,hwz⟩
  · simp [Value.cells] at hcs;obtain ⟨rfl,rfl,rfl⟩:=hcs;exact ⟨[],rfl,Rd.nil_,fun _ h=>by simp at h⟩
  · simp [Value.cells] at hcs; obtain ⟨rfl, rfl, rfl⟩ := hcs; have hzl : zs.length = cap := by simpa using hz
    have hget:∀ j,j<len→zs.getD j 0 ∈ zs:=fun j hj=>by
      rw [List.getD_eq_getElem?_getD,List.getElem?_eq_getElem (by omega)];exact List.getElem_mem _
    refine ⟨(zs.take len).map Int.toNat,by rw [List.length_map,List.length_take,Nat.min_eq_left (by omega)],fun hn=>?_,fun y hy=>?_⟩
    · rw [List.length_map, List.length_take, Nat.min_eq_left (by omega)] at hn; refine ⟨x, rfl, ?_, fun j hj => ?_⟩
      · have:=cell_lt (hcell 0 (by omega));rwa [block_of_add] at this
      · rw [List.length_map,List.length_take,Nat.min_eq_left (by omega)] at hj;rw [hcell j (by omega)];have hb:=bounds_u32' (hwz _ (hget j hj));have e:((zs.take len).map Int.toNat).getD j 0=(zs.getD j 0).toNat:=by
          simp [List.getD_eq_getElem?_getD,hj,List.getElem?_eq_getElem (show j<zs.length by omega)]
        rw [e,Int.toNat_of_nonneg hb.1]
    · obtain ⟨z,hz',rfl⟩:=List.mem_map.1 hy;have hb:=bounds_u32' (hwz z (List.mem_of_mem_take hz'));omega
end Go.Proofs.YtgekmfcbbjeahaaGreatDoor
/- A slice of words that came in, with its length within its capacity. -/
namespace Go.Proofs.YtgekmfcbbjeahaaGreatDoor
open Go.ChangeShapes Go.WideShapes Go.ChangeAt Go.WideMaps Go.WideElems Go.RowKit V
theorem inWordsC {H:Type} {enc:TypeId × Value→H} {W:World} {a:Option Addr} {len cap fuel:Nat} {x:DataW H × List MemPlace}
    (hf:DataW.trod enc Tryz.prog W 0 (fun _=>true) true fuel 25 (Value.slice a len cap).cells.toList=some x):len≤cap:=by
  rcases open_ints Tryz.underlying25 Tryz.underlying140 (by kernel_rfl) hf with ⟨hcs,_⟩ | ⟨x,l,c,zs,hcs,_,hl,hm,hz,_,hcell,hwz⟩
  · simp [Value.cells] at hcs;omega
  · simp [Value.cells] at hcs;omega
end Go.Proofs.YtgekmfcbbjeahaaGreatDoor
/- A rational number that came in, with what every caller's value keeps. -/
namespace Go.Proofs.YtgekmfcbbjeahaaGreatDoor
open Go.ChangeShapes Go.WideShapes Go.ChangeAt Go.WideMaps Go.WideElems Go.RowKit V
theorem inWords1 {H:Type} {enc:TypeId × Value→H} {W:World} {v:Value} {fuel:Nat} {x:DataW H × List MemPlace}
    (hf:DataW.trod enc Tryz.prog W 0 (fun _=>true) true fuel 25 [v]=some x):∃ A c xs,v = .slice A (xs:List Nat).length c∧Rd .u32 W A xs∧Dig 4294967296 xs∧xs.length≤c:=by
  rcases open_ints Tryz.underlying25 Tryz.underlying140 (by kernel_rfl) hf with ⟨hcs,_⟩ | ⟨a,l,c,zs,hcs,hx,hl,hm,hz,h1,hcell,hwz⟩
  · have h0:v = .slice none 0 0:=by simpa using hcs
    subst h0;exact ⟨none,0,[],rfl,Rd.nil_,fun _ h=>by simp at h,Nat.le_refl _⟩
  · have h0:v = .slice (some a) l c:=by simpa using hcs
    subst h0;have hf2:DataW.trod enc Tryz.prog W 0 (fun _=>true) true fuel 25 (Value.slice (some a) l c).cells.toList=some x:=by simpa [Value.cells] using hf
    obtain ⟨xs,rfl,hr,hd⟩:=inWords hf2;exact ⟨some a,c,xs,rfl,hr,hd,inWordsC hf2⟩
set_option maxRecDepth 100000 in
theorem open_rat {H:Type} {enc:TypeId × Value→H} {W:World} {base:Nat} {v:Value} {d:DataW H} {p:List MemPlace} (hv:Value.okWide Tryz.prog W .any base 27 v)
    (h:DataW.Trod enc Tryz.prog W 0 (fun _=>true) true 27 v d p):∃ a:RL,v = .agg #[.bool a.s,.slice a.N a.ns.length a.nc,.slice a.D a.ds.length a.dc]∧a.Raw W:=by
  obtain ⟨v0,v1,v2,y0,y1,y2,n,rfl,_,_,h0,h1,h2⟩:=Go.Joins.open_agg3 Tryz.underlying27 (by kernel_rfl) (by kernel_rfl) hv h;obtain ⟨b,e0,_⟩:=DataW.trod_bool Tryz.underlying4 h0;obtain ⟨N,nc,ns,rfl,rn,dn,cn⟩:=inWords1 h1;obtain ⟨D,dc,ds,rfl,rd,dd,cd⟩:=inWords1 h2;obtain rfl:v0 = .bool b:=by simpa using e0
  exact ⟨⟨b,N,nc,ns,D,dc,ds⟩,rfl,rn,rd,cn,cd,dn,dd⟩
end Go.Proofs.YtgekmfcbbjeahaaGreatDoor
/- A polynomial that came in; the four listed tables of PolyForms. -/
namespace Go.Proofs.YtgekmfcbbjeahaaGreatDoor
open Go.ChangeShapes Go.WideShapes Go.ChangeAt Go.WideMaps Go.WideElems Go.RowKit V
theorem ceInt:Tryz.prog.cellsOf 3=1:=by kernel_rfl
theorem ceInts:Tryz.prog.cellsOf 43=1:=by kernel_rfl
theorem ceRat:Tryz.prog.cellsOf 27=3:=by kernel_rfl
theorem ceMono:Tryz.prog.cellsOf 79=4:=by kernel_rfl
theorem ceBool:Tryz.prog.cellsOf 4=1:=by kernel_rfl
theorem ceU32s:Tryz.prog.cellsOf 25=1:=by kernel_rfl
theorem inInts1 {H : Type} {enc : TypeId × Value → H} {W : World} {v : Value} {fuel : Nat} {x : DataW H × List MemPlace}
    (hf:DataW.trod enc Tryz.prog W 0 (fun _=>true) true fuel 43 [v]=some x):∃ A c xs,v = .slice A (xs:List Int).length c∧RdI W A xs∧xs.length≤c:=by
  rcases open_ints Tryz.underlying43 Tryz.underlying3 ceInt hf with ⟨hcs,_⟩ | ⟨a,l,c,zs,hcs,_,hl,hm,hz,_,hcell,_⟩
  · have h0:v = .slice none 0 0:=by simpa using hcs
    subst h0;exact ⟨none,0,[],rfl,fun h=>by simp at h,Nat.le_refl _⟩
  · have h0:v = .slice (some a) l c:=by simpa using hcs
    subst h0;have hzl:zs.length=c:=by simpa using hz
    have hlen:(zs.take l).length=l:=by rw [List.length_take,Nat.min_eq_left (by omega)]
    refine ⟨some a,c,zs.take l,by rw [hlen],fun hn=>⟨a,rfl,?_,fun j y hj=>?_⟩,by rw [hlen];exact hl⟩
    · rw [hlen] at hn;have:=cell_lt (hcell 0 (by omega));rwa [block_of_add] at this
    · have hjl:j<l:=by
        have:=(List.getElem?_eq_some_iff.1 hj).1;omega
      rw [List.getElem?_take_of_lt hjl] at hj;rw [hcell j (by omega),List.getD_eq_getElem?_getD,hj];rfl
set_option maxRecDepth 100000 in
theorem inRat {H:Type} {enc:TypeId × Value→H} {W:World} {v0 v1 v2:Value} {fuel:Nat} {x:DataW H × List MemPlace}
    (hf:DataW.trod enc Tryz.prog W 0 (fun _=>true) true fuel 27 [v0,v1,v2]=some x) :
    ∃ a:RL,v0 = .bool a.s∧v1 = .slice a.N a.ns.length a.nc∧v2 = .slice a.D a.ds.length a.dc∧a.Raw W:=by
  obtain ⟨y0,y1,y2,n,_,_,h0,h1,h2⟩:=Go.Deep.trod_struct3 Tryz.underlying27 hf;simp only [ceBool,ceU32s] at h0 h1 h2;obtain ⟨b,e0,_⟩:=DataW.trod_bool Tryz.underlying4 h0;obtain ⟨N,nc,ns,e1,rn,dn,cn⟩:=inWords1 h1;obtain ⟨D,dc,ds,e2,rd,dd,cd⟩:=inWords1 h2;exact ⟨⟨b,N,nc,ns,D,dc,ds⟩,by simpa using e0,e1,e2,rn,rd,cn,cd,dn,dd⟩
set_option maxRecDepth 100000 in
theorem inMono {H:Type} {enc:TypeId × Value→H} {W:World} {p:Addr} {cs:List Value} {fuel:Nat} {x:DataW H × List MemPlace} (hc:W.cells? 0 p 4=some cs)
    (hf:DataW.trod enc Tryz.prog W 0 (fun _=>true) true fuel 79 cs=some x):∃ q:MM × List Int,MCell W p q.1∧RdI W q.1.X q.2∧q.1.n=q.2.length∧q.1.n≤q.1.xc∧q.1.c.Raw W:=by
  obtain ⟨_,hlen,hcell⟩:=World.cells?_some hc;obtain ⟨y0,y1,k,_,_,g0,g1⟩:=trod_struct2 Tryz.underlying79 hf
  match cs,hlen with
  | [v0, v1, v2, v3], _ =>
    simp only [ceInts,ceRat] at g0 g1;obtain ⟨A,xc,es,e0,r0,l0⟩:=inInts1 g0;obtain ⟨a,e1,e2,e3,hr⟩:=inRat g1;have c0:=hcell 0 (by omega);have c1:=hcell 1 (by omega);have c2:=hcell 2 (by omega);have c3:=hcell 3 (by omega);subst e0 e1 e2 e3;refine ⟨(⟨A,es.length,xc,a⟩,es),⟨?_,?_,?_,?_⟩,r0,rfl,l0,hr⟩
    · simpa [Addr.add] using c0
    · simpa [Addr.add] using c1
    · simpa [Addr.add] using c2
    · simpa [Addr.add] using c3
instance:Inhabited MM:=⟨⟨none,0,0,⟨false,none,0,[],none,0,[]⟩⟩⟩
set_option maxRecDepth 100000 in
theorem open_poly {H:Type} {enc:TypeId × Value→H} {W:World} {base:Nat} {v:Value} {d:DataW H} {p:List MemPlace} (hv:Value.okWide Tryz.prog W .any base 24 v)
    (h:DataW.Trod enc Tryz.prog W 0 (fun _=>true) true 24 v d p) :
    ∃ (n:Int) (A:Option Addr) (c:Nat) (ms:List MM) (es:List (List Int)),v = .agg #[.int .i64 n,.slice A ms.length c]∧PRaw W A ms es:=by
  obtain ⟨v0,v1,y0,y1,f,rfl,_,_,h0,h1⟩:=Go.Joins.open_agg2 Tryz.underlying24 (by kernel_rfl) (by kernel_rfl) hv h;obtain ⟨n,e0,_⟩:=DataW.trod_int Tryz.underlying3 h0;obtain rfl:v0 = .int .i64 n:=by simpa using e0
  rcases Go.Deep.open_slice Tryz.underlying22 h1 with ⟨hcs,_⟩ | ⟨a,len,cap,m,k,D,Pl,hcs,_,hl,_,hm,_,hx⟩
  · obtain rfl:v1 = .slice none 0 0:=by simpa using hcs
    exact ⟨n,none,0,[],[],rfl,fun h=>by simp at h,rfl,fun j m h=>by simp at h⟩
  · obtain rfl:v1 = .slice (some a) len cap:=by simpa using hcs
    have hm2:m=cap:=by simpa using hm
    obtain ⟨q,hq⟩:=Go.Deep.choose_lt (n:=len) (p:=fun i (q:MM × List Int)=>MCell W (a.add (i*4)) q.1∧RdI W q.1.X q.2∧q.1.n=q.2.length∧q.1.n≤q.1.xc∧q.1.c.Raw W) fun i hi=>by
      obtain ⟨cs,h2,h3⟩:=hx i (by omega);rw [ceMono] at h2;exact inMono h2 h3
    have hlen:((List.range len).map fun i=>(q i).1).length=len:=by rw [List.length_map,List.length_range]
    have get:∀ (j:Nat) (t:MM),((List.range len).map fun i=>(q i).1)[j]?=some t→j<len∧t=(q j).1:=fun j t ht=>by
      rw [List.getElem?_map] at ht;obtain ⟨i,hi,rfl⟩:=Option.map_eq_some_iff.1 ht;obtain ⟨hlt,e⟩:=List.getElem?_eq_some_iff.1 hi;rw [List.getElem_range] at e;subst e;exact ⟨by simpa using hlt,rfl⟩
    refine ⟨n,some a,cap,(List.range len).map (fun i=>(q i).1),(List.range len).map (fun i=>(q i).2),by rw [hlen],fun hn=>⟨a,rfl,?_,fun j t ht=>?_⟩,by rw [hlen,List.length_map,List.length_range],fun j t ht=>?_⟩
    · rw [hlen] at hn;have:=cell_lt (hq 0 hn).1.c0;rwa [block_of_add] at this
    · obtain ⟨hj,rfl⟩:=get j t ht;exact (hq j hj).1
    · obtain ⟨hj,rfl⟩:=get j t ht;obtain ⟨_,b1,b2,b3,b4⟩:=hq j hj;exact ⟨(q j).2,by rw [List.getElem?_map,List.getElem?_range hj];rfl,b1,b2,b3,b4⟩
end Go.Proofs.YtgekmfcbbjeahaaGreatDoor
