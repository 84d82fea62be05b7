/- Words for memory: a slice of numbers that reads as a list, a block that is known whole. No condition beyond what each theorem says. -/
import Derived.Test.YtgekmfcbbjeahaaGreatDoorPpR2
import Derived.Below
import Derived.Laws.OwnMore
import Derived.Laws.MakeOwn
import Derived.Deep.AppendLies
import Derived.Deep.Draws
import Derived.Laws.Rows
import Derived.Lib.Hide
import Derived.Deep.QuietTactic
import Derived.Test.YtgekmfcbbjeahaaGreatDoorRows
import Derived.WalkKit
import Derived.WalkSpells
import Derived.WalkLawsBesides
namespace Go.Proofs.YtgekmfcbbjeahaaGreatDoor
open Go.RowKit V
theorem block_of_add (a:Addr) (n:Nat):(a.add n).block=a.block:=by unfold Addr.add;split <;> rfl
theorem add_of_add (a:Addr) (i j:Nat):(a.add i).add j=a.add (i+j):=by
  unfold Addr.add
  by_cases hi:i=0 <;> by_cases hj:j=0 <;> simp [hi,hj,Nat.add_assoc]
theorem add_zero_ (a:Addr):a.add 0=a:=by unfold Addr.add;simp
theorem quiet_add {P:Program} {f:FuncId} {args:Array Value} {w:World} {a n:Nat} {v:Value}
    (h:Calls P f args (w.drewN (a+n)) fun e w'=>e = .returned v∧w.drewN (a+n)=w') :
    Calls P f args (w.drewN (a+n)) fun e w''=>e = .returned v ∧ ∃ m,w''=w.drewN (a+m):=
  h.mono fun _ _ ⟨he,hm⟩=>⟨he,n,hm.symm⟩
def nums (k:IntKind) (xs:List Nat):List Value:=xs.map fun n:Nat=>Value.int k (n:Int)
theorem nums_get {k:IntKind} {xs:List Nat} {j:Nat} (h:j<xs.length):(nums k xs)[j]?=some (.int k (xs.getD j 0:Nat)):=by
  simp [nums,List.getElem?_map,List.getElem?_eq_getElem h,List.getD_eq_getElem?_getD]
theorem nums_len (k:IntKind) (xs:List Nat):(nums k xs).length=xs.length:=by simp [nums]
def Rd (k:IntKind) (w:World) (A:Option Addr) (xs:List Nat):Prop:=
  0<xs.length → ∃ ad,A=some ad∧ad.block<w.heap.size ∧ ∀ j,j<xs.length→w.cell? (ad.add j)=some (.int k (xs.getD j 0:Nat))
section
variable {k:IntKind} {w w':World} {A:Option Addr} {xs:List Nat}
theorem Rd.nil_:Rd k w A []:=fun h=>by simp at h
theorem Rd.at_ {i:Nat} (h:Rd k w A xs) (hi:i<xs.length):∃ ad,A=some ad∧ad.block<w.heap.size∧w.cell? (ad.add i)=some (.int k (xs.getD i 0:Nat)):=by
  obtain ⟨ad,e,hb,hc⟩:=h (by omega);exact ⟨ad,e,hb,hc i hi⟩
theorem Rd.ask {i:Nat} (h:Rd k w A xs) (hi:i<xs.length):∃ ad x,A=some ad∧ad.block<w.heap.size∧Hid (xs.getD i 0=x)∧w.cell? (ad.add i)=some (.int k (x:Nat)):=by
  obtain ⟨ad,e,hb,hc⟩:=h (by omega);exact ⟨ad,_,e,hb,rfl,hc i hi⟩
theorem Rd.keep {B:Nat} (h:Rd k w A xs) (hB:w.heap.size≤B) (hs:w.heap.size≤w'.heap.size) (hk:∀ p:Addr,p.block<B→w'.cell? p=w.cell? p):Rd k w' A xs:=fun hn=>by
  obtain ⟨ad,e,hb,hc⟩:=h hn;exact ⟨ad,e,by omega,fun j hj=>(hk _ (by rw [block_of_add];omega)).trans (hc j hj)⟩
theorem Rd.keep2 (h:Rd k w A xs) (hs:w.heap.size≤w'.heap.size) (hk:∀ p:Addr,(∃ ad,A=some ad∧p.block=ad.block)→p.block<w.heap.size→w'.cell? p=w.cell? p):Rd k w' A xs:=fun hn=>by
  obtain ⟨ad,e,hb,hc⟩:=h hn;exact ⟨ad,e,by omega,fun j hj=>(hk _ ⟨ad,e,block_of_add _ _⟩ (by rw [block_of_add];omega)).trans (hc j hj)⟩
theorem Rd.below (h:Rd k w A xs) (hb:Below w.heap.size w w'):Rd k w' A xs:=h.keep (Nat.le_refl _) hb.size fun _ hp=>hb.cell hp
theorem Rd.drew (h:Rd k w A xs):Rd k w.drew A xs:=h
theorem Rd.drewN (h:Rd k w A xs) (n:Nat):Rd k (w.drewN n) A xs:=h
theorem Rd.alloc (h:Rd k w A xs) (o:Obj):Rd k (w.alloc o) A xs:=h.below ((Below.refl _ _).alloc (Nat.le_refl _) o)
theorem Rd.far {w0:World} (h:Rd k w0 A xs) (hb:Below w0.heap.size w0 w'):Rd k w' A xs:=h.below hb
theorem Rd.take (h:Rd k w A xs) {m:Nat} (hm:m≤xs.length):Rd k w A (xs.take m):=fun hn=>by
  rw [List.length_take,Nat.min_eq_left hm] at hn;obtain ⟨ad,e,hb,hc⟩:=h (by omega);refine ⟨ad,e,hb,fun j hj=>?_⟩;rw [List.length_take,Nat.min_eq_left hm] at hj;rw [hc j (by omega)];simp [List.getD_eq_getElem?_getD,hj]
theorem Rd.drop (h:Rd k w A xs) {m:Nat} {ad:Addr} (hA:A=some ad):Rd k w (some (ad.add m)) (xs.drop m):=fun hn=>by
  rw [List.length_drop] at hn;obtain ⟨ad',e,hb,hc⟩:=h (by omega);rw [hA] at e;injection e with e;subst e;refine ⟨_,rfl,by rw [block_of_add];exact hb,fun j hj=>?_⟩;rw [List.length_drop] at hj;rw [add_of_add,hc _ (by omega)];simp [List.getD_eq_getElem?_getD,List.getElem?_drop]
theorem Rd.of_own {base:Nat} {e:TypeId} {c:Nat} (h:w.ownsRow base e 1 (.slice A xs.length c) xs.length (nums k xs)):Rd k w A xs:=fun hn=>by
  obtain ⟨g,cap,hv,_,hlt⟩:=h.form hn;have hA:A=some ⟨g,0,none⟩:=by injection hv
  subst hA;exact ⟨_,rfl,hlt,fun j hj=>h.cells (g:=g) rfl j _ (nums_get hj)⟩
end
def Row (k:IntKind) (t:TypeId) (w:World) (g:Nat) (xs:List Nat):Prop:=w.heap[g]?=some (.cells (nums k xs).toArray t (0,0))
section
variable {k:IntKind} {t:TypeId} {w w':World} {g:Nat} {xs:List Nat}
theorem Row.lt (h:Row k t w g xs):g<w.heap.size:=by
  rcases Nat.lt_or_ge g w.heap.size with hlt | hge
  · exact hlt
  · unfold Row at h;rw [Array.getElem?_eq_none hge] at h;cases h
theorem Row.cell (h:Row k t w g xs) {i:Nat} (hi:i<xs.length):w.cell? ⟨g,i,none⟩=some (.int k (xs.getD i 0:Nat)):=by
  rw [cell_of_row w g i _ t (0,0) h,List.getElem?_toArray];exact nums_get hi
theorem Row.frozen (h:Row k t w g xs) (i:Nat):w.frozen? ⟨g,i,none⟩=false:=by
  unfold Row at h;simp [World.frozen?,h]
theorem Row.new (w:World) (xs:List Nat):Row k t (w.alloc (.cells (nums k xs).toArray t)) w.heap.size xs:=heap_alloc_new w _
theorem Row.drew (h:Row k t w g xs):Row k t w.drew g xs:=h
theorem Row.drewN (h:Row k t w g xs) (n:Nat):Row k t (w.drewN n) g xs:=h
theorem Row.alloc (h:Row k t w g xs) (o:Obj):Row k t (w.alloc o) g xs:=(Below.heap_alloc w o g h.lt).trans h
theorem Row.set_ (h:Row k t w g xs) (i v:Nat):Row k t (w.setCell ⟨g,i,none⟩ (.int k (v:Nat))) g (xs.set i v):=by
  unfold Row at h ⊢;simp [World.setCell,Array.getElem?_modify,h,nums,List.map_set]
theorem Row.far (h:Row k t w g xs) {p:Addr} (hp:g≠p.block) (u:Value):Row k t (w.setCell p u) g xs:=(Below.heap_setCell w p u g hp).trans h
theorem Row.below {B:Nat} (h:Row k t w g xs) (hb:Below B w w') (hg:g<B):Row k t w' g xs:=(hb.block g hg).trans h
theorem Row.rd (h:Row k t w g xs):Rd k w (some ⟨g,0,none⟩) xs:=fun _=>⟨_,rfl,h.lt,fun j hj=>by
  have e:(⟨g,0,none⟩:Addr).add j=⟨g,j,none⟩:=by unfold Addr.add;split <;> simp_all
  rw [e];exact h.cell hj⟩
end
end Go.Proofs.YtgekmfcbbjeahaaGreatDoor
/- nat.trim and isochroneref01.trim leave out the leading zero digits; slices of at most 200000 numbers. -/
namespace Go.Proofs.YtgekmfcbbjeahaaGreatDoor
open Go.RowKit V
def TrimP (A:Option Addr) (c:Nat) (xs:List Nat) (w:World) (e:Ending) (w':World):Prop:=
  ∃ m:Nat,m≤xs.length∧e = .returned (.slice A m c)∧(∀ B,val B (xs.take m)=val B xs)∧Nrm (xs.take m)∧w=w'
set_option maxHeartbeats 400000 in
theorem trim_u32 (A : Option Addr) (c : Nat) (xs : List Nat) (w : World) (h : Rd .u32 w A xs) (hl : xs.length ≤ c) (hb : xs.length ≤ 200000) :
    Calls Tryz.prog 203 #[.slice A xs.length c] w (TrimP A c xs w):=by
  go_enter Tryz.func203,Tryz.ntmps203;go_wp2;go_loop [3] (fun n=>∃ m:Nat,m≤xs.length∧n = .int .i64 m ∧ ∀ B,val B (xs.take m)=val B xs) (fun n=>(intOf n).toNat)
  case atStart=>exact ⟨xs.length,Nat.le_refl _,rfl,fun B=>by rw [List.take_length]⟩
  case round=>
    obtain ⟨m,hm,rfl,hv⟩:=hrel;have HV:=Lib.hid hv;clear hv
    by_cases h0:m=0
    · subst h0;go_wp2;go_ret;exact ⟨0,by omega,rfl,HV.out,nrm_take _ _ (by omega) (by omega),rfl⟩
    · obtain ⟨ad,x,rfl,hbl,hx,hcell⟩:=h.ask (i:=m - 1) (by omega);have hm1:m - 1<xs.length:=by omega
      by_cases hz:x=0
      · subst hz;go_wp2;go_round
        case rel=>exact ⟨m - 1,by omega,by go_num,fun B=>val_cut B xs (m - 1) hm1 hx.out (by rw [Nat.sub_add_cancel (by omega)];exact HV.out B)⟩
        case measure=>simp [intOf];omega
      · go_wp2;go_ret;exact ⟨m,hm,rfl,HV.out,nrm_take _ _ hm (fun _=>by rw [hx.out];exact hz),rfl⟩
set_option maxHeartbeats 400000 in
theorem trim_i64 (A : Option Addr) (c : Nat) (xs : List Nat) (w : World) (h : Rd .i64 w A xs) (hl : xs.length ≤ c) (hb : xs.length ≤ 200000) :
    Calls Tryz.prog 157 #[.slice A xs.length c] w (TrimP A c xs w):=by
  go_enter Tryz.func157,Tryz.ntmps157;go_wp2;go_loop [3] (fun n=>∃ m:Nat,m≤xs.length∧n = .int .i64 m ∧ ∀ B,val B (xs.take m)=val B xs) (fun n=>(intOf n).toNat)
  case atStart=>exact ⟨xs.length,Nat.le_refl _,rfl,fun B=>by rw [List.take_length]⟩
  case round=>
    obtain ⟨m,hm,rfl,hv⟩:=hrel;have HV:=Lib.hid hv;clear hv
    by_cases h0:m=0
    · subst h0;go_wp2;go_ret;exact ⟨0,by omega,rfl,HV.out,nrm_take _ _ (by omega) (by omega),rfl⟩
    · obtain ⟨ad,x,rfl,hbl,hx,hcell⟩:=h.ask (i:=m - 1) (by omega);have hm1:m - 1<xs.length:=by omega
      by_cases hz:x=0
      · subst hz;go_wp2;go_round
        case rel=>exact ⟨m - 1,by omega,by go_num,fun B=>val_cut B xs (m - 1) hm1 hx.out (by rw [Nat.sub_add_cancel (by omega)];exact HV.out B)⟩
        case measure=>simp [intOf];omega
      · go_wp2;go_ret;exact ⟨m,hm,rfl,HV.out,nrm_take _ _ hm (fun _=>by rw [hx.out];exact hz),rfl⟩
theorem trim_u32n (A:Option Addr) (c n:Nat) (xs:List Nat) (w:World) (hn:xs.length=n) (h:Rd .u32 w A xs) (hl:n≤c) (hb:n≤200000) :
    Calls Tryz.prog 203 #[.slice A n c] w (TrimP A c xs w):=by subst hn;exact trim_u32 A c xs w h hl hb
theorem trim_i64n (A:Option Addr) (c n:Nat) (xs:List Nat) (w:World) (hn:xs.length=n) (h:Rd .i64 w A xs) (hl:n≤c) (hb:n≤200000) :
    Calls Tryz.prog 157 #[.slice A n c] w (TrimP A c xs w):=by subst hn;exact trim_i64 A c xs w h hl hb
end Go.Proofs.YtgekmfcbbjeahaaGreatDoor
/- wide.trim. -/
namespace Go.Proofs.YtgekmfcbbjeahaaGreatDoor
open Go.RowKit V
set_option maxHeartbeats 400000 in
theorem w6trim (A : Option Addr) (c : Nat) (xs : List Nat) (w : World) (h : Rd .u64 w A xs) (hl : xs.length ≤ c) (hb : xs.length ≤ 200000) :
    Calls Tryz.prog 168 #[.slice A xs.length c] w (TrimP A c xs w):=by
  go_enter Tryz.func168,Tryz.ntmps168;go_wp2;go_loop [3] (fun n=>∃ m:Nat,m≤xs.length∧n = .int .i64 m ∧ ∀ B,val B (xs.take m)=val B xs) (fun n=>(intOf n).toNat)
  case atStart=>exact ⟨xs.length,Nat.le_refl _,rfl,fun B=>by rw [List.take_length]⟩
  case round=>
    obtain ⟨m,hm,rfl,hv⟩:=hrel;have HV:=Lib.hid hv;clear hv
    by_cases h0:m=0
    · subst h0;go_wp2;go_ret;exact ⟨0,by omega,rfl,HV.out,nrm_take _ _ (by omega) (by omega),rfl⟩
    · obtain ⟨ad,x,rfl,hbl,hx,hcell⟩:=h.ask (i:=m - 1) (by omega);have hm1:m - 1<xs.length:=by omega
      by_cases hz:x=0
      · subst hz;go_wp2;go_round
        case rel=>exact ⟨m - 1,by omega,by go_num,fun B=>val_cut B xs (m - 1) hm1 hx.out (by rw [Nat.sub_add_cancel (by omega)];exact HV.out B)⟩
        case measure=>simp [intOf];omega
      · go_wp2;go_ret;exact ⟨m,hm,rfl,HV.out,nrm_take _ _ hm (fun _=>by rw [hx.out];exact hz),rfl⟩
theorem w6trimn (A:Option Addr) (c n:Nat) (xs:List Nat) (w:World) (hn:xs.length=n) (h:Rd .u64 w A xs) (hl:n≤c) (hb:n≤200000) :
    Calls Tryz.prog 168 #[.slice A n c] w (TrimP A c xs w):=by subst hn;exact w6trim A c xs w h hl hb
end Go.Proofs.YtgekmfcbbjeahaaGreatDoor
