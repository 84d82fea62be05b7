/- nat.Valid, nat.fit, nat.add: what they return; magnitudes of at most 100000 words. -/
import Derived.Test.YtgekmfcbbjeahaaGreatDoorPpR4
import Derived.Test.YtgekmfcbbjeahaaGreatDoorRows
import Derived.WalkKit
import Derived.WalkSpells
import Derived.WalkLawsBesides
import Derived.Laws.BitsAllLaws
import Derived.BigQuiet
import Derived.StillTailTactics
import Derived.Below
import Derived.Laws.OwnMore
import Derived.Laws.MakeOwn
import Derived.Deep.AppendLies
import Derived.Deep.Draws
import Derived.Laws.Rows
import Derived.Lib.Hide
import Derived.Deep.QuietTactic
namespace Go.Proofs.YtgekmfcbbjeahaaGreatDoor
open Go.RowKit V
def Ok (xs:List Nat):Prop:=xs.length≤4096∧Nrm xs
theorem ret_bool {a b:Bool} (h:a=b):Ending.returned (.bool a) = .returned (.bool b):=by rw [h]
set_option maxHeartbeats 400000 in
theorem valid_yes (A:Option Addr) (c:Nat) (xs:List Nat) (w:World) (hx:Rd .u32 w A xs) (ok:Ok xs) :
    Calls Tryz.prog 111 #[.slice A xs.length c] w fun e w'=>e = .returned (.bool true)∧w=w':=by
  obtain ⟨ok1,ok2⟩:=ok
  by_cases h0:xs.length=0
  · have hb:((xs.length:Int) == 0)=true:=by simp [h0]
    clear h0 ok2;go_enter Tryz.func111,Tryz.ntmps111;go_wp2;go_ret;exact ⟨rfl,rfl⟩
  · have hb:((xs.length:Int) == 0)=false:=beq_eq_false_iff_ne.2 (by omega);obtain ⟨ad,x,rfl,hbx,ex,cx⟩:=hx.ask (i:=xs.length - 1) (by omega);have hn:((x:Int) != 0)=true:=by have:=ok2 (by omega);rw [ex.out] at this;simpa using this
    have h1:1≤xs.length:=by omega
    clear ok2 h0;go_enter Tryz.func111,Tryz.ntmps111;go_wp2;go_ret;exact ⟨rfl,rfl⟩
theorem info_u32:(Tryz.prog.info? 140).map (fun i=>(i.zero,i.size,i.bytes))=some (some (.int .u32 0),1,4):=by kernel_rfl
theorem make_u32 (n:Nat) (N:Int) (hN:N=n) (hn:n≤1000000) (w:World) :
    (Instr.makeSlice 25 (.int .i64 N) (.int .i64 N)).run Tryz.prog w = .ok (.slice (some ⟨w.heap.size,0,none⟩) n n) (w.alloc (.cells (nums .u32 (List.replicate n 0)).toArray 140)):=by
  subst hN;obtain ⟨i0,hi,hz0,hz1,hz2⟩:=info_parts info_u32;have hr:=run_make (P:=Tryz.prog) w 25 140 i0 _ Tryz.underlying25 hi hz0 .i64 .i64 n n (by omega) (by omega) (by rw [hz2];omega) (by omega);have e:madeCells (Value.cells (.int .u32 0)) (n*1)=(nums .u32 (List.replicate n 0)).toArray:=by
    apply Array.toList_inj.1;rw [show Value.cells (.int .u32 0) = #[.int .u32 0] from rfl,Nat.mul_one,toList_madeCells_one];simp [nums]
  rw [hr,Int.toNat_natCast,hz1,e]
def OutP (k:IntKind) (Q:List Nat→Prop) (w:World) (e:Ending) (w':World):Prop:=
  ∃ A c ys,e = .returned (.slice A ys.length c)∧ys.length≤c∧Rd k w' A ys∧Below w.heap.size w w'∧Q ys
theorem OutP.of_take {k:IntKind} {Q:List Nat→Prop} {w w':World} {A:Option Addr} {c m:Nat} {fin:List Nat} (hm:m≤fin.length) (hc:m≤c) (hr:Rd k w' A fin) (hb:Below w.heap.size w w')
    (hq:Q (fin.take m)):OutP k Q w (.returned (.slice A m c)) w':=by
  have hl:(fin.take m).length=m:=by rw [List.length_take,Nat.min_eq_left hm]
  exact ⟨A,c,fin.take m,by rw [hl],by rw [hl];exact hc,hr.take hm,hb,hq⟩
end Go.Proofs.YtgekmfcbbjeahaaGreatDoor
/- Slices of numbers that a call makes and appends to: the words and the one law that the walks use. -/
namespace Go.Proofs.YtgekmfcbbjeahaaGreatDoor
open Go.RowKit V
theorem nums_snoc (k:IntKind) (xs:List Nat) (d:Nat):nums k (xs ++ [d])=nums k xs ++ [.int k (d:Nat)]:=by simp [nums]
def Own (k:IntKind) (e:TypeId) (B:Nat) (w:World) (v:Value) (xs:List Nat):Prop:=w.ownsRow B e 1 v xs.length (nums k xs)
section
variable {k:IntKind} {e:TypeId} {B:Nat} {w w':World} {v:Value} {xs:List Nat}
theorem Own.nil_:Own k e B w (.slice none 0 0) []:=World.ownsRow_nil _ _ _ _
theorem Own.form (h:Own k e B w v xs):∃ A c,v = .slice A xs.length c∧xs.length≤c∧Rd k w A xs:=by
  have h':=h;rcases h.2 with ⟨rfl,h0⟩ | ⟨g,cap,cur,rfl,_,_,hc,_⟩
  · have:xs=[]:=List.eq_nil_of_length_eq_zero h0;subst this;exact ⟨none,0,rfl,Nat.le_refl _,Rd.nil_⟩
  · exact ⟨_,cap,rfl,hc,Rd.of_own h'⟩
theorem Own.made (hb:B≤w.heap.size) (n:Nat) (hn:n≤1000000):Own k e B (w.alloc (.cells (nums k (List.replicate n 0)).toArray e)) (.slice (some ⟨w.heap.size,0,none⟩) 0 n) []:=
  World.ownsRow_made w _ n hb (by unfold maxLen;omega) (by simp [nums])
theorem Own.alloc (h:Own k e B w v xs) (o:Obj):Own k e B (w.alloc o) v xs:=World.ownsRow.alloc h o
theorem Own.kept (h:Own k e B w v xs) (hb:Below w.heap.size w w'):Own k e B w' v xs:=by
  have h':=h;refine ⟨h.1,?_⟩;rcases h.2 with h2 | ⟨g,cap,cur,h1,h2,h3,h4⟩
  · exact .inl h2
  · exact .inr ⟨g,cap,cur,h1,h2,by rw [hb.block g (Array.getElem?_eq_some_iff.1 h3).1];exact h3,h4⟩
end
section
variable {k:IntKind} {e:TypeId} {B g n c i d:Nat} {w:World} {v:Value} {xs:List Nat}
theorem Own.shape (h:Own k e B w v xs):∃ A c,v = .slice A xs.length c∧xs.length≤c∧Rd k w A xs∧(0<xs.length → ∃ g,A=some ⟨g,0,none⟩∧B≤g):=by
  have h':=h;rcases h.2 with ⟨rfl,h0⟩ | ⟨g,cap,cur,rfl,hB,_,hc,_⟩
  · have:xs=[]:=List.eq_nil_of_length_eq_zero h0;subst this;exact ⟨none,0,rfl,Nat.le_refl _,Rd.nil_,fun h=>by simp at h⟩
  · exact ⟨_,cap,rfl,hc,Rd.of_own h',fun _=>⟨g,rfl,hB⟩⟩
theorem Own.shapeN (h:Own k e B w v xs) (hn:xs.length=n):∃ A c,v = .slice A n c∧n≤c∧Rd k w A xs∧(0<n → ∃ g,A=some ⟨g,0,none⟩∧B≤g):=by
  subst hn;exact h.shape
theorem Own.cell (h:Own k e B w (.slice (some ⟨g,0,none⟩) n c) xs) (hn:xs.length=n) (hi:i<n):w.cell? ⟨g,i,none⟩=some (.int k (xs.getD i 0:Nat)):=by
  subst hn;rw [World.ownsRow.cellAt h i (by omega)];exact nums_get hi
theorem Own.frz (h:Own k e B w (.slice (some ⟨g,0,none⟩) n c) xs) (hn:xs.length=n):w.frozen? ⟨g,i,none⟩=false:=by
  subst hn;exact World.ownsRow.frozenAt h i
theorem Own.set_ (h:Own k e B w (.slice (some ⟨g,0,none⟩) n c) xs) (hn:xs.length=n):Own k e B (w.setCell ⟨g,i,none⟩ (.int k (d:Nat))) (.slice (some ⟨g,0,none⟩) n c) (xs.set i d):=by
  subst hn;have:=(World.ownsRow.stored h i (.int k (d:Nat))).1;show World.ownsRow _ B e 1 _ (xs.set i d).length (nums k (xs.set i d));rw [List.length_set,show nums k (xs.set i d)=(nums k xs).set i (.int k (d:Nat)) by simp [nums,List.map_set]];exact this
end
theorem Own.take_ {k:IntKind} {e:TypeId} {B n c m:Nat} {w:World} {A:Option Addr} {xs:List Nat} (h:Own k e B w (.slice A n c) xs) (hn:xs.length=n) (hm:m≤n):Own k e B w (.slice A m c) (xs.take m):=by
  subst hn;have hl:(xs.take m).length=m:=by rw [List.length_take,Nat.min_eq_left hm]
  show World.ownsRow _ _ _ _ _ _ _;rw [hl];rcases h.2 with ⟨h1,h2⟩ | ⟨g,cap,cur,h1,h2,h3,h4,h5,h6,h7⟩
  · injection h1 with h1 h1' h1'';obtain rfl:m=0:=by omega
    exact ⟨by rw [nums_len,hl],.inl ⟨by rw [h1,h1''],rfl⟩⟩
  · injection h1 with h1 h1' h1'';subst h1;subst h1'';refine ⟨by rw [nums_len,hl,Nat.mul_one],.inr ⟨g,c,cur,rfl,h2,h3,by omega,h5,h6,?_⟩⟩;rw [Nat.mul_one] at h7 ⊢;have e2:nums k (xs.take m)=(nums k xs).take m:=by simp [nums,List.map_take]
    rw [e2,← h7,List.take_take,Nat.min_eq_left hm]
theorem Own.base {k:IntKind} {e:TypeId} {B B':Nat} {w:World} {v:Value} {xs:List Nat} (h:Own k e B w v xs) (hB:B'≤B):Own k e B' w v xs:=by
  refine ⟨h.1,?_⟩;rcases h.2 with h2 | ⟨g,cap,cur,h1,h2,h3⟩
  · exact .inl h2
  · exact .inr ⟨g,cap,cur,h1,Nat.le_trans hB h2,h3⟩
theorem Own.kept2 {k:IntKind} {e:TypeId} {B:Nat} {w w':World} {v:Value} {xs:List Nat} (h:Own k e B w v xs) (hk:∀ g,v.ownBlock=some g→g<w.heap.size→w'.heap[g]?=w.heap[g]?):Own k e B w' v xs:=by
  have hl:=World.ownsRow.lt h;refine ⟨h.1,?_⟩;rcases h.2 with h2 | ⟨g,cap,cur,rfl,h2,h3,h4⟩
  · exact .inl h2
  · exact .inr ⟨g,cap,cur,rfl,h2,by rw [hk g rfl (hl g rfl).2];exact h3,h4⟩
structure OnlyAt (A:Option Addr) (w w':World):Prop where
  os:w'.os=w.os
  tape:w'.tape=w.tape
  output:w'.output=w.output
  size:w'.heap.size=w.heap.size
  block:∀ b,(∀ ad,A=some ad→ad.block≠b)→w'.heap[b]?=w.heap[b]?
theorem OnlyAt.refl (A:Option Addr) (w:World):OnlyAt A w w:=⟨rfl,rfl,rfl,rfl,fun _ _=>rfl⟩
theorem OnlyAt.trans {A:Option Addr} {a b c:World} (h:OnlyAt A a b) (k:OnlyAt A b c):OnlyAt A a c:=
  ⟨k.os.trans h.os,k.tape.trans h.tape,k.output.trans h.output,k.size.trans h.size,fun x hx=>(k.block x hx).trans (h.block x hx)⟩
theorem OnlyAt.setCell {a w:World} {g i:Nat} {o:Option Addr} (h:OnlyAt o a w) (ho:o=some ⟨g,0,none⟩) (u:Value):OnlyAt o a (w.setCell ⟨g,i,none⟩ u):=
  ⟨h.os,h.tape,h.output,by have:=h.size;simpa [World.setCell] using this,fun b hb=>(Below.heap_setCell w ⟨g,i,none⟩ u b (fun e=>hb _ ho e.symm)).trans (h.block b hb)⟩
theorem OnlyAt.below {A:Option Addr} {w w':World} {B:Nat} (h:OnlyAt A w w') (hA:∀ ad,A=some ad→B≤ad.block):Below B w w':=
  ⟨h.os,h.tape,h.output,Nat.le_of_eq h.size.symm,fun b hb=>h.block b fun ad e=>by have:=hA ad e;omega⟩
theorem OnlyAt.own {A:Option Addr} {w w':World} {B:Nat} {k:IntKind} {e:TypeId} {v:Value} {xs:List Nat} (h:OnlyAt A w w') (ho:Own k e B w v xs) (hA:∀ ad,A=some ad→ad.block<B):Own k e B w' v xs:=by
  refine ⟨ho.1,?_⟩;rcases ho.2 with h2 | ⟨g,cap,cur,h1,h2,h3,h4⟩
  · exact .inl h2
  · exact .inr ⟨g,cap,cur,h1,h2,by rw [h.block g (fun ad e=>by have:=hA ad e;omega)];exact h3,h4⟩
theorem wpList_app1f {P:Program} {ops:Array Oper} {rest:List Oper} {o:Oper} {a:Act} {Q:Exit→Act→World→Prop} {w w0:World} (hgd:o.guard=none) (s x:Operand) (t e:TypeId)
    (ho:o.op = .call { callee:=.builtin .append,args:=#[s,x],argTypes:=#[t,t] }) (k:IntKind) (bytes:Nat)
    (hinfo:(P.info? e).map (fun i=>(i.zero,i.size,i.bytes))=some (some (.int k 0),1,bytes)) (ht:P.underlying t=some (.slice e)) (h8:bytes≤8)
    (B:Nat) (v:Value) (out:List Nat) (D:Int) (d:Nat) (hd:D=d) (hs:a.eval s=v) (hown:Own k e B w v out)
    (hx:a.eval x = .slice (some ⟨w.heap.size,0,none⟩) 1 1) (hb:Below B w0 w) (hB:B≤w0.heap.size) (hlen:out.length≤1000000)
    (h:∀ v' w',Own k e B w' v' (out ++ [d])→Below B w0 w'→(w.heap.size≤w'.heap.size ∧ ∀ b,b<w.heap.size→v.ownBlock≠some b→w'.heap[b]?=w.heap[b]?)→wpList P ops Q rest (a.put o.dst v') w'):wpList P ops Q (o :: rest) a (w.alloc (.cells #[.int k D] e)):=by
  subst hd;obtain ⟨i0,hi,hz0,hz1,hz2⟩:=info_parts hinfo;have hsz:=hb.size;refine wpList_append_own _ hgd s x t ho B e i0 (.int k 0) 1 bytes ht hi hz0 hz1 hz2 rfl (by decide) v out.length (nums k out) hs (World.ownsRow.alloc hown _) ⟨w.heap.size,0,none⟩ 1 1 [.int k (d:Nat)] hx rfl
    (cell_one_new _ _ _) (by intro u hu;simp at hu;subst hu;rfl) (by unfold maxLen;omega) ?_ (by simp;omega) ?_
  · have h1:(out.length+1)*bytes≤1000001*8:=Nat.mul_le_mul (by omega) h8;omega
  · intro v' w' hown' hg _;refine h v' w' ?_ ?_ ?_
    · show w'.ownsRow B e 1 v' (out ++ [d]).length (nums k (out ++ [d]));rw [nums_snoc,List.length_append];exact hown'
    · refine (hb.alloc (by omega) _).grown hg (by simp;omega) fun g hg=>?_
      exact (World.ownsRow.lt hown g hg).1
    · have hs:=hg.size;refine ⟨by simp at hs;omega,fun b hb hne=>?_⟩;rw [hg.block b (by simp;omega) (fun e=>hne e.symm)];exact Below.heap_alloc w _ b hb
theorem wpList_app1 {P:Program} {ops:Array Oper} {rest:List Oper} {o:Oper} {a:Act} {Q:Exit→Act→World→Prop} {w w0:World} (hgd:o.guard=none) (s x:Operand) (t e:TypeId)
    (ho:o.op = .call { callee:=.builtin .append,args:=#[s,x],argTypes:=#[t,t] }) (k:IntKind) (bytes:Nat)
    (hinfo:(P.info? e).map (fun i=>(i.zero,i.size,i.bytes))=some (some (.int k 0),1,bytes)) (ht:P.underlying t=some (.slice e)) (h8:bytes≤8)
    (B:Nat) (v:Value) (out:List Nat) (D:Int) (d:Nat) (hd:D=d) (hs:a.eval s=v) (hown:Own k e B w v out)
    (hx:a.eval x = .slice (some ⟨w.heap.size,0,none⟩) 1 1) (hb:Below B w0 w) (hB:B≤w0.heap.size) (hlen:out.length≤1000000)
    (h:∀ v' w',Own k e B w' v' (out ++ [d])→Below B w0 w'→wpList P ops Q rest (a.put o.dst v') w'):wpList P ops Q (o :: rest) a (w.alloc (.cells #[.int k D] e)):=by
  exact wpList_app1f hgd s x t e ho k bytes hinfo ht h8 B v out D d hd hs hown hx hb hB hlen fun v' w' h1 h2 _=>h v' w' h1 h2
theorem wpList_appN {P:Program} {ops:Array Oper} {rest:List Oper} {o:Oper} {a:Act} {Q:Exit→Act→World→Prop} {w w0:World} (hgd:o.guard=none) (s x:Operand) (t e:TypeId)
    (ho:o.op = .call { callee:=.builtin .append,args:=#[s,x],argTypes:=#[t,t] }) (k:IntKind) (bytes:Nat)
    (hinfo:(P.info? e).map (fun i=>(i.zero,i.size,i.bytes))=some (some (.int k 0),1,bytes)) (ht:P.underlying t=some (.slice e)) (h8:bytes≤8)
    (B:Nat) (v:Value) (out xs:List Nat) (hs:a.eval s=v) (hown:Own k e B w v out) (ad:Addr) (n c:Nat) (hn:xs.length=n)
    (hx:a.eval x = .slice (some ad) n c) (hr:Rd k w (some ad) xs) (hb:Below B w0 w) (hB:B≤w0.heap.size) (hlen:out.length+n≤1000000)
    (h:∀ v' w',Own k e B w' v' (out ++ xs)→Below B w0 w'→wpList P ops Q rest (a.put o.dst v') w'):wpList P ops Q (o :: rest) a w:=by
  subst hn;obtain ⟨i0,hi,hz0,hz1,hz2⟩:=info_parts hinfo;have hsz:=hb.size;refine wpList_append_own _ hgd s x t ho B e i0 (.int k 0) 1 bytes ht hi hz0 hz1 hz2 rfl (by decide) v out.length (nums k out) hs hown ad xs.length c (nums k xs) hx (by rw [nums_len,Nat.mul_one])
    (fun j u hu=>?_) (fun u hu=>?_) (by unfold maxLen;omega) ?_ (by omega) ?_
  · have hj:j<xs.length:=by
      rcases Nat.lt_or_ge j xs.length with h1 | h1
      · exact h1
      · rw [List.getElem?_eq_none (by rw [nums_len];exact h1)] at hu;cases hu
    rw [nums_get hj] at hu;obtain ⟨ad',e,_,hc⟩:=hr (by omega);injection e with e;subst e;injection hu with hu;rw [hc j hj,hu]
  · unfold nums at hu;obtain ⟨q,_,rfl⟩:=List.mem_map.1 hu;rfl
  · have h1:(out.length+xs.length)*bytes≤1000000*8:=Nat.mul_le_mul hlen h8;omega
  · intro v' w' hown' hg _;refine h v' w' ?_ ?_
    · show w'.ownsRow B e 1 v' (out ++ xs).length (nums k (out ++ xs));rw [List.length_append,show nums k (out ++ xs)=nums k out ++ nums k xs by simp [nums]];exact hown'
    · refine hb.grown hg (by omega) fun g hg=>?_
      exact (World.ownsRow.lt hown g hg).1
theorem info_i64:(Tryz.prog.info? 3).map (fun i=>(i.zero,i.size,i.bytes))=some (some (.int .i64 0),1,8):=by kernel_rfl
theorem make_cap (n:Nat) (N:Int) (hN:N=n) (hn:n≤1000000) (w:World) :
    (Instr.makeSlice 44 (.int .i64 0) (.int .i64 N)).run Tryz.prog w = .ok (.slice (some ⟨w.heap.size,0,none⟩) 0 n) (w.alloc (.cells (nums .i64 (List.replicate n 0)).toArray 3)):=by
  subst hN;obtain ⟨i0,hi,hz0,hz1,hz2⟩:=info_parts info_i64;have hr:=run_make (P:=Tryz.prog) w 44 3 i0 _ Tryz.underlying44 hi hz0 .i64 .i64 0 n (by omega) (by omega) (by rw [hz2];omega) (by omega);have e:madeCells (Value.cells (.int .i64 0)) (n*1)=(nums .i64 (List.replicate n 0)).toArray:=by
    apply Array.toList_inj.1;rw [show Value.cells (.int .i64 0) = #[.int .i64 0] from rfl,Nat.mul_one,toList_madeCells_one];simp [nums]
  rw [hr,Int.toNat_natCast,hz1,e];rfl
theorem make_nat (n:Nat) (N:Int) (hN:N=n) (hn:n≤1000000) (w:World) :
    (Instr.makeSlice 44 (.int .i64 N) (.int .i64 N)).run Tryz.prog w = .ok (.slice (some ⟨w.heap.size,0,none⟩) n n) (w.alloc (.cells (nums .i64 (List.replicate n 0)).toArray 3)):=by
  subst hN;obtain ⟨i0,hi,hz0,hz1,hz2⟩:=info_parts info_i64;have hr:=run_make (P:=Tryz.prog) w 44 3 i0 _ Tryz.underlying44 hi hz0 .i64 .i64 n n (by omega) (by omega) (by rw [hz2];omega) (by omega);have e:madeCells (Value.cells (.int .i64 0)) (n*1)=(nums .i64 (List.replicate n 0)).toArray:=by
    apply Array.toList_inj.1;rw [show Value.cells (.int .i64 0) = #[.int .i64 0] from rfl,Nat.mul_one,toList_madeCells_one];simp [nums]
  rw [hr,Int.toNat_natCast,hz1,e]
end Go.Proofs.YtgekmfcbbjeahaaGreatDoor
/- nat.addTimes and nat.mul: the product of the numbers; at most 100000 words together. -/
namespace Go.Proofs.YtgekmfcbbjeahaaGreatDoor
open Go.RowKit V
theorem addr_at (g i:Nat):(⟨g,0,none⟩:Addr).add i=⟨g,i,none⟩:=by unfold Addr.add;split <;> simp_all
end Go.Proofs.YtgekmfcbbjeahaaGreatDoor
/- nat.Cmp, Add, Sub, Mul on valid magnitudes: the comparison, the sum, the difference, the product, or the error of the document. -/
namespace Go.Proofs.YtgekmfcbbjeahaaGreatDoor
open Go.RowKit V
def FitP (Q : List Nat → Prop) (w : World) (e : Ending) (w' : World) : Prop :=
  ∃ A c zs, Rd .u32 w' A zs ∧ zs.length ≤ c ∧ Below w.heap.size w w' ∧ Q zs ∧
    ((zs.length≤4096∧e = .returned (.tuple #[.slice A zs.length c,.int .i64 0]))∨(4096<zs.length∧e = .returned (.tuple #[.slice none 0 0,.int .i64 2])))
def OkP (Q:List Nat→Prop) (w:World) (e:Ending) (w':World):Prop:=
  ∃ A c zs,Rd .u32 w' A zs∧zs.length≤c∧Below w.heap.size w w'∧Q zs∧e = .returned (.tuple #[.slice A zs.length c,.int .i64 0])
def ErrP (n:Int) (w:World) (e:Ending) (w':World):Prop:=e = .returned (.tuple #[.slice none 0 0,.int .i64 n])∧Below w.heap.size w w'
def V32 (xs:List Nat):Nat:=val 4294967296 xs
def Mag (xs:List Nat):Prop:=Dig 4294967296 xs∧Nrm xs
theorem Mag.eq {xs ys:List Nat} (hx:Mag xs) (hy:Mag ys) (h:V32 xs=V32 ys):xs=ys:=val_inj hx.1 hy.1 hx.2 hy.2 h
theorem Mag.len_le {xs ys:List Nat} (hx:Mag xs) (hy:Mag ys) (h:V32 ys≤V32 xs):ys.length≤xs.length:=by
  rcases Nat.lt_or_ge xs.length ys.length with h1 | h1
  · have:=val_lt_of_len (B:=4294967296) (by omega) hx.1 hy.2 h1;unfold V32 at h;omega
  · exact h1
end Go.Proofs.YtgekmfcbbjeahaaGreatDoor
/- isochroneref01.Small: a*k + c for k and c up to 65536; numbers of at most 100000 digits. -/
namespace Go.Proofs.YtgekmfcbbjeahaaGreatDoor
open Go.RowKit V
def Nm (xs:List Nat):Prop:=Dig 10000 xs∧Nrm xs
def VD (xs:List Nat):Nat:=val 10000 xs
theorem digit_mul (x k:Nat) (hx:x<10000) (hk:k≤65536):(x:Int)*k≤655294464:=by
  have h:x*k≤9999*65536:=Nat.mul_le_mul (by omega) hk;have:((x*k:Nat):Int)≤655294464:=by omega
  rwa [Int.natCast_mul] at this
set_option maxHeartbeats 800000 in
theorem small_any (A : Option Addr) (ca : Nat) (xs : List Nat) (k c : Nat) (w : World) (hx : Rd .i64 w A xs) (bl : xs.length ≤ 100000) (dx : Dig 10000 xs) (hk : k ≤ 65536) (hc : c ≤ 65536) :
    Calls Tryz.prog 121 #[.slice A xs.length ca,.int .i64 k,.int .i64 c] w
      (OutP .i64 (fun zs=>VD zs=VD xs*k+c∧Nm zs∧zs.length≤xs.length+2) w):=by
  have hmk:=fun W=>make_cap (xs.length+2) ((xs.length:Int)+2) (by omega) (by omega) W
  go_enter Tryz.func121,Tryz.ntmps121;go_wp2;clear hmk;go_loopw [2,7,9,16] (fun cv v _ i wr=>∃ n c':Nat,∃ out:List Nat,n≤xs.length∧i = .int .i64 n∧cv = .int .i64 c'∧c'≤65536∧out.length=n∧Dig 10000 out ∧
      val 10000 out+10000 ^ n*c'=val 10000 (xs.take n)*k+c∧Own .i64 3 w.heap.size wr v out∧Below w.heap.size w wr) (fun _ _ _ i _=>xs.length - (intOf i).toNat)
  case atStart=>exact ⟨0,c,[],Nat.zero_le _,rfl,rfl,hc,rfl,fun _ h=>by simp at h,by simp [val],Own.made (Nat.le_refl _) _ (by omega),(Below.refl _ _).alloc (Nat.le_refl _) _⟩
  case round=>
    obtain ⟨n,c',out,hn,rfl,rfl,hc',hol,hdo,hv,hown,hbw⟩:=hrel;have HV:=Lib.hid hv;have HOL:=Lib.hid hol;clear hv hol
    by_cases hlt:n<xs.length
    · obtain ⟨ad,x,rfl,hbx,ex,cx⟩:=(hx.below hbw).ask hlt;have hxl:x<10000:=by rw [← ex.out];exact dig_getD dx (by omega) n
      have hm:=digit_mul x k hxl hk;have hm0:(0:Int)≤(x:Int)*k:=Int.mul_nonneg (by omega) (by omega);obtain ⟨s,c2,hs,hc2,hsc,es,ec⟩:∃ s c2:Nat,s<10000∧c2≤65536∧Hid (s+10000*c2=c'+x*k)∧Hid (((c':Int)+(x:Int)*k) % 10000=s)∧Hid (((c':Int)+(x:Int)*k) / 10000=c2):=by
        have e:((c'+x*k:Nat):Int)=(c':Int)+(x:Int)*k:=by simp
        have e2:c'+x*k≤655360000:=by omega
        refine ⟨(c'+x*k) % 10000,(c'+x*k) / 10000,Nat.mod_lt _ (by omega),by omega,Nat.mod_add_div _ _,?_,?_⟩
        · show _=_;rw [← e];omega
        · show _=_;rw [← e];omega
      go_wp2_with (at_builtin;refine wpList_app1 rfl (.tmp 25) (.tmp 28) 44 3 rfl .i64 8 info_i64 Tryz.underlying44 (by omega) _ _ out _ s es.out rfl hown rfl hbw (Nat.le_refl _) (by have:=HOL.out;omega) ?_;intro v' w' hown' hbw');go_roundw
      case rel=>exact ⟨n+1,c2,out ++ [s],by omega,by go_num,by rw [ec.out],hc2,by rw [List.length_append,HOL.out];rfl,hdo.snoc hs,small_step 10000 n s c' c2 x k c out xs HOL.out hlt ex.out hsc.out HV.out,hown',hbw'⟩
      case measure=>simp [intOf];omega
    · obtain rfl:n=xs.length:=by omega
      go_wp2;go_loopw [2,7] (fun cv v wr=>∃ c':Nat,∃ out:List Nat,cv = .int .i64 c'∧c'≤65536∧out.length+c'≤xs.length+65536∧Dig 10000 out ∧
          val 10000 out+10000 ^ out.length*c'=VD xs*k+c∧Own .i64 3 w.heap.size wr v out∧Below w.heap.size w wr) (fun cv _ _=>(intOf cv).toNat)
      case atStart=>exact ⟨c',out,rfl,hc',by have:=HOL.out;omega,hdo,by have:=HV.out;rw [List.take_length] at this;rw [HOL.out];exact this,hown,hbw⟩
      case round=>
        clear hc' hdo hown hbw HV HOL hn hlt;obtain ⟨c',out,rfl,hc',hol,hdo,hv,hown,hbw⟩:=hrel;have HV:=Lib.hid hv;clear hv
        by_cases h0:c'=0
        · subst h0;obtain ⟨O,oc,rfl,hoc,hro⟩:=hown.form;have HVt:=HV.out;clear hown;have hlen:out.length≤200000:=by omega
          go_wp2_with (go_at_call 157;refine (trim_i64 O oc out _ hro hoc hlen).mono ?_;rintro e w1 ⟨m,hm,rfl,hv3,hn3,rfl⟩;have HV3:=Lib.hid hv3;clear hv3);go_ret;have hval:VD (out.take m)=VD xs*k+c:=by
            show val 10000 (out.take m)=_;rw [HV3.out];simpa using HV.out
          refine OutP.of_take hm (by omega) hro hbw ⟨hval,⟨hdo.take m,hn3⟩,?_⟩;refine len_of_lt (B:=10000) (by omega) hn3 ?_;show VD (out.take m)<_;rw [hval];have h1:=val_lt 10000 xs dx;have h2:(VD xs+1)*65537≤10000 ^ xs.length*65537:=Nat.mul_le_mul_right _ h1;have h3:VD xs*k≤VD xs*65536:=Nat.mul_le_mul_left _ hk;rw [Nat.pow_add];omega
        · obtain ⟨s,c2,hs,hc2,hlt2,hsc,es,ec⟩:∃ s c2:Nat,s<10000∧c2≤65536∧c2<c'∧Hid (s+10000*c2=c')∧Hid ((c':Int) % 10000=s)∧Hid ((c':Int) / 10000=c2):=
            ⟨c' % 10000,c' / 10000,Nat.mod_lt _ (by omega),by omega,by omega,Nat.mod_add_div _ _,by show _=_;omega,by show _=_;omega⟩
          go_wp2_with (at_builtin;refine wpList_app1 rfl (.tmp 35) (.tmp 38) 44 3 rfl .i64 8 info_i64 Tryz.underlying44 (by omega) _ _ out _ s es.out rfl hown rfl hbw (Nat.le_refl _) (by omega) ?_;intro v' w' hown' hbw');go_roundw
          case rel=>exact ⟨c2,out ++ [s],by rw [ec.out],hc2,by rw [List.length_append,List.length_singleton];omega,hdo.snoc hs,flush_step 10000 s c' c2 _ out hsc.out HV.out,hown',hbw'⟩
          case measure=>simp [intOf];omega
theorem small_z (A:Option Addr) (ca n:Nat) (xs:List Nat) (k c:Nat) (K C:Int) (w:World) (hn:xs.length=n) (hK:K=k) (hC:C=c) (hx:Rd .i64 w A xs) (bl:n≤100000) (dx:Dig 10000 xs) (hk:k≤65536) (hc:c≤65536) :
    Calls Tryz.prog 121 #[.slice A n ca,.int .i64 K,.int .i64 C] w
      (OutP .i64 (fun zs=>VD zs=VD xs*k+c∧Nm zs∧zs.length≤xs.length+2) w):=by
  subst hK;subst hC;subst hn;exact small_any A ca xs k c w hx bl dx hk hc
end Go.Proofs.YtgekmfcbbjeahaaGreatDoor
/- isochroneref01.Of: the number of a magnitude of at most 5000 words. -/
namespace Go.Proofs.YtgekmfcbbjeahaaGreatDoor
open Go.RowKit V
theorem nm_nil:Nm []:=⟨fun _ h=>by simp at h,nrm_nil⟩
set_option maxHeartbeats 800000 in
theorem of_any (A : Option Addr) (c : Nat) (xs : List Nat) (w : World) (hx : Rd .u32 w A xs) (bl : xs.length ≤ 5000) (dx : Dig 4294967296 xs) :
    Calls Tryz.prog 66 #[.slice A xs.length c] w
      (OutP .i64 (fun zs=>VD zs=V32 xs∧Nm zs∧zs.length≤4*xs.length) w):=by
  go_enter Tryz.func66,Tryz.ntmps66;go_wp2;go_loopw [3,4] (fun v i wr=>∃ j:Int,∃ O oc out,-1≤j∧j<xs.length∧i = .int .i64 j∧v = .slice O out.length oc∧out.length≤oc∧Rd .i64 wr O out∧Nm out ∧
      VD out=V32 (xs.drop (j+1).toNat)∧(out.length:Int)+4*(j+1)≤4*xs.length∧Below w.heap.size w wr) (fun _ i _=>(intOf i+1).toNat)
  case atStart=>exact ⟨_,some ⟨w.heap.size,0,none⟩,0,[],by omega,by omega,rfl,rfl,Nat.le_refl _,Rd.nil_,nm_nil,by rw [show ((xs.length:Int) - 1+1).toNat=xs.length by omega,List.drop_length];rfl,by simp,(Below.refl _ _).alloc (Nat.le_refl _) _⟩
  case round=>
    obtain ⟨j,O,oc,out,hj,hjl,rfl,rfl,hoc,hro,hno,hv,hol,hbw⟩:=hrel;have HV:=Lib.hid hv;clear hv
    by_cases h0:j<0
    · go_wp2;go_ret;exact ⟨O,oc,out,rfl,hoc,hro,hbw,by rw [HV.out,show (j+1).toNat=0 by omega,List.drop_zero],hno,by omega⟩
    · obtain ⟨k,rfl⟩:=Int.eq_ofNat_of_zero_le (show 0≤j by omega);have hkx:k<xs.length:=by omega
      obtain ⟨ad,x,rfl,hbx,ex,cx⟩:=(hx.below hbw).ask hkx;have hxl:x<4294967296:=by rw [← ex.out];exact dig_getD dx (by omega) k
      have h1:Hid ((x:Int) / 65536=(x / 65536:Nat)):=by show _=_;omega
      have h2:Hid (bits BinOp.and IntKind.u32 (x:Int) 65535=(x % 65536:Nat)):=by
        show _=_;have:=u32_and_nat x 65535 hxl (by omega);rw [nat_mask16] at this;exact this
      have h2a:0≤bits BinOp.and IntKind.u32 (x:Int) 65535:=by rw [h2.out];omega
      have h2b:bits BinOp.and IntKind.u32 (x:Int) 65535≤65535:=by rw [h2.out];omega
      have hnd:Dig 10000 out:=hno.1;go_wp2_with (first
        | (go_at_call 121;(with_reducible refine (small_z O oc _ out 65536 (x / 65536) _ _ _ rfl (by omega) h1.out hro (by omega) hnd (by omega) (by omega)).mono ?_);rintro e w1 ⟨O1,oc1,out1,rfl,hoc1,hro1,hb1,hv1,⟨hd1,hn1⟩,hl1⟩;have HV1:=Lib.hid hv1;clear hv1;have hcell1:=(hb1.cell (p:=ad.add k) (by rw [block_of_add];exact hbx)).trans cx)
        | (go_at_call 121;(with_reducible refine (small_z O1 oc1 _ out1 65536 (x % 65536) _ _ _ rfl (by omega) h2.out hro1 (by omega) hd1 (by omega) (by omega)).mono ?_);rintro e w2 ⟨O2,oc2,out2,rfl,hoc2,hro2,hb2,hv2,⟨hd2,hn2⟩,hl2⟩;have HV2:=Lib.hid hv2;clear hv2))
      go_roundw
      case rel=>
        refine ⟨_,O2,oc2,out2,by omega,by omega,rfl,rfl,hoc2,hro2,⟨hd2,hn2⟩,?_,by omega,(hbw.trans (hb1.mono hbw.size)).trans (hb2.mono (Nat.le_trans hbw.size hb1.size))⟩;rw [HV2.out,HV1.out,HV.out,show ((k:Int) - 1+1).toNat=k by omega,show ((k:Int)+1).toNat=k+1 by omega];unfold V32;rw [val_drop _ xs k hkx,ex.out];omega
      case measure=>simp [intOf]
end Go.Proofs.YtgekmfcbbjeahaaGreatDoor
/- isochroneref01.Small once more: what it returns lies in a new block. -/
namespace Go.Proofs.YtgekmfcbbjeahaaGreatDoor
open Go.RowKit V
def OutF (k:IntKind) (Q:List Nat→Prop) (w:World) (e:Ending) (w':World):Prop:=
  ∃ A c ys,e = .returned (.slice A (ys:List Nat).length c)∧ys.length≤c∧Rd k w' A ys∧Below w.heap.size w w'∧Q ys∧(0<ys.length → ∀ ad,A=some ad→w.heap.size≤ad.block)
theorem OutF.of_take {k:IntKind} {Q:List Nat→Prop} {w w':World} {A:Option Addr} {c m:Nat} {fin:List Nat} (hm:m≤fin.length) (hc:m≤c) (hr:Rd k w' A fin) (hb:Below w.heap.size w w')
    (hf:0<fin.length → ∀ ad,A=some ad→w.heap.size≤ad.block) (hq:Q (fin.take m)):OutF k Q w (.returned (.slice A m c)) w':=by
  have hl:(fin.take m).length=m:=by rw [List.length_take,Nat.min_eq_left hm]
  exact ⟨A,c,fin.take m,by rw [hl],by rw [hl];exact hc,hr.take hm,hb,hq,fun h=>hf (by omega)⟩
set_option maxHeartbeats 800000 in
theorem smallf_any (A : Option Addr) (ca : Nat) (xs : List Nat) (k c : Nat) (w : World) (hx : Rd .i64 w A xs) (bl : xs.length ≤ 100000) (dx : Dig 10000 xs) (hk : k ≤ 65536) (hc : c ≤ 65536) :
    Calls Tryz.prog 121 #[.slice A xs.length ca,.int .i64 k,.int .i64 c] w
      (OutF .i64 (fun zs=>VD zs=VD xs*k+c∧Nm zs∧zs.length≤xs.length+2) w):=by
  have hmk:=fun W=>make_cap (xs.length+2) ((xs.length:Int)+2) (by omega) (by omega) W
  go_enter Tryz.func121,Tryz.ntmps121;go_wp2;clear hmk;go_loopw [2,7,9,16] (fun cv v _ i wr=>∃ n c':Nat,∃ out:List Nat,n≤xs.length∧i = .int .i64 n∧cv = .int .i64 c'∧c'≤65536∧out.length=n∧Dig 10000 out ∧
      val 10000 out+10000 ^ n*c'=val 10000 (xs.take n)*k+c∧Own .i64 3 w.heap.size wr v out∧Below w.heap.size w wr) (fun _ _ _ i _=>xs.length - (intOf i).toNat)
  case atStart=>exact ⟨0,c,[],Nat.zero_le _,rfl,rfl,hc,rfl,fun _ h=>by simp at h,by simp [val],Own.made (Nat.le_refl _) _ (by omega),(Below.refl _ _).alloc (Nat.le_refl _) _⟩
  case round=>
    obtain ⟨n,c',out,hn,rfl,rfl,hc',hol,hdo,hv,hown,hbw⟩:=hrel;have HV:=Lib.hid hv;have HOL:=Lib.hid hol;clear hv hol
    by_cases hlt:n<xs.length
    · obtain ⟨ad,x,rfl,hbx,ex,cx⟩:=(hx.below hbw).ask hlt;have hxl:x<10000:=by rw [← ex.out];exact dig_getD dx (by omega) n
      have hm:=digit_mul x k hxl hk;have hm0:(0:Int)≤(x:Int)*k:=Int.mul_nonneg (by omega) (by omega);obtain ⟨s,c2,hs,hc2,hsc,es,ec⟩:∃ s c2:Nat,s<10000∧c2≤65536∧Hid (s+10000*c2=c'+x*k)∧Hid (((c':Int)+(x:Int)*k) % 10000=s)∧Hid (((c':Int)+(x:Int)*k) / 10000=c2):=by
        have e:((c'+x*k:Nat):Int)=(c':Int)+(x:Int)*k:=by simp
        have e2:c'+x*k≤655360000:=by omega
        refine ⟨(c'+x*k) % 10000,(c'+x*k) / 10000,Nat.mod_lt _ (by omega),by omega,Nat.mod_add_div _ _,?_,?_⟩
        · show _=_;rw [← e];omega
        · show _=_;rw [← e];omega
      go_wp2_with (at_builtin;refine wpList_app1 rfl (.tmp 25) (.tmp 28) 44 3 rfl .i64 8 info_i64 Tryz.underlying44 (by omega) _ _ out _ s es.out rfl hown rfl hbw (Nat.le_refl _) (by have:=HOL.out;omega) ?_;intro v' w' hown' hbw');go_roundw
      case rel=>exact ⟨n+1,c2,out ++ [s],by omega,by go_num,by rw [ec.out],hc2,by rw [List.length_append,HOL.out];rfl,hdo.snoc hs,small_step 10000 n s c' c2 x k c out xs HOL.out hlt ex.out hsc.out HV.out,hown',hbw'⟩
      case measure=>simp [intOf];omega
    · obtain rfl:n=xs.length:=by omega
      go_wp2;go_loopw [2,7] (fun cv v wr=>∃ c':Nat,∃ out:List Nat,cv = .int .i64 c'∧c'≤65536∧out.length+c'≤xs.length+65536∧Dig 10000 out ∧
          val 10000 out+10000 ^ out.length*c'=VD xs*k+c∧Own .i64 3 w.heap.size wr v out∧Below w.heap.size w wr) (fun cv _ _=>(intOf cv).toNat)
      case atStart=>exact ⟨c',out,rfl,hc',by have:=HOL.out;omega,hdo,by have:=HV.out;rw [List.take_length] at this;rw [HOL.out];exact this,hown,hbw⟩
      case round=>
        clear hc' hdo hown hbw HV HOL hn hlt;obtain ⟨c',out,rfl,hc',hol,hdo,hv,hown,hbw⟩:=hrel;have HV:=Lib.hid hv;clear hv
        by_cases h0:c'=0
        · subst h0;obtain ⟨O,oc,rfl,hoc,hro,hfresh⟩:=hown.shape;have HVt:=HV.out;clear hown;have hlen:out.length≤200000:=by omega
          go_wp2_with (go_at_call 157;refine (trim_i64 O oc out _ hro hoc hlen).mono ?_;rintro e w1 ⟨m,hm,rfl,hv3,hn3,rfl⟩;have HV3:=Lib.hid hv3;clear hv3);go_ret;have hval:VD (out.take m)=VD xs*k+c:=by
            show val 10000 (out.take m)=_;rw [HV3.out];simpa using HV.out
          refine OutF.of_take hm (by omega) hro hbw (fun h ad ha=>by obtain ⟨g,hg,hge⟩:=hfresh h;rw [ha] at hg;injection hg with hg;rw [hg];exact hge) ⟨hval,⟨hdo.take m,hn3⟩,?_⟩;refine len_of_lt (B:=10000) (by omega) hn3 ?_;show VD (out.take m)<_;rw [hval];have h1:=val_lt 10000 xs dx;have h2:(VD xs+1)*65537≤10000 ^ xs.length*65537:=Nat.mul_le_mul_right _ h1;have h3:VD xs*k≤VD xs*65536:=Nat.mul_le_mul_left _ hk;rw [Nat.pow_add];omega
        · obtain ⟨s,c2,hs,hc2,hlt2,hsc,es,ec⟩:∃ s c2:Nat,s<10000∧c2≤65536∧c2<c'∧Hid (s+10000*c2=c')∧Hid ((c':Int) % 10000=s)∧Hid ((c':Int) / 10000=c2):=
            ⟨c' % 10000,c' / 10000,Nat.mod_lt _ (by omega),by omega,by omega,Nat.mod_add_div _ _,by show _=_;omega,by show _=_;omega⟩
          go_wp2_with (at_builtin;refine wpList_app1 rfl (.tmp 35) (.tmp 38) 44 3 rfl .i64 8 info_i64 Tryz.underlying44 (by omega) _ _ out _ s es.out rfl hown rfl hbw (Nat.le_refl _) (by omega) ?_;intro v' w' hown' hbw');go_roundw
          case rel=>exact ⟨c2,out ++ [s],by rw [ec.out],hc2,by rw [List.length_append,List.length_singleton];omega,hdo.snoc hs,flush_step 10000 s c' c2 _ out hsc.out HV.out,hown',hbw'⟩
          case measure=>simp [intOf];omega
theorem smallf_z (A:Option Addr) (ca n:Nat) (xs:List Nat) (k c:Nat) (K C:Int) (w:World) (hn:xs.length=n) (hK:K=k) (hC:C=c) (hx:Rd .i64 w A xs) (bl:n≤100000) (dx:Dig 10000 xs) (hk:k≤65536) (hc:c≤65536) :
    Calls Tryz.prog 121 #[.slice A n ca,.int .i64 K,.int .i64 C] w
      (OutF .i64 (fun zs=>VD zs=VD xs*k+c∧Nm zs∧zs.length≤xs.length+2) w):=by
  subst hK;subst hC;subst hn;exact smallf_any A ca xs k c w hx bl dx hk hc
end Go.Proofs.YtgekmfcbbjeahaaGreatDoor
/- wide.isOne and wide.zeroWords. -/
namespace Go.Proofs.YtgekmfcbbjeahaaGreatDoor
open Go.RowKit V
def One1 (xs:List Nat):Bool:=decide (xs.length=1∧xs.getD 0 0=1)
set_option maxHeartbeats 400000 in
theorem wisOne (A:Option Addr) (c:Nat) (xs:List Nat) (w:World) (hx:Rd .u64 w A xs) (_:xs.length≤200000) :
    Calls Tryz.prog 158 #[.slice A xs.length c] w fun e w'=>e = .returned (.bool (One1 xs))∧w=w':=by
  by_cases h0:xs.length=1
  · have hb:((xs.length:Int) == 1)=true:=by simp [h0]
    obtain ⟨ad,x,rfl,hbx,ex,cx⟩:=hx.ask (i:=0) (by omega);have cx0:w.cell? ad=some (.int .u64 (x:Int)):=by have:=cx;unfold Addr.add at this;simpa using this
    clear cx;have hp:0<xs.length:=by omega
    by_cases h1:x=1
    · subst h1
      replace cx0:w.cell? ad=some (.int .u64 1):=cx0
      have ho:One1 xs=true:=by unfold One1;rw [ex.out];simp [h0]
      rw [ho];clear h0 ho;go_enter Tryz.func158,Tryz.ntmps158;go_wp2;go_ret;exact ⟨rfl,rfl⟩
    · have hn:((x:Int) == 1)=false:=beq_eq_false_iff_ne.2 (by omega);have ho:One1 xs=false:=by unfold One1;rw [ex.out];simp [h1]
      rw [ho];clear h0 ho h1;go_enter Tryz.func158,Tryz.ntmps158;go_wp2;go_ret;exact ⟨rfl,rfl⟩
  · have hb:((xs.length:Int) == 1)=false:=beq_eq_false_iff_ne.2 (by omega);have ho:One1 xs=false:=by unfold One1;simp [h0]
    rw [ho];clear h0 ho;go_enter Tryz.func158,Tryz.ntmps158;go_wp2;go_ret;exact ⟨rfl,rfl⟩
def LowP (xs:List Nat) (w:World) (e:Ending) (w':World):Prop:=
  ∃ m:Nat,e = .returned (.int .i64 m)∧m≤xs.length∧(∀ j,j<m→xs.getD j 0=0)∧(m<xs.length→xs.getD m 0≠0)∧w=w'
set_option maxHeartbeats 400000 in
theorem wzeroWords (A : Option Addr) (c : Nat) (xs : List Nat) (w : World) (h : Rd .u64 w A xs) (hb : xs.length ≤ 200000) :
    Calls Tryz.prog 165 #[.slice A xs.length c] w (LowP xs w):=by
  go_enter Tryz.func165,Tryz.ntmps165;go_wp2;go_loop [3] (fun n=>∃ m:Nat,m≤xs.length∧n = .int .i64 m ∧ ∀ j,j<m→xs.getD j 0=0) (fun n=>xs.length - (intOf n).toNat)
  case atStart=>exact ⟨0,Nat.zero_le _,rfl,fun j hj=>by omega⟩
  case round=>
    obtain ⟨m,hm,rfl,hv⟩:=hrel;have HV:=Lib.hid hv;clear hv
    by_cases h0:m<xs.length
    · obtain ⟨ad,x,rfl,hbl,hx,hcell⟩:=h.ask (i:=m) h0
      by_cases hz:x=0
      · subst hz;go_wp2;go_round
        case rel=>exact ⟨m+1,by omega,by go_num,fun j hj=>by
          by_cases hjm:j=m
          · subst hjm;exact hx.out
          · exact HV.out j (by omega)⟩
        case measure=>simp [intOf];omega
      · go_wp2;go_ret;exact ⟨m,rfl,hm,HV.out,fun _=>by rw [hx.out];exact hz,rfl⟩
    · have hb:decide ((m:Int)<xs.length)=false:=by simp;omega
      go_wp2;go_ret;exact ⟨m,rfl,hm,HV.out,fun hlt=>absurd hlt h0,rfl⟩
end Go.Proofs.YtgekmfcbbjeahaaGreatDoor
