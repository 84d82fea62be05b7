/- Polynomials as lists of monomials (numbers) and coefficients: coefficients, normal form, sums, multiples, products. Plain facts. -/
import Derived.Test.YtgekmfcbbjeahaaGreatDoorPpR0
namespace Go.Proofs.YtgekmfcbbjeahaaGreatDoor
abbrev PL:=List (Nat × Rat)
def cf:PL→Nat→Rat
  | [],_=>0
  | t :: r,k=>(if t.1=k then t.2 else 0)+cf r k
structure NF (p:PL):Prop where
  desc:p.Pairwise (fun a b=>b.1<a.1)
  nz:∀ t ∈ p,t.2≠0
theorem NF.nil:NF []:=⟨List.Pairwise.nil,fun _ h=>by simp at h⟩
theorem NF.tail {t:Nat × Rat} {r:PL} (h:NF (t :: r)):NF r:=⟨(List.pairwise_cons.1 h.desc).2,fun x hx=>h.nz x (by simp [hx])⟩
theorem NF.head {t:Nat × Rat} {r:PL} (h:NF (t :: r)):∀ x ∈ r,x.1<t.1:=(List.pairwise_cons.1 h.desc).1
theorem NF.cons {t:Nat × Rat} {r:PL} (hr:NF r) (h1:∀ x ∈ r,x.1<t.1) (h2:t.2≠0):NF (t :: r):=
  ⟨List.pairwise_cons.2 ⟨h1,hr.desc⟩,fun x hx=>by rcases List.mem_cons.1 hx with rfl | hx;exact h2;exact hr.nz x hx⟩
theorem cf_none {p:PL} {k:Nat} (h:∀ t ∈ p,t.1≠k):cf p k=0:=by
  induction p with
  | nil=>rfl
  | cons t r ih =>
    show (if t.1=k then t.2 else 0)+cf r k=0;rw [if_neg (h t (by simp)),ih (fun x hx=>h x (by simp [hx])),Rat.zero_add]
theorem cf_head {t:Nat × Rat} {r:PL} (h:NF (t :: r)):cf (t :: r) t.1=t.2:=by
  show (if t.1=t.1 then t.2 else 0)+cf r t.1=t.2;rw [if_pos rfl,cf_none (fun x hx=>Nat.ne_of_lt (h.head x hx)),Rat.add_zero]
theorem nf_ext : ∀ {p q : PL}, NF p → NF q → (∀ k, cf p k = cf q k) → p = q
  | [],[],_,_,_=>rfl
  | [], u :: s, _, hq, h => by
    have:=h u.1;rw [cf_head hq] at this;exact absurd this.symm (hq.nz u (by simp))
  | t :: r, [], hp, _, h => by
    have:=h t.1;rw [cf_head hp] at this;exact absurd this (hp.nz t (by simp))
  | t :: r, u :: s, hp, hq, h => by
    have he:t.1=u.1:=by
      rcases Nat.lt_trichotomy t.1 u.1 with g | g | g
      · have h1:=h u.1;rw [cf_head hq,cf_none (fun x hx=>by rcases List.mem_cons.1 hx with rfl | hx;omega;have:=hp.head x hx;omega)] at h1;exact absurd h1.symm (hq.nz u (by simp))
      · exact g
      · have h1:=h t.1;rw [cf_head hp,cf_none (fun x hx=>by rcases List.mem_cons.1 hx with rfl | hx;omega;have:=hq.head x hx;omega)] at h1;exact absurd h1 (hp.nz t (by simp))
    have hc:t.2=u.2:=by
      have h1:=h t.1;rw [cf_head hp] at h1;rw [he,cf_head hq] at h1;exact h1
    have htu:t=u:=Prod.ext he hc;subst htu
    rw [nf_ext hp.tail hq.tail fun k => by
      by_cases hk:t.1=k
      · subst hk;rw [cf_none (fun x hx=>Nat.ne_of_lt (hp.head x hx)),cf_none (fun x hx=>Nat.ne_of_lt (hq.head x hx))]
      · have h1:=h k;simp only [cf,if_neg hk,Rat.zero_add] at h1;exact h1]
theorem cf_append (p q:PL) (k:Nat):cf (p ++ q) k=cf p k+cf q k:=by
  induction p with
  | nil=>show cf q k=0+cf q k;rw [Rat.zero_add]
  | cons t r ih =>
    show (if t.1=k then t.2 else 0)+cf (r ++ q) k=((if t.1=k then t.2 else 0)+cf r k)+cf q k;rw [ih,Rat.add_assoc]
theorem add4 (a b c d:Rat):(a+b)+(c+d)=(a+c)+(b+d):=by
  rw [Rat.add_assoc,Rat.add_assoc,← Rat.add_assoc b,Rat.add_comm b c,Rat.add_assoc c]
def addL : PL → PL → PL
  | [],q=>q
  | t :: r,[]=>t :: r
  | t :: r, u :: s =>
    if u.1<t.1 then t :: addL r (u :: s)
    else if t.1<u.1 then u :: addL (t :: r) s
    else if t.2+u.2=0 then addL r s
    else (t.1,t.2+u.2) :: addL r s
termination_by p q=>p.length+q.length
theorem addL_nil (p:PL):addL p []=p:=by cases p <;> simp [addL]
theorem cf_addL (p q:PL) (k:Nat):cf (addL p q) k=cf p k+cf q k:=by
  induction p,q using addL.induct with
  | case1 q=>simp only [addL,cf,Rat.zero_add]
  | case2 t r=>rw [addL];simp only [cf,Rat.add_zero]
  | case3 t r u s h ih =>
    rw [addL,if_pos h];show (if t.1=k then t.2 else 0)+cf (addL r (u :: s)) k=((if t.1=k then t.2 else 0)+cf r k)+cf (u :: s) k;rw [ih,Rat.add_assoc]
  | case4 t r u s h h2 ih =>
    rw [addL,if_neg h,if_pos h2];show (if u.1=k then u.2 else 0)+cf (addL (t :: r) s) k=cf (t :: r) k+((if u.1=k then u.2 else 0)+cf s k);rw [ih,← Rat.add_assoc,← Rat.add_assoc,Rat.add_comm (if u.1=k then u.2 else 0)]
  | case5 t r u s h h2 h3 ih =>
    have he:t.1=u.1:=by omega
    rw [addL,if_neg h,if_neg h2,if_pos h3,ih];show _=((if t.1=k then t.2 else 0)+cf r k)+((if u.1=k then u.2 else 0)+cf s k);have e:(if t.1=k then t.2 else 0)+(if u.1=k then u.2 else 0)=(0:Rat):=by
      rw [← he];split
      · exact h3
      · exact Rat.add_zero 0
    rw [add4,e,Rat.zero_add]
  | case6 t r u s h h2 h3 ih =>
    have he:t.1=u.1:=by omega
    rw [addL,if_neg h,if_neg h2,if_neg h3];show (if t.1=k then t.2+u.2 else 0)+cf (addL r s) k=((if t.1=k then t.2 else 0)+cf r k)+((if u.1=k then u.2 else 0)+cf s k);rw [ih];have e:(if t.1=k then t.2+u.2 else 0)=(if t.1=k then t.2 else 0)+(if u.1=k then u.2 else (0:Rat)):=by
      rw [← he];split
      · rfl
      · exact (Rat.add_zero 0).symm
    rw [e,add4]
theorem addL_mem:∀ {p q:PL} {x:Nat × Rat},x ∈ addL p q→(∃ y ∈ p,y.1=x.1) ∨ ∃ y ∈ q,y.1=x.1:=by
  intro p q
  induction p,q using addL.induct with
  | case1 q=>intro x h;rw [addL] at h;exact Or.inr ⟨x,h,rfl⟩
  | case2 t r=>intro x h;rw [addL] at h;exact Or.inl ⟨x,h,rfl⟩
  | case3 t r u s h ih =>
    intro x hx;rw [addL,if_pos h] at hx;rcases List.mem_cons.1 hx with rfl | hx
    · exact Or.inl ⟨x,by simp,rfl⟩
    · rcases ih hx with ⟨y,h1,h2⟩ | h1
      · exact Or.inl ⟨y,by simp [h1],h2⟩
      · exact Or.inr h1
  | case4 t r u s h h2 ih =>
    intro x hx;rw [addL,if_neg h,if_pos h2] at hx;rcases List.mem_cons.1 hx with rfl | hx
    · exact Or.inr ⟨x,by simp,rfl⟩
    · rcases ih hx with h1 | ⟨y,h1,h2⟩
      · exact Or.inl h1
      · exact Or.inr ⟨y,by simp [h1],h2⟩
  | case5 t r u s h h2 h3 ih =>
    intro x hx;rw [addL,if_neg h,if_neg h2,if_pos h3] at hx;rcases ih hx with ⟨y,h1,h2⟩ | ⟨y,h1,h2⟩
    · exact Or.inl ⟨y,by simp [h1],h2⟩
    · exact Or.inr ⟨y,by simp [h1],h2⟩
  | case6 t r u s h h2 h3 ih =>
    intro x hx;rw [addL,if_neg h,if_neg h2,if_neg h3] at hx;rcases List.mem_cons.1 hx with rfl | hx
    · exact Or.inl ⟨t,by simp,rfl⟩
    · rcases ih hx with ⟨y,h1,h2⟩ | ⟨y,h1,h2⟩
      · exact Or.inl ⟨y,by simp [h1],h2⟩
      · exact Or.inr ⟨y,by simp [h1],h2⟩
theorem nf_addL:∀ {p q:PL},NF p→NF q→NF (addL p q):=by
  intro p q
  induction p,q using addL.induct with
  | case1 q=>intro _ h;rw [addL];exact h
  | case2 t r=>intro h _;rw [addL];exact h
  | case3 t r u s h ih =>
    intro hp hq;rw [addL,if_pos h];refine (ih hp.tail hq).cons (fun x hx=>?_) (hp.nz t (by simp));rcases addL_mem hx with ⟨y,h1,h2⟩ | ⟨y,h1,h2⟩
    · have:=hp.head y h1;omega
    · rcases List.mem_cons.1 h1 with rfl | h1
      · omega
      · have:=hq.head y h1;omega
  | case4 t r u s h h2 ih =>
    intro hp hq;rw [addL,if_neg h,if_pos h2];refine (ih hp hq.tail).cons (fun x hx=>?_) (hq.nz u (by simp));rcases addL_mem hx with ⟨y,h1,h3⟩ | ⟨y,h1,h3⟩
    · rcases List.mem_cons.1 h1 with rfl | h1
      · omega
      · have:=hp.head y h1;omega
    · have:=hq.head y h1;omega
  | case5 t r u s h h2 h3 ih =>
    intro hp hq;rw [addL,if_neg h,if_neg h2,if_pos h3];exact ih hp.tail hq.tail
  | case6 t r u s h h2 h3 ih =>
    intro hp hq;rw [addL,if_neg h,if_neg h2,if_neg h3];refine (ih hp.tail hq.tail).cons (fun x hx=>?_) h3;rcases addL_mem hx with ⟨y,h1,h4⟩ | ⟨y,h1,h4⟩
    · have:=hp.head y h1;show x.1<t.1;omega
    · have:=hq.head y h1;show x.1<t.1;omega
def scaleL (p:PL) (c:Rat):PL:=if c=0 then [] else p.map fun t=>(t.1,t.2*c)
theorem cf_put_new (p:PL) (e:Nat) (c:Rat) (k:Nat):cf (p ++ [(e,c)]) k=cf p k+(if e=k then c else 0):=by
  rw [cf_append];show _+((if e=k then c else 0)+0)=_;rw [Rat.add_zero]
end Go.Proofs.YtgekmfcbbjeahaaGreatDoor
/- Heaps in lists: what one exchange upwards or downwards keeps (container/heap's up and down). Plain facts. -/
namespace Go.Proofs.YtgekmfcbbjeahaaGreatDoor
section
variable {α:Type} (f:α→Nat)
def keyAt (xs:List α) (i:Nat):Nat:=match xs[i]? with
  | some x=>f x
  | none=>0
def swp (xs:List α) (i j:Nat):List α:=match xs[i]?,xs[j]? with
  | some a,some b=>(xs.set i b).set j a
  | _,_=>xs
theorem swp_len (xs:List α) (i j:Nat):(swp xs i j).length=xs.length:=by
  unfold swp;split <;> simp
theorem swp_get {xs:List α} {i j:Nat} (hi:i<xs.length) (hj:j<xs.length) (k:Nat):(swp xs i j)[k]?=if k=j then xs[i]? else if k=i then xs[j]? else xs[k]?:=by
  unfold swp;rw [List.getElem?_eq_getElem hi,List.getElem?_eq_getElem hj];simp only;rw [List.getElem?_set,List.getElem?_set]
  by_cases h1:j=k
  · subst h1;simp [hj]
  · by_cases h2:i=k
    · subst h2;simp [h1,hi,Ne.symm h1]
    · simp [h1,h2,Ne.symm h1,Ne.symm h2]
theorem key_swp {xs:List α} {i j:Nat} (hi:i<xs.length) (hj:j<xs.length) (k:Nat):keyAt f (swp xs i j) k=if k=j then keyAt f xs i else if k=i then keyAt f xs j else keyAt f xs k:=by
  unfold keyAt;rw [swp_get hi hj k]
  by_cases h1:k=j
  · rw [if_pos h1,if_pos h1]
  · rw [if_neg h1,if_neg h1]
    by_cases h2:k=i
    · rw [if_pos h2,if_pos h2]
    · rw [if_neg h2,if_neg h2]
theorem swp_perm {xs:List α} {i j:Nat} (hi:i<xs.length) (hj:j<xs.length):(swp xs i j).Perm xs:=by
  unfold swp;rw [List.getElem?_eq_getElem hi,List.getElem?_eq_getElem hj];simp only;exact List.set_set_perm hi hj
def Heap (xs:List α):Prop:=∀ i,0<i→i<xs.length→keyAt f xs i≤keyAt f xs ((i - 1) / 2)
def HeapUp (xs:List α) (j:Nat):Prop:=(∀ i,0<i→i<xs.length→i≠j→keyAt f xs i≤keyAt f xs ((i - 1) / 2)) ∧
  ∀ c,0<c→c<xs.length→(c - 1) / 2=j→0<j→keyAt f xs c≤keyAt f xs ((j - 1) / 2)
def HeapDown (xs:List α) (i:Nat):Prop:=(∀ c,0<c→c<xs.length→(c - 1) / 2≠i→keyAt f xs c≤keyAt f xs ((c - 1) / 2)) ∧
  ∀ c,0<c→c<xs.length→(c - 1) / 2=i→0<i→keyAt f xs c≤keyAt f xs ((i - 1) / 2)
variable {f}
theorem Heap.top {xs:List α} (h:Heap f xs):∀ i,i<xs.length→keyAt f xs i≤keyAt f xs 0:=by
  intro i
  induction i using Nat.strongRecOn with
  | _ i ih =>
    intro hi;rcases Nat.eq_zero_or_pos i with rfl | hp
    · exact Nat.le_refl _
    · exact Nat.le_trans (h i hp hi) (ih _ (by omega) (by omega))
theorem HeapUp.stop {xs:List α} {j:Nat} (h:HeapUp f xs j) (hj:j=0∨keyAt f xs j≤keyAt f xs ((j - 1) / 2)):Heap f xs:=by
  intro i hp hi
  by_cases e:i=j
  · subst e;rcases hj with h0 | h0
    · omega
    · exact h0
  · exact h.1 i hp hi e
theorem HeapUp.step {xs : List α} {j : Nat} (h : HeapUp f xs j) (hj : 0 < j) (hl : j < xs.length) (hk : keyAt f xs ((j - 1) / 2) < keyAt f xs j) : HeapUp f (swp xs ((j - 1) / 2) j) ((j - 1) / 2) := by
  have hp:(j - 1) / 2<xs.length:=by omega
  have K:=key_swp f hp hl;constructor
  · intro i h0 hi hne; rw [swp_len] at hi; rw [K, K]
    by_cases e1:i=j
    · subst e1;rw [if_pos rfl,if_neg (show (i - 1) / 2≠i by omega),if_pos rfl];omega
    · rw [if_neg e1, if_neg hne]
      by_cases e2:(i - 1) / 2=j
      · rw [if_pos e2];exact h.2 i h0 hi e2 hj
      · rw [if_neg e2];have:=h.1 i h0 hi e1
        by_cases e3:(i - 1) / 2=(j - 1) / 2
        · rw [if_pos e3];rw [e3] at this;omega
        · rw [if_neg e3];exact this
  · intro c h0 hc hpc hpos;rw [swp_len] at hc;have hpp:=h.1 ((j - 1) / 2) hpos hp (by omega);rw [K,K];rw [if_neg (show ((j - 1) / 2 - 1) / 2≠j by omega),if_neg (show ((j - 1) / 2 - 1) / 2≠(j - 1) / 2 by omega)]
    by_cases e1:c=j
    · rw [if_pos e1];exact hpp
    · rw [if_neg e1,if_neg (show c≠(j - 1) / 2 by omega)];have:=h.1 c h0 hc e1;rw [hpc] at this;omega
theorem HeapDown.stop {xs:List α} {i:Nat} (h:HeapDown f xs i) (hk:∀ c,0<c→c<xs.length→(c - 1) / 2=i→keyAt f xs c≤keyAt f xs i):Heap f xs:=by
  intro c hp hc
  by_cases e:(c - 1) / 2=i
  · rw [e];exact hk c hp hc e
  · exact h.1 c hp hc e
theorem HeapDown.step {xs : List α} {i j : Nat} (h : HeapDown f xs i) (hi : i < xs.length) (hj : 0 < j) (hl : j < xs.length) (hpj : (j - 1) / 2 = i) (hbig : ∀ c, 0 < c → c < xs.length → (c - 1) / 2 = i → keyAt f xs c ≤ keyAt f xs j) (hk : keyAt f xs i < keyAt f xs j) : HeapDown f (swp xs i j) j := by
  have K:=key_swp f hi hl;constructor
  · intro c h0 hc hne; rw [swp_len] at hc; rw [K, K]
    by_cases e1:c=j
    · subst e1;rw [if_pos rfl,hpj,if_neg (show i≠c by omega),if_pos rfl];omega
    · rw [if_neg e1, if_neg hne]
      by_cases e2:(c - 1) / 2=i
      · rw [if_pos e2,if_neg (show c≠i by omega)];exact hbig c h0 hc e2
      · rw [if_neg e2]
        by_cases e3:c=i
        · subst e3;rw [if_pos rfl];exact h.2 j hj hl hpj h0
        · rw [if_neg e3];exact h.1 c h0 hc e2
  · intro c h0 hc hpc _;rw [swp_len] at hc;rw [K,K,hpj,if_neg (show i≠j by omega),if_pos rfl,if_neg (show c≠j by omega),if_neg (show c≠i by omega)];have:=h.1 c h0 hc (by omega);rw [hpc] at this;exact this
end
end Go.Proofs.YtgekmfcbbjeahaaGreatDoor
/- Products of two lists of terms, taken row by row out of a heap; the normal form of a list of terms. Plain facts. -/
namespace Go.Proofs.YtgekmfcbbjeahaaGreatDoor
def rowL (f:Nat × Rat) (L:PL):PL:=L.map fun u=>(f.1+u.1,f.2*u.2)
def remL (F:Nat→Nat × Rat) (K:Nat→Nat) (L:PL):List Nat→PL
  | []=>[]
  | g :: r=>(rowL (F g) L).drop (K g) ++ remL F K L r
def bump (K:Nat→Nat) (g:Nat):Nat→Nat:=fun x=>if x=g then K x+1 else K x
theorem bump_self (K:Nat→Nat) (g:Nat):bump K g g=K g+1:=if_pos rfl
theorem bump_ne (K:Nat→Nat) {g x:Nat} (h:x≠g):bump K g x=K x:=if_neg h
theorem rem_congr (F:Nat→Nat × Rat) {K K':Nat→Nat} (L:PL):∀ {gs:List Nat},(∀ g ∈ gs,K g=K' g)→remL F K L gs=remL F K' L gs
  | [],_=>rfl
  | g :: r, h => by
    show _ ++ _=_ ++ _;rw [h g (by simp),rem_congr F L (gs:=r) (fun x hx=>h x (by simp [hx]))]
theorem row_drop {f:Nat × Rat} {L:PL} {k:Nat} {u:Nat × Rat} (h:L[k]?=some u):(rowL f L).drop k=(f.1+u.1,f.2*u.2) :: (rowL f L).drop (k+1):=by
  obtain ⟨hk,hu⟩:=List.getElem?_eq_some_iff.1 h;rw [List.drop_eq_getElem_cons (by simpa [rowL] using hk)];simp [rowL,hu]
theorem rem_take (F : Nat → Nat × Rat) (K : Nat → Nat) {L : PL} {g : Nat} {u : Nat × Rat} (hu : L[K g]? = some u) (m : Nat) : ∀ {gs : List Nat}, gs.Nodup → g ∈ gs →
    cf (remL F K L gs) m=(if (F g).1+u.1=m then (F g).2*u.2 else 0)+cf (remL F (bump K g) L gs) m
  | [],_,h=>by simp at h
  | a :: r, hn, h => by
    obtain ⟨ha,hr⟩:=List.nodup_cons.1 hn;show cf (_ ++ _) m=_+cf (_ ++ _) m
    by_cases e:a=g
    · subst e;rw [bump_self,row_drop hu,rem_congr F (K:=bump K a) (K':=K) L (fun x hx=>bump_ne K (fun e=>ha (e ▸ hx))),List.cons_append];rfl
    · have hg:g ∈ r:=by
        rcases List.mem_cons.1 h with h | h
        · exact absurd h.symm e
        · exact h
      rw [bump_ne K e,cf_append,cf_append,rem_take F K hu m hr hg,← Rat.add_assoc,← Rat.add_assoc,Rat.add_comm (cf _ m)]
theorem mem_rem {F:Nat→Nat × Rat} {K:Nat→Nat} {L:PL} {x:Nat × Rat}:∀ {gs:List Nat},x ∈ remL F K L gs → ∃ g ∈ gs,x ∈ (rowL (F g) L).drop (K g)
  | [],h=>by simp [remL] at h
  | a :: r, h => by
    rcases List.mem_append.1 h with h | h
    · exact ⟨a,by simp,h⟩
    · obtain ⟨g,hg,hx⟩:=mem_rem h;exact ⟨g,by simp [hg],hx⟩
theorem row_desc {f:Nat × Rat} {L:PL} (hd:L.Pairwise (fun a b=>b.1<a.1)) {k:Nat} {u x:Nat × Rat} (hu:L[k]?=some u) (hx:x ∈ (rowL f L).drop k):x.1≤f.1+u.1:=by
  rw [row_drop hu] at hx;rcases List.mem_cons.1 hx with rfl | hx
  · exact Nat.le_refl _
  · have hp:(rowL f L).Pairwise (fun a b=>b.1<a.1):=by
      unfold rowL;rw [List.pairwise_map];exact hd.imp (fun h=>by omega)
    have hs:=hp.sublist (List.drop_sublist k _);rw [row_drop hu] at hs;exact Nat.le_of_lt ((List.pairwise_cons.1 hs).1 x hx)
theorem next_lt {L:PL} (hd:L.Pairwise (fun a b=>b.1<a.1)) {k:Nat} {u v:Nat × Rat} (hu:L[k]?=some u) (hv:L[k+1]?=some v):v.1<u.1:=by
  obtain ⟨h1,e1⟩:=List.getElem?_eq_some_iff.1 hu;obtain ⟨h2,e2⟩:=List.getElem?_eq_some_iff.1 hv;rw [← e1,← e2];exact List.pairwise_iff_getElem.1 hd k (k+1) h1 h2 (by omega)
structure RowsOk (F:Nat→Nat × Rat) (K N:Nat→Nat) (L:PL) (gs hp wt:List Nat):Prop where
  nodup:gs.Nodup
  perm:(hp ++ wt).Perm gs
  op:∀ g ∈ hp,∃ u,L[K g]?=some u∧N g=(F g).1+u.1
  wa:∀ g ∈ wt,K g=L.length
section
variable {F:Nat→Nat × Rat} {K N:Nat→Nat} {L:PL} {gs hp wt:List Nat}
theorem RowsOk.le (h:RowsOk F K N L gs hp wt) (hd:L.Pairwise (fun a b=>b.1<a.1)) {M:Nat} (hM:∀ g ∈ hp,N g≤M):∀ x ∈ remL F K L gs,x.1≤M:=fun x hx=>by
  obtain ⟨g,hg,hx⟩:=mem_rem hx;rcases List.mem_append.1 (h.perm.mem_iff.2 hg) with hg | hg
  · obtain ⟨u,hu,hn⟩:=h.op g hg;have:=row_desc hd hu hx;have:=hM g hg;omega
  · rw [h.wa g hg,List.drop_eq_nil_of_le (by simp [rowL])] at hx;cases hx
theorem RowsOk.done (h:RowsOk F K N L gs [] wt):remL F K L gs=[]:=by
  have:∀ x ∈ remL F K L gs,False:=fun x hx=>by
    obtain ⟨g,hg,hx⟩:=mem_rem hx;have hg:=h.perm.mem_iff.2 hg;rw [List.nil_append] at hg;rw [h.wa g hg,List.drop_eq_nil_of_le (by simp [rowL])] at hx;cases hx
  exact List.eq_nil_iff_forall_not_mem.2 this
theorem RowsOk.mem (h:RowsOk F K N L gs hp wt) {g:Nat} (hg:g ∈ hp):g ∈ gs:=h.perm.mem_iff.1 (List.mem_append.2 (.inl hg))
theorem RowsOk.nodup_hp (h:RowsOk F K N L gs hp wt):hp.Nodup:=(List.nodup_append.1 (h.perm.nodup_iff.2 h.nodup)).1
theorem RowsOk.reorder (h:RowsOk F K N L gs hp wt) {hp':List Nat} (hq:hp'.Perm hp):RowsOk F K N L gs hp' wt:=
  ⟨h.nodup,(hq.append_right wt).trans h.perm,fun g hg=>h.op g (hq.mem_iff.1 hg),h.wa⟩
theorem RowsOk.fix (h:RowsOk F K N L gs hp wt) {g:Nat} (hg:g ∈ hp) {u:Nat × Rat} (hu:L[K g+1]?=some u):RowsOk F (bump K g) (fun x=>if x=g then (F g).1+u.1 else N x) L gs hp wt:=
  ⟨h.nodup,h.perm,fun x hx=>by
    by_cases e:x=g
    · subst e;exact ⟨u,by rw [bump_self];exact hu,if_pos rfl⟩
    · rw [bump_ne K e];obtain ⟨v,h1,h2⟩:=h.op x hx;exact ⟨v,h1,by rw [← h2];exact if_neg e⟩,fun x hx=>by
    have hne:x≠g:=fun e=>by
      have:=List.nodup_append.1 (h.perm.nodup_iff.2 h.nodup);exact this.2.2 g hg x hx e.symm
    rw [bump_ne K hne];exact h.wa x hx⟩
theorem RowsOk.pop {g:Nat} {r:List Nat} (h:RowsOk F K N L gs (g :: r) wt) (hk:K g+1=L.length):RowsOk F (bump K g) N L gs r (wt ++ [g]):=
  have hn:=h.perm.nodup_iff.2 h.nodup;have hn2:=List.nodup_cons.1 (by simpa using hn:(g :: (r ++ wt)).Nodup)
  ⟨h.nodup,(by
    refine List.Perm.trans ?_ h.perm;rw [← List.append_assoc];exact (List.perm_append_comm (l₁:=r ++ wt) (l₂:=[g]))),fun x hx=>by
    have hne:x≠g:=fun e=>hn2.1 (by rw [← e];simp [hx])
    rw [bump_ne K hne];exact h.op x (by simp [hx]),fun x hx=>by
    rcases List.mem_append.1 hx with hx | hx
    · have hne:x≠g:=fun e=>hn2.1 (by rw [← e];simp [hx])
      rw [bump_ne K hne];exact h.wa x hx
    · obtain rfl:=List.mem_singleton.1 hx;rw [bump_self];exact hk⟩
end
def key2 (E N:Nat→Nat) (g:Nat):Nat:=N g*18446744073709551616+E g
theorem key2_lt {E N:Nat→Nat} {a b:Nat} (ha:E a<18446744073709551616) (hb:E b<18446744073709551616):key2 E N a<key2 E N b↔N a<N b∨N a=N b∧E a<E b:=by
  unfold key2;constructor
  · intro h;rcases Nat.lt_trichotomy (N a) (N b) with h1 | h1 | h1
    · exact .inl h1
    · exact .inr ⟨h1,by rw [h1] at h;omega⟩
    · have:=Nat.mul_le_mul_right 18446744073709551616 h1;rw [Nat.succ_mul] at this;omega
  · rintro (h1 | ⟨h1,h2⟩)
    · have:=Nat.mul_le_mul_right 18446744073709551616 h1;rw [Nat.succ_mul] at this;omega
    · rw [h1];omega
theorem key2_le {E N:Nat→Nat} {a b:Nat} (ha:E a<18446744073709551616) (hb:E b<18446744073709551616) (h:key2 E N a≤key2 E N b):N a≤N b:=by
  have:=(key2_lt (N:=N) hb ha).2;rcases Nat.lt_or_ge (N b) (N a) with h1 | h1
  · have:=this (.inl h1);omega
  · exact h1
theorem Heap.top_less {α:Type} {f f':α→Nat} {xs:List α} (h:Heap f xs) (hc:∀ i x,0<i→xs[i]?=some x→f' x=f x):HeapDown f' xs 0:=by
  have key:∀ i,0<i→keyAt f' xs i=keyAt f xs i:=fun i hi=>by
    unfold keyAt;cases hx:xs[i]? with
    | none=>rfl
    | some x=>exact hc i x hi hx
  refine ⟨fun c h0 h1 h2=>?_,fun c h0 h1 h2 h3=>by omega⟩;rw [key c h0,key _ (by omega)];exact h c h0 h1
theorem heap_congr {α:Type} {f f':α→Nat} {xs:List α} (h:Heap f xs) (hc:∀ x ∈ xs,f' x=f x):Heap f' xs:=by
  have key:∀ i,keyAt f' xs i=keyAt f xs i:=fun i=>by
    unfold keyAt;cases hx:xs[i]? with
    | none=>rfl
    | some x=>exact hc x (List.mem_of_getElem? hx)
  intro i h0 h1;rw [key,key];exact h i h0 h1
theorem Heap.snoc {α:Type} {f:α→Nat} {xs:List α} (h:Heap f xs) (x:α):HeapUp f (xs ++ [x]) xs.length:=by
  have key:∀ i,i<xs.length→keyAt f (xs ++ [x]) i=keyAt f xs i:=fun i hi=>by
    unfold keyAt;rw [List.getElem?_append_left hi]
  refine ⟨fun i h0 h1 h2=>?_,fun c h0 h1 h2 _=>?_⟩
  · have:i<xs.length:=by simp at h1;omega
    rw [key i this,key _ (by omega)];exact h i h0 this
  · simp at h1;omega
def mulA (P L:PL):PL:=P.flatMap fun f=>rowL f L
theorem mulA_rem (F:Nat→Nat × Rat) (L:PL):∀ gs:List Nat,remL F (fun _=>0) L gs=mulA (gs.map F) L
  | []=>rfl
  | g :: r => by
    show (rowL (F g) L).drop 0 ++ _=_;rw [mulA_rem F L r];rfl
theorem cf_row (f:Nat × Rat) (m:Nat):∀ L:PL,cf (rowL f L) m=cf (mulA L [f]) m
  | []=>rfl
  | u :: r => by
    show (if f.1+u.1=m then f.2*u.2 else 0)+cf (rowL f r) m=cf ((rowL u [f]) ++ mulA r [f]) m;rw [cf_append,cf_row f m r];congr 1;show _=(if u.1+f.1=m then u.2*f.2 else 0)+0;rw [Rat.add_zero,Nat.add_comm,Rat.mul_comm]
theorem cf_mulA_cons (f:Nat × Rat) (L:PL) (m:Nat):∀ P:PL,cf (mulA P (f :: L)) m=cf (mulA P [f]) m+cf (mulA P L) m
  | []=>by show (0:Rat)=0+0;rw [Rat.add_zero]
  | u :: r => by
    show cf (rowL u (f :: L) ++ mulA r (f :: L)) m=cf (rowL u [f] ++ mulA r [f]) m+cf (rowL u L ++ mulA r L) m;rw [cf_append,cf_append,cf_append,cf_mulA_cons f L m r];have:cf (rowL u (f :: L)) m=cf (rowL u [f]) m+cf (rowL u L) m:=by
      show cf ([_] ++ rowL u L) m=_;rw [cf_append];rfl
    rw [this,add4]
theorem cf_mulA_nil (m:Nat):∀ P:PL,cf (mulA P []) m=0
  | []=>rfl
  | _ :: r=>cf_mulA_nil m r
theorem cf_mulA_comm (m:Nat) (Q:PL):∀ P:PL,cf (mulA P Q) m=cf (mulA Q P) m
  | []=>(cf_mulA_nil m Q).symm
  | f :: r => by
    rw [cf_mulA_cons,← cf_row];show cf (rowL f Q ++ mulA r Q) m=_;rw [cf_append,cf_mulA_comm m Q r]
def nfOf:PL→PL
  | []=>[]
  | t :: r=>addL (if t.2=0 then [] else [t]) (nfOf r)
theorem nf_one (t:Nat × Rat):NF (if t.2=0 then [] else [t]):=by
  split
  · exact NF.nil
  · rename_i h
    exact NF.nil.cons (fun _ h=>by simp at h) h
theorem cf_one (t:Nat × Rat) (k:Nat):cf (if t.2=0 then [] else [t]) k=if t.1=k then t.2 else 0:=by
  split
  · rename_i h;rw [h];simp [cf]
  · show _+0=_;rw [Rat.add_zero]
theorem nf_nfOf:∀ p:PL,NF (nfOf p)
  | []=>NF.nil
  | t :: r=>nf_addL (nf_one t) (nf_nfOf r)
theorem cf_nfOf (k:Nat):∀ p:PL,cf (nfOf p) k=cf p k
  | []=>rfl
  | t :: r => by
    show cf (addL _ _) k=_+_;rw [cf_addL,cf_one,cf_nfOf k r]
theorem nfOf_mem : ∀ {p : PL} {x : Nat × Rat}, x ∈ nfOf p → ∃ y ∈ p, y.1 = x.1
  | [],_,h=>by simp [nfOf] at h
  | t :: r, x, h => by
    rcases addL_mem h with ⟨y,hy,e⟩ | ⟨y,hy,e⟩
    · split at hy
      · cases hy
      · obtain rfl:=List.mem_singleton.1 hy;exact ⟨y,by simp,e⟩
    · obtain ⟨z,hz,e2⟩:=nfOf_mem hy;exact ⟨z,by simp [hz],by rw [e2,e]⟩
structure ProdIn (F:Nat→Nat × Rat) (K:Nat→Nat) (L:PL) (gs:List Nat) (T out:PL):Prop where
  nf:NF out
  hi:∀ x ∈ out,∀ y ∈ remL F K L gs,y.1<x.1
  eq:∀ m,cf out m+cf (remL F K L gs) m=cf T m
structure Taken (F:Nat→Nat × Rat) (K K':Nat→Nat) (L:PL) (gs:List Nat) (m:Nat) (c:Rat):Prop where
  has:∃ y ∈ remL F K L gs,y.1=m
  lt:∀ x ∈ remL F K' L gs,x.1<m
  keep:∀ k,k≠m→cf (remL F K' L gs) k=cf (remL F K L gs) k
  sum:c=cf (remL F K L gs) m
section
variable {F:Nat→Nat × Rat} {K K':Nat→Nat} {L T out:PL} {gs:List Nat} {m:Nat} {c:Rat}
theorem cf_lt {p:PL} {m:Nat} (h:∀ x ∈ p,x.1<m):cf p m=0:=cf_none fun t ht e=>by have:=h t ht;omega
theorem ProdIn.zero (h:ProdIn F K L gs T out) (t:Taken F K K' L gs m c) (hc:c=0):ProdIn F K' L gs T out:=by
  obtain ⟨y,hy,rfl⟩:=t.has;refine ⟨h.nf,fun x hx z hz=>Nat.lt_trans (t.lt z hz) (h.hi x hx y hy),fun k=>?_⟩;rw [← h.eq k]
  by_cases e:k=y.1
  · subst e;rw [cf_lt t.lt,← t.sum,hc]
  · rw [t.keep k e]
theorem ProdIn.put (h:ProdIn F K L gs T out) (t:Taken F K K' L gs m c) (hc:c≠0):ProdIn F K' L gs T (out ++ [(m,c)]):=by
  obtain ⟨y,hy,rfl⟩:=t.has;refine ⟨⟨?_,?_⟩,?_,fun k=>?_⟩
  · rw [List.pairwise_append];refine ⟨h.nf.desc,by simp,fun x hx z hz=>?_⟩;obtain rfl:=List.mem_singleton.1 hz;exact h.hi x hx y hy
  · intro x hx;rcases List.mem_append.1 hx with hx | hx
    · exact h.nf.nz x hx
    · obtain rfl:=List.mem_singleton.1 hx;exact hc
  · intro x hx z hz;rcases List.mem_append.1 hx with hx | hx
    · exact Nat.lt_trans (t.lt z hz) (h.hi x hx y hy)
    · obtain rfl:=List.mem_singleton.1 hx;exact t.lt z hz
  · rw [cf_put_new,← h.eq k]
    by_cases e:k=y.1
    · subst e;rw [if_pos rfl,cf_lt t.lt,← t.sum,Rat.add_zero]
    · rw [if_neg (fun h=>e h.symm),Rat.add_zero,t.keep k e]
theorem ProdIn.start (F:Nat→Nat × Rat) (L:PL) (gs:List Nat):ProdIn F (fun _=>0) L gs (mulA (gs.map F) L) []:=
  ⟨NF.nil,fun _ h=>by simp at h,fun k=>by rw [mulA_rem];show 0+_=_;rw [Rat.zero_add]⟩
theorem ProdIn.whole (h:ProdIn F K L gs T out):nfOf T=out ++ nfOf (remL F K L gs):=by
  refine nf_ext (nf_nfOf T) ⟨?_,?_⟩ fun k=>?_
  · rw [List.pairwise_append];refine ⟨h.nf.desc,(nf_nfOf _).desc,fun x hx z hz=>?_⟩;obtain ⟨y,hy,e⟩:=nfOf_mem hz;rw [← e];exact h.hi x hx y hy
  · intro x hx;rcases List.mem_append.1 hx with hx | hx
    · exact h.nf.nz x hx
    · exact (nf_nfOf _).nz x hx
  · rw [cf_append,cf_nfOf,cf_nfOf,h.eq k]
theorem ProdIn.done (h:ProdIn F K L gs T out) (hr:remL F K L gs=[]):out=nfOf T:=by
  rw [h.whole,hr];exact (List.append_nil out).symm
end
theorem nfOf_comm (P Q:PL):nfOf (mulA P Q)=nfOf (mulA Q P):=nf_ext (nf_nfOf _) (nf_nfOf _) fun k=>by rw [cf_nfOf,cf_nfOf,cf_mulA_comm]
structure Taking (F:Nat→Nat × Rat) (K K':Nat→Nat) (L:PL) (gs:List Nat) (m:Nat) (c:Rat):Prop where
  keep:∀ k,k≠m→cf (remL F K' L gs) k=cf (remL F K L gs) k
  sum:c+cf (remL F K' L gs) m=cf (remL F K L gs) m
theorem Taking.start (F:Nat→Nat × Rat) (K:Nat→Nat) (L:PL) (gs:List Nat) (m:Nat):Taking F K K L gs m 0:=⟨fun _ _=>rfl,Rat.zero_add _⟩
theorem Taking.step {F:Nat→Nat × Rat} {K K':Nat→Nat} {L:PL} {gs:List Nat} {m:Nat} {c:Rat} (h:Taking F K K' L gs m c) (hn:gs.Nodup) {g:Nat} (hg:g ∈ gs) {u:Nat × Rat} (hu:L[K' g]?=some u) (hm:(F g).1+u.1=m):Taking F K (bump K' g) L gs m (c+(F g).2*u.2):=by
  refine ⟨fun k hk=>?_,?_⟩
  · rw [← h.keep k hk,rem_take F K' hu k hn hg,if_neg (fun e=>hk (by rw [← e,hm])),Rat.zero_add]
  · rw [← h.sum,rem_take F K' hu m hn hg,if_pos hm,Rat.add_assoc]
theorem Taking.done {F:Nat→Nat × Rat} {K K':Nat→Nat} {L:PL} {gs:List Nat} {m:Nat} {c:Rat} (h:Taking F K K' L gs m c) (hl:∀ x ∈ remL F K' L gs,x.1<m) (hh:∃ y ∈ remL F K L gs,y.1=m):Taken F K K' L gs m c:=
  ⟨hh,hl,h.keep,by rw [← h.sum,cf_lt hl,Rat.add_zero]⟩
end Go.Proofs.YtgekmfcbbjeahaaGreatDoor
/- Powers of rational numbers, by their parts. -/
namespace Go.Proofs.YtgekmfcbbjeahaaGreatDoor
namespace V
theorem mul_q {s1 s2:Bool} {n1 d1 n2 d2:Nat} {p q:Rat} (hp:QOf s1 n1 d1 p) (hq:QOf s2 n2 d2 q):mkRat (sgn (s1 != s2) (n1*n2)) (d1*d2)=p*q:=by
  rw [hp.eq,hq.eq,mkRat_mul,sgn_mul]
end V
end Go.Proofs.YtgekmfcbbjeahaaGreatDoor
/- Polynomials as lists in any order (the document's): adding a term, products. Plain facts. -/
namespace Go.Proofs.YtgekmfcbbjeahaaGreatDoor
theorem cf_perm {p q:PL} (h:p.Perm q) (k:Nat):cf p k=cf q k:=by
  induction h with
  | nil=>rfl
  | cons t _ ih=>show (if t.1=k then t.2 else 0)+_=(if t.1=k then t.2 else 0)+_;rw [ih]
  | swap t u r =>
    show (if u.1=k then u.2 else 0)+((if t.1=k then t.2 else 0)+cf r k)=(if t.1=k then t.2 else 0)+((if u.1=k then u.2 else 0)+cf r k);rw [← Rat.add_assoc,← Rat.add_assoc,Rat.add_comm (if u.1=k then u.2 else 0)]
  | trans _ _ h1 h2=>rw [h1,h2]
structure DN (p:PL):Prop where
  dist:p.Pairwise (fun a b=>a.1≠b.1)
  nz:∀ t ∈ p,t.2≠0
theorem NF.dn {p:PL} (h:NF p):DN p:=⟨h.desc.imp (fun h=>by omega),h.nz⟩
theorem DN.nil:DN []:=NF.nil.dn
theorem DN.perm {p q:PL} (h:DN p) (hp:p.Perm q):DN q:=⟨(hp.pairwise_iff (fun h=>Ne.symm h)).1 h.dist,fun t ht=>h.nz t (hp.mem_iff.2 ht)⟩
theorem DN.snoc {p:PL} (h:DN p) {e:Nat} {c:Rat} (h1:∀ t ∈ p,t.1≠e) (h2:c≠0):DN (p ++ [(e,c)]):=by
  refine ⟨List.pairwise_append.2 ⟨h.dist,by simp,?_⟩,?_⟩
  · intro a ha b hb;have hb2:b=(e,c):=by simpa using hb
    rw [hb2];exact h1 a ha
  · intro t ht;rcases List.mem_append.1 ht with h3 | h3
    · exact h.nz t h3
    · have h4:t=(e,c):=by simpa using h3
      rw [h4];exact h2
end Go.Proofs.YtgekmfcbbjeahaaGreatDoor
/- The document's way to order terms: the greatest that is not done yet comes next. Plain facts. -/
namespace Go.Proofs.YtgekmfcbbjeahaaGreatDoor
def doneL:PL→List Bool→PL
  | t :: r,d :: ds=>if d then t :: doneL r ds else doneL r ds
  | _,_=>[]
def restL:PL→List Bool→PL
  | t :: r,d :: ds=>if d then restL r ds else t :: restL r ds
  | _,_=>[]
theorem doneL_none (p:PL):doneL p (List.replicate p.length false)=[]:=by
  induction p with
  | nil=>rfl
  | cons t r ih=>show (if false then _ else doneL r (List.replicate r.length false))=[];simpa using ih
theorem doneL_set:∀ (p:PL) (ds:List Bool) (b:Nat) (t:Nat × Rat),p[b]?=some t→ds[b]?=some false→(doneL p (ds.set b true)).Perm (t :: doneL p ds)
  | [],_,b,t,h,_=>by simp at h
  | u :: r,[],b,t,_,h=>by simp at h
  | u :: r, d :: ds, 0, t, h, h2 => by
    have e1:u=t:=by simpa using h
    have e2:d=false:=by simpa using h2
    subst e1 e2;simp [doneL]
  | u :: r, d :: ds, b + 1, t, h, h2 => by
    have ih:=doneL_set r ds b t (by simpa using h) (by simpa using h2);simp only [List.set_cons_succ,doneL];cases d with
    | false=>simpa using ih
    | true =>
      simp only [if_true];exact (ih.cons u).trans (List.Perm.swap t u _)
theorem restL_set:∀ (p:PL) (ds:List Bool) (b:Nat) (t:Nat × Rat),p[b]?=some t→ds[b]?=some false→(restL p ds).Perm (t :: restL p (ds.set b true))
  | [],_,b,t,h,_=>by simp at h
  | u :: r,[],b,t,_,h=>by simp at h
  | u :: r, d :: ds, 0, t, h, h2 => by
    have e1:u=t:=by simpa using h
    have e2:d=false:=by simpa using h2
    subst e1 e2;simp [restL]
  | u :: r, d :: ds, b + 1, t, h, h2 => by
    have ih:=restL_set r ds b t (by simpa using h) (by simpa using h2);simp only [List.set_cons_succ,restL];cases d with
    | true=>simpa using ih
    | false =>
      simp only [Bool.false_eq_true,if_false];exact (ih.cons u).trans (List.Perm.swap t u _)
theorem mem_restL : ∀ {p : PL} {ds : List Bool} {t : Nat × Rat}, t ∈ restL p ds → ∃ i : Nat, p[i]? = some t ∧ ds[i]? = some false
  | [],ds,t,h=>by simp [restL] at h
  | u :: r,[],t,h=>by simp [restL] at h
  | u :: r, d :: ds, t, h => by
    cases d with
    | true =>
      obtain ⟨i,h1,h2⟩:=mem_restL (p:=r) (ds:=ds) (by simpa [restL] using h);exact ⟨i+1,by simpa using h1,by simpa using h2⟩
    | false =>
      have h3:t=u∨t ∈ restL r ds:=by simpa [restL] using h
      rcases h3 with rfl | h3
      · exact ⟨0,rfl,rfl⟩
      · obtain ⟨i,h1,h2⟩:=mem_restL h3;exact ⟨i+1,by simpa using h1,by simpa using h2⟩
theorem restL_sub:∀ (p:PL) (ds:List Bool),(restL p ds).Sublist p
  | [],ds=>by simp [restL]
  | u :: r,[]=>by simp [restL]
  | u :: r, d :: ds => by
    have ih:=restL_sub r ds;cases d with
    | true=>simp only [restL,if_true];exact ih.cons u
    | false=>simp only [restL,Bool.false_eq_true,if_false];exact ih.cons_cons u
theorem doneL_all:∀ (p:PL) (ds:List Bool),ds.length=p.length→(∀ i,i<p.length→ds[i]?=some true)→doneL p ds=p∧restL p ds=[]
  | [],ds,_,_=>⟨by simp [doneL],by simp [restL]⟩
  | u :: r,[],h,_=>by simp at h
  | u :: r, d :: ds, h, h2 => by
    have e:d=true:=by have:=h2 0 (by simp);simpa using this
    subst e;obtain ⟨h3,h4⟩:=doneL_all r ds (by simpa using h) (fun i hi=>by have:=h2 (i+1) (by simpa using hi);simpa using this);exact ⟨by simp only [doneL,if_true,h3],by simp only [restL,if_true,h4]⟩
structure Picked (p:PL) (ds:List Bool) (out:PL):Prop where
  perm:out.Perm (doneL p ds)
  desc:out.Pairwise (fun a b=>b.1<a.1)
  less:∀ x ∈ out,∀ y ∈ restL p ds,y.1<x.1
theorem Picked.start (p:PL):Picked p (List.replicate p.length false) []:=⟨by rw [doneL_none],List.Pairwise.nil,fun _ h=>by simp at h⟩
theorem Picked.step {p:PL} {ds:List Bool} {out:PL} (hp:DN p) (h:Picked p ds out) {b:Nat} {t:Nat × Rat} (h1:p[b]?=some t) (h2:ds[b]?=some false) (hb:∀ (i:Nat) (u:Nat × Rat),p[i]?=some u→ds[i]?=some false→u.1≤t.1) :
    Picked p (ds.set b true) (out ++ [t]):=by
  have hr:=restL_set p ds b t h1 h2;have hd:=doneL_set p ds b t h1 h2;refine ⟨?_,?_,?_⟩
  · exact ((List.perm_append_singleton t out).trans (h.perm.cons t)).trans hd.symm
  · refine List.pairwise_append.2 ⟨h.desc,by simp,fun a ha c hc=>?_⟩;have hc2:c=t:=by simpa using hc
    rw [hc2];exact h.less a ha t (hr.mem_iff.2 (by simp))
  · intro x hx y hy; have hy2 : y ∈ restL p ds := hr.mem_iff.2 (by simp [hy]); rcases List.mem_append.1 hx with h3 | h3
    · exact h.less x h3 y hy2
    · have h4:x=t:=by simpa using h3
      rw [h4];obtain ⟨i,g1,g2⟩:=mem_restL hy2;have g3:=hb i y g1 g2;rcases Nat.lt_or_eq_of_le g3 with g4 | g4
      · exact g4
      · exact absurd g4 (by
          have g5:(t :: restL p (ds.set b true)).Pairwise (fun a b=>a.1≠b.1):=(hr.pairwise_iff (fun h=>Ne.symm h)).1 (hp.dist.sublist (restL_sub p ds));exact Ne.symm ((List.pairwise_cons.1 g5).1 y hy))
theorem Picked.nf {p:PL} {ds:List Bool} {out:PL} (hp:DN p) (h:Picked p ds out) (hl:ds.length=p.length) (ha:∀ i,i<p.length→ds[i]?=some true):NF out ∧ ∀ k,cf out k=cf p k:=by
  have h1:=(doneL_all p ds hl ha).1;have h2:out.Perm p:=by rw [← h1];exact h.perm
  exact ⟨⟨h.desc,fun t ht=>hp.nz t (h2.mem_iff.1 ht)⟩,fun k=>cf_perm h2 k⟩
end Go.Proofs.YtgekmfcbbjeahaaGreatDoor
