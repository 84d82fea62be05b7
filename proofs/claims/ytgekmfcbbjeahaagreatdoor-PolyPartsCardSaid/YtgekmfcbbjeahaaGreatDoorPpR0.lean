/- Plain facts on numbers written as lists of digits, the lowest first: no condition, no program. -/
namespace Go.Proofs.YtgekmfcbbjeahaaGreatDoor
namespace V
def val (B:Nat):List Nat→Nat
  | []=>0
  | x :: r=>x+B*val B r
def Nrm (xs:List Nat):Prop:=0<xs.length→xs.getD (xs.length - 1) 0≠0
def Dig (B:Nat) (xs:List Nat):Prop:=∀ x ∈ xs,x<B
theorem val_cons (B x:Nat) (r:List Nat):val B (x :: r)=x+B*val B r:=rfl
theorem val_one (B x:Nat):val B [x]=x:=by simp [val]
theorem val_append (B:Nat) (xs ys:List Nat):val B (xs ++ ys)=val B xs+B ^ xs.length*val B ys:=by
  induction xs with
  | nil=>simp [val]
  | cons x r ih =>
    simp only [List.cons_append,val,ih,List.length_cons,Nat.pow_succ,Nat.mul_add];rw [Nat.mul_comm (B ^ r.length) B,Nat.mul_assoc,Nat.add_assoc]
theorem val_snoc (B:Nat) (xs:List Nat) (y:Nat):val B (xs ++ [y])=val B xs+B ^ xs.length*y:=by
  rw [val_append,val_one]
theorem val_zeros (B n:Nat):val B (List.replicate n 0)=0:=by
  induction n with
  | zero=>rfl
  | succ n ih=>simp [List.replicate_succ,val,ih]
theorem val_lt (B:Nat) (xs:List Nat) (h:Dig B xs):val B xs<B ^ xs.length:=by
  induction xs with
  | nil=>simp [val]
  | cons x r ih =>
    have hx:x<B:=h x (by simp);have hr:=ih (fun y hy=>h y (by simp [hy]));simp only [val,List.length_cons,Nat.pow_succ];have h1:B*(val B r+1)≤B*B ^ r.length:=Nat.mul_le_mul_left _ hr;rw [Nat.mul_comm (B ^ r.length) B];rw [Nat.mul_add] at h1;omega
theorem take_succ (xs:List Nat) (k:Nat) (h:k<xs.length):xs.take (k+1)=xs.take k ++ [xs.getD k 0]:=by
  rw [List.take_succ_eq_append_getElem h];simp [List.getD_eq_getElem?_getD,List.getElem?_eq_getElem h]
theorem drop_eq (xs:List Nat) (k:Nat) (h:k<xs.length):xs.drop k=xs.getD k 0 :: xs.drop (k+1):=by
  rw [List.drop_eq_getElem_cons h];simp [List.getD_eq_getElem?_getD,List.getElem?_eq_getElem h]
theorem val_take_succ (B:Nat) (xs:List Nat) (k:Nat) (h:k<xs.length):val B (xs.take (k+1))=val B (xs.take k)+B ^ k*xs.getD k 0:=by
  rw [take_succ xs k h,val_snoc,List.length_take,Nat.min_eq_left (by omega)]
theorem val_drop (B:Nat) (xs:List Nat) (k:Nat) (h:k<xs.length):val B (xs.drop k)=xs.getD k 0+B*val B (xs.drop (k+1)):=by
  rw [drop_eq xs k h,val_cons]
theorem val_split (B:Nat) (xs:List Nat) (k:Nat) (h:k≤xs.length):val B xs=val B (xs.take k)+B ^ k*val B (xs.drop k):=by
  have e:val B xs=val B (xs.take k ++ xs.drop k):=by rw [List.take_append_drop]
  rw [e,val_append,List.length_take,Nat.min_eq_left h]
theorem dig_getD {B:Nat} {xs:List Nat} (h:Dig B xs) (hB:0<B) (k:Nat):xs.getD k 0<B:=by
  rw [List.getD_eq_getElem?_getD];rcases Nat.lt_or_ge k xs.length with hk | hk
  · rw [List.getElem?_eq_getElem hk];exact h _ (List.getElem_mem hk)
  · rw [List.getElem?_eq_none hk];exact hB
theorem Dig.take {B:Nat} {xs:List Nat} (h:Dig B xs) (k:Nat):Dig B (xs.take k):=fun x hx=>h x (List.mem_of_mem_take hx)
theorem Dig.drop {B:Nat} {xs:List Nat} (h:Dig B xs) (k:Nat):Dig B (xs.drop k):=fun x hx=>h x (List.mem_of_mem_drop hx)
theorem Dig.snoc {B:Nat} {xs:List Nat} (h:Dig B xs) {d:Nat} (hd:d<B):Dig B (xs ++ [d]):=by
  intro x hx;rcases List.mem_append.1 hx with h1 | h1
  · exact h x h1
  · simp at h1;omega
theorem Dig.tail {B x:Nat} {xs:List Nat} (h:Dig B (x :: xs)):Dig B xs:=fun y hy=>h y (by simp [hy])
theorem Nrm.tail {x:Nat} {xs:List Nat} (h:Nrm (x :: xs)):Nrm xs:=by
  intro hl;have:=h (by simp);cases xs with
  | nil=>simp at hl
  | cons y r=>simpa [List.getD_eq_getElem?_getD] using this
theorem nrm_nil:Nrm []:=fun h=>by simp at h
theorem val_zero {B:Nat} (hB:0<B) {xs:List Nat} (hn:Nrm xs) (h:val B xs=0):xs=[]:=by
  induction xs with
  | nil=>rfl
  | cons x r ih =>
    simp only [val] at h;have hr:val B r=0:=by
      rcases Nat.eq_zero_or_pos (val B r) with h0 | h0
      · exact h0
      · have:=Nat.mul_pos hB h0;omega
    have hx:x=0:=by omega
    have:=ih hn.tail hr;subst this;have:=hn (by simp);simp at this;omega
theorem val_inj {B : Nat} {xs ys : List Nat} (hx : Dig B xs) (hy : Dig B ys) (nx : Nrm xs) (ny : Nrm ys) (h : val B xs = val B ys) : xs = ys := by
  induction xs generalizing ys with
  | nil =>
    cases ys with
    | nil=>rfl
    | cons y r =>
      have hB:0<B:=Nat.lt_of_le_of_lt (Nat.zero_le _) (hy y (by simp));exact (val_zero hB ny (by rw [← h];rfl)).symm
  | cons x r ih =>
    have hxB:x<B:=hx x (by simp);have hB:0<B:=by omega
    cases ys with
    | nil=>exact val_zero hB nx (by rw [h];rfl)
    | cons y s =>
      have hyB:y<B:=hy y (by simp);simp only [val] at h;have hm:x=y:=by
        have:=congrArg (· % B) h;simpa [Nat.add_mul_mod_self_left,Nat.mod_eq_of_lt hxB,Nat.mod_eq_of_lt hyB] using this
      subst hm;have hv:val B r=val B s:=Nat.eq_of_mul_eq_mul_left hB (by omega);rw [ih hx.tail hy.tail nx.tail ny.tail hv]
theorem val_ge {B:Nat} {xs:List Nat} (hn:Nrm xs) (hl:0<xs.length):B ^ (xs.length - 1)≤val B xs:=by
  rw [val_split B xs (xs.length - 1) (by omega),val_drop B xs (xs.length - 1) (by omega)];have h1:=hn hl;have h2:B ^ (xs.length - 1)*1≤B ^ (xs.length - 1)*(xs.getD (xs.length - 1) 0+B*val B (xs.drop (xs.length - 1+1))):=Nat.mul_le_mul_left _ (by omega);omega
theorem val_lt_of_len {B:Nat} (hB:0<B) {xs ys:List Nat} (hx:Dig B xs) (ny:Nrm ys) (h:xs.length<ys.length):val B xs<val B ys:=by
  have h1:=val_lt B xs hx;have h2:=val_ge (B:=B) ny (by omega);have h3:B ^ xs.length≤B ^ (ys.length - 1):=Nat.pow_le_pow_right hB (by omega);omega
theorem val_lt_of_top {B:Nat} {xs ys:List Nat} (hx:Dig B xs) (hl:xs.length=ys.length) {k:Nat} (hk:k<xs.length)
    (he:xs.drop (k+1)=ys.drop (k+1)) (hlt:xs.getD k 0<ys.getD k 0):val B xs<val B ys:=by
  rw [val_split B xs k (by omega),val_split B ys k (by omega),val_drop B xs k hk,val_drop B ys k (by omega),he];have h1:=val_lt B (xs.take k) (hx.take k);rw [List.length_take,Nat.min_eq_left (by omega)] at h1;have h2:B ^ k*(xs.getD k 0+B*val B (ys.drop (k+1))+1)≤B ^ k*(ys.getD k 0+B*val B (ys.drop (k+1))):=Nat.mul_le_mul_left _ (by omega);rw [Nat.mul_add,Nat.mul_one] at h2;omega
theorem val_cut (B:Nat) (xs:List Nat) (k:Nat) (h:k<xs.length) (h0:xs.getD k 0=0) (hv:val B (xs.take (k+1))=val B xs):val B (xs.take k)=val B xs:=by
  rw [val_take_succ B xs k h,h0] at hv;simpa using hv
theorem nrm_take (xs:List Nat) (m:Nat) (hm:m≤xs.length) (h:0<m→xs.getD (m - 1) 0≠0):Nrm (xs.take m):=by
  intro hl;rw [List.length_take,Nat.min_eq_left hm] at hl ⊢;have:=h hl;simpa [List.getD_eq_getElem?_getD,List.getElem?_take,show m - 1<m by omega] using this
theorem getD_set (xs:List Nat) (i:Nat) (v:Nat) (j:Nat) (hi:i<xs.length):(xs.set i v).getD j 0=if j=i then v else xs.getD j 0:=by
  simp only [List.getD_eq_getElem?_getD,List.getElem?_set]
  by_cases h:i=j
  · subst h;simp [hi]
  · simp [h,Ne.symm h]
theorem set_take_drop (xs:List Nat) (i v:Nat) (hi:i<xs.length):xs.set i v=xs.take i ++ v :: xs.drop (i+1):=by
  rw [List.set_eq_take_append_cons_drop,if_pos hi]
theorem Dig.set {B:Nat} {xs:List Nat} (h:Dig B xs) (i:Nat) {v:Nat} (hv:v<B):Dig B (xs.set i v):=by
  intro x hx;rcases List.mem_or_eq_of_mem_set hx with h1 | h1
  · exact h x h1
  · omega
theorem Dig.zeros {B:Nat} (hB:0<B) (n:Nat):Dig B (List.replicate n 0):=by
  intro x hx;have:=List.eq_of_mem_replicate hx;omega
theorem Dig.append {B:Nat} {xs ys:List Nat} (h:Dig B xs) (k:Dig B ys):Dig B (xs ++ ys):=by
  intro x hx;rcases List.mem_append.1 hx with h1 | h1
  · exact h x h1
  · exact k x h1
theorem take_set (xs:List Nat) (k v:Nat) (h:k<xs.length):(xs.set k v).take (k+1)=xs.take k ++ [v]:=by
  rw [set_take_drop xs k v h,List.take_append,List.length_take,Nat.min_eq_left (by omega),List.take_of_length_le (by rw [List.length_take];omega)];simp
theorem val_set_take (B:Nat) (xs:List Nat) (k v:Nat) (h:k<xs.length):val B ((xs.set k v).take (k+1))=val B (xs.take k)+B ^ k*v:=by
  rw [take_set xs k v h,val_snoc,List.length_take,Nat.min_eq_left (by omega)]
theorem add_step (B k s c c' x y:Nat) (cur ls ss:List Nat) (hk:k<cur.length) (hl:k<ls.length) (hs:k<ss.length) (ex:ls.getD k 0=x) (ey:ss.getD k 0=y)
    (e:s+B*c'=x+y+c) (hv:val B (cur.take k)+B ^ k*c=val B (ls.take k)+val B (ss.take k)) :
    val B ((cur.set k s).take (k+1))+B ^ (k+1)*c'=val B (ls.take (k+1))+val B (ss.take (k+1)):=by
  rw [val_set_take B cur k s hk,val_take_succ B ls k hl,val_take_succ B ss k hs,ex,ey,Nat.pow_succ,Nat.mul_assoc];have h:=congrArg (B ^ k * ·) e;simp only [Nat.mul_add] at h;omega
theorem add_step1 (B k s c c' x t:Nat) (cur ls:List Nat) (hk:k<cur.length) (hl:k<ls.length) (ex:ls.getD k 0=x)
    (e:s+B*c'=x+c) (hv:val B (cur.take k)+B ^ k*c=val B (ls.take k)+t) :
    val B ((cur.set k s).take (k+1))+B ^ (k+1)*c'=val B (ls.take (k+1))+t:=by
  rw [val_set_take B cur k s hk,val_take_succ B ls k hl,ex,Nat.pow_succ,Nat.mul_assoc];have h:=congrArg (B ^ k * ·) e;simp only [Nat.mul_add] at h;omega
theorem val_set (B:Nat) (xs:List Nat) (k v:Nat) (h:k<xs.length):val B (xs.set k v)+B ^ k*xs.getD k 0=val B xs+B ^ k*v:=by
  rw [set_take_drop xs k v h,val_append,List.length_take,Nat.min_eq_left (by omega),val_cons,val_split B xs k (by omega),val_drop B xs k h];simp only [Nat.mul_add];omega
theorem times_step (B i k s c c' x y o:Nat) (cur ys:List Nat) (base:Nat) (hk:i+k<cur.length) (hy:k<ys.length) (ey:ys.getD k 0=y) (eo:cur.getD (i+k) 0=o)
    (e:s+B*c'=y*x+o+c) (hv:val B cur+B ^ (i+k)*c=base+B ^ i*(x*val B (ys.take k))) :
    val B (cur.set (i+k) s)+B ^ (i+(k+1))*c'=base+B ^ i*(x*val B (ys.take (k+1))):=by
  have h1:=val_set B cur (i+k) s hk;rw [eo] at h1;rw [val_take_succ B ys k hy,ey];have h:=congrArg (B ^ (i+k) * ·) e;simp only [Nat.mul_add] at h;rw [← Nat.add_assoc i k 1,Nat.pow_succ,Nat.mul_assoc];have h2:B ^ i*(x*(val B (ys.take k)+B ^ k*y))=B ^ i*(x*val B (ys.take k))+B ^ (i+k)*(y*x):=by
    rw [Nat.mul_add,Nat.mul_add,Nat.pow_add];congr 1;rw [Nat.mul_assoc,Nat.mul_comm x (B ^ k*y),Nat.mul_assoc]
  rw [h2];omega
theorem sub_step (B k s c c' x y:Nat) (cur ls ss:List Nat) (hk:k<cur.length) (hl:k<ls.length) (hs:k<ss.length) (ex:ls.getD k 0=x) (ey:ss.getD k 0=y)
    (e:s+y+c=x+B*c') (hv:val B (cur.take k)+val B (ss.take k)=val B (ls.take k)+B ^ k*c) :
    val B ((cur.set k s).take (k+1))+val B (ss.take (k+1))=val B (ls.take (k+1))+B ^ (k+1)*c':=by
  rw [val_set_take B cur k s hk,val_take_succ B ls k hl,val_take_succ B ss k hs,ex,ey,Nat.pow_succ,Nat.mul_assoc];have h:=congrArg (B ^ k * ·) e;simp only [Nat.mul_add] at h;omega
theorem sub_step1 (B k s c c' x t:Nat) (cur ls:List Nat) (hk:k<cur.length) (hl:k<ls.length) (ex:ls.getD k 0=x)
    (e:s+c=x+B*c') (hv:val B (cur.take k)+t=val B (ls.take k)+B ^ k*c) :
    val B ((cur.set k s).take (k+1))+t=val B (ls.take (k+1))+B ^ (k+1)*c':=by
  rw [val_set_take B cur k s hk,val_take_succ B ls k hl,ex,Nat.pow_succ,Nat.mul_assoc];have h:=congrArg (B ^ k * ·) e;simp only [Nat.mul_add] at h;omega
theorem sub_end {B c:Nat} {cur ls:List Nat} {t:Nat} (hc:Dig B cur) (hl:cur.length=ls.length) (ht:t≤val B ls) (hv:val B cur+t=val B ls+B ^ ls.length*c) (hc1:c≤1):val B cur+t=val B ls:=by
  have h1:=val_lt B cur hc;rw [hl] at h1;rcases Nat.eq_zero_or_pos c with h0 | h0
  · subst h0;simpa using hv
  · obtain rfl:c=1:=by omega
    rw [Nat.mul_one] at hv;omega
theorem small_step (B n s c c' x k t:Nat) (out xs:List Nat) (hl:out.length=n) (hn:n<xs.length) (ex:xs.getD n 0=x) (e:s+B*c'=c+x*k)
    (hv:val B out+B ^ n*c=val B (xs.take n)*k+t):val B (out ++ [s])+B ^ (n+1)*c'=val B (xs.take (n+1))*k+t:=by
  rw [val_snoc,hl,val_take_succ B xs n hn,ex,Nat.pow_succ,Nat.mul_assoc,Nat.add_mul,Nat.mul_assoc];have h:=congrArg (B ^ n * ·) e;simp only [Nat.mul_add] at h;omega
theorem flush_step (B s c c' t:Nat) (out:List Nat) (e:s+B*c'=c) (hv:val B out+B ^ out.length*c=t):val B (out ++ [s])+B ^ (out ++ [s]).length*c'=t:=by
  rw [val_snoc,List.length_append,List.length_singleton,Nat.pow_succ,Nat.mul_assoc];have h:=congrArg (B ^ out.length * ·) e;simp only [Nat.mul_add] at h;omega
theorem len_of_lt {B:Nat} (hB:1<B) {xs:List Nat} (hn:Nrm xs) {k:Nat} (h:val B xs<B ^ k):xs.length≤k:=by
  rcases Nat.lt_or_ge k xs.length with h1 | h1
  · have h2:=val_ge (B:=B) hn (by omega);have h3:B ^ k≤B ^ (xs.length - 1):=Nat.pow_le_pow_right (by omega) (by omega);omega
  · exact h1
theorem getD_beyond (xs:List Nat) (k:Nat) (h:xs.length≤k):xs.getD k 0=0:=by
  rw [List.getD_eq_getElem?_getD,List.getElem?_eq_none h];rfl
theorem val_take_any (B:Nat) (xs:List Nat) (k:Nat):val B (xs.take (k+1))=val B (xs.take k)+B ^ k*xs.getD k 0:=by
  rcases Nat.lt_or_ge k xs.length with h | h
  · exact val_take_succ B xs k h
  · rw [List.take_of_length_le h,List.take_of_length_le (by omega),getD_beyond xs k h];simp
theorem nrm_of_ge {B:Nat} {xs:List Nat} (hd:Dig B xs) (h':0<xs.length→B ^ (xs.length - 1)≤val B xs):Nrm xs:=by
  intro hl h0;have h:=h' hl;have h1:=val_take_succ B xs (xs.length - 1) (by omega);rw [h0,Nat.sub_add_cancel (by omega),List.take_length] at h1;have h2:=val_lt B (xs.take (xs.length - 1)) (hd.take _);rw [List.length_take,Nat.min_eq_left (by omega)] at h2;omega
theorem drop_set (xs:List Nat) (k v:Nat) (h:k<xs.length):(xs.set k v).drop k=v :: xs.drop (k+1):=by
  rw [set_take_drop xs k v h,List.drop_append,List.length_take,Nat.min_eq_left (by omega),List.drop_of_length_le (by rw [List.length_take];omega)];simp
theorem split_step (B j k x r s r':Nat) (cur xs:List Nat) (hc:j<cur.length) (hx:j<xs.length) (ex:xs.getD j 0=x) (e:s*k+r'=r*B+x)
    (hv:val B (xs.drop (j+1))=val B (cur.drop (j+1))*k+r):val B (xs.drop j)=val B ((cur.set j s).drop j)*k+r':=by
  rw [drop_set cur j s hc,val_drop B xs j hx,ex,val_cons,hv,Nat.mul_add,Nat.add_mul,Nat.mul_assoc,Nat.mul_comm B r];omega
end V
end Go.Proofs.YtgekmfcbbjeahaaGreatDoor
/- Plain facts on Lehmer's steps of Euclid's algorithm: no program, no condition beyond what each theorem says. -/
namespace Go.Proofs.YtgekmfcbbjeahaaGreatDoor
namespace V
structure Lv (p1 q1 p2 q2 h n H N A B Ai Bi:Nat):Prop where
  e1:h+q1*N=p1*H
  e2:n+p2*H=q2*N
  j1:h*q2+n*q1=H
  j2:h*p2+n*p1=N
  a1:Ai+q1*B=p1*A
  a2:Bi+p2*A=q2*B
  le:Bi≤Ai
  low:q1≤h
  b1:p1<2147483648
  b2:q1<2147483648
  b3:p2<2147483648
  b4:q2<2147483648
theorem half_bound {m n H:Nat} (h1:m<n) (h2:n*m≤H) (hH:H<4611686018427387904):m<2147483648:=by
  rcases Nat.lt_or_ge m 2147483648 with h | h
  · exact h
  · have h3:2147483648*2147483648≤n*m:=Nat.mul_le_mul (by omega) h;omega
theorem Lv.step {p1 q1 p2 q2 h n H N A B Ai Bi P ra rb q:Nat} (s:Lv p1 q1 p2 q2 h n H N A B Ai Bi) (hA:A=H*P+ra) (hB:B=N*P+rb) (hra:ra<P) (hrb:rb<P)
    (hH:H<4611686018427387904) (hN:N<4611686018427387904) (g:p2<n) (d1:q*(n+q2)≤h - q1) (d2:h+p1<(q+1)*(n - p2)) :
    Lv q2 p2 (q1+q*q2) (p1+q*p2) n (h - q*n) N H B A Bi (Ai - q*Bi)∧q*Bi≤Ai∧Ai - q*Bi<Bi∧q*n≤h∧h - q*n<n:=by
  obtain ⟨e1,e2,j1,j2,a1,a2,le,low,b1,b2,b3,b4⟩:=s;have hP:0<P:=by omega
  rw [Nat.mul_add] at d1;have d2':h+p1+p2+q*p2<q*n+n:=by
    obtain ⟨m,rfl⟩:=Nat.exists_eq_add_of_lt g;rw [show p2+m+1 - p2=m+1 by omega,Nat.add_mul,Nat.mul_add] at d2;rw [Nat.mul_add,Nat.mul_add];omega
  have lowA:h*P≤Ai+q1*P:=by
    have h1:q1*rb≤q1*P:=Nat.mul_le_mul_left _ (by omega);have h2:h*P+q1*N*P=p1*H*P:=by rw [← Nat.add_mul,e1]
    rw [hA,hB,Nat.mul_add,Nat.mul_add,← Nat.mul_assoc,← Nat.mul_assoc] at a1;omega
  have uppA:Ai≤h*P+p1*P:=by
    have h1:p1*ra≤p1*P:=Nat.mul_le_mul_left _ (by omega);have h2:h*P+q1*N*P=p1*H*P:=by rw [← Nat.add_mul,e1]
    rw [hA,hB,Nat.mul_add,Nat.mul_add,← Nat.mul_assoc,← Nat.mul_assoc] at a1;omega
  have uppB:Bi≤n*P+q2*P:=by
    have h1:q2*rb≤q2*P:=Nat.mul_le_mul_left _ (by omega);have h2:n*P+p2*H*P=q2*N*P:=by rw [← Nat.add_mul,e2]
    rw [hA,hB,Nat.mul_add,Nat.mul_add,← Nat.mul_assoc,← Nat.mul_assoc] at a2;omega
  have lowB:n*P≤Bi+p2*P:=by
    have h1:p2*ra≤p2*P:=Nat.mul_le_mul_left _ (by omega);have h2:n*P+p2*H*P=q2*N*P:=by rw [← Nat.add_mul,e2]
    rw [hA,hB,Nat.mul_add,Nat.mul_add,← Nat.mul_assoc,← Nat.mul_assoc] at a2;omega
  have c1:q*Bi≤Ai:=by
    have h1:q*Bi≤q*(n*P+q2*P):=Nat.mul_le_mul_left _ uppB;rw [Nat.mul_add,← Nat.mul_assoc,← Nat.mul_assoc,← Nat.add_mul] at h1;have h2:(q*n+q*q2)*P≤(h - q1)*P:=Nat.mul_le_mul_right _ d1;rw [Nat.sub_mul] at h2;omega
  have c2:Ai<q*Bi+Bi:=by
    have h3:(h+p1+p2+q*p2)*P<(q*n+n)*P:=Nat.mul_lt_mul_of_pos_right d2' hP;have h4:q*(n*P)≤q*(Bi+p2*P):=Nat.mul_le_mul_left _ lowB;rw [Nat.mul_add,← Nat.mul_assoc,← Nat.mul_assoc] at h4;simp only [Nat.add_mul] at h3;omega
  have c3:q*n≤h:=by omega
  have c4:h - q*n<n:=by omega
  have m2:q1+q*q2≤h - q*n:=by omega
  have m1:p1+q*p2<n:=by omega
  have k1:n*(q1+q*q2)+(h - q*n)*q2=H:=by
    rw [← j1,Nat.mul_add,Nat.sub_mul];have h5:q*n*q2≤h*q2:=Nat.mul_le_mul_right _ c3;have h6:n*(q*q2)=q*n*q2:=by rw [← Nat.mul_assoc,Nat.mul_comm n q]
    omega
  have k2:n*(p1+q*p2)+(h - q*n)*p2=N:=by
    rw [← j2,Nat.mul_add,Nat.sub_mul];have h5:q*n*p2≤h*p2:=Nat.mul_le_mul_right _ c3;have h6:n*(q*p2)=q*n*p2:=by rw [← Nat.mul_assoc,Nat.mul_comm n q]
    omega
  refine ⟨⟨e2,?_,k2,k1,a2,?_,by omega,by omega,b4,b3,half_bound (Nat.lt_of_le_of_lt m2 c4) (k1 ▸ Nat.le_add_right _ _) hH,half_bound m1 (k2 ▸ Nat.le_add_right _ _) hN⟩,c1,by omega,c3,c4⟩
  · have h1:q*(n+p2*H)=q*(q2*N):=by rw [e2]
    rw [Nat.mul_add,← Nat.mul_assoc,← Nat.mul_assoc] at h1;rw [Nat.add_mul,Nat.add_mul];omega
  · have h1:q*(Bi+p2*A)=q*(q2*B):=by rw [a2]
    rw [Nat.mul_add,← Nat.mul_assoc,← Nat.mul_assoc] at h1;rw [Nat.add_mul,Nat.add_mul];omega
theorem gcd_step {a b q:Nat} (h:q*b≤a):Nat.gcd b (a - q*b)=Nat.gcd a b:=by
  obtain ⟨c,rfl⟩:=Nat.exists_eq_add_of_le h;rw [Nat.add_sub_cancel_left,Nat.gcd_comm b,Nat.gcd_mul_right_add_left]
def Lev (x1 y1 x2 y2 h n : Int) (H N A B : Nat) : Prop :=
  ∃ p1 q1 p2 q2 u v Ai Bi : Nat, h = u ∧ n = v ∧
    ((x1=p1∧y1 = -q1∧x2 = -p2∧y2=q2∧Lv p1 q1 p2 q2 u v H N A B Ai Bi)∨(x1 = -p1∧y1=q1∧x2=p2∧y2 = -q2∧Lv q1 p1 q2 p2 u v N H B A Ai Bi)) ∧
    Nat.gcd Ai Bi=Nat.gcd A B∧Ai≤A∧Ai+Bi≤A+B∧u<4611686018427387904∧v<4611686018427387904∧(y1=0∨Ai+Bi<A+B)
theorem Lev.start {H N A B:Nat} (hle:B≤A) (hH:H<4611686018427387904) (hN:N<4611686018427387904):Lev 1 0 0 1 H N H N A B:=
  ⟨1,0,0,1,H,N,A,B,rfl,rfl,.inl ⟨rfl,rfl,rfl,rfl,⟨by omega,by omega,by omega,by omega,by omega,by omega,hle,by omega,by omega,by omega,by omega,by omega⟩⟩,rfl,Nat.le_refl _,Nat.le_refl _,hH,hN,.inl rfl⟩
structure Lb (x1 y1 x2 y2 h n:Int):Prop where
  x1l : -2147483648<x1
  x1u:x1<2147483648
  y1l : -2147483648<y1
  y1u:y1<2147483648
  x2l : -2147483648<x2
  x2u:x2<2147483648
  y2l : -2147483648<y2
  y2u:y2<2147483648
  h0:0≤h
  hu:h<4611686018427387904
  n0:0≤n
  nu:n<4611686018427387904
theorem Lev.bounds {x1 y1 x2 y2 h n:Int} {H N A B:Nat} (s:Lev x1 y1 x2 y2 h n H N A B):Lb x1 y1 x2 y2 h n:=by
  obtain ⟨p1,q1,p2,q2,u,v,Ai,Bi,rfl,rfl,hs,hg,hA,hsum,hu,hv,hpr⟩:=s;rcases hs with ⟨rfl,rfl,rfl,rfl,t⟩ | ⟨rfl,rfl,rfl,rfl,t⟩
  · obtain ⟨e1,e2,j1,j2,a1,a2,le,low,b1,b2,b3,b4⟩:=t;constructor <;> omega
  · obtain ⟨e1,e2,j1,j2,a1,a2,le,low,b1,b2,b3,b4⟩:=t;constructor <;> omega
theorem Lev.low {x1 y1 x2 y2 h n:Int} {H N A B:Nat} (s:Lev x1 y1 x2 y2 h n H N A B):0≤h+x1∧0≤h+y1:=by
  obtain ⟨p1,q1,p2,q2,u,v,Ai,Bi,rfl,rfl,hs,hg,hA,hsum,hu,hv,hpr⟩:=s;rcases hs with ⟨rfl,rfl,rfl,rfl,t⟩ | ⟨rfl,rfl,rfl,rfl,t⟩
  · have:=t.low;omega
  · have:=t.low;omega
theorem div_bounds {a b q:Int} (hb:0<b) (h:a / b=q):q*b≤a∧a<(q+1)*b:=by
  subst h;have h1:=Int.mul_ediv_add_emod a b;have h2:=Int.emod_nonneg a (show b≠0 by omega);have h3:=Int.emod_lt_of_pos a hb;rw [Int.add_mul,Int.one_mul,Int.mul_comm];omega
theorem Lev.step {x1 y1 x2 y2 h n q:Int} {H N A B P ra rb:Nat} (s:Lev x1 y1 x2 y2 h n H N A B) (hA:A=H*P+ra) (hB:B=N*P+rb) (hra:ra<P) (hrb:rb<P)
    (hH:H<4611686018427387904) (hN:N<4611686018427387904) (g1:0<n+x2) (g2:0<n+y2) (d1:(h+x1) / (n+x2)=q) (d2:(h+y1) / (n+y2)=q) :
    Lev x2 y2 (x1 - q*x2) (y1 - q*y2) n (h - q*n) H N A B∧h - q*n<n∧0≤q∧0≤q*n∧q*n≤h∧q≤h+x1:=by
  obtain ⟨w1,w2⟩:=s.low;have q0:0≤q:=by rw [← d1];exact Int.ediv_nonneg w1 (by omega)
  have qh:q≤h+x1:=by rw [← d1];exact Int.ediv_le_self _ w1
  obtain ⟨c1,c2⟩:=div_bounds g1 d1;obtain ⟨c3,c4⟩:=div_bounds g2 d2;obtain ⟨k,rfl⟩:=Int.eq_ofNat_of_zero_le q0;obtain ⟨p1,q1,p2,q2,u,v,Ai,Bi,rfl,rfl,hs,hg,hAA,hsum,hu,hv,hpr⟩:=s;rcases hs with ⟨rfl,rfl,rfl,rfl,t⟩ | ⟨rfl,rfl,rfl,rfl,t⟩
  · have f1:k*(v+q2)≤u - q1:=by
      have:=t.low;have e:((k*(v+q2):Nat):Int)=(k:Int)*((v:Int)+q2):=by simp
      omega
    have f2:u+p1<(k+1)*(v - p2):=by
      have e:(((k+1)*(v - p2):Nat):Int)=((k:Int)+1)*((v:Int) + -p2):=by rw [Int.natCast_mul];congr 1;omega
      omega
    obtain ⟨t',i1,i2,i3,i4⟩:=t.step hA hB hra hrb hH hN (by omega) f1 f2;have e3:((k*v:Nat):Int)=(k:Int)*v:=by simp
    refine ⟨⟨p2,q2,p1+k*p2,q1+k*q2,v,u - k*v,Bi,Ai - k*Bi,rfl,by omega,.inr ⟨rfl,rfl,?_,?_,t'⟩,?_,?_,?_,hv,?_,.inr ?_⟩,by omega,q0,by omega,by omega,qh⟩
    · rw [Int.mul_neg];simp
    · simp;omega
    · rw [← hg];exact gcd_step i1
    · have:=t.le;omega
    · have:=t.le;omega
    · omega
    · have:=t.le;omega
  · have f1:k*(v+p2)≤u - p1:=by
      have:=t.low;have e:((k*(v+p2):Nat):Int)=(k:Int)*((v:Int)+p2):=by simp
      omega
    have f2:u+q1<(k+1)*(v - q2):=by
      have e:(((k+1)*(v - q2):Nat):Int)=((k:Int)+1)*((v:Int) + -q2):=by rw [Int.natCast_mul];congr 1;omega
      omega
    obtain ⟨t',i1,i2,i3,i4⟩:=t.step hB hA hrb hra hN hH (by omega) f1 f2;have e3:((k*v:Nat):Int)=(k:Int)*v:=by simp
    refine ⟨⟨p2,q2,p1+k*p2,q1+k*q2,v,u - k*v,Bi,Ai - k*Bi,rfl,by omega,.inl ⟨rfl,rfl,?_,?_,t'⟩,?_,?_,?_,hv,?_,.inr ?_⟩,by omega,q0,by omega,by omega,qh⟩
    · simp;omega
    · rw [Int.mul_neg];simp
    · rw [← hg];exact gcd_step i1
    · have:=t.le;omega
    · have:=t.le;omega
    · omega
    · have:=t.le;omega
structure Mix (x y:Int) (A B R:Nat):Prop where
  sg:(0≤x∧y≤0)∨(x≤0∧0≤y)
  xl : -2147483648<x
  xu:x<2147483648
  yl : -2147483648<y
  yu:y<2147483648
  eq:x*A+y*B=R
theorem Lev.fin {x1 y1 x2 y2 h n:Int} {H N A B:Nat} (s:Lev x1 y1 x2 y2 h n H N A B) :
    ∃ Ai Bi:Nat,Mix x1 y1 A B Ai∧Mix x2 y2 A B Bi∧Bi≤Ai∧Ai≤A∧Nat.gcd Ai Bi=Nat.gcd A B∧(y1=0∨Ai+Bi<A+B):=by
  have b:=s.bounds;obtain ⟨p1,q1,p2,q2,u,v,Ai,Bi,rfl,rfl,hs,hg,hA,hsum,hu,hv,hpr⟩:=s;have cast:∀ {p q X Y r:Nat},r+q*Y=p*X→(p:Int)*X + -(q:Int)*Y=r:=by
    intro p q X Y r h;have:=congrArg (Nat.cast (R:=Int)) h;simp only [Int.natCast_add,Int.natCast_mul] at this;rw [Int.neg_mul];omega
  rcases hs with ⟨rfl,rfl,rfl,rfl,t⟩ | ⟨rfl,rfl,rfl,rfl,t⟩
  · exact ⟨Ai,Bi,⟨.inl ⟨by omega,by omega⟩,b.x1l,b.x1u,b.y1l,b.y1u,cast t.a1⟩,⟨.inr ⟨by omega,by omega⟩,b.x2l,b.x2u,b.y2l,b.y2u,by rw [Int.add_comm];exact cast t.a2⟩,t.le,hA,hg,hpr⟩
  · exact ⟨Ai,Bi,⟨.inr ⟨by omega,by omega⟩,b.x1l,b.x1u,b.y1l,b.y1u,by rw [Int.add_comm];exact cast t.a1⟩,⟨.inl ⟨by omega,by omega⟩,b.x2l,b.x2u,b.y2l,b.y2u,cast t.a2⟩,t.le,hA,hg,hpr⟩
end V
end Go.Proofs.YtgekmfcbbjeahaaGreatDoor
/- Plain facts on rational numbers as sign, numerator and denominator in lowest terms: no program, no condition beyond what each theorem says. -/
namespace Go.Proofs.YtgekmfcbbjeahaaGreatDoor
namespace V
def sgn (neg:Bool) (n:Nat):Int:=if neg then -(n:Int) else n
def QOf (neg:Bool) (n d:Nat) (q:Rat):Prop:=neg=decide (q.num<0)∧n=q.num.natAbs∧d=q.den
theorem sgn_natAbs (neg:Bool) (n:Nat):(sgn neg n).natAbs=n:=by unfold sgn;cases neg <;> simp
theorem sgn_lt (neg:Bool) (n:Nat) (h:n=0→neg=false):decide (sgn neg n<0)=neg:=by
  unfold sgn;cases neg with
  | false=>simp
  | true => simp; rcases Nat.eq_zero_or_pos n with h0 | h0
            · exact absurd (h h0) (by simp)
            · omega
theorem sgn_and (neg:Bool) (n:Nat):sgn (neg && decide (0<n)) n=sgn neg n:=by
  rcases Nat.eq_zero_or_pos n with h0 | h0
  · subst h0;cases neg <;> simp [sgn]
  · simp [h0]
theorem sgn_mul (a b:Bool) (m n:Nat):sgn a m*sgn b n=sgn (a != b) (m*n):=by
  unfold sgn;cases a <;> cases b <;> simp [Int.neg_mul,Int.mul_neg]
theorem sgn_mul_nat (a:Bool) (m n:Nat):sgn a m*(n:Int)=sgn a (m*n):=by
  unfold sgn;cases a <;> simp [Int.neg_mul]
theorem QOf.pos {neg:Bool} {n d:Nat} {q:Rat} (h:QOf neg n d q):0<d:=by rw [h.2.2];exact q.den_pos
theorem QOf.cop {neg:Bool} {n d:Nat} {q:Rat} (h:QOf neg n d q):Nat.Coprime n d:=by rw [h.2.1,h.2.2];exact q.reduced
theorem QOf.zero {neg:Bool} {n d:Nat} {q:Rat} (h:QOf neg n d q):n=0→neg=false:=by
  intro h0;rw [h.1];have:=h.2.1;have h1:¬ q.num<0:=by omega
  simp [h1]
theorem QOf.num {neg:Bool} {n d:Nat} {q:Rat} (h:QOf neg n d q):q.num=sgn neg n:=by
  rw [h.1,h.2.1];unfold sgn
  by_cases h0:q.num<0
  · simp [h0];omega
  · simp [h0];omega
theorem QOf.eq {neg:Bool} {n d:Nat} {q:Rat} (h:QOf neg n d q):q=mkRat (sgn neg n) d:=by
  rw [← h.num,h.2.2,Rat.mkRat_self]
theorem QOf.inj {neg neg':Bool} {n n' d d':Nat} {q:Rat} (h:QOf neg n d q) (h':QOf neg' n' d' q):neg=neg'∧n=n'∧d=d':=
  ⟨h.1.trans h'.1.symm,h.2.1.trans h'.2.1.symm,h.2.2.trans h'.2.2.symm⟩
theorem QOf.mk_ {neg:Bool} {n d:Nat} (hd:0<d) (hc:Nat.Coprime n d) (h0:n=0→neg=false):QOf neg n d (mkRat (sgn neg n) d):=by
  have hc':(sgn neg n).natAbs.Coprime d:=by rw [sgn_natAbs];exact hc
  have e:mkRat (sgn neg n) d = { num:=sgn neg n,den:=d,den_nz:=by omega,reduced:=hc' }:=by
    rw [← Rat.normalize_eq_mkRat (by omega:d≠0),Rat.normalize_eq];refine Rat.ext ?_ ?_ <;> simp only
    · rw [show (sgn neg n).natAbs.gcd d=1 from hc'];simp
    · rw [show (sgn neg n).natAbs.gcd d=1 from hc'];simp
  rw [e];exact ⟨(sgn_lt neg n h0).symm,(sgn_natAbs neg n).symm,rfl⟩
theorem QOf.of {neg:Bool} {n d D:Nat} {N:Int} (hd:0<d) (hc:Nat.Coprime n d) (h0:n=0→neg=false) (hD:0<D) (he:sgn neg n*D=N*d):QOf neg n d (mkRat N D):=by
  have e:mkRat N D=mkRat (sgn neg n) d:=(Rat.mkRat_eq_iff (by omega) (by omega)).2 he.symm;rw [e];exact QOf.mk_ hd hc h0
theorem QOf.red {neg:Bool} {n d:Nat} (hd:0<d):QOf (neg && decide (0<n / Nat.gcd n d)) (n / Nat.gcd n d) (d / Nat.gcd n d) (mkRat (sgn neg n) d):=by
  have hg:0<Nat.gcd n d:=Nat.gcd_pos_of_pos_right _ hd;have hn:=Nat.div_mul_cancel (Nat.gcd_dvd_left n d);have hdd:=Nat.div_mul_cancel (Nat.gcd_dvd_right n d);refine QOf.of (Nat.div_pos (Nat.le_of_dvd hd (Nat.gcd_dvd_right n d)) hg) (Nat.coprime_div_gcd_div_gcd hg) (fun h=>by simp [h]) hd ?_;rw [sgn_and,sgn_mul_nat,sgn_mul_nat];congr 1;rw [← Nat.mul_div_assoc _ (Nat.gcd_dvd_right n d),Nat.div_mul_right_comm (Nat.gcd_dvd_left n d)]
theorem mkRat_add (a b:Int) (c d:Nat) (hc:0<c) (hd:0<d):mkRat a c+mkRat b d=mkRat (a*d+b*c) (c*d):=Rat.mkRat_add_mkRat _ _ (by omega) (by omega)
theorem cop_of_dvd {a b m:Nat} (h:Nat.Coprime a b) (hm:m ∣ b):Nat.Coprime a m:=Nat.Coprime.coprime_dvd_right hm h
theorem sum_cop {n1 d1 n2 d2 g oa ob m:Nat} {s1 s2 sm:Bool} (c1:Nat.Coprime n1 d1) (c2:Nat.Coprime n2 d2) (hd1:0<d1) (hg:g=Nat.gcd d1 d2) (ha:d1=oa*g) (hb:d2=ob*g)
    (hm:sgn sm m=sgn s1 (n1*ob)+sgn s2 (n2*oa)):Nat.gcd m (oa*d2)=Nat.gcd m g:=by
  have hgp:0<g:=by rw [hg];exact Nat.gcd_pos_of_pos_left _ hd1
  have hab:Nat.Coprime oa ob:=by
    have:=Nat.coprime_div_gcd_div_gcd (m:=d1) (n:=d2) (by rw [← hg];exact hgp);rwa [← hg,ha,hb,Nat.mul_div_cancel _ hgp,Nat.mul_div_cancel _ hgp] at this
  have key:∀ {x:Nat} {u v:Int},(x:Int) ∣ u+v→(x:Int) ∣ v→(x:Int) ∣ u:=fun h1 h2=>(Int.dvd_add_left h2).1 h1
  have sdvd:∀ {x:Nat} {b:Bool} {y:Nat},x ∣ y↔(x:Int) ∣ sgn b y:=by
    intro x b y;unfold sgn;cases b <;> simp [Int.ofNat_dvd]
  have h1:Nat.Coprime m oa:=by
    obtain ⟨p,hp⟩:∃ p,p=Nat.gcd m oa:=⟨_,rfl⟩;have hpm:p ∣ m:=hp ▸ Nat.gcd_dvd_left _ _;have hpa:p ∣ oa:=hp ▸ Nat.gcd_dvd_right _ _;show Nat.gcd m oa=1;rw [← hp];refine Nat.eq_one_of_dvd_one ?_;have e1:(p:Int) ∣ sgn s1 (n1*ob):=key (by rw [← hm];exact sdvd.1 hpm) (sdvd.1 (Nat.dvd_trans hpa (Nat.dvd_mul_left _ _)));have e2:p ∣ n1*ob:=sdvd.2 e1;have e3:Nat.Coprime p n1:=(cop_of_dvd c1 (Nat.dvd_trans hpa (ha ▸ Nat.dvd_mul_right _ _))).symm;have e4:p ∣ ob:=e3.dvd_of_dvd_mul_left e2;have:=Nat.dvd_gcd hpa e4;rwa [hab] at this
  have h2:Nat.Coprime m ob:=by
    obtain ⟨p,hp⟩:∃ p,p=Nat.gcd m ob:=⟨_,rfl⟩;have hpm:p ∣ m:=hp ▸ Nat.gcd_dvd_left _ _;have hpb:p ∣ ob:=hp ▸ Nat.gcd_dvd_right _ _;show Nat.gcd m ob=1;rw [← hp];refine Nat.eq_one_of_dvd_one ?_;have e1:(p:Int) ∣ sgn s2 (n2*oa):=key (by rw [Int.add_comm,← hm];exact sdvd.1 hpm) (sdvd.1 (Nat.dvd_trans hpb (Nat.dvd_mul_left _ _)));have e2:p ∣ n2*oa:=sdvd.2 e1;have e3:Nat.Coprime p n2:=(cop_of_dvd c2 (Nat.dvd_trans hpb (hb ▸ Nat.dvd_mul_right _ _))).symm;have e4:p ∣ oa:=e3.dvd_of_dvd_mul_left e2;have:=Nat.dvd_gcd e4 hpb;rwa [hab] at this
  rw [hb,Nat.gcd_mul_right_right_of_gcd_eq_one h1,Nat.gcd_mul_right_right_of_gcd_eq_one h2]
theorem sum_q {s1 s2 sm:Bool} {n1 d1 n2 d2 g oa ob m h:Nat} {p q:Rat} (hp:QOf s1 n1 d1 p) (hq:QOf s2 n2 d2 q) (hg:g=Nat.gcd d1 d2) (ha:oa=d1 / g) (hb:ob=d2 / g)
    (hm:sgn sm m=sgn s1 (n1*ob)+sgn s2 (n2*oa)) (hh:h=Nat.gcd g (m % g)):QOf (sm && decide (0<m / h)) (m / h) (oa*(d2 / h)) (p+q):=by
  have hd1:=hp.pos;have hd2:=hq.pos;have hgp:0<g:=by rw [hg];exact Nat.gcd_pos_of_pos_left _ hd1
  have g1:g ∣ d1:=hg ▸ Nat.gcd_dvd_left _ _;have g2:g ∣ d2:=hg ▸ Nat.gcd_dvd_right _ _;have ha':d1=oa*g:=by rw [ha,Nat.div_mul_cancel g1]
  have hb':d2=ob*g:=by rw [hb,Nat.div_mul_cancel g2]
  have hh':h=Nat.gcd m g:=by rw [hh,Nat.gcd_comm,← Nat.gcd_rec,Nat.gcd_comm]
  have hc:=sum_cop hp.cop hq.cop hd1 hg ha' hb' hm;have hhp:0<h:=by rw [hh'];exact Nat.gcd_pos_of_pos_right _ hgp
  have hhm:h ∣ m:=hh' ▸ Nat.gcd_dvd_left _ _;have hhd:h ∣ d2:=Nat.dvd_trans (hh' ▸ Nat.gcd_dvd_right _ _) g2;have hoa:0<oa:=by
    rcases Nat.eq_zero_or_pos oa with h0 | h0
    · rw [h0] at ha';omega
    · exact h0
  have hdd:oa*d2 / h=oa*(d2 / h):=Nat.mul_div_assoc _ hhd;have hcop:Nat.Coprime (m / h) (oa*(d2 / h)):=by
    rw [← hdd];have:=Nat.coprime_div_gcd_div_gcd (m:=m) (n:=oa*d2) (by rw [hc,← hh'];exact hhp);rwa [hc,← hh'] at this
  have hdp:0<d2 / h:=Nat.div_pos (Nat.le_of_dvd hd2 hhd) hhp;rw [hp.eq,hq.eq,mkRat_add _ _ _ _ hd1 hd2];refine QOf.of (Nat.mul_pos hoa hdp) hcop (fun h0=>by simp [h0]) (Nat.mul_pos hd1 hd2) ?_;rw [sgn_and];obtain ⟨k,hk⟩:=hhm;obtain ⟨l,hl⟩:=hhd;rw [hk,Nat.mul_div_cancel_left _ hhp,hl,Nat.mul_div_cancel_left _ hhp];have e1:sgn sm k*(h:Int)=sgn s1 (n1*ob)+sgn s2 (n2*oa):=by rw [sgn_mul_nat,Nat.mul_comm k,← hk,hm]
  rw [← sgn_mul_nat,← sgn_mul_nat] at e1;have e2:(d1:Int)=oa*g:=by rw [ha',Int.natCast_mul]
  have e3:(h:Int)*l=ob*g:=by rw [← Int.natCast_mul,← hl,hb',Int.natCast_mul]
  simp only [Int.natCast_mul];rw [e3,e2];have e4:sgn sm k*(↑oa * ↑g*(↑ob * ↑g))*(h:Int)=(sgn sm k*(h:Int))*(↑oa * ↑g*(↑ob * ↑g)):=by simp only [Int.mul_assoc,Int.mul_comm,Int.mul_left_comm]
  have hh0:(h:Int)≠0:=by omega
  apply Int.eq_of_mul_eq_mul_right hh0;rw [e4,e1];have e5:(sgn s1 n1*(↑ob * ↑g)+sgn s2 n2*(↑oa * ↑g))*(↑oa * ↑l)*(h:Int)=(sgn s1 n1*(↑ob * ↑g)+sgn s2 n2*(↑oa * ↑g)) * ↑oa*(↑h * ↑l):=by simp only [Int.mul_assoc,Int.mul_comm,Int.mul_left_comm]
  rw [e5,e3,Int.add_mul,Int.add_mul,Int.add_mul];congr 1 <;> simp only [Int.mul_assoc,Int.mul_comm,Int.mul_left_comm]
theorem mkRat_mul (a b:Int) (c d:Nat):mkRat a c*mkRat b d=mkRat (a*b) (c*d):=Rat.mkRat_mul_mkRat _ _ _ _
theorem prod_q {s1 s2 : Bool} {n1 d1 n2 d2 g h : Nat} {p q : Rat} (hp : QOf s1 n1 d1 p) (hq : QOf s2 n2 d2 q) (hg : g = Nat.gcd n1 d2) (hh : h = Nat.gcd n2 d1) :
    QOf ((s1 != s2) && decide (0<n1 / g*(n2 / h))) (n1 / g*(n2 / h)) (d1 / h*(d2 / g)) (p*q):=by
  have hd1:=hp.pos;have hd2:=hq.pos;have hgp:0<g:=by rw [hg];exact Nat.gcd_pos_of_pos_right _ hd2
  have hhp:0<h:=by rw [hh];exact Nat.gcd_pos_of_pos_right _ hd1
  have c1:Nat.Coprime (n1 / g) (d2 / g):=by rw [hg];exact Nat.coprime_div_gcd_div_gcd (by rw [← hg];exact hgp)
  have c2:Nat.Coprime (n2 / h) (d1 / h):=by rw [hh];exact Nat.coprime_div_gcd_div_gcd (by rw [← hh];exact hhp)
  obtain ⟨a,ha⟩:g ∣ n1:=hg ▸ Nat.gcd_dvd_left _ _;obtain ⟨b,hb⟩:g ∣ d2:=hg ▸ Nat.gcd_dvd_right _ _;obtain ⟨c,hc⟩:h ∣ n2:=hh ▸ Nat.gcd_dvd_left _ _;obtain ⟨d,hd⟩:h ∣ d1:=hh ▸ Nat.gcd_dvd_right _ _;have k1:=hp.cop;have k2:=hq.cop;rw [ha,hb,Nat.mul_div_cancel_left _ hgp,Nat.mul_div_cancel_left _ hgp] at c1;rw [hc,hd,Nat.mul_div_cancel_left _ hhp,Nat.mul_div_cancel_left _ hhp] at c2;rw [hp.eq,hq.eq,mkRat_mul,sgn_mul];rw [ha,hd] at k1;rw [hc,hb] at k2;rw [ha,hb,hc,hd,Nat.mul_div_cancel_left _ hgp,Nat.mul_div_cancel_left _ hgp,Nat.mul_div_cancel_left _ hhp,Nat.mul_div_cancel_left _ hhp]
  have b0 : 0 < b := by rcases Nat.eq_zero_or_pos b with h0 | h0
                        · rw [h0] at hb;omega
                        · exact h0
  have d0 : 0 < d := by rcases Nat.eq_zero_or_pos d with h0 | h0
                        · rw [h0] at hd;omega
                        · exact h0
  have k1':Nat.Coprime a d:=Nat.Coprime.coprime_dvd_left (Nat.dvd_mul_left a g) (cop_of_dvd k1 (Nat.dvd_mul_left d h));have k2':Nat.Coprime c b:=Nat.Coprime.coprime_dvd_left (Nat.dvd_mul_left c h) (cop_of_dvd k2 (Nat.dvd_mul_left b g));have hcop:Nat.Coprime (a*c) (d*b):=Nat.Coprime.mul_left (Nat.Coprime.mul_right k1' c1) (Nat.Coprime.mul_right c2 k2');refine QOf.of (Nat.mul_pos d0 b0) hcop (fun h0=>by simp [h0]) (Nat.mul_pos (Nat.mul_pos hhp d0) (Nat.mul_pos hgp b0)) ?_;rw [sgn_and,sgn_mul_nat,sgn_mul_nat];congr 1;simp only [Nat.mul_comm,Nat.mul_left_comm]
end V
end Go.Proofs.YtgekmfcbbjeahaaGreatDoor
/- Monomials as numbers: the exponents are the digits in base 256, that of variable 0 the highest of eight. Plain facts. -/
namespace Go.Proofs.YtgekmfcbbjeahaaGreatDoor
open V
def mono (es:List Nat):Nat:=val 256 es.reverse
structure Exps (es:List Nat):Prop where
  len:es.length=8
  sum:es.sum≤100
theorem le_sum:∀ {es:List Nat} {x:Nat},x ∈ es→x≤es.sum
  | [],_,h=>by simp at h
  | a :: r, x, h => by
    rw [List.sum_cons];rcases List.mem_cons.1 h with rfl | h
    · omega
    · have:=le_sum h;omega
end Go.Proofs.YtgekmfcbbjeahaaGreatDoor
/- Words of 64 bits out of words of 32 bits, and back: plain facts. -/
namespace Go.Proofs.YtgekmfcbbjeahaaGreatDoor
open V
def pairs:List Nat→List Nat
  | []=>[]
  | [a]=>[a]
  | a :: b :: r=>(a+4294967296*b) :: pairs r
theorem pairs_len:∀ xs:List Nat,(pairs xs).length=(xs.length+1) / 2
  | []=>rfl
  | [_]=>by simp [pairs]
  | _ :: _ :: r => by
    have:=pairs_len r;simp only [pairs,List.length_cons,this];omega
theorem val_pairs:∀ xs:List Nat,val 18446744073709551616 (pairs xs)=val 4294967296 xs
  | []=>rfl
  | [a]=>by simp [pairs,val]
  | a :: b :: r => by
    have:=val_pairs r;simp only [pairs,val,this];omega
theorem dig_pairs:∀ {xs:List Nat},Dig 4294967296 xs→Dig 18446744073709551616 (pairs xs)
  | [],_=>fun _ h=>by simp [pairs] at h
  | [a], h => fun x hx => by
    have:=h a (by simp);simp [pairs] at hx;omega
  | a :: b :: r, h => fun x hx => by
    have h1:=h a (by simp);have h2:=h b (by simp);simp only [pairs,List.mem_cons] at hx;rcases hx with rfl | hx
    · omega
    · exact dig_pairs (fun y hy=>h y (by simp [hy])) x hx
theorem pairs_even:∀ (xs:List Nat) (w:Nat),xs.length % 2=0→pairs (xs ++ [w])=pairs xs ++ [w]
  | [],w,_=>rfl
  | [a],w,h=>by simp at h
  | a :: b :: r, w, h => by
    have:=pairs_even r w (by simp at h;omega);show (a+4294967296*b) :: pairs (r ++ [w])=_;rw [this];rfl
theorem pairs_odd:∀ (xs:List Nat) (a w:Nat),xs.length % 2=0→pairs (xs ++ [a,w])=pairs xs ++ [a+4294967296*w]
  | [],a,w,_=>rfl
  | [b],a,w,h=>by simp at h
  | b :: c :: r, a, w, h => by
    have:=pairs_odd r a w (by simp at h;omega);show (b+4294967296*c) :: pairs (r ++ [a,w])=_;rw [this];rfl
theorem nrm_pairs {xs : List Nat} (h : Nrm xs) : Nrm (pairs xs) := by
  rcases List.eq_nil_or_concat xs with rfl | ⟨ys,w,rfl⟩
  · intro h0;simp [pairs] at h0
  · have hw:w≠0:=by
      have:=h (by simp);simpa using this
    intro _
    by_cases he:ys.length % 2=0
    · rw [List.concat_eq_append,pairs_even _ _ he];simpa using hw
    · rcases List.eq_nil_or_concat ys with rfl | ⟨zs,a,rfl⟩
      · simp at he
      · have hz:zs.length % 2=0:=by simp at he;omega
        rw [List.concat_eq_append,List.concat_eq_append,List.append_assoc,List.singleton_append,pairs_odd _ _ _ hz];simp;intro _;omega
def hlv:List Nat→List Nat
  | []=>[]
  | a :: r=>a % 4294967296 :: a / 4294967296 :: hlv r
theorem hlv_len:∀ xs:List Nat,(hlv xs).length=2*xs.length
  | []=>rfl
  | _ :: r=>by have:=hlv_len r;simp only [hlv,List.length_cons,this];omega
theorem val_hlv:∀ xs:List Nat,val 4294967296 (hlv xs)=val 18446744073709551616 xs
  | []=>rfl
  | a :: r => by
    have:=val_hlv r;simp only [hlv,val,this];omega
theorem dig_hlv:∀ {xs:List Nat},Dig 18446744073709551616 xs→Dig 4294967296 (hlv xs)
  | [],_=>fun _ h=>by simp [hlv] at h
  | a :: r, h => fun x hx => by
    have h1:=h a (by simp);simp only [hlv,List.mem_cons] at hx;rcases hx with rfl | rfl | hx
    · omega
    · omega
    · exact dig_hlv (fun y hy=>h y (by simp [hy])) x hx
theorem hlv_get:∀ (xs:List Nat) (i:Nat),i<2*xs.length→(hlv xs).getD i 0=xs.getD (i / 2) 0 / 4294967296 ^ (i % 2) % 4294967296∨18446744073709551616≤xs.getD (i / 2) 0
  | [],i,h=>by simp at h
  | a :: r,0,_=>by simp [hlv]
  | a :: r, 1, _ => by
    rcases Nat.lt_or_ge a 18446744073709551616 with h | h
    · left;simp [hlv];omega
    · right;simpa using h
  | a :: r, i + 2, h => by
    have:=hlv_get r i (by simp at h;omega);have e1:(i+2) / 2=i / 2+1:=by omega
    have e2:(i+2) % 2=i % 2:=by omega
    rw [e1,e2];simpa [hlv] using this
end Go.Proofs.YtgekmfcbbjeahaaGreatDoor
