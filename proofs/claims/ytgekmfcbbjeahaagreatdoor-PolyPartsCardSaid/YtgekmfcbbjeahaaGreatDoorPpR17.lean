/- rat.Valid. -/
import Derived.Test.YtgekmfcbbjeahaaGreatDoorPpR16
import Derived.Deep.DeepCutAuto
import Derived.Deep.RegionHeld3
namespace Go.Proofs.YtgekmfcbbjeahaaGreatDoor
open Go.RowKit V
def RVal (s:Bool) (ns ds:List Nat):Prop:=Ok ns∧Ok ds∧0<ds.length∧(s=true→0<ns.length)∧Nat.gcd (V32 ns) (V32 ds)=1
theorem RL.Is.okv {w:World} {a:RL} {q:Rat} (h:a.Is w q) (l1:a.ns.length≤4096) (l2:a.ds.length≤4096):RVal a.s a.ns a.ds:=by
  refine ⟨⟨l1,h.mn.2⟩,⟨l2,h.md.2⟩,h.dpos,fun hs=>?_,h.q.cop⟩;rcases Nat.eq_zero_or_pos a.ns.length with h0 | h0
  · have:=h.q.zero (by rw [List.eq_nil_of_length_eq_zero h0];simp [V32,val]);rw [hs] at this;cases this
  · exact h0
theorem RVal.is {w:World} {s:Bool} {N D:Option Addr} {nc dc:Nat} {ns ds:List Nat} (h:RVal s ns ds) (rn:Rd .u32 w N ns) (rd:Rd .u32 w D ds) (cn:ns.length≤nc) (cd:ds.length≤dc) (dn:Dig 4294967296 ns) (dd:Dig 4294967296 ds) :
    RL.Is w ⟨s,N,nc,ns,D,dc,ds⟩ (mkRat (sgn s (V32 ns)) (V32 ds)):=by
  obtain ⟨h1,h2,h3,h4,h5⟩:=h;have mn:Mag ns:=⟨dn,h1.2⟩;have md:Mag ds:=⟨dd,h2.2⟩;refine ⟨rn,rd,mn,md,cn,cd,QOf.mk_ (V32_pos md h3) h5 fun h0=>?_⟩;cases s with
  | false=>rfl
  | true=>have:=V32_pos mn (h4 rfl);dsimp only at h0;omega
set_option maxHeartbeats 400000 in
theorem qvalid_no1 (s:Bool) (N D:Option Addr) (nc dc:Nat) (ns ds:List Nat) (w:World) (rn:Rd .u32 w N ns) (h:¬ Ok ns) :
    Calls Tryz.prog 58 #[.agg #[.bool s,.slice N ns.length nc,.slice D ds.length dc]] w (Gives (.bool false) w):=by
  have hb:Below w.heap.size w (w.alloc (.cells #[.bool s,.slice N ns.length nc,.slice D ds.length dc] 27)):=(Below.refl _ _).alloc (Nat.le_refl _) _;go_enter Tryz.func58,Tryz.ntmps58;go_wp2_with fail;refine (valid_no N nc ns _ (rn.below hb) h).mono ?_;rintro e w1 ⟨rfl,rfl⟩;go_wp2;go_ret;exact ⟨rfl,hb⟩
set_option maxHeartbeats 400000 in
theorem qvalid_no2 (s:Bool) (N D:Option Addr) (nc dc:Nat) (ns ds:List Nat) (w:World) (rn:Rd .u32 w N ns) (rd:Rd .u32 w D ds) (h1:Ok ns) (h:¬ Ok ds) :
    Calls Tryz.prog 58 #[.agg #[.bool s,.slice N ns.length nc,.slice D ds.length dc]] w (Gives (.bool false) w):=by
  have hb:Below w.heap.size w (w.alloc (.cells #[.bool s,.slice N ns.length nc,.slice D ds.length dc] 27)):=(Below.refl _ _).alloc (Nat.le_refl _) _;go_enter Tryz.func58,Tryz.ntmps58;go_wp2_with fail;refine (valid_yes N nc ns _ (rn.below hb) h1).mono ?_;rintro e w1 ⟨rfl,rfl⟩;go_wp2_with fail;refine (valid_no D dc ds _ (rd.below hb) h).mono ?_;rintro e w1 ⟨rfl,rfl⟩;go_wp2;go_ret;exact ⟨rfl,hb⟩
set_option maxHeartbeats 800000 in
theorem qvalid_no3 (s:Bool) (N D:Option Addr) (nc dc:Nat) (ns ds:List Nat) (w:World) (rn:Rd .u32 w N ns) (rd:Rd .u32 w D ds) (h1:Ok ns) (h2:Ok ds) (h:ds.length=0∨(0<ds.length∧s=true∧ns.length=0)) :
    Calls Tryz.prog 58 #[.agg #[.bool s,.slice N ns.length nc,.slice D ds.length dc]] w (Gives (.bool false) w):=by
  have hb:Below w.heap.size w (w.alloc (.cells #[.bool s,.slice N ns.length nc,.slice D ds.length dc] 27)):=(Below.refl _ _).alloc (Nat.le_refl _) _;have V1:=Lib.hid (valid_yes N nc ns _ (rn.below hb) h1);have V2:=Lib.hid (valid_yes D dc ds _ (rd.below hb) h2);rcases h with h | ⟨h,rfl,h3⟩
  · obtain rfl:ds=[]:=List.eq_nil_of_length_eq_zero h;go_enter Tryz.func58,Tryz.ntmps58;go_wp2_with fail;refine V1.out.mono ?_;rintro e w1 ⟨rfl,rfl⟩;go_wp2_with fail;refine V2.out.mono ?_;rintro e w1 ⟨rfl,rfl⟩;go_wp2;go_ret;exact ⟨rfl,hb⟩
  · obtain rfl:ns=[]:=List.eq_nil_of_length_eq_zero h3;have hne:((ds.length:Int) == 0)=false:=beq_eq_false_iff_ne.2 (by omega);go_enter Tryz.func58,Tryz.ntmps58;go_wp2_with fail;refine V1.out.mono ?_;rintro e w1 ⟨rfl,rfl⟩;go_wp2_with fail;refine V2.out.mono ?_;rintro e w1 ⟨rfl,rfl⟩;go_wp2;go_ret;exact ⟨rfl,hb⟩
set_option maxRecDepth 100000 in
set_option maxHeartbeats 1600000 in
theorem qvalid_gcd (s : Bool) (N D : Option Addr) (nc dc : Nat) (ns ds : List Nat) (w : World) (rn : Rd .u32 w N ns) (rd : Rd .u32 w D ds) (cn : ns.length ≤ nc) (cd : ds.length ≤ dc) (dn : Dig 4294967296 ns) (dd : Dig 4294967296 ds) (h1 : Ok ns) (h2 : Ok ds) (hpos : 0 < ds.length) (hs : s = true → 0 < ns.length) (r : Bool) (hv : r = true ↔ Nat.gcd (V32 ns) (V32 ds) = 1) :
    Calls Tryz.prog 58 #[.agg #[.bool s,.slice N ns.length nc,.slice D ds.length dc]] w (Gives (.bool r) w):=by
  have mn:Mag ns:=⟨dn,h1.2⟩;have md:Mag ds:=⟨dd,h2.2⟩;have l1:=h1.1;have l2:=h2.1;have HR:=Lib.hid hv;clear hv;have hk:=Blk3.new w (.bool s) (.slice N ns.length nc) (.slice D ds.length dc);have hb:Below w.heap.size w (w.alloc (.cells #[.bool s,.slice N ns.length nc,.slice D ds.length dc] 27)):=(Below.refl _ _).alloc (Nat.le_refl _) _;have V1:=Lib.hid (valid_yes N nc ns _ (rn.below hb) h1);have V2:=Lib.hid (valid_yes D dc ds _ (rd.below hb) h2);have hne:((ds.length:Int) == 0)=false:=beq_eq_false_iff_ne.2 (by omega);have hsn:s=false∨(s=true∧((ns.length:Int) == 0)=false):=by
    cases s with
    | false=>exact .inl rfl
    | true=>exact .inr ⟨rfl,beq_eq_false_iff_ne.2 (by have:=hs rfl;omega)⟩
  have HS:=Lib.hid hs;clear hs;rcases hsn with rfl | ⟨rfl,hsn⟩
  all_goals
    go_enter Tryz.func58,Tryz.ntmps58;go_wp2_with fail;refine V1.out.mono ?_;rintro e w1 ⟨rfl,rfl⟩;go_wp2_with fail;refine V2.out.mono ?_;rintro e w1 ⟨rfl,rfl⟩;go_wp2_with fail;refine (isone_any D dc ds _ (rd.below hb) (by omega) md).mono ?_;rintro e w2 ⟨he,n2,hwe⟩;obtain ⟨o,ho⟩:∃ o,Hid (decide (V32 ds=1)=o):=⟨_,Lib.hid rfl⟩;rw [ho.out] at he;subst he;have hb2:Below w.heap.size w w2:=by rw [hwe];exact below_drew_ hb n2
    have hk2:=hk.below (w':=w2) (by rw [hwe];exact below_drew_ (Below.refl _ _) n2);clear hwe;obtain ⟨a0,a1,a2,a3,a4,a5,a6⟩:=hk2.facts;cases o
    · go_wp2_with fail;refine (qgcd N D nc dc ns ds _ (rn.below hb2) (rd.below hb2) cn cd l1 l2 mn md).mono ?_;rintro e w3 ⟨G,gc,gs,rfl,hgc,hg,hb3,hvg,mg⟩;have hgl:gs.length≤ds.length:=md.len_le mg (by rw [hvg];exact Nat.gcd_le_right _ (V32_pos md hpos));have hrg:Hid (decide (V32 gs=1)=r):=by show _=_;rw [Bool.eq_iff_iff,decide_eq_true_iff,hvg,HR.out]
      clear hvg;go_wp2_with fail;refine (isone_any G gc gs _ hg (by omega) mg).mono ?_;rintro e w4 ⟨he,n4,hwe⟩;rw [hrg.out] at he;subst he;have hb4:Below w.heap.size w w4:=by rw [hwe];exact below_drew_ (hb2.trans (hb3.mono hb2.size)) n4
      clear hwe;go_wp2;go_ret;exact ⟨rfl,hb4⟩
    · have hrt:Hid (true=r):=by
        show _=_;exact (HR.out.2 (by rw [of_decide_eq_true ho.out,Nat.gcd_one_right])).symm
      go_wp2;go_ret;exact ⟨ret_bool hrt.out,hb2⟩
theorem qvalid (s : Bool) (N D : Option Addr) (nc dc : Nat) (ns ds : List Nat) (w : World) (rn : Rd .u32 w N ns) (rd : Rd .u32 w D ds) (cn : ns.length ≤ nc) (cd : ds.length ≤ dc) (dn : Dig 4294967296 ns) (dd : Dig 4294967296 ds) (v : Bool) (hv : v = true ↔ RVal s ns ds) :
    Calls Tryz.prog 58 #[.agg #[.bool s,.slice N ns.length nc,.slice D ds.length dc]] w (Gives (.bool v) w):=by
  have hf:¬ RVal s ns ds→v=false:=fun h=>by cases v with
    | false=>rfl
    | true=>exact absurd (hv.1 rfl) h
  by_cases h1:Ok ns
  · by_cases h2:Ok ds
    · by_cases h3:ds.length=0∨(0<ds.length∧s=true∧ns.length=0)
      · rw [hf fun h => by rcases h3 with h3 | ⟨_, h3, h4⟩
                           · have:=h.2.2.1;omega
                           · have:=h.2.2.2.1 h3;omega]
        exact qvalid_no3 s N D nc dc ns ds w rn rd h1 h2 h3
      · have hpos:0<ds.length:=by omega
        have hs:s=true→0<ns.length:=fun h=>by
          rcases Nat.eq_zero_or_pos ns.length with h0 | h0
          · exact absurd (.inr ⟨hpos,h,h0⟩) h3
          · exact h0
        exact qvalid_gcd s N D nc dc ns ds w rn rd cn cd dn dd h1 h2 hpos hs v (hv.trans ⟨fun h=>h.2.2.2.2,fun h=>⟨h1,h2,hpos,hs,h⟩⟩)
    · rw [hf fun h=>h2 h.2.1];exact qvalid_no2 s N D nc dc ns ds w rn rd h1 h2
  · rw [hf fun h=>h1 h.1];exact qvalid_no1 s N D nc dc ns ds w rn h1
theorem qvalid_yes (a:RL) (q:Rat) (w:World) (h:a.Is w q) (l1:a.ns.length≤4096) (l2:a.ds.length≤4096) :
    Calls Tryz.prog 58 #[.agg #[.bool a.s,.slice a.N a.ns.length a.nc,.slice a.D a.ds.length a.dc]] w (Gives (.bool true) w):=
  qvalid a.s a.N a.D a.nc a.dc a.ns a.ds w h.rn h.rd h.cn h.cd h.mn.1 h.md.1 true ⟨fun _=>h.okv l1 l2,fun _=>rfl⟩
end Go.Proofs.YtgekmfcbbjeahaaGreatDoor
/- The document's rational numbers: isochroneref02's Of, To, Same, Is, None, Short. -/
namespace Go.Proofs.YtgekmfcbbjeahaaGreatDoor
open Go.RowKit V
structure RL.Ref (w:World) (a:RL) (q:Rat):Prop where
  rn:Rd .i64 w a.N a.ns
  rd:Rd .i64 w a.D a.ds
  mn:Nm a.ns
  md:Nm a.ds
  q:QOf a.s (VD a.ns) (VD a.ds) q
theorem RL.Ref.below {w w':World} {a:RL} {q:Rat} (h:a.Ref w q) (hb:Below w.heap.size w w'):a.Ref w' q:=
  ⟨h.rn.below hb,h.rd.below hb,h.mn,h.md,h.q⟩
theorem RL.Ref.put3 {t:TypeId} {w:World} {a:RL} {q:Rat} {g n c d e:Nat} {p:Bool} {N D:Option Addr} (h:a.Ref w q) (hb:BlkT t w g (.bool p) (.slice N n c) (.slice D d e)) (x y z:Value):a.Ref (Go.Proofs.YtgekmfcbbjeahaaGreatDoor.put3 w g x y z) q:=
  ⟨h.rn.put3 hb x y z,h.rd.put3 hb x y z,h.mn,h.md,h.q⟩
theorem RL.Ref.dpos {w:World} {a:RL} {q:Rat} (h:a.Ref w q):0<a.ds.length:=by
  rcases Nat.eq_zero_or_pos a.ds.length with h0 | h0
  · have:=h.q.pos;rw [List.eq_nil_of_length_eq_zero h0] at this;simp [VD,val] at this
  · exact h0
def RefP (q:Rat) (L M:Nat) (w:World) (e:Ending) (w':World):Prop:=
  ∃ r:RL,e = .returned (.agg #[.bool r.s,.slice r.N r.ns.length r.nc,.slice r.D r.ds.length r.dc])∧r.Ref w' q∧r.ns.length≤L∧r.ds.length≤M∧Below w.heap.size w w'
theorem RefP.put {t:TypeId} {w w':World} {q:Rat} {L M g n c d e:Nat} {p:Bool} {N D:Option Addr} (r:RL) (hi:r.Ref w' q) (hb:BlkT t w' g (.bool p) (.slice N n c) (.slice D d e)) (hg:w.heap.size≤g) (hw:Below w.heap.size w w') (l1:r.ns.length≤L) (l2:r.ds.length≤M) :
    RefP q L M w (.returned (.agg #[.bool r.s,.slice r.N r.ns.length r.nc,.slice r.D r.ds.length r.dc])) (Go.Proofs.YtgekmfcbbjeahaaGreatDoor.put3 w' g (.bool r.s) (.slice r.N r.ns.length r.nc) (.slice r.D r.ds.length r.dc)):=
  ⟨r,rfl,hi.put3 hb _ _ _,l1,l2,below_put3 hw hg _ _ _⟩
theorem boxes2 (t1 t2:TypeId) (w:World) (a b c r s t:Value):BlkT t1 ((w.alloc (.cells #[a,b,c] t1)).alloc (.cells #[r,s,t] t2)) w.heap.size a b c ∧
    BlkT t2 ((w.alloc (.cells #[a,b,c] t1)).alloc (.cells #[r,s,t] t2)) (w.heap.size+1) r s t∧Below w.heap.size w ((w.alloc (.cells #[a,b,c] t1)).alloc (.cells #[r,s,t] t2)):=by
  refine ⟨(BlkT.new t1 w a b c).alloc _,?_,((Below.refl _ _).alloc (Nat.le_refl _) _).alloc (by simp) _⟩;have:=BlkT.new t2 (w.alloc (.cells #[a,b,c] t1)) r s t;rwa [show (w.alloc (.cells #[a,b,c] t1)).heap.size=w.heap.size+1 by simp] at this
theorem short_words {xs ys:List Nat} (mx:Mag xs) (h:V32 xs=VD ys) (my:Nm ys) {k:Nat} (hl:ys.length≤k):xs.length≤k:=by
  refine len_of_lt (B:=4294967296) (by omega) mx.2 ?_;show V32 xs<_;rw [h];have h1:=val_lt 10000 ys my.1;have h2:10000 ^ ys.length≤10000 ^ k:=Nat.pow_le_pow_right (by omega) hl;have h3:(10000:Nat) ^ k≤4294967296 ^ k:=Nat.pow_le_pow_left (by omega) k;unfold VD;omega
set_option maxRecDepth 100000 in
set_option maxHeartbeats 1600000 in
theorem qto (a:RL) (q:Rat) (w:World) (ha:a.Ref w q) (l1:a.ns.length≤100000) (l2:a.ds.length≤100000) :
    Calls Tryz.prog 42 #[.agg #[.bool a.s,.slice a.N a.ns.length a.nc,.slice a.D a.ds.length a.dc]] w (RatP q 100000 w):=by
  go_enter Tryz.func42,Tryz.ntmps42;go_wp2_with fail;have hbox:=boxes2 46 27 w (.bool a.s) (.slice a.N a.ns.length a.nc) (.slice a.D a.ds.length a.dc) (.bool false) (.slice none 0 0) (.slice none 0 0);obtain ⟨w1,hwe⟩:∃ x,(w.alloc (.cells #[.bool a.s,.slice a.N a.ns.length a.nc,.slice a.D a.ds.length a.dc] 46)).alloc (.cells #[.bool false,.slice none 0 0,.slice none 0 0] 27)=x:=⟨_,rfl⟩;rw [hwe] at hbox ⊢;obtain ⟨ka1,kr1,hb1⟩:=hbox;have HWE:=Lib.hid hwe;clear hwe HWE;have ha1:=ha.below hb1;have hw1:=hb1;clear ha hb1;obtain ⟨a0,a1,a2,a3,a4,a5,a6⟩:=ka1.facts;go_upto_region 1 with fail;go_region_held3 (fun w'=>w'.cell? ⟨w.heap.size,0,none⟩=some (.bool a.s)∧w'.cell? ⟨w.heap.size,1,none⟩=some (.slice a.N a.ns.length a.nc)∧w'.cell? ⟨w.heap.size,2,none⟩=some (.slice a.D a.ds.length a.dc)) (first | exact ⟨‹_›,‹_›,‹_›⟩ | go_keep)
    (first
    | (go_at_call_of 88 (Value.slice a.N a.ns.length a.nc)
       refine (words_any a.N a.nc a.ns _ (by first | exact ha1.rn | exact ha1.rn.drew | exact (ha1.rn.below hbyq) | exact (ha1.rn.below hbyq).drew) l1 ha1.mn).mono ?_;rintro e wx_ ⟨X,xc,xs,rfl,hxc,hX,hbx,hvx,mx⟩;have HVX:=Lib.hid hvx;clear hvx;have hbxq:Below w1.heap.size w1 wx_:=by first | exact below_of_drew hbx (Nat.le_refl _) | exact hbx | exact hbyq.trans (hbx.mono hbyq.size) | exact hbyq.trans (below_of_drew hbx hbyq.size)
       obtain ⟨c0wx_,c1wx_,c2wx_,c3wx_,c4wx_,c5wx_,c6wx_⟩:=(ka1.below hbxq).facts;obtain ⟨d0wx_,d1wx_,d2wx_,d3wx_,d4wx_,d5wx_,d6wx_⟩:=(kr1.below hbxq).facts)
    | (go_at_call_of 88 (Value.slice a.D a.ds.length a.dc)
       refine (words_any a.D a.dc a.ds _ (by first | exact ha1.rd | exact ha1.rd.drew | exact (ha1.rd.below hbxq) | exact (ha1.rd.below hbxq).drew) l2 ha1.md).mono ?_;rintro e wy_ ⟨Y,yc,ys,rfl,hyc,hY,hby,hvy,my⟩;have HVY:=Lib.hid hvy;clear hvy;have hbyq:Below w1.heap.size w1 wy_:=by first | exact below_of_drew hby (Nat.le_refl _) | exact hby | exact hbxq.trans (hby.mono hbxq.size) | exact hbxq.trans (below_of_drew hby hbxq.size)
       obtain ⟨c0wy_,c1wy_,c2wy_,c3wy_,c4wy_,c5wy_,c6wy_⟩:=(ka1.below hbyq).facts;obtain ⟨d0wy_,d1wy_,d2wy_,d3wy_,d4wy_,d5wy_,d6wy_⟩:=(kr1.below hbyq).facts))
  all_goals
    go_wp2_with fail
    first
      | (refine bodyPost_ret (v := .agg #[.bool a.s, .slice X xs.length xc, .slice Y ys.length yc]) (by simp [results, Tryz.results42, go_sem, d0wy_, d1wy_, d2wy_]) rfl ?_
         exact RatP.put ⟨a.s,X,xc,xs,Y,yc,ys⟩ ⟨hX.below hby,hY,mx,my,hxc,hyc,by dsimp only;rw [HVX.out,HVY.out];exact ha1.q⟩ (kr1.below hbyq) (by omega) (hw1.trans (hbyq.mono hw1.size)) (short_words mx HVX.out ha1.mn l1) (short_words my HVY.out ha1.md l2))
      | (refine bodyPost_ret (v := .agg #[.bool a.s, .slice X xs.length xc, .slice Y ys.length yc]) (by simp [results, Tryz.results42, go_sem, d0wx_, d1wx_, d2wx_]) rfl ?_
         exact RatP.put ⟨a.s,X,xc,xs,Y,yc,ys⟩ ⟨hX,hY.below hbx,mx,my,hxc,hyc,by dsimp only;rw [HVX.out,HVY.out];exact ha1.q⟩ (kr1.below hbxq) (by omega) (hw1.trans (hbxq.mono hw1.size)) (short_words mx HVX.out ha1.mn l1) (short_words my HVY.out ha1.md l2))
end Go.Proofs.YtgekmfcbbjeahaaGreatDoor
/- isochroneref02's Same, Is, None, Short. -/
namespace Go.Proofs.YtgekmfcbbjeahaaGreatDoor
open Go.RowKit V
theorem boxes2p (t1 t2:TypeId) (w:World) (a b c r s t:Value):Below w.heap.size w ((w.alloc (.cells #[a,b,c] t1)).alloc (.cells #[r,s,t] t2)):=(boxes2 t1 t2 w a b c r s t).2.2
set_option maxHeartbeats 800000 in
theorem qsame_yes (s:Bool) (N M D E:Option Addr) (nc mc dc ec:Nat) (ns ds:List Nat) (w:World) (h1:Rd .u32 w N ns) (h2:Rd .u32 w M ns) (h3:Rd .u32 w D ds) (h4:Rd .u32 w E ds) (l1:ns.length≤200000) (l2:ds.length≤200000) :
    Calls Tryz.prog 67 #[.agg #[.bool s,.slice N ns.length nc,.slice D ds.length dc],.agg #[.bool s,.slice M ns.length mc,.slice E ds.length ec]] w (Yes w):=by
  have hb:=boxes2p 27 27 w (.bool s) (.slice N ns.length nc) (.slice D ds.length dc) (.bool s) (.slice M ns.length mc) (.slice E ds.length ec);obtain ⟨ka,kb,_⟩:=boxes2 27 27 w (.bool s) (.slice N ns.length nc) (.slice D ds.length dc) (.bool s) (.slice M ns.length mc) (.slice E ds.length ec);cases s
  all_goals
    go_enter Tryz.func67,Tryz.ntmps67;go_wp2_with fail;refine (equal_yes N M nc mc ns.length ns _ rfl (h1.below hb) (h2.below hb) l1).mono ?_;rintro e w1 ⟨rfl,n1,hwe⟩;have hb1:Below w.heap.size w w1:=by rw [hwe];exact below_drew_ hb n1
    have ka1:=ka.below (w':=w1) (by rw [hwe];exact below_drew_ (Below.refl _ _) n1);have kb1:=kb.below (w':=w1) (by rw [hwe];exact below_drew_ (Below.refl _ _) n1);obtain ⟨a0,a1,a2,a3,a4,a5,a6⟩:=ka1.facts;obtain ⟨b0,b1,b2,b3,b4,b5,b6⟩:=kb1.facts;clear hwe;go_wp2_with fail;refine (equal_yes D E dc ec ds.length ds _ rfl (h3.below hb1) (h4.below hb1) l2).mono ?_;rintro e w2 ⟨rfl,n2,hwe⟩;have hb2:Below w.heap.size w w2:=by rw [hwe];exact below_drew_ hb1 n2
    clear hwe;go_wp2_with fail;go_ret;exact ⟨rfl,hb2⟩
theorem qshort_yes (s:Bool) (N D:Option Addr) (n nc d dc k:Nat) (w:World) (h1:n≤k) (h2:d≤k) :
    Calls Tryz.prog 49 #[.agg #[.bool s,.slice N n nc,.slice D d dc],.int .i64 k] w (Yes w):=by
  have h2':decide ((d:Int)≤k)=true:=decide_eq_true (by omega);go_enter Tryz.func49,Tryz.ntmps49;go_wp2;go_ret;exact ⟨rfl,(Below.refl _ _).alloc (Nat.le_refl _) _⟩
theorem qshort_no (s:Bool) (N D:Option Addr) (n nc d dc k:Nat) (w:World) (h:¬ (n≤k∧d≤k)) :
    Calls Tryz.prog 49 #[.agg #[.bool s,.slice N n nc,.slice D d dc],.int .i64 k] w (Gives (.bool false) w):=by
  by_cases h1:n≤k
  · have h2:¬ d≤k:=fun h2=>h ⟨h1,h2⟩
    have h2':decide ((d:Int)≤k)=false:=decide_eq_false (by omega);go_enter Tryz.func49,Tryz.ntmps49;go_wp2;go_ret;exact ⟨rfl,(Below.refl _ _).alloc (Nat.le_refl _) _⟩
  · have h1':decide ((n:Int)≤k)=false:=decide_eq_false (by omega);go_enter Tryz.func49,Tryz.ntmps49;go_wp2;go_ret;exact ⟨rfl,(Below.refl _ _).alloc (Nat.le_refl _) _⟩
end Go.Proofs.YtgekmfcbbjeahaaGreatDoor
/- rat: numbers that may not be valid, and ErrForm of every function. -/
namespace Go.Proofs.YtgekmfcbbjeahaaGreatDoor
open Go.RowKit V
structure RL.Raw (w:World) (a:RL):Prop where
  rn:Rd .u32 w a.N a.ns
  rd:Rd .u32 w a.D a.ds
  cn:a.ns.length≤a.nc
  cd:a.ds.length≤a.dc
  dn:Dig 4294967296 a.ns
  dd:Dig 4294967296 a.ds
theorem RL.Raw.below {w w':World} {a:RL} (h:a.Raw w) (hb:Below w.heap.size w w'):a.Raw w':=
  ⟨h.rn.below hb,h.rd.below hb,h.cn,h.cd,h.dn,h.dd⟩
theorem RL.Raw.drew {w:World} {a:RL} (h:a.Raw w):a.Raw w.drew:=⟨h.rn.drew,h.rd.drew,h.cn,h.cd,h.dn,h.dd⟩
theorem RL.Raw.alloc {w:World} {a:RL} (h:a.Raw w) (o:Obj):a.Raw (w.alloc o):=⟨h.rn.alloc _,h.rd.alloc _,h.cn,h.cd,h.dn,h.dd⟩
theorem RL.Is.drew {w:World} {a:RL} {q:Rat} (h:a.Is w q):a.Is w.drew q:=⟨h.rn.drew,h.rd.drew,h.mn,h.md,h.cn,h.cd,h.q⟩
theorem RL.Is.alloc {w:World} {a:RL} {q:Rat} (h:a.Is w q) (o:Obj):a.Is (w.alloc o) q:=⟨h.rn.alloc _,h.rd.alloc _,h.mn,h.md,h.cn,h.cd,h.q⟩
def RL.Val (a:RL):Prop:=RVal a.s a.ns a.ds
theorem RL.Raw.is {w:World} {a:RL} (h:a.Raw w) (v:a.Val):a.Is w (mkRat (sgn a.s (V32 a.ns)) (V32 a.ds)):=RVal.is v h.rn h.rd h.cn h.cd h.dn h.dd
theorem qvalid_raw (a:RL) (w:World) (h:a.Raw w) (v:Bool) (hv:v=true↔a.Val) :
    Calls Tryz.prog 58 #[.agg #[.bool a.s,.slice a.N a.ns.length a.nc,.slice a.D a.ds.length a.dc]] w (Gives (.bool v) w):=qvalid a.s a.N a.D a.nc a.dc a.ns a.ds w h.rn h.rd h.cn h.cd h.dn h.dd v hv
end Go.Proofs.YtgekmfcbbjeahaaGreatDoor
/- poly.validNumber and poly.validCoef. -/
namespace Go.Proofs.YtgekmfcbbjeahaaGreatDoor
open Go.RowKit V
def RL.CN (a:RL):Prop:=a.ns.length≤200∧a.ds.length≤200∧a.Val
def RL.CV (a:RL):Prop:=0<a.ns.length∧a.CN
set_option maxRecDepth 100000 in
set_option maxHeartbeats 800000 in
theorem pvalidNumber (a:RL) (w:World) (h:a.Raw w) (v:Bool) (hv:v=true↔a.CN) :
    Calls Tryz.prog 131 #[.agg #[.bool a.s,.slice a.N a.ns.length a.nc,.slice a.D a.ds.length a.dc]] w (Gives (.bool v) w):=by
  have hb:Below w.heap.size w (w.alloc (.cells #[.bool a.s,.slice a.N a.ns.length a.nc,.slice a.D a.ds.length a.dc] 27)):=(Below.refl _ _).alloc (Nat.le_refl _) _;have HV:=Lib.hid hv;clear hv;have hno:¬ a.CN→v=false:=fun hn=>by
    cases hb:v with
    | false=>rfl
    | true=>exact absurd (HV.out.1 hb) hn
  by_cases h1:a.ns.length≤200
  · by_cases h2:a.ds.length≤200
    · have hval:v=true↔a.Val:=⟨fun e=>(HV.out.1 e).2.2,fun e=>HV.out.2 ⟨h1,h2,e⟩⟩;have HVV:=Lib.hid hval;clear hval hno;go_enter Tryz.func131,Tryz.ntmps131;go_wp2_with fail;refine (qvalid_raw a _ (h.below hb) v HVV.out).mono ?_;rintro e w2 ⟨rfl,hb2⟩;go_wp2;go_ret;exact ⟨rfl,hb.trans (hb2.mono hb.size)⟩
    · obtain rfl:=hno fun e=>h2 e.2.1
      clear hno HV;go_enter Tryz.func131,Tryz.ntmps131;go_wp2;go_ret;exact ⟨rfl,hb⟩
  · obtain rfl:=hno fun e=>h1 e.1
    clear hno HV;go_enter Tryz.func131,Tryz.ntmps131;go_wp2;go_ret;exact ⟨rfl,hb⟩
set_option maxRecDepth 100000 in
set_option maxHeartbeats 800000 in
theorem pvalidCoef (a:RL) (w:World) (h:a.Raw w) (v:Bool) (hv:v=true↔a.CV) :
    Calls Tryz.prog 85 #[.agg #[.bool a.s,.slice a.N a.ns.length a.nc,.slice a.D a.ds.length a.dc]] w (Gives (.bool v) w):=by
  have hb:Below w.heap.size w (w.alloc (.cells #[.bool a.s,.slice a.N a.ns.length a.nc,.slice a.D a.ds.length a.dc] 27)):=(Below.refl _ _).alloc (Nat.le_refl _) _;have HV:=Lib.hid hv;clear hv
  by_cases h1:0<a.ns.length
  · have hval:v=true↔a.CN:=⟨fun e=>(HV.out.1 e).2,fun e=>HV.out.2 ⟨h1,e⟩⟩;have HVV:=Lib.hid hval;clear hval;go_enter Tryz.func85,Tryz.ntmps85;go_wp2_with fail;refine (pvalidNumber a _ (h.below hb) v HVV.out).mono ?_;rintro e w2 ⟨rfl,hb2⟩;go_wp2;go_ret;exact ⟨rfl,hb.trans (hb2.mono hb.size)⟩
  · have hf:v=false:=by
      cases hb:v with
      | false=>rfl
      | true=>exact absurd (HV.out.1 hb).1 h1
    subst hf;clear HV;go_enter Tryz.func85,Tryz.ntmps85;go_wp2;go_ret;exact ⟨rfl,hb⟩
end Go.Proofs.YtgekmfcbbjeahaaGreatDoor
/- isochroneref02.Valid. -/
namespace Go.Proofs.YtgekmfcbbjeahaaGreatDoor
open Go.RowKit V
set_option maxHeartbeats 400000 in
theorem rqvalid_no1 (s:Bool) (N D:Option Addr) (nc dc:Nat) (ns ds:List Nat) (w:World) (rn:Rd .u32 w N ns) (h:¬ Ok ns) :
    Calls Tryz.prog 50 #[.agg #[.bool s,.slice N ns.length nc,.slice D ds.length dc]] w (Gives (.bool false) w):=by
  have hb:Below w.heap.size w (w.alloc (.cells #[.bool s,.slice N ns.length nc,.slice D ds.length dc] 27)):=(Below.refl _ _).alloc (Nat.le_refl _) _;go_enter Tryz.func50,Tryz.ntmps50;go_wp2_with fail;refine (rvalid_no N nc ns _ (rn.below hb) h).mono ?_;rintro e w1 ⟨rfl,rfl⟩;go_wp2;go_ret;exact ⟨rfl,hb⟩
set_option maxHeartbeats 400000 in
theorem rqvalid_no2 (s:Bool) (N D:Option Addr) (nc dc:Nat) (ns ds:List Nat) (w:World) (rn:Rd .u32 w N ns) (rd:Rd .u32 w D ds) (h1:Ok ns) (h:¬ Ok ds) :
    Calls Tryz.prog 50 #[.agg #[.bool s,.slice N ns.length nc,.slice D ds.length dc]] w (Gives (.bool false) w):=by
  have hb:Below w.heap.size w (w.alloc (.cells #[.bool s,.slice N ns.length nc,.slice D ds.length dc] 27)):=(Below.refl _ _).alloc (Nat.le_refl _) _;go_enter Tryz.func50,Tryz.ntmps50;go_wp2_with fail;refine (rvalid_yes N nc ns _ (rn.below hb) h1).mono ?_;rintro e w1 ⟨rfl,rfl⟩;go_wp2_with fail;refine (rvalid_no D dc ds _ (rd.below hb) h).mono ?_;rintro e w1 ⟨rfl,rfl⟩;go_wp2;go_ret;exact ⟨rfl,hb⟩
set_option maxHeartbeats 400000 in
theorem rqvalid_no3 (s:Bool) (N D:Option Addr) (nc dc:Nat) (ns:List Nat) (w:World) (rn:Rd .u32 w N ns) (rd:Rd .u32 w D []) (h1:Ok ns) :
    Calls Tryz.prog 50 #[.agg #[.bool s,.slice N ns.length nc,.slice D ([]:List Nat).length dc]] w (Gives (.bool false) w):=by
  have h2:Ok ([]:List Nat):=⟨by simp,nrm_nil⟩;have hb:Below w.heap.size w (w.alloc (.cells #[.bool s,.slice N ns.length nc,.slice D ([]:List Nat).length dc] 27)):=(Below.refl _ _).alloc (Nat.le_refl _) _;go_enter Tryz.func50,Tryz.ntmps50;go_wp2_with fail;refine (rvalid_yes N nc ns _ (rn.below hb) h1).mono ?_;rintro e w1 ⟨rfl,rfl⟩;go_wp2_with fail;refine (rvalid_yes D dc [] _ (rd.below hb) h2).mono ?_;rintro e w1 ⟨rfl,rfl⟩;go_wp2;go_ret;exact ⟨rfl,hb⟩
set_option maxHeartbeats 1600000 in
theorem rqvalid_zero (s : Bool) (N D : Option Addr) (nc dc : Nat) (ds : List Nat) (w : World) (rn : Rd .u32 w N []) (rd : Rd .u32 w D ds) (h2 : Ok ds) (dd : Dig 4294967296 ds) (hpos : 0 < ds.length) (v : Bool) (hv : v = true ↔ (s = false ∧ V32 ds = 1)) :
    Calls Tryz.prog 50 #[.agg #[.bool s,.slice N ([]:List Nat).length nc,.slice D ds.length dc]] w (Gives (.bool v) w):=by
  have h1:Ok ([]:List Nat):=⟨by simp,nrm_nil⟩;have hb:Below w.heap.size w (w.alloc (.cells #[.bool s,.slice N ([]:List Nat).length nc,.slice D ds.length dc] 27)):=(Below.refl _ _).alloc (Nat.le_refl _) _;have md:Mag ds:=⟨dd,h2.2⟩;have hne:((ds.length:Int) == 0)=false:=beq_eq_false_iff_ne.2 (by omega);have V1:=Lib.hid (rvalid_yes N nc [] _ (rn.below hb) h1);have V2:=Lib.hid (rvalid_yes D dc ds _ (rd.below hb) h2);cases s
  · by_cases hl:ds.length=1
    · obtain ⟨ad,x,rfl,hbl,ex,hc⟩:=(rd.below hb).ask (i:=0) (by omega);rw [add_zero_] at hc;simp only [List.length_nil] at hc;have hvx:V32 ds=x:=by rw [one_of_len hl,ex.out];unfold V32;simp [val]
      have hq:Hid (((x:Int) == 1)=v):=by
        show _=_;rw [Bool.eq_iff_iff,hv,hvx,beq_iff_eq];constructor
        · intro h;exact ⟨rfl,by omega⟩
        · intro h;omega
      have hl1:((ds.length:Int) == 1)=true:=by simp [hl]
      have HL:=Lib.hid hl;clear hl hv hvx;obtain ⟨p,hp⟩:∃ p,((x:Int) == 1)=p:=⟨_,rfl⟩;rw [hp] at hq;cases p
      all_goals
        go_enter Tryz.func50,Tryz.ntmps50;go_wp2_with fail;refine V1.out.mono ?_;rintro e w1 ⟨rfl,rfl⟩;go_wp2_with fail;refine V2.out.mono ?_;rintro e w1 ⟨rfl,rfl⟩;go_wp2_with (go_quiet (fail));go_ret
        first
          | exact ⟨ret_bool hq.out,hb⟩
          | exact ⟨ret_bool hq.out,below_drew_ hb _⟩
          | exact ⟨ret_bool hq.out,hb.drew⟩
    · have hvf:Hid (false=v):=by
        show _=_;cases v with
        | false=>rfl
        | true =>
          exfalso;have h3:=(hv.1 rfl).2;have h4:=val_ge (B:=4294967296) md.2 (by omega);have h5:4294967296 ^ 1≤4294967296 ^ (ds.length - 1):=Nat.pow_le_pow_right (by omega) (by omega);unfold V32 at h3;omega
      have hl1:((ds.length:Int) == 1)=false:=beq_eq_false_iff_ne.2 (by omega);clear hv;go_enter Tryz.func50,Tryz.ntmps50;go_wp2_with fail;refine V1.out.mono ?_;rintro e w1 ⟨rfl,rfl⟩;go_wp2_with fail;refine V2.out.mono ?_;rintro e w1 ⟨rfl,rfl⟩;go_wp2_with (go_quiet (fail));go_ret;exact ⟨ret_bool hvf.out,hb⟩
  · have hvf:Hid (false=v):=by
      show _=_;cases v with
      | false=>rfl
      | true=>have:=(hv.1 rfl).1;cases this
    clear hv;go_enter Tryz.func50,Tryz.ntmps50;go_wp2_with fail;refine V1.out.mono ?_;rintro e w1 ⟨rfl,rfl⟩;go_wp2_with fail;refine V2.out.mono ?_;rintro e w1 ⟨rfl,rfl⟩;go_wp2_with (go_quiet (fail));go_ret;exact ⟨ret_bool hvf.out,hb⟩
theorem below_of_says {w w':World} {n:Nat} (h:w'=w.drewN n):Below w.heap.size w w':=by rw [h];exact below_drew_ (Below.refl _ _) n
theorem cmp_one {g:Nat}:((cmpOf (g:Int) ((VD [1]:Nat):Int) == 0)=true)↔g=1:=by
  have e:((VD [1]:Nat):Int)=1:=by simp [VD,val]
  rw [e,beq_iff_eq];unfold cmpOf;split
  · constructor <;> intro h <;> omega
  · split
    · constructor <;> intro h <;> omega
    · constructor <;> intro h <;> omega
set_option maxRecDepth 100000 in
set_option maxHeartbeats 1600000 in
theorem rqvalid_gcd (s:Bool) (N D:Option Addr) (nc dc:Nat) (ns ds:List Nat) (w:World) (rn:Rd .u32 w N ns) (rd:Rd .u32 w D ds) (h1:Ok ns) (h2:Ok ds) (dn:Dig 4294967296 ns) (dd:Dig 4294967296 ds) (hpos:0<ds.length) (hn:0<ns.length) (v:Bool) (hv:v=true↔Nat.gcd (V32 ns) (V32 ds)=1) :
    Calls Tryz.prog 50 #[.agg #[.bool s,.slice N ns.length nc,.slice D ds.length dc]] w (Gives (.bool v) w):=by
  have hb:Below w.heap.size w (w.alloc (.cells #[.bool s,.slice N ns.length nc,.slice D ds.length dc] 27)):=(Below.refl _ _).alloc (Nat.le_refl _) _;have hk:=Blk3.new w (.bool s) (.slice N ns.length nc) (.slice D ds.length dc);have HV:=Lib.hid hv;have hne:((ds.length:Int) == 0)=false:=beq_eq_false_iff_ne.2 (by omega);have hne2:((ns.length:Int) == 0)=false:=beq_eq_false_iff_ne.2 (by omega);have l1:=h1.1;have l2:=h2.1;clear hv;go_enter Tryz.func50,Tryz.ntmps50;go_wp2_with fail;obtain ⟨w1,hwe⟩:∃ x,w.alloc (.cells #[.bool s,.slice N ns.length nc,.slice D ds.length dc] 27)=x:=⟨_,rfl⟩;rw [hwe] at hb hk ⊢;have ka1:=hk;have hb1:=hb;clear hwe hk hb;have rn1:=rn.below hb1;have rd1:=rd.below hb1;have hw1:=hb1;clear rn rd hb1;refine (rvalid_yes N nc ns _ rn1 h1).mono ?_;rintro e w' ⟨rfl,rfl⟩;obtain ⟨a0,a1,a2,a3,a4,a5,a6⟩:=ka1.facts;go_wp2_with fail;refine (rvalid_yes D dc ds _ rd1 h2).mono ?_;rintro e w' ⟨rfl,rfl⟩;go_upto_region 5 with fail;go_region_held3 (fun w'=>w'.cell? ⟨w.heap.size,1,none⟩=some (.slice N ns.length nc)∧w'.cell? ⟨w.heap.size,2,none⟩=some (.slice D ds.length dc)) (first | exact ⟨‹_›,‹_›⟩ | go_keep)
    (first
    | (go_at_call_of 66 (Value.slice N ns.length nc)
       refine (of_any N nc ns _ (by first | exact rn1 | exact rn1.drew | exact rn1.alloc _ | exact (rn1.alloc _).drew | exact rn1.drew.alloc _) (by omega) dn).mono ?_;rintro e wx_ ⟨X,xc,xs,rfl,hxc,hX,hbx,hvx,mx_,hxl⟩;have HVX:=Lib.hid hvx;clear hvx;have hbp0:Below w1.heap.size w1 wx_:=by first | exact hbx | exact below_of_drew hbx (Nat.le_refl _) | exact ((Below.refl _ _).alloc (Nat.le_refl _) _).trans (hbx.mono (by simp)) | exact ((Below.refl _ _).alloc (Nat.le_refl _) _).trans ((below_of_drew hbx (Nat.le_refl _)).mono (by simp)) | exact below_of_drew (((Below.refl _ _).alloc (Nat.le_refl _) _).trans (hbx.mono (by simp))) (Nat.le_refl _)
       first | (have hL:=hL.below hbp0) | (have hL:=(rd_nat1 w1 1).below hbx) | (have hL:=(rd_nat1 w1 1).drew.below hbx) | (have hL:=(rd_nat1 w1.drew 1).below hbx) | skip
       have rn_0:=rn1.below hbp0;have rd_0:=rd1.below hbp0;have ka_0:=ka1.below hbp0;obtain ⟨ka0wx_,ka1wx_,ka2wx_,ka3wx_,ka4wx_,ka5wx_,ka6wx_⟩:=ka_0.facts;have hwq0:=hw1.trans (hbp0.mono hw1.size))
    | (go_at_call_of 66 (Value.slice D ds.length dc)
       refine (of_any D dc ds _ (by first | exact rd_0 | exact rd_0.drew | exact rd_0.alloc _ | exact (rd_0.alloc _).drew | exact rd_0.drew.alloc _) (by omega) dd).mono ?_;rintro e wy_ ⟨Y,yc,ys,rfl,hyc,hY,hby,hvy,my_,hyl⟩;have HVY:=Lib.hid hvy;clear hvy;have hbp1:Below wx_.heap.size wx_ wy_:=by first | exact hby | exact below_of_drew hby (Nat.le_refl _) | exact ((Below.refl _ _).alloc (Nat.le_refl _) _).trans (hby.mono (by simp)) | exact ((Below.refl _ _).alloc (Nat.le_refl _) _).trans ((below_of_drew hby (Nat.le_refl _)).mono (by simp)) | exact below_of_drew (((Below.refl _ _).alloc (Nat.le_refl _) _).trans (hby.mono (by simp))) (Nat.le_refl _)
       first | (have hL:=hL.below hbp1) | (have hL:=(rd_nat1 wx_ 1).below hby) | (have hL:=(rd_nat1 wx_ 1).drew.below hby) | (have hL:=(rd_nat1 wx_.drew 1).below hby) | skip
       have rn_1:=rn_0.below hbp1;have rd_1:=rd_0.below hbp1;have hX_1:=hX.below hbp1;have ka_1:=ka_0.below hbp1;obtain ⟨ka0wy_,ka1wy_,ka2wy_,ka3wy_,ka4wy_,ka5wy_,ka6wy_⟩:=ka_1.facts;have hwq1:=hwq0.trans (hbp1.mono hwq0.size))
    | (go_at_call 96
       refine (rgcd_any X Y xc yc xs ys _ (by first | exact hX_1 | exact hX_1.drew | exact hX_1.alloc _ | exact (hX_1.alloc _).drew | exact hX_1.drew.alloc _) (by first | exact hY | exact hY.drew | exact hY.alloc _ | exact (hY.alloc _).drew | exact hY.drew.alloc _) (by omega) (by omega) mx_ my_).mono ?_;rintro e wg_ ⟨G,gc,gl,rfl,hG,hng,hlg,hvg,hbg⟩;obtain ⟨c,hcc,hcv⟩:∃ c:Int,Hid (cmpOf (VD gl) (VD [1])=c)∧Hid ((c == 0)=v):=⟨_,Lib.hid rfl,by show _=_;rw [Bool.eq_iff_iff,HV.out,cmp_one,hvg.out,HVX.out,HVY.out]⟩;have hbp2:Below wy_.heap.size wy_ wg_:=by first | exact hbg | exact below_of_drew hbg (Nat.le_refl _) | exact ((Below.refl _ _).alloc (Nat.le_refl _) _).trans (hbg.mono (by simp)) | exact ((Below.refl _ _).alloc (Nat.le_refl _) _).trans ((below_of_drew hbg (Nat.le_refl _)).mono (by simp)) | exact below_of_drew (((Below.refl _ _).alloc (Nat.le_refl _) _).trans (hbg.mono (by simp))) (Nat.le_refl _)
       first | (have hL:=hL.below hbp2) | (have hL:=(rd_nat1 wy_ 1).below hbg) | (have hL:=(rd_nat1 wy_ 1).drew.below hbg) | (have hL:=(rd_nat1 wy_.drew 1).below hbg) | skip
       have rn_2:=rn_1.below hbp2;have rd_2:=rd_1.below hbp2;have hX_2:=hX_1.below hbp2;have hY_2:=hY.below hbp2;have ka_2:=ka_1.below hbp2;obtain ⟨ka0wg_,ka1wg_,ka2wg_,ka3wg_,ka4wg_,ka5wg_,ka6wg_⟩:=ka_2.facts;have hwq2:=hwq1.trans (hbp2.mono hwq1.size))
    | (go_at_call 95
       refine (rcmp_any G (some ⟨_,0,none⟩) gc 1 gl [1] _ (by first | exact hG | exact hG.drew | exact hG.alloc _ | exact (hG.alloc _).drew | exact hG.drew.alloc _) (by first | exact hL | exact hL.drew | exact (rd_nat1 _ 1) | exact (rd_nat1 _ 1).drew | exact hL.alloc _ | exact (rd_nat1 _ 1).alloc _) (by omega) hng nm_one).mono ?_;rintro e wc_ ⟨he,n4,hwe⟩;rw [hcc.out] at he;subst he;have hbc:=below_of_says hwe;clear hwe;have hbp3:Below wg_.heap.size wg_ wc_:=by first | exact hbc | exact below_of_drew hbc (Nat.le_refl _) | exact ((Below.refl _ _).alloc (Nat.le_refl _) _).trans (hbc.mono (by simp)) | exact ((Below.refl _ _).alloc (Nat.le_refl _) _).trans ((below_of_drew hbc (Nat.le_refl _)).mono (by simp)) | exact below_of_drew (((Below.refl _ _).alloc (Nat.le_refl _) _).trans (hbc.mono (by simp))) (Nat.le_refl _)
       first | (have hL:=hL.below hbp3) | (have hL:=(rd_nat1 wg_ 1).below hbc) | (have hL:=(rd_nat1 wg_ 1).drew.below hbc) | (have hL:=(rd_nat1 wg_.drew 1).below hbc) | skip
       have rn_3:=rn_2.below hbp3;have rd_3:=rd_2.below hbp3;have hX_3:=hX_2.below hbp3;have hY_3:=hY_2.below hbp3;have hG_3:=hG.below hbp3;have ka_3:=ka_2.below hbp3;obtain ⟨ka0wc_,ka1wc_,ka2wc_,ka3wc_,ka4wc_,ka5wc_,ka6wc_⟩:=ka_3.facts;have hwq3:=hwq2.trans (hbp3.mono hwq2.size)))
  all_goals
    go_wp2_with fail;go_ret;exact ⟨ret_bool (by first | exact hcv.out | exact hpv.out | (rw [hp];exact hpv.out)),hwq3⟩
theorem rqvalid (s : Bool) (N D : Option Addr) (nc dc : Nat) (ns ds : List Nat) (w : World) (rn : Rd .u32 w N ns) (rd : Rd .u32 w D ds) (dn : Dig 4294967296 ns) (dd : Dig 4294967296 ds) (v : Bool) (hv : v = true ↔ RVal s ns ds) :
    Calls Tryz.prog 50 #[.agg #[.bool s,.slice N ns.length nc,.slice D ds.length dc]] w (Gives (.bool v) w):=by
  have hf:¬ RVal s ns ds→v=false:=fun h=>by cases v with
    | false=>rfl
    | true=>exact absurd (hv.1 rfl) h
  by_cases h1:Ok ns
  · by_cases h2:Ok ds
    · rcases Nat.eq_zero_or_pos ds.length with h0 | hpos
      · rw [hf fun h=>by have:=h.2.2.1;omega];obtain rfl:ds=[]:=List.eq_nil_of_length_eq_zero h0;exact rqvalid_no3 s N D nc dc ns w rn rd h1
      · rcases Nat.eq_zero_or_pos ns.length with h3 | h3
        · obtain rfl:ns=[]:=List.eq_nil_of_length_eq_zero h3;refine rqvalid_zero s N D nc dc ds w rn rd h2 dd hpos v (hv.trans ⟨fun h=>⟨?_,?_⟩,fun h=>⟨h1,h2,hpos,?_,?_⟩⟩)
          · cases s with
            | false=>rfl
            | true=>have:=h.2.2.2.1 rfl;simp at this
          · have:=h.2.2.2.2;simpa [V32,val] using this
          · intro hs;rw [h.1] at hs;cases hs
          · have:=h.2;simpa [V32,val] using this
        · exact rqvalid_gcd s N D nc dc ns ds w rn rd h1 h2 dn dd hpos h3 v (hv.trans ⟨fun h=>h.2.2.2.2,fun h=>⟨h1,h2,hpos,fun _=>h3,h⟩⟩)
    · rw [hf fun h=>h2 h.2.1];exact rqvalid_no2 s N D nc dc ns ds w rn rd h1 h2
  · rw [hf fun h=>h1 h.1];exact rqvalid_no1 s N D nc dc ns ds w rn h1
end Go.Proofs.YtgekmfcbbjeahaaGreatDoor
/- Numbers of the reference with the type of the blocks in which their digits lie: the words. -/
namespace Go.Proofs.YtgekmfcbbjeahaaGreatDoor
open Go.RowKit V
section
variable {k:IntKind} {e:TypeId} {B:Nat} {w w':World} {v:Value} {xs:List Nat}
theorem Own.formT (h:Own k e B w v xs):∃ A c,v = .slice A xs.length c∧xs.length≤c∧RT k e w A xs:=by
  have h':=h;rcases h.2 with ⟨rfl,h0⟩ | ⟨g,cap,cur,rfl,_,hg,hc,_⟩
  · have:xs=[]:=List.eq_nil_of_length_eq_zero h0;subst this;exact ⟨none,0,rfl,Nat.le_refl _,RT.nil_⟩
  · exact ⟨_,cap,rfl,hc,Rd.of_own h',fun _=>⟨_,cur,(0,0),rfl,hg⟩⟩
end
theorem OutT.of_take {k:IntKind} {t:TypeId} {Q:List Nat→Prop} {w w':World} {A:Option Addr} {c m:Nat} {fin:List Nat} (hm:m≤fin.length) (hc:m≤c) (hr:RT k t w' A fin) (hb:Below w.heap.size w w')
    (hq:Q (fin.take m)):OutT k t Q w (.returned (.slice A m c)) w':=by
  have hl:(fin.take m).length=m:=by rw [List.length_take,Nat.min_eq_left hm]
  exact ⟨A,c,fin.take m,by rw [hl],by rw [hl];exact hc,hr.take hm,hb,hq⟩
structure RL.TyI (w:World) (a:RL):Prop where
  n:RT .i64 3 w a.N a.ns
  d:RT .i64 3 w a.D a.ds
theorem RL.TyI.off {w w':World} {a:RL} (h:a.TyI w) (ho:Off w w'):a.TyI w':=⟨h.n.off_ (by decide) ho,h.d.off_ (by decide) ho⟩
theorem RL.TyI.below {w w':World} {a:RL} (h:a.TyI w) (hb:Below w.heap.size w w'):a.TyI w':=h.off (Off.of_below hb)
theorem RL.TyI.put3 {t:TypeId} {w:World} {a:RL} {g n c d e:Nat} {p:Bool} {N D:Option Addr} (h:a.TyI w) (hb:BlkT t w g (.bool p) (.slice N n c) (.slice D d e)) (x y z:Value):a.TyI (Go.Proofs.YtgekmfcbbjeahaaGreatDoor.put3 w g x y z):=
  ⟨h.n.put3 hb x y z,h.d.put3 hb x y z⟩
theorem RL.Ref.off {w w':World} {a:RL} {q:Rat} (h:a.Ref w q) (ht:a.TyI w) (ho:Off w w'):a.Ref w' q:=⟨(ht.off ho).n.rd,(ht.off ho).d.rd,h.mn,h.md,h.q⟩
def RefT (q:Rat) (L M:Nat) (w:World) (e:Ending) (w':World):Prop:=
  ∃ r:RL,e = .returned (.agg #[.bool r.s,.slice r.N r.ns.length r.nc,.slice r.D r.ds.length r.dc])∧r.Ref w' q∧r.TyI w'∧r.ns.length≤L∧r.ds.length≤M∧Below w.heap.size w w'
theorem RefT.put {t:TypeId} {w w':World} {q:Rat} {L M g n c d e:Nat} {p:Bool} {N D:Option Addr} (r:RL) (hi:r.Ref w' q) (hty:r.TyI w') (hb:BlkT t w' g (.bool p) (.slice N n c) (.slice D d e)) (hg:w.heap.size≤g) (hw:Below w.heap.size w w') (l1:r.ns.length≤L) (l2:r.ds.length≤M) :
    RefT q L M w (.returned (.agg #[.bool r.s,.slice r.N r.ns.length r.nc,.slice r.D r.ds.length r.dc])) (Go.Proofs.YtgekmfcbbjeahaaGreatDoor.put3 w' g (.bool r.s) (.slice r.N r.ns.length r.nc) (.slice r.D r.ds.length r.dc)):=
  ⟨r,rfl,hi.put3 hb _ _ _,hty.put3 hb _ _ _,l1,l2,below_put3 hw hg _ _ _⟩
end Go.Proofs.YtgekmfcbbjeahaaGreatDoor
