/- nat.From and isochroneref01.Int: the number of a machine's word. -/
import Derived.Test.YtllcegiaojchdaaDoorTsplit
import Derived.Test.YtllcegiaojchdaaDoorSmall
import Derived.Lib.ItoaNum
import Derived.Test.YtllcegiaojchdaaDoorShelf
import Derived.Lib.AppendIntMem
import Derived.Laws.IdiomCopy
import Derived.Lib.SmallJoins
import Derived.Laws.IdiomStrings
namespace Go.Proofs.YtllcegiaojchdaaDoor
open Go.RowKit V

theorem rd_two (w : World) (r s : Nat) : Rd .u32 (w.alloc (.cells #[.int .u32 (r : Nat), .int .u32 (s : Nat)] 55)) (some ⟨w.heap.size, 0, none⟩) [r, s] := (Row.new (k := .u32) (t := 55) w [r, s]).rd
set_option maxHeartbeats 400000 in
theorem from_any (n : Nat) (w : World) (hn : n < 18446744073709551616) :
    Calls Tryd.prog 45 #[.int .u64 n] w (OutP .u32 (fun zs => V32 zs = n ∧ Mag zs ∧ zs.length ≤ 2) w) := by
  obtain ⟨a, b, ha, hb, e1, e2, hv⟩ : ∃ a b : Nat, a < 4294967296 ∧ b < 4294967296 ∧ (n : Int) % 4294967296 = a ∧ (n : Int) / 4294967296 % 4294967296 = b ∧ Hid (n = a + 4294967296 * b) :=
    ⟨n % 4294967296, n / 4294967296, Nat.mod_lt _ (by omega), by omega, by omega, by omega, by show _ = _; omega⟩
  have hr := rd_two w a b
  clear hn
  go_enter Tryd.func45, Tryd.ntmps45
  go_wp2_with fail
  refine (trim_u32n (some ⟨w.heap.size, 0, none⟩) 2 2 [a, b] _ rfl hr (by omega) (by omega)).mono ?_
  rintro e w1 ⟨m, hm, rfl, hv3, hn3, rfl⟩
  have HV3 := Lib.hid hv3
  clear hv3
  go_wp2
  go_ret
  exact OutP.of_take (fin := [a, b]) hm (by simpa using hm) hr ((Below.refl _ _).alloc (Nat.le_refl _) _) ⟨by show val 4294967296 _ = n; rw [HV3.out, hv.out]; simp [val], ⟨fun x hx => by
    have := List.mem_of_mem_take hx
    simp at this
    omega, hn3⟩, by rw [List.length_take]; exact Nat.min_le_right _ 2⟩

/-- The decimal digits of a machine number: at most five below 10^20. -/
theorem int_len {xs : List Nat} (hn : Nm xs) {n : Nat} (hv : VD xs = n) (h : n < 10000 ^ 5) : xs.length ≤ 5 :=
  len_of_lt (B := 10000) (by omega) hn.2 (by show VD xs < _; rw [hv]; exact h)

theorem pow_len {k N : Nat} (h : 10000 ^ k ≤ N) (hN : N < 10000 ^ 5) : k ≤ 4 := by
  rcases Nat.lt_or_ge 4 k with h1 | h1
  · have := Nat.pow_le_pow_right (n := 10000) (by omega) (show 5 ≤ k by omega)
    omega
  · exact h1

set_option maxHeartbeats 400000 in
theorem int_any (n : Nat) (w : World) (hn : n ≤ 9223372036854775807) :
    Calls Tryd.prog 17 #[.int .i64 n] w (OutP .i64 (fun zs => VD zs = n ∧ Nm zs ∧ zs.length ≤ 5) w) := by
  obtain ⟨N, HN⟩ : ∃ N, Hid (n = N) := ⟨_, rfl⟩
  go_enter Tryd.func17, Tryd.ntmps17
  go_wp2
  go_loopw [0, 3] (fun nv v wr => ∃ m : Nat, ∃ out : List Nat, nv = .int .i64 m ∧ m ≤ 9223372036854775807 ∧ val 10000 out + 10000 ^ out.length * m = N ∧ Dig 10000 out ∧ (m = 0 → Nrm out) ∧
      Own .i64 3 w.heap.size wr v out ∧ Below w.heap.size w wr) (fun nv _ _ => (intOf nv).toNat)
  case atStart => exact ⟨n, [], rfl, hn, by rw [← HN.out]; simp [val], fun _ h => by simp at h, fun _ => nrm_nil, Own.made (Nat.le_refl _) 0 (by omega), (Below.refl _ _).alloc (Nat.le_refl _) _⟩
  case round =>
    obtain ⟨m, out, rfl, hm, hv, hdo, hnz, hown, hbw⟩ := hrel
    have HV := Lib.hid hv
    have HZ := Lib.hid hnz
    clear hv hnz
    by_cases h0 : m = 0
    · subst h0
      obtain ⟨O, oc, rfl, hoc, hro⟩ := hown.form
      clear hown
      go_wp2
      go_ret
      have hval : VD out = n := by have := HV.out; rw [HN.out]; show val 10000 out = N; simpa using this
      exact ⟨O, oc, out, rfl, hoc, hro, hbw, hval, ⟨hdo, HZ.out trivial⟩, int_len ⟨hdo, HZ.out trivial⟩ hval (by omega)⟩
    · have hlen : out.length ≤ 4 := by
        have h1 := HV.out
        have h2 : 10000 ^ out.length * 1 ≤ 10000 ^ out.length * m := Nat.mul_le_mul_left _ (by omega)
        have h3 := HN.out
        exact pow_len (N := N) (by omega) (by omega)
      obtain ⟨s, c2, hs, hc2, hlt2, hsc, es, ec⟩ : ∃ s c2 : Nat, s < 10000 ∧ c2 ≤ 9223372036854775807 ∧ c2 < m ∧ Hid (s + 10000 * c2 = m) ∧ Hid ((m : Int) % 10000 = s) ∧ Hid ((m : Int) / 10000 = c2) :=
        ⟨m % 10000, m / 10000, Nat.mod_lt _ (by omega), by omega, by omega, Nat.mod_add_div _ _, by show _ = _; omega, by show _ = _; omega⟩
      go_wp2_with (at_builtin; refine wpList_app1 rfl (.tmp 7) (.tmp 10) 26 3 rfl .i64 8 info_i64 Tryd.underlying26 (by omega) _ _ out _ s es.out rfl hown rfl hbw (Nat.le_refl _) (by omega) ?_; intro v' w' hown' hbw')
      go_roundw
      case rel => exact ⟨c2, out ++ [s], by rw [ec.out], hc2, flush_step 10000 s m c2 _ out hsc.out HV.out, hdo.snoc hs, fun h => nrm_snoc (by have := hsc.out; omega), hown', hbw'⟩
      case measure => simp [intOf]; omega
end Go.Proofs.YtllcegiaojchdaaDoor

