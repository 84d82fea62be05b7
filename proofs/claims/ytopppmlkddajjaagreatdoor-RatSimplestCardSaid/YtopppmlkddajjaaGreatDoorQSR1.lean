/- The simplest fraction between two bounds: plain facts. -/
import Derived.Test.YtopppmlkddajjaaGreatDoorQSR0
namespace Go.Proofs.YtopppmlkddajjaaGreatDoor

/-- The simplest fraction from a/b to c/d, where a/b < c/d. -/
inductive Simp : Nat → Nat → Nat → Nat → Nat → Nat → Prop
  | low (a b c d : Nat) : a % b = 0 → Simp a b c d (a / b) 1
  | next (a b c d : Nat) : a % b ≠ 0 → d ≤ c - a / b * d → Simp a b c d (a / b + 1) 1
  | step (a b c d P Q : Nat) : a % b ≠ 0 → c - a / b * d < d → Simp d (c - a / b * d) b (a % b) P Q → Simp a b c d (a / b * P + Q) P

theorem rest_pos {a b c d : Nat} (_ : 1 ≤ b) (h : a * d < c * b) : a / b * d < c := by
  have h1 : a / b * b ≤ a := Nat.div_mul_le_self a b
  have h2 : a / b * b * d ≤ a * d := Nat.mul_le_mul_right _ h1
  have h3 : a / b * d * b = a / b * b * d := Nat.mul_right_comm _ _ _
  refine Nat.lt_of_mul_lt_mul_right (a := b) ?_
  omega
/-- The bounds of the next step. -/
theorem next_low {a b c d : Nat} (hb : 1 ≤ b) (h : a * d < c * b) : d * (a % b) < b * (c - a / b * d) := by
  have h0 := rest_pos hb h
  obtain ⟨e, he⟩ : ∃ e, c = a / b * d + e := ⟨c - a / b * d, by omega⟩
  have h1 : a = b * (a / b) + a % b := (Nat.div_add_mod a b).symm
  have h2 : c - a / b * d = e := by omega
  rw [h2]
  generalize a / b = t at *
  generalize a % b = r at *
  subst h1 he
  have e1 : (b * t + r) * d = b * t * d + r * d := Nat.add_mul _ _ _
  have e2 : (t * d + e) * b = t * d * b + e * b := Nat.add_mul _ _ _
  have e3 : b * t * d = t * d * b := by rw [Nat.mul_comm b t, Nat.mul_right_comm]
  have e4 : r * d = d * r := Nat.mul_comm _ _
  have e5 : e * b = b * e := Nat.mul_comm _ _
  omega
theorem simp_of {a b c d P Q : Nat} (h : Simp a b c d P Q) : 1 ≤ a → 1 ≤ b → 1 ≤ d → a * d < c * b →
    1 ≤ P ∧ 1 ≤ Q ∧ Nat.Coprime P Q ∧ a * Q ≤ P * b ∧ P * d ≤ c * Q ∧ ∀ P' Q', 1 ≤ Q' → a * Q' ≤ P' * b → P' * d ≤ c * Q' → Q ≤ Q' ∧ P ≤ P' := by
  induction h with
  | low a b c d hr =>
    intro ha hb hd h
    have h1 : a = b * (a / b) := by have := Nat.div_add_mod a b; omega
    have ht : 1 ≤ a / b := by
      rcases Nat.eq_zero_or_pos (a / b) with h0 | h0
      · rw [h0] at h1; omega
      · exact h0
    refine ⟨ht, Nat.le_refl _, Nat.coprime_one_right _, ?_, ?_, ?_⟩
    · rw [Nat.mul_one, Nat.mul_comm]; exact Nat.le_of_eq h1
    · have := rest_pos hb h; omega
    · intro P' Q' hq h2 h3
      refine ⟨hq, ?_⟩
      generalize a / b = t at *
      subst h1
      have e1 : b * t * Q' = (t * Q') * b := by rw [Nat.mul_assoc, Nat.mul_comm]
      rw [e1] at h2
      have h4 : t * Q' ≤ P' := Nat.le_of_mul_le_mul_right h2 hb
      have h5 : t * 1 ≤ t * Q' := Nat.mul_le_mul_left _ hq
      omega
  | next a b c d hr hc =>
    intro ha hb hd h
    have hp := rest_pos hb h
    have h1 : a = b * (a / b) + a % b := (Nat.div_add_mod a b).symm
    have hrb : a % b < b := Nat.mod_lt _ hb
    generalize a / b = t at *
    generalize a % b = r at *
    refine ⟨by omega, Nat.le_refl _, Nat.coprime_one_right _, ?_, ?_, ?_⟩
    · have e1 : (t + 1) * b = b * t + b := by rw [Nat.add_mul, Nat.mul_comm t b, Nat.one_mul]
      omega
    · have e1 : (t + 1) * d = t * d + d := by rw [Nat.add_mul, Nat.one_mul]
      omega
    · intro P' Q' hq h2 h3
      refine ⟨hq, ?_⟩
      subst h1
      have e1 : (b * t + r) * Q' = (t * Q') * b + r * Q' := by rw [Nat.add_mul, Nat.mul_assoc b, Nat.mul_comm b]
      have e2 : 1 ≤ r * Q' := Nat.mul_pos (by omega) hq
      have h4 : t * Q' < P' := Nat.lt_of_mul_lt_mul_right (a := b) (by omega)
      have h5 : t * 1 ≤ t * Q' := Nat.mul_le_mul_left _ hq
      omega
  | step a b c d P Q hr hc _ ih =>
    intro ha hb hd h
    have hp := rest_pos hb h
    have hn := next_low hb h
    have hrb : a % b < b := Nat.mod_lt _ hb
    obtain ⟨i1, i2, i3, i4, i5, i6⟩ := ih hd (by omega) (by omega) hn
    have h1 : a = b * (a / b) + a % b := (Nat.div_add_mod a b).symm
    obtain ⟨e, he⟩ : ∃ e, c = a / b * d + e := ⟨c - a / b * d, by omega⟩
    have he2 : c - a / b * d = e := by omega
    rw [he2] at i4 i6 hc hn
    generalize a / b = t at *
    generalize a % b = r at *
    subst h1 he
    refine ⟨by have : 0 ≤ t * P := Nat.zero_le _; omega, i1, ?_, ?_, ?_, ?_⟩
    · have : Nat.gcd (t * P + Q) P = Nat.gcd Q P := by rw [Nat.add_comm, Nat.mul_comm]; exact Nat.gcd_add_mul_left_left _ _ _
      show Nat.gcd _ _ = 1
      rw [this, Nat.gcd_comm]; exact i3
    · have e1 : (b * t + r) * P = t * P * b + P * r := by rw [Nat.add_mul, Nat.mul_comm r P, Nat.mul_assoc b, Nat.mul_comm b]
      have e2 : (t * P + Q) * b = t * P * b + b * Q := by rw [Nat.add_mul, Nat.mul_comm Q]
      omega
    · have e1 : (t * P + Q) * d = t * d * P + d * Q := by rw [Nat.add_mul, Nat.mul_right_comm, Nat.mul_comm Q]
      have e2 : (t * d + e) * P = t * d * P + P * e := by rw [Nat.add_mul, Nat.mul_comm e]
      omega
    · intro P' Q' hq h2 h3
      have e1 : (b * t + r) * Q' = t * Q' * b + r * Q' := by rw [Nat.add_mul, Nat.mul_assoc b, Nat.mul_comm b]
      have e2 : 1 ≤ r * Q' := Nat.mul_pos (by omega) hq
      have h4 : t * Q' < P' := Nat.lt_of_mul_lt_mul_right (a := b) (by omega)
      obtain ⟨s, rfl⟩ : ∃ s, P' = t * Q' + s := ⟨P' - t * Q', by omega⟩
      have e3 : (t * Q' + s) * b = t * Q' * b + b * s := by rw [Nat.add_mul, Nat.mul_comm s]
      have e4 : (t * Q' + s) * d = t * d * Q' + d * s := by rw [Nat.add_mul, Nat.mul_right_comm, Nat.mul_comm s]
      have e5 : (t * d + e) * Q' = t * d * Q' + e * Q' := Nat.add_mul _ _ _
      have e6 : r * Q' = Q' * r := Nat.mul_comm _ _
      have e7 : e * Q' = Q' * e := Nat.mul_comm _ _
      obtain ⟨j1, j2⟩ := i6 Q' s (by omega) (by omega) (by omega)
      refine ⟨j2, ?_⟩
      have := Nat.mul_le_mul_left t j2
      omega

/-- On the way: what the present bounds and the terms so far are to the first ones. -/
structure Frac (A B C D X a b c d p1 q1 p0 q0 : Nat) : Prop where
  ha : 1 ≤ a
  hb : 1 ≤ b
  hd : 1 ≤ d
  lt : a * d < c * b
  xa : a ≤ X
  xb : b ≤ X
  xc : c ≤ X
  xd : d ≤ X
  l1 : p1 * a + p0 * b ≤ X
  l2 : q1 * a + q0 * b ≤ X
  r1 : p1 * c + p0 * d ≤ X
  r2 : q1 * c + q0 * d ≤ X
  fin : ∀ P Q, Simp a b c d P Q → Simp A B C D (p1 * P + p0 * Q) (q1 * P + q0 * Q)
theorem Frac.first {A B C D X : Nat} (hA : 1 ≤ A) (hB : 1 ≤ B) (hD : 1 ≤ D) (h : A * D < C * B) (x1 : A ≤ X) (x2 : B ≤ X) (x3 : C ≤ X) (x4 : D ≤ X) : Frac A B C D X A B C D 1 0 0 1 :=
  ⟨hA, hB, hD, h, x1, x2, x3, x4, by omega, by omega, by omega, by omega, fun P Q h => by rwa [Nat.one_mul, Nat.zero_mul, Nat.zero_mul, Nat.one_mul, Nat.add_zero, Nat.zero_add]⟩
section
variable {A B C D X a b c d p1 q1 p0 q0 : Nat}
theorem Frac.xp (h : Frac A B C D X a b c d p1 q1 p0 q0) : p1 ≤ X ∧ p0 ≤ X ∧ q1 ≤ X ∧ q0 ≤ X := by
  have e1 : p1 * 1 ≤ p1 * a := Nat.mul_le_mul_left _ h.ha
  have e2 : q1 * 1 ≤ q1 * a := Nat.mul_le_mul_left _ h.ha
  have e3 : p0 * 1 ≤ p0 * b := Nat.mul_le_mul_left _ h.hb
  have e4 : q0 * 1 ≤ q0 * b := Nat.mul_le_mul_left _ h.hb
  have := h.l1; have := h.l2
  omega
theorem Frac.rest (h : Frac A B C D X a b c d p1 q1 p0 q0) : a / b * d < c := rest_pos h.hb h.lt
theorem Frac.t (h : Frac A B C D X a b c d p1 q1 p0 q0) : a / b ≤ X ∧ a / b * p1 + p0 ≤ X ∧ a / b * q1 + q0 ≤ X ∧ a / b * d ≤ X := by
  have h1 : a / b ≤ a := Nat.div_le_self _ _
  have e1 := Nat.mul_le_mul_left p1 h1
  have e2 := Nat.mul_le_mul_left q1 h1
  have e3 : p0 * 1 ≤ p0 * b := Nat.mul_le_mul_left _ h.hb
  have e4 : q0 * 1 ≤ q0 * b := Nat.mul_le_mul_left _ h.hb
  have := h.l1; have := h.l2; have := h.rest; have := h.xc; have := h.xa
  rw [Nat.mul_comm _ p1, Nat.mul_comm _ q1]
  omega
theorem Frac.t1 (h : Frac A B C D X a b c d p1 q1 p0 q0) (hc : d ≤ c - a / b * d) : a / b + 1 ≤ X ∧ (a / b + 1) * p1 + p0 ≤ X ∧ (a / b + 1) * q1 + q0 ≤ X := by
  have h2 := h.rest
  have h0 : (a / b + 1) * d = a / b * d + d := by rw [Nat.add_mul, Nat.one_mul]
  have h1 : a / b + 1 ≤ c := by
    have : (a / b + 1) * 1 ≤ (a / b + 1) * d := Nat.mul_le_mul_left _ h.hd
    omega
  have e1 := Nat.mul_le_mul_left p1 h1
  have e2 := Nat.mul_le_mul_left q1 h1
  have e3 : p0 * 1 ≤ p0 * d := Nat.mul_le_mul_left _ h.hd
  have e4 : q0 * 1 ≤ q0 * d := Nat.mul_le_mul_left _ h.hd
  have := h.r1; have := h.r2; have := h.xc
  rw [Nat.mul_comm _ p1, Nat.mul_comm _ q1]
  omega
theorem Frac.low (h : Frac A B C D X a b c d p1 q1 p0 q0) (hr : a % b = 0) : Simp A B C D (a / b * p1 + p0) (a / b * q1 + q0) := by
  have := h.fin _ _ (Simp.low a b c d hr)
  rwa [Nat.mul_one, Nat.mul_one, Nat.mul_comm p1, Nat.mul_comm q1] at this
theorem Frac.up (h : Frac A B C D X a b c d p1 q1 p0 q0) (hr : a % b ≠ 0) (hc : d ≤ c - a / b * d) : Simp A B C D ((a / b + 1) * p1 + p0) ((a / b + 1) * q1 + q0) := by
  have := h.fin _ _ (Simp.next a b c d hr hc)
  rwa [Nat.mul_one, Nat.mul_one, Nat.mul_comm p1, Nat.mul_comm q1] at this
theorem Frac.next (h : Frac A B C D X a b c d p1 q1 p0 q0) (hr : a % b ≠ 0) (hc : c - a / b * d < d) : Frac A B C D X d (c - a / b * d) b (a % b) (a / b * p1 + p0) (a / b * q1 + q0) p1 q1 := by
  have hp := h.rest
  have hn := next_low h.hb h.lt
  have hrb : a % b < b := Nat.mod_lt _ h.hb
  have h1 : a = b * (a / b) + a % b := (Nat.div_add_mod a b).symm
  have l1 := h.l1; have l2 := h.l2; have r1 := h.r1; have r2 := h.r2
  have xc := h.xc; have xb := h.xb; have xd := h.xd; have hd := h.hd
  have fin := h.fin
  have key : ∀ p1 p0 : Nat, (a / b * p1 + p0) * b + p1 * (a % b) = p1 * a + p0 * b ∧ (a / b * p1 + p0) * d + p1 * (c - a / b * d) = p1 * c + p0 * d := by
    intro p1 p0
    constructor
    · have e1 : p1 * a = p1 * (b * (a / b) + a % b) := by rw [← h1]
      rw [e1, Nat.add_mul, Nat.mul_add, Nat.mul_comm (a / b) p1, Nat.mul_assoc, Nat.mul_comm (a / b) b]
      omega
    · obtain ⟨e, he⟩ : ∃ e, c = a / b * d + e := ⟨c - a / b * d, by omega⟩
      have he2 : c - a / b * d = e := by omega
      rw [he2, Nat.add_mul, Nat.mul_comm (a / b) p1, Nat.mul_assoc]
      have e1 : p1 * c = p1 * (a / b * d) + p1 * e := by rw [he, Nat.mul_add]
      rw [e1]
      omega
  refine ⟨hd, by omega, by omega, hn, xd, by omega, xb, by omega, ?_, ?_, ?_, ?_, fun P Q hs => ?_⟩
  · rw [(key p1 p0).2]; exact r1
  · rw [(key q1 q0).2]; exact r2
  · rw [(key p1 p0).1]; exact l1
  · rw [(key q1 q0).1]; exact l2
  · have := fin _ _ (Simp.step a b c d P Q hr hc hs)
    have e : ∀ p1 p0 : Nat, p1 * (a / b * P + Q) + p0 * P = (a / b * p1 + p0) * P + p1 * Q := by
      intro p1 p0
      rw [Nat.mul_add, Nat.add_mul, ← Nat.mul_assoc, Nat.mul_comm p1 (a / b)]
      omega
    rwa [e, e] at this
end
end Go.Proofs.YtopppmlkddajjaaGreatDoor


/- The simplest number of an interval: plain facts. -/
namespace Go.Proofs.YtopppmlkddajjaaGreatDoor

/-- m/k lies from p to q. -/
def InR (p q : Rat) (k : Nat) (m : Int) : Prop := p.num * k ≤ m * p.den ∧ m * q.den ≤ q.num * k
/-- x is the number from p to q with the least denominator, and the nearest to zero among those. -/
def Best (p q x : Rat) : Prop := ∃ K : Nat, ∃ m : Int, 1 ≤ K ∧ (∀ j : Nat, 1 ≤ j → j < K → ∀ m', ¬ InR p q j m') ∧ x = mkRat m K ∧ InR p q K m ∧ ∀ m', InR p q K m' → m.natAbs ≤ m'.natAbs

theorem best_same (p : Rat) : Best p p p := by
  refine ⟨p.den, p.num, p.den_pos, ?_, (Rat.mkRat_self p).symm, ⟨Int.le_refl _, Int.le_refl _⟩, ?_⟩
  · rintro j h1 h2 m' ⟨h3, h4⟩
    have h5 : p.num * j = m' * p.den := Int.le_antisymm h3 h4
    have h6 : p.den ∣ p.num.natAbs * j := by
      have : (p.num * j).natAbs = (m' * p.den).natAbs := by rw [h5]
      rw [Int.natAbs_mul, Int.natAbs_mul] at this
      simp at this
      rw [this]
      exact Nat.dvd_mul_left _ _
    have h7 : p.den ∣ j := (Nat.Coprime.dvd_of_dvd_mul_left (Nat.Coprime.symm p.reduced) h6)
    have := Nat.le_of_dvd h1 h7
    omega
  · rintro m' ⟨h3, h4⟩
    have h5 : p.num * p.den = m' * p.den := Int.le_antisymm h3 h4
    have hd : (p.den : Int) ≠ 0 := by have := p.den_pos; omega
    rw [Int.eq_of_mul_eq_mul_right hd h5]
    exact Nat.le_refl _
theorem best_zero {p q : Rat} (h1 : p.num ≤ 0) (h2 : 0 ≤ q.num) : Best p q 0 := by
  refine ⟨1, 0, Nat.le_refl _, fun j h1 h2 => by omega, by simp, ⟨by simpa using h1, by simpa using h2⟩, fun m' _ => by simp⟩
theorem best_neg {p q x : Rat} (h : Best (-q) (-p) x) : Best p q (-x) := by
  have key : ∀ k m, InR (-q) (-p) k (-m) ↔ InR p q k m := by
    intro k m
    unfold InR
    simp only [Rat.neg_num, Rat.neg_den, Int.neg_mul]
    constructor
    · rintro ⟨h1, h2⟩; exact ⟨by omega, by omega⟩
    · rintro ⟨h1, h2⟩; exact ⟨by omega, by omega⟩
  obtain ⟨K, m, h1, h2, h3, h4, h5⟩ := h
  refine ⟨K, -m, h1, fun j j1 j2 m' hm => h2 j j1 j2 (-m') ((key j m').2 hm), by rw [h3, Rat.neg_mkRat], (key K (-m)).1 (by rw [Int.neg_neg]; exact h4), fun m' hm => ?_⟩
  have := h5 (-m') ((key K m').2 hm)
  simpa using this
theorem best_pos {p q : Rat} {A B C D P Q : Nat} (pn : p.num = A) (pd : p.den = B) (qn : q.num = C) (qd : q.den = D) (hA : 1 ≤ A) (hB : 1 ≤ B) (hD : 1 ≤ D) (hl : A * D < C * B) (h : Simp A B C D P Q) : Best p q (mkRat ((P : Nat) : Int) Q) := by
  obtain ⟨s1, s2, s3, s4, s5, s6⟩ := simp_of h hA hB hD hl
  have key : ∀ (k : Nat) (m : Int), 1 ≤ k → InR p q k m → ∃ n : Nat, m = n ∧ A * k ≤ n * B ∧ n * D ≤ C * k := by
    rintro k m hk ⟨h1, h2⟩
    rw [pn, pd] at h1
    rw [qn, qd] at h2
    have h3 : (1 : Int) ≤ (A : Int) * k := by
      have := Nat.mul_pos hA hk
      have h4 : ((A * k : Nat) : Int) = (A : Int) * k := by simp
      omega
    have h5 : 0 ≤ m := by
      rcases Int.lt_or_le m 0 with h6 | h6
      · have := Int.mul_nonpos_of_nonpos_of_nonneg (Int.le_of_lt h6) (show (0 : Int) ≤ B by omega)
        omega
      · exact h6
    obtain ⟨n, rfl⟩ : ∃ n : Nat, m = n := ⟨m.toNat, by omega⟩
    exact ⟨n, rfl, by exact_mod_cast h1, by exact_mod_cast h2⟩
  refine ⟨Q, P, s2, ?_, rfl, ⟨by rw [pn, pd]; exact_mod_cast s4, by rw [qn, qd]; exact_mod_cast s5⟩, ?_⟩
  · intro j j1 j2 m' hm
    obtain ⟨n, rfl, k1, k2⟩ := key j m' j1 hm
    have := (s6 n j j1 k1 k2).1
    omega
  · intro m' hm
    obtain ⟨n, rfl, k1, k2⟩ := key Q m' s2 hm
    have := (s6 n Q s2 k1 k2).2
    simpa using this
/-- The least denominator is at most the upper bound's. -/
theorem Best.le {p q x : Rat} (h : Best p q x) (hpq : p.num * q.den ≤ q.num * p.den) : ∃ K : Nat, ∃ m : Int, 1 ≤ K ∧ K ≤ q.den ∧ (∀ j : Nat, 1 ≤ j → j < K → ∀ m', ¬ InR p q j m') ∧ x = mkRat m K ∧ InR p q K m ∧ ∀ m', InR p q K m' → m.natAbs ≤ m'.natAbs := by
  obtain ⟨K, m, h1, h2, h3, h4, h5⟩ := h
  refine ⟨K, m, h1, ?_, h2, h3, h4, h5⟩
  rcases Nat.lt_or_ge q.den K with h6 | h6
  · exact absurd ⟨hpq, Int.le_refl _⟩ (h2 q.den q.den_pos h6 q.num)
  · exact h6
/-- The least and the greatest whole number from p * k to q * k. -/
def loI (p : Rat) (k : Nat) : Int := -((-(p.num * k)) / (p.den : Int))
def hiI (q : Rat) (k : Nat) : Int := (q.num * k) / (q.den : Int)
theorem inR_iff (p q : Rat) (k : Nat) (m : Int) : InR p q k m ↔ loI p k ≤ m ∧ m ≤ hiI q k := by
  have hp : (0 : Int) < p.den := by have := p.den_pos; omega
  have hq : (0 : Int) < q.den := by have := q.den_pos; omega
  unfold InR loI hiI
  rw [Int.le_ediv_iff_mul_le hq]
  have h1 : -((-(p.num * (k : Int))) / (p.den : Int)) ≤ m ↔ -m ≤ (-(p.num * (k : Int))) / (p.den : Int) := by constructor <;> intro h <;> omega
  rw [h1, Int.le_ediv_iff_mul_le hp, Int.neg_mul]
  constructor
  · rintro ⟨a, b⟩; exact ⟨by omega, b⟩
  · rintro ⟨a, b⟩; exact ⟨by omega, b⟩
/-- The nearest to zero. -/
def nearI (lo hi : Int) : Int := if hi < 0 then hi else if lo ≤ 0 then 0 else lo
theorem near_of {lo hi m : Int} (h1 : lo ≤ m) (h2 : m ≤ hi) (h : ∀ m', lo ≤ m' → m' ≤ hi → m.natAbs ≤ m'.natAbs) : m = nearI lo hi := by
  unfold nearI
  split
  · have := h hi (by omega) (Int.le_refl _); omega
  · split
    · have := h 0 (by omega) (by omega); omega
    · have := h lo (Int.le_refl _) (by omega); omega
/-- The floor of a number, by its parts. -/
theorem floor_val {s : Bool} {n d D : Nat} {N : Int} {x : Rat} (hn : x.num = (if s then -(n : Int) else n)) (hd : x.den = d) (hx : x = mkRat N D) (hD : 0 < D) (r : Nat) (hr : r = n / d + (if s && decide (0 < n % d) then 1 else 0)) : (if s then -(r : Int) else (r : Int)) = N / (D : Int) := by
  have hdp : 0 < d := by rw [← hd]; exact x.den_pos
  have hc : x.num * (D : Int) = N * (d : Int) := by
    have h1 : mkRat x.num x.den = mkRat N D := by rw [Rat.mkRat_self]; exact hx
    rw [Rat.mkRat_eq_iff x.den_nz (by omega)] at h1
    rw [← hd]; exact h1
  have hm : n = d * (n / d) + n % d := (Nat.div_add_mod n d).symm
  have hlt := Nat.mod_lt n hdp
  obtain ⟨Z, hZ⟩ : ∃ Z : Int, (if s then -(r : Int) else (r : Int)) = Z := ⟨_, rfl⟩
  have hb : Z * d ≤ x.num ∧ x.num < Z * d + d := by
    rw [hn, ← hZ]
    generalize n / d = t at *
    generalize n % d = u at *
    subst hm
    have e0 : ((d * t + u : Nat) : Int) = d * t + u := by simp
    cases s with
    | false =>
      simp only [Bool.false_and, Bool.false_eq_true, if_false, Nat.add_zero] at hr ⊢
      subst hr
      rw [e0, Int.mul_comm (r : Int) d]
      constructor <;> omega
    | true =>
      simp only [Bool.true_and, if_true] at hr ⊢
      rw [e0, Int.neg_mul, Int.mul_comm (r : Int) d]
      by_cases hu : 0 < u
      · rw [if_pos (by simpa using hu)] at hr
        subst hr
        have e1 : (d : Int) * ((t + 1 : Nat) : Int) = d * t + d := by rw [Int.natCast_add, Int.mul_add]; simp
        rw [e1]
        constructor <;> omega
      · rw [if_neg (by simpa using hu)] at hr
        simp only [Nat.add_zero] at hr
        subst hr
        constructor <;> omega
  rw [hZ]
  have hDp : (0 : Int) < D := by omega
  have hdi : (0 : Int) < d := by omega
  refine Int.le_antisymm ?_ ?_
  · rw [Int.le_ediv_iff_mul_le hDp]
    refine Int.le_of_mul_le_mul_right ?_ hdi
    have h1 := Int.mul_le_mul_of_nonneg_right hb.1 (Int.le_of_lt hDp)
    rw [hc] at h1
    rw [Int.mul_right_comm]
    exact h1
  · have h2 : N / (D : Int) < Z + 1 := by
      rw [Int.ediv_lt_iff_lt_mul hDp]
      refine Int.lt_of_mul_lt_mul_right ?_ (Int.le_of_lt hdi)
      have h1 := Int.mul_lt_mul_of_pos_right hb.2 hDp
      rw [hc] at h1
      have e : (Z + 1) * (D : Int) * d = (Z * d + d) * D := by rw [Int.add_mul, Int.add_mul, Int.one_mul, Int.add_mul, Int.mul_right_comm Z, Int.mul_comm (D : Int) d]
      rw [e]
      exact h1
    omega
end Go.Proofs.YtopppmlkddajjaaGreatDoor


/- Powers of rational numbers, by their parts. -/
namespace Go.Proofs.YtopppmlkddajjaaGreatDoor
namespace V

theorem mul_q {s1 s2 : Bool} {n1 d1 n2 d2 : Nat} {p q : Rat} (hp : QOf s1 n1 d1 p) (hq : QOf s2 n2 d2 q) : mkRat (sgn (s1 != s2) (n1 * n2)) (d1 * d2) = p * q := by
  rw [hp.eq, hq.eq, mkRat_mul, sgn_mul]
end V
end Go.Proofs.YtopppmlkddajjaaGreatDoor

