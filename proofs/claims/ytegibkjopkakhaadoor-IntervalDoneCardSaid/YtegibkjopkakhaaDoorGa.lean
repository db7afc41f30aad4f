/- Intervals by their ends: what is told of them, and of which numbers that is the least interval. -/
import Derived.Test.YtegibkjopkakhaaDoorIu
namespace Go.Proofs.YtegibkjopkakhaaDoor

/-- The ends of an interval: far stands for none. -/
def eLo (A : Iv) : Int := if A.d then -9223372036854775807 else A.lo
def eHi (A : Iv) : Int := if A.u then 9223372036854775807 else A.hi
def told (l h : Int) : Iv := ⟨decide (l < -1099511627776), decide (1099511627776 < h), if l < -1099511627776 then 0 else min l 1099511627776, if 1099511627776 < h then 0 else max h (-1099511627776)⟩

/-- Ends that are the ends of a set that has numbers. -/
structure Spn (S : Int → Prop) (l h : Int) : Prop where
  lo : ∀ n, S n → l < -1099511627776 ∨ l ≤ n ∨ (1099511627776 ≤ l ∧ 1099511627776 ≤ n)
  hi : ∀ n, S n → 1099511627776 < h ∨ n ≤ h ∨ (h ≤ -1099511627776 ∧ n ≤ -1099511627776)
  atLo : ∃ n, S n ∧ (n = l ∨ (n < -1099511627776 ∧ l < -1099511627776) ∨ (1099511627776 ≤ n ∧ 1099511627776 ≤ l))
  atHi : ∃ n, S n ∧ (n = h ∨ (1099511627776 < n ∧ 1099511627776 < h) ∨ (n ≤ -1099511627776 ∧ h ≤ -1099511627776))

theorem told_ok {l h : Int} (hl : l ≤ h) : okI (told l h) := by
  unfold okI told; dsimp only
  refine ⟨?_, ?_, ?_, ?_, ?_, ?_, ?_⟩
  · intro e; rw [if_pos (of_decide_eq_true e)]
  · intro e; rw [if_pos (of_decide_eq_true e)]
  · intro e1 e2; rw [if_neg (of_decide_eq_false e1), if_neg (of_decide_eq_false e2)]; have := of_decide_eq_false e1; have := of_decide_eq_false e2; omega
  all_goals (split <;> omega)

theorem Spn.le {S : Int → Prop} {l h : Int} (k : Spn S l h) : (l ≤ h ∨ l < -1099511627776 ∨ 1099511627776 < h ∨ (1099511627776 ≤ l ∧ 1099511627776 ≤ h) ∨ (l ≤ -1099511627776 ∧ h ≤ -1099511627776)) := by
  obtain ⟨n, hn, _⟩ := k.atLo
  have := k.lo n hn; have := k.hi n hn; omega

theorem Spn.least {S : Int → Prop} {l h : Int} (k : Spn S l h) : LeastOf S (told l h) := by
  have hle := k.le
  obtain ⟨n, hn, h1⟩ := k.atLo
  obtain ⟨m, hm, h2⟩ := k.atHi
  refine ⟨?_, ?_, ?_, ?_, ?_, ?_⟩
  · unfold okI told; dsimp only
    refine ⟨?_, ?_, ?_, ?_, ?_, ?_, ?_⟩
    · intro e; rw [if_pos (of_decide_eq_true e)]
    · intro e; rw [if_pos (of_decide_eq_true e)]
    · intro e1 e2; rw [if_neg (of_decide_eq_false e1), if_neg (of_decide_eq_false e2)]; have := of_decide_eq_false e1; have := of_decide_eq_false e2; omega
    all_goals (split <;> omega)
  · intro x hx
    have a1 := k.lo x hx
    have a2 := k.hi x hx
    unfold inI told; dsimp only
    constructor
    · by_cases e : l < -1099511627776
      · left; exact decide_eq_true e
      · right; rw [if_neg e]; omega
    · by_cases e : 1099511627776 < h
      · left; exact decide_eq_true e
      · right; rw [if_neg e]; omega
  · intro e; have e := of_decide_eq_true (p := 1099511627776 < h) e; exact ⟨m, hm, by omega⟩
  · intro e; have e := of_decide_eq_false (p := 1099511627776 < h) e
    refine ⟨m, hm, ?_⟩; unfold told; dsimp only; rw [if_neg e]; omega
  · intro e; have e := of_decide_eq_true (p := l < -1099511627776) e; exact ⟨n, hn, by omega⟩
  · intro e; have e := of_decide_eq_false (p := l < -1099511627776) e
    refine ⟨n, hn, ?_⟩; unfold told; dsimp only; rw [if_neg e]; omega

/-- Two together. -/
theorem Spn.join {S T : Int → Prop} {l h l' h' : Int} (k : Spn S l h) (k' : Spn T l' h') : Spn (fun n => S n ∨ T n) (min l l') (max h h') := by
  refine ⟨?_, ?_, ?_, ?_⟩
  · rintro n (hn | hn)
    · have := k.lo n hn; omega
    · have := k'.lo n hn; omega
  · rintro n (hn | hn)
    · have := k.hi n hn; omega
    · have := k'.hi n hn; omega
  · by_cases e : l ≤ l'
    · obtain ⟨n, hn, h1⟩ := k.atLo; exact ⟨n, .inl hn, by omega⟩
    · obtain ⟨n, hn, h1⟩ := k'.atLo; exact ⟨n, .inr hn, by omega⟩
  · by_cases e : h' ≤ h
    · obtain ⟨n, hn, h1⟩ := k.atHi; exact ⟨n, .inl hn, by omega⟩
    · obtain ⟨n, hn, h1⟩ := k'.atHi; exact ⟨n, .inr hn, by omega⟩

theorem Spn.congr {S T : Int → Prop} {l h : Int} (k : Spn S l h) (e : ∀ n, S n ↔ T n) : Spn T l h := by
  have : S = T := funext fun n => propext (e n)
  rw [← this]; exact k

theorem LeastOf.same {S T : Int → Prop} {R : Iv} (k : LeastOf S R) (e : ∀ n, S n ↔ T n) : LeastOf T R := by
  have : S = T := funext fun n => propext (e n)
  rw [← this]; exact k

/-- The opposite numbers. -/
theorem Spn.neg {S T : Int → Prop} {l h : Int} (k : Spn S l h) (e : ∀ n, S (-n) ↔ T n) : Spn T (-h) (-l) := by
  refine ⟨?_, ?_, ?_, ?_⟩
  · intro n hn; have := k.hi _ ((e n).2 hn); omega
  · intro n hn; have := k.lo _ ((e n).2 hn); omega
  · obtain ⟨n, hn, h1⟩ := k.atHi; exact ⟨-n, (e _).1 (by rw [Int.neg_neg]; exact hn), by omega⟩
  · obtain ⟨n, hn, h1⟩ := k.atLo; exact ⟨-n, (e _).1 (by rw [Int.neg_neg]; exact hn), by omega⟩

/-- A pair of ends: those of a set that has numbers, or none at all. -/
def Spo (S : Int → Prop) (l h : Int) : Prop := ((∀ n, ¬ S n) ∧ l = 9223372036854775807 ∧ h = -9223372036854775807) ∨ (Spn S l h ∧ l ≤ h)

theorem Spo.join {S T : Int → Prop} {l h l' h' : Int} (k : Spo S l h) (k' : Spo T l' h') (b1 : -9223372036854775807 ≤ h ∧ l ≤ 9223372036854775807) (b2 : -9223372036854775807 ≤ h' ∧ l' ≤ 9223372036854775807) : Spo (fun n => S n ∨ T n) (min l l') (max h h') := by
  rcases k with ⟨e, rfl, rfl⟩ | ⟨k, o⟩ <;> rcases k' with ⟨e', rfl, rfl⟩ | ⟨k', o'⟩
  · exact .inl ⟨fun n hn => hn.elim (e n) (e' n), by omega, by omega⟩
  · rw [Int.min_eq_right b2.2, Int.max_eq_right b2.1]
    exact .inr ⟨k'.congr fun n => ⟨.inr, fun h => h.resolve_left (e n)⟩, o'⟩
  · rw [Int.min_eq_left b1.2, Int.max_eq_left b1.1]
    exact .inr ⟨k.congr fun n => ⟨.inl, fun h => h.resolve_right (e' n)⟩, o⟩
  · exact .inr ⟨k.join k', by omega⟩

theorem Spo.none {S : Int → Prop} {l h : Int} (k : Spo S l h) : h < l ↔ ∀ n, ¬ S n := by
  rcases k with ⟨e, rfl, rfl⟩ | ⟨k, o⟩
  · exact ⟨fun _ => e, fun _ => by omega⟩
  · refine ⟨fun h => by omega, fun h => ?_⟩
    obtain ⟨n, hn, _⟩ := k.atLo; exact absurd hn (h n)

theorem Spo.spn {S : Int → Prop} {l h : Int} (k : Spo S l h) (o : l ≤ h) : Spn S l h := by
  rcases k with ⟨e, rfl, rfl⟩ | ⟨k, _⟩
  · omega
  · exact k

/-- What the ends of a right interval are. -/
theorem eLo_r {A : Iv} (h : okI A) : (A.d = true ∧ eLo A = -9223372036854775807) ∨ (A.d = false ∧ eLo A = A.lo ∧ -1099511627776 ≤ A.lo ∧ A.lo ≤ 1099511627776) := by
  obtain ⟨h1, h2, h3, h4, h5, h6, h7⟩ := h
  unfold eLo; cases A.d
  · exact .inr ⟨rfl, by simp, h4, h5⟩
  · exact .inl ⟨rfl, by simp⟩
theorem eHi_r {A : Iv} (h : okI A) : (A.u = true ∧ eHi A = 9223372036854775807) ∨ (A.u = false ∧ eHi A = A.hi ∧ -1099511627776 ≤ A.hi ∧ A.hi ≤ 1099511627776) := by
  obtain ⟨h1, h2, h3, h4, h5, h6, h7⟩ := h
  unfold eHi; cases A.u
  · exact .inr ⟨rfl, by simp, h6, h7⟩
  · exact .inl ⟨rfl, by simp⟩
theorem e_le {A : Iv} (h : okI A) : eLo A ≤ eHi A := by
  have a := eLo_r h; have b := eHi_r h
  rcases a with ⟨a1, a2⟩ | ⟨a1, a2, a3, a4⟩ <;> rcases b with ⟨b1, b2⟩ | ⟨b1, b2, b3, b4⟩
  · omega
  · omega
  · omega
  · have := h.2.2.1 a1 b1; omega

/-- The numbers of an interval, by its ends. -/
theorem inI_lo {A : Iv} (h : okI A) {n : Int} (k : inI A n) : (A.d = true ∧ eLo A = -9223372036854775807) ∨ (A.d = false ∧ eLo A ≤ n ∧ -1099511627776 ≤ eLo A ∧ eLo A ≤ 1099511627776) := by
  rcases eLo_r h with ⟨a1, a2⟩ | ⟨a1, a2, a3, a4⟩
  · exact .inl ⟨a1, a2⟩
  · refine .inr ⟨a1, ?_, by omega, by omega⟩
    rcases k.1 with k | k
    · rw [a1] at k; cases k
    · omega
theorem inI_hi {A : Iv} (h : okI A) {n : Int} (k : inI A n) : (A.u = true ∧ eHi A = 9223372036854775807) ∨ (A.u = false ∧ n ≤ eHi A ∧ -1099511627776 ≤ eHi A ∧ eHi A ≤ 1099511627776) := by
  rcases eHi_r h with ⟨a1, a2⟩ | ⟨a1, a2, a3, a4⟩
  · exact .inl ⟨a1, a2⟩
  · refine .inr ⟨a1, ?_, by omega, by omega⟩
    rcases k.2 with k | k
    · rw [a1] at k; cases k
    · omega
theorem inI_of {A : Iv} {n : Int} (k1 : A.d = true ∨ eLo A ≤ n) (k2 : A.u = true ∨ n ≤ eHi A) : inI A n := by
  constructor
  · by_cases e : A.d = true
    · exact .inl e
    · right; have := k1.resolve_left e; unfold eLo at this; rwa [if_neg e] at this
  · by_cases e : A.u = true
    · exact .inl e
    · right; have := k2.resolve_left e; unfold eHi at this; rwa [if_neg e] at this
theorem inI_eLo {A : Iv} (h : okI A) : inI A (eLo A) := inI_of (.inr (Int.le_refl _)) (.inr (e_le h))
theorem inI_eHi {A : Iv} (h : okI A) : inI A (eHi A) := inI_of (.inr (e_le h)) (.inr (Int.le_refl _))

/-- What is told of an interval's own ends is the interval. -/
theorem told_self {A : Iv} (h : okI A) : told (eLo A) (eHi A) = A := by
  obtain ⟨h1, h2, h3, h4, h5, h6, h7⟩ := h
  obtain ⟨d, u, lo, hi⟩ := A
  cases d <;> cases u <;> simp_all [told, eLo, eHi] <;> omega

theorem joined_told {A B : Iv} (h : okI A) (k : okI B) : told (min (eLo A) (eLo B)) (max (eHi A) (eHi B)) = joined A B := by
  obtain ⟨h1, h2, h3, h4, h5, h6, h7⟩ := h
  obtain ⟨k1, k2, k3, k4, k5, k6, k7⟩ := k
  obtain ⟨d, u, lo, hi⟩ := A
  obtain ⟨d', u', lo', hi'⟩ := B
  cases d <;> cases u <;> cases d' <;> cases u' <;> simp_all [told, eLo, eHi, joined] <;> grind

theorem inside_iff {A B : Iv} (h : okI A) (k : okI B) : insideB A B = (decide (eLo B ≤ eLo A) && decide (eHi A ≤ eHi B)) := by
  obtain ⟨h1, h2, h3, h4, h5, h6, h7⟩ := h
  obtain ⟨k1, k2, k3, k4, k5, k6, k7⟩ := k
  obtain ⟨d, u, lo, hi⟩ := A
  obtain ⟨d', u', lo', hi'⟩ := B
  rw [Bool.eq_iff_iff]
  cases d <;> cases u <;> cases d' <;> cases u' <;> simp_all [insideB, eLo, eHi, joined] <;> grind

/-- What both have. -/
theorem metB_iff {A B : Iv} (h : okI A) (k : okI B) : metB A B = decide (max (eLo A) (eLo B) ≤ min (eHi A) (eHi B)) := by
  obtain ⟨h1, h2, h3, h4, h5, h6, h7⟩ := h
  obtain ⟨k1, k2, k3, k4, k5, k6, k7⟩ := k
  obtain ⟨d, u, lo, hi⟩ := A
  obtain ⟨d', u', lo', hi'⟩ := B
  rw [Bool.eq_iff_iff]
  cases d <;> cases u <;> cases d' <;> cases u' <;> simp_all [metB, metRaw, eLo, eHi] <;> grind
theorem met_told {A B : Iv} (h : okI A) (k : okI B) : metRaw A B = told (max (eLo A) (eLo B)) (min (eHi A) (eHi B)) := by
  obtain ⟨h1, h2, h3, h4, h5, h6, h7⟩ := h
  obtain ⟨k1, k2, k3, k4, k5, k6, k7⟩ := k
  obtain ⟨d, u, lo, hi⟩ := A
  obtain ⟨d', u', lo', hi'⟩ := B
  cases d <;> cases u <;> cases d' <;> cases u' <;> simp_all [metRaw, told, eLo, eHi] <;> grind

/-- Sums. -/
def sumE (x y : Int) : Int := if x = 9223372036854775807 ∨ x = -9223372036854775807 then x else if y = 9223372036854775807 ∨ y = -9223372036854775807 then y else x + y

theorem Spn.sums {A B : Iv} (h : okI A) (k : okI B) : Spn (sums A B) (sumE (eLo A) (eLo B)) (sumE (eHi A) (eHi B)) := by
  have la := inI_eLo h; have ha := inI_eHi h; have lb := inI_eLo k; have hb := inI_eHi k
  have a1 := eLo_r h; have a2 := eHi_r h; have b1 := eLo_r k; have b2 := eHi_r k
  refine ⟨?_, ?_, ⟨eLo A + eLo B, ⟨_, _, la, lb, rfl⟩, ?_⟩, ⟨eHi A + eHi B, ⟨_, _, ha, hb, rfl⟩, ?_⟩⟩
  · rintro n ⟨x, y, hx, hy, rfl⟩
    have := inI_lo h hx; have := inI_lo k hy
    unfold sumE; split
    · omega
    · split <;> omega
  · rintro n ⟨x, y, hx, hy, rfl⟩
    have := inI_hi h hx; have := inI_hi k hy
    unfold sumE; split
    · omega
    · split <;> omega
  · unfold sumE; split
    · omega
    · split <;> omega
  · unfold sumE; split
    · omega
    · split <;> omega

theorem Spn.diffs {A B : Iv} (h : okI A) (k : okI B) : Spn (diffs A B) (sumE (eLo A) (-eHi B)) (sumE (eHi A) (-eLo B)) := by
  have la := inI_eLo h; have ha := inI_eHi h; have lb := inI_eLo k; have hb := inI_eHi k
  have a1 := eLo_r h; have a2 := eHi_r h; have b1 := eLo_r k; have b2 := eHi_r k
  refine ⟨?_, ?_, ⟨eLo A - eHi B, ⟨_, _, la, hb, rfl⟩, ?_⟩, ⟨eHi A - eLo B, ⟨_, _, ha, lb, rfl⟩, ?_⟩⟩
  · rintro n ⟨x, y, hx, hy, rfl⟩
    have := inI_lo h hx; have := inI_hi k hy
    unfold sumE; split
    · omega
    · split <;> omega
  · rintro n ⟨x, y, hx, hy, rfl⟩
    have := inI_hi h hx; have := inI_lo k hy
    unfold sumE; split
    · omega
    · split <;> omega
  · unfold sumE; split
    · omega
    · split <;> omega
  · unfold sumE; split
    · omega
    · split <;> omega

end Go.Proofs.YtegibkjopkakhaaDoor
