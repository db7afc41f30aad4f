/- Intervals by their ends: what is left of two that stand somehow to each other. -/
import Derived.Test.YtijbjahedfmfgabDoorGd
import Derived.Test.YtijbjahedfmfgabDoorIx
namespace Go.Proofs.YtijbjahedfmfgabDoor

def Spq (S : Int → Prop) (l h : Int) : Prop := ((∀ n, ¬ S n) ∧ h < l) ∨ (Spn S l h ∧ l ≤ h)
theorem Spq.congr {S T : Int → Prop} {l h : Int} (k : Spq S l h) (e : ∀ n, S n ↔ T n) : Spq T l h := by
  have : S = T := funext fun n => propext (e n)
  rw [← this]; exact k
theorem Spq.none {S : Int → Prop} {l h : Int} (k : Spq S l h) : h < l ↔ ∀ n, ¬ S n := by
  rcases k with ⟨e, o⟩ | ⟨k, o⟩
  · exact ⟨fun _ => e, fun _ => o⟩
  · refine ⟨fun h => by omega, fun h => ?_⟩
    obtain ⟨n, hn, _⟩ := k.atLo; exact absurd hn (h n)
theorem Spq.spn {S : Int → Prop} {l h : Int} (k : Spq S l h) (o : l ≤ h) : Spn S l h := by
  rcases k with ⟨e, o'⟩ | ⟨k, _⟩
  · omega
  · exact k
theorem Spq.some {S : Int → Prop} {l h : Int} (k : Spq S l h) (n : Int) (hn : S n) : l ≤ h := by
  rcases k with ⟨e, o'⟩ | ⟨_, o⟩
  · exact absurd hn (e n)
  · exact o

theorem to_spq {A : Iv} (h : okI A) {c : Int} (hc : (-1099511627777 ≤ c ∧ c ≤ 1099511627777) ∨ c = 9223372036854775807) :
    Spq (fun x => inI A x ∧ (x ≤ c ∨ c = 9223372036854775807)) (meL (eLo A) (eHi A) (-9223372036854775807) c) (meH (eLo A) (eHi A) (-9223372036854775807) c) := by
  have b1 := eLo_r h; have b2 := eHi_r h; have b3 := e_le h
  unfold meL meH
  by_cases e : min (eHi A) c < max (eLo A) (-9223372036854775807)
  · left
    rw [if_pos e, if_pos e]
    refine ⟨?_, by omega⟩
    rintro n ⟨hn, h1⟩
    have := inI_lo h hn; have := inI_hi h hn; omega
  · right
    rw [if_neg e, if_neg e]
    refine ⟨⟨?_, ?_, ⟨eLo A, ⟨inI_eLo h, by omega⟩, by omega⟩, ⟨min (eHi A) c, ⟨inI_of (.inr (by omega)) (.inr (by omega)), by omega⟩, .inl rfl⟩⟩, by omega⟩
    · rintro n ⟨hn, h1⟩; have := inI_lo h hn; omega
    · rintro n ⟨hn, h1⟩; have := inI_hi h hn; omega

theorem from_spq {A : Iv} (h : okI A) {c : Int} (hc : (-1099511627777 ≤ c ∧ c ≤ 1099511627777) ∨ c = -9223372036854775807) :
    Spq (fun x => inI A x ∧ (c ≤ x ∨ c = -9223372036854775807)) (meL (eLo A) (eHi A) c 9223372036854775807) (meH (eLo A) (eHi A) c 9223372036854775807) := by
  have b1 := eLo_r h; have b2 := eHi_r h; have b3 := e_le h
  unfold meL meH
  by_cases e : min (eHi A) 9223372036854775807 < max (eLo A) c
  · left
    rw [if_pos e, if_pos e]
    refine ⟨?_, by omega⟩
    rintro n ⟨hn, h1⟩
    have := inI_lo h hn; have := inI_hi h hn; omega
  · right
    rw [if_neg e, if_neg e]
    refine ⟨⟨?_, ?_, ⟨max (eLo A) c, ⟨inI_of (.inr (by omega)) (.inr (by omega)), by omega⟩, .inl rfl⟩, ⟨eHi A, ⟨inI_eHi h, by omega⟩, by omega⟩⟩, by omega⟩
    · rintro n ⟨hn, h1⟩; have := inI_lo h hn; omega
    · rintro n ⟨hn, h1⟩; have := inI_hi h hn; omega

theorem met_spq {A B : Iv} (h : okI A) (k : okI B) : Spq (fun x => inI A x ∧ inI B x) (meL (eLo A) (eHi A) (eLo B) (eHi B)) (meH (eLo A) (eHi A) (eLo B) (eHi B)) := by
  have a1 := eLo_r h; have a2 := eHi_r h; have a3 := e_le h
  have b1 := eLo_r k; have b2 := eHi_r k; have b3 := e_le k
  unfold meL meH
  by_cases e : min (eHi A) (eHi B) < max (eLo A) (eLo B)
  · left
    rw [if_pos e, if_pos e]
    refine ⟨?_, by omega⟩
    rintro n ⟨hn, h1⟩
    have := inI_lo h hn; have := inI_hi h hn; have := inI_lo k h1; have := inI_hi k h1; omega
  · right
    rw [if_neg e, if_neg e]
    refine ⟨⟨?_, ?_, ⟨max (eLo A) (eLo B), ⟨inI_of (.inr (by omega)) (.inr (by omega)), inI_of (.inr (by omega)) (.inr (by omega))⟩, .inl rfl⟩, ⟨min (eHi A) (eHi B), ⟨inI_of (.inr (by omega)) (.inr (by omega)), inI_of (.inr (by omega)) (.inr (by omega))⟩, .inl rfl⟩⟩, by omega⟩
    · rintro n ⟨hn, h1⟩; have := inI_lo h hn; have := inI_lo k h1; omega
    · rintro n ⟨hn, h1⟩; have := inI_hi h hn; have := inI_hi k h1; omega

def wiL (e0 f0 f1 : Int) : Int := if f0 = f1 ∧ e0 = f0 then e0 + 1 else e0
def wiH (e1 f0 f1 : Int) : Int := if f0 = f1 ∧ e1 = f1 then e1 - 1 else e1

theorem wi_spq {A B : Iv} (h : okI A) (k : okI B) : Spq (fun x => inI A x ∧ ∃ y, inI B y ∧ x ≠ y) (wiL (eLo A) (eLo B) (eHi B)) (wiH (eHi A) (eLo B) (eHi B)) := by
  have a1 := eLo_r h; have a2 := eHi_r h; have a3 := e_le h
  have b1 := eLo_r k; have b2 := eHi_r k; have b3 := e_le k
  have ib0 := inI_eLo k; have ib1 := inI_eHi k
  unfold wiL wiH
  by_cases e : eLo B = eHi B
  · have only : ∀ y, inI B y → y = eLo B := by
      intro y hy; have := inI_lo k hy; have := inI_hi k hy; omega
    have nf : -1099511627776 ≤ eLo B ∧ eLo B ≤ 1099511627776 := by omega
    by_cases o : eLo A = eHi A ∧ eLo A = eLo B
    · left
      rw [if_pos (show eLo B = eHi B ∧ eLo A = eLo B from ⟨e, o.2⟩), if_pos (show eLo B = eHi B ∧ eHi A = eHi B from ⟨e, by omega⟩)]
      refine ⟨?_, by omega⟩
      rintro n ⟨hn, y, hy, ne⟩
      have := only y hy; have := inI_lo h hn; have := inI_hi h hn; omega
    · right
      refine ⟨⟨?_, ?_, ?_, ?_⟩, ?_⟩
      · rintro n ⟨hn, y, hy, ne⟩
        have := only y hy; have := inI_lo h hn
        split <;> omega
      · rintro n ⟨hn, y, hy, ne⟩
        have := only y hy; have := inI_hi h hn
        split <;> omega
      · split
        · exact ⟨eLo A + 1, ⟨inI_of (.inr (by omega)) (.inr (by omega)), _, ib0, by omega⟩, .inl rfl⟩
        · exact ⟨eLo A, ⟨inI_eLo h, _, ib0, by omega⟩, .inl rfl⟩
      · split
        · exact ⟨eHi A - 1, ⟨inI_of (.inr (by omega)) (.inr (by omega)), _, ib0, by omega⟩, .inl rfl⟩
        · exact ⟨eHi A, ⟨inI_eHi h, _, ib0, by omega⟩, .inl rfl⟩
      · split <;> split <;> omega
  · right
    rw [if_neg (fun h => e h.1), if_neg (fun h => e h.1)]
    have other : ∀ x, ∃ y, inI B y ∧ x ≠ y := by
      intro x
      by_cases o : x = eLo B
      · exact ⟨_, ib1, by omega⟩
      · exact ⟨_, ib0, o⟩
    refine ⟨⟨?_, ?_, ⟨eLo A, ⟨inI_eLo h, other _⟩, .inl rfl⟩, ⟨eHi A, ⟨inI_eHi h, other _⟩, .inl rfl⟩⟩, a3⟩
    · rintro n ⟨hn, _⟩; have := inI_lo h hn; omega
    · rintro n ⟨hn, _⟩; have := inI_hi h hn; omega

/-- The ends that are left, by how they stand. -/
def rxL (k : Nat) (a0 a1 b0 b1 : Int) : Int := match k with
  | 1 => meL a0 a1 (-9223372036854775807) (sumE b1 (-1))
  | 2 => meL a0 a1 (-9223372036854775807) (sumE b1 0)
  | 3 => meL a0 a1 b0 b1
  | 4 => wiL a0 b0 b1
  | 5 => meL a0 a1 (sumE b0 1) 9223372036854775807
  | _ => meL a0 a1 (sumE b0 0) 9223372036854775807
def rxH (k : Nat) (a0 a1 b0 b1 : Int) : Int := match k with
  | 1 => meH a0 a1 (-9223372036854775807) (sumE b1 (-1))
  | 2 => meH a0 a1 (-9223372036854775807) (sumE b1 0)
  | 3 => meH a0 a1 b0 b1
  | 4 => wiH a1 b0 b1
  | 5 => meH a0 a1 (sumE b0 1) 9223372036854775807
  | _ => meH a0 a1 (sumE b0 0) 9223372036854775807
def opp : Nat → Nat
  | 1 => 5
  | 2 => 6
  | 3 => 3
  | 4 => 4
  | 5 => 1
  | _ => 2

theorem sum_hi {B : Iv} (k : okI B) {m : Int} (hm : -1 ≤ m ∧ m ≤ 1) : (B.u = true ∧ sumE (eHi B) m = 9223372036854775807) ∨ (B.u = false ∧ sumE (eHi B) m = eHi B + m ∧ -1099511627776 ≤ eHi B ∧ eHi B ≤ 1099511627776) := by
  rcases eHi_r k with ⟨u, e⟩ | ⟨u, e, e1, e2⟩
  · left; exact ⟨u, by unfold sumE; rw [if_pos (.inl e), e]⟩
  · right; exact ⟨u, by unfold sumE; rw [if_neg (by omega), if_neg (by omega)], by omega, by omega⟩
theorem sum_lo {B : Iv} (k : okI B) {m : Int} (hm : -1 ≤ m ∧ m ≤ 1) : (B.d = true ∧ sumE (eLo B) m = -9223372036854775807) ∨ (B.d = false ∧ sumE (eLo B) m = eLo B + m ∧ -1099511627776 ≤ eLo B ∧ eLo B ≤ 1099511627776) := by
  rcases eLo_r k with ⟨u, e⟩ | ⟨u, e, e1, e2⟩
  · left; exact ⟨u, by unfold sumE; rw [if_pos (.inr e), e]⟩
  · right; exact ⟨u, by unfold sumE; rw [if_neg (by omega), if_neg (by omega)], by omega, by omega⟩

/-- A number above, in an interval. -/
theorem above_iff {B : Iv} (k : okI B) {m : Int} (hm : -1 ≤ m ∧ m ≤ 1) (x : Int) : (x ≤ sumE (eHi B) m ∨ sumE (eHi B) m = 9223372036854775807) ↔ ∃ y, inI B y ∧ x ≤ y + m := by
  have b1 := eLo_r k; have b3 := e_le k
  constructor
  · intro h
    rcases sum_hi k hm with ⟨u, e⟩ | ⟨u, e, e1, e2⟩
    · refine ⟨max (x + 1) (eLo B), inI_of (.inr (by omega)) (.inl u), by omega⟩
    · exact ⟨eHi B, inI_eHi k, by omega⟩
  · rintro ⟨y, hy, h⟩
    have := inI_hi k hy
    rcases sum_hi k hm with ⟨u, e⟩ | ⟨u, e, e1, e2⟩ <;> omega
theorem below_iff {B : Iv} (k : okI B) {m : Int} (hm : -1 ≤ m ∧ m ≤ 1) (x : Int) : (sumE (eLo B) m ≤ x ∨ sumE (eLo B) m = -9223372036854775807) ↔ ∃ y, inI B y ∧ y + m ≤ x := by
  have b1 := eHi_r k; have b3 := e_le k
  constructor
  · intro h
    rcases sum_lo k hm with ⟨u, e⟩ | ⟨u, e, e1, e2⟩
    · refine ⟨min (x - 1) (eHi B), inI_of (.inl u) (.inr (by omega)), by omega⟩
    · exact ⟨eLo B, inI_eLo k, by omega⟩
  · rintro ⟨y, hy, h⟩
    have := inI_lo k hy
    rcases sum_lo k hm with ⟨u, e⟩ | ⟨u, e, e1, e2⟩ <;> omega

theorem firsts_spq {A B : Iv} (h : okI A) (k : okI B) (n : Nat) (h1 : 1 ≤ n) (h2 : n ≤ 6) : Spq (firsts A B n) (rxL n (eLo A) (eHi A) (eLo B) (eHi B)) (rxH n (eLo A) (eHi A) (eLo B) (eHi B)) := by
  have s1 := sum_hi k (m := -1) (by omega)
  have s2 := sum_hi k (m := 0) (by omega)
  have s3 := sum_lo k (m := 1) (by omega)
  have s4 := sum_lo k (m := 0) (by omega)
  match n with
  | 1 =>
    refine (to_spq h (c := sumE (eHi B) (-1)) (by omega)).congr fun x => ?_
    rw [above_iff k (by omega)]
    exact ⟨fun ⟨hx, y, hy, l⟩ => ⟨y, hx, hy, decide_eq_true (by omega)⟩, fun ⟨y, hx, hy, l⟩ => ⟨hx, y, hy, by have := of_decide_eq_true l; omega⟩⟩
  | 2 =>
    refine (to_spq h (c := sumE (eHi B) 0) (by omega)).congr fun x => ?_
    rw [above_iff k (by omega)]
    exact ⟨fun ⟨hx, y, hy, l⟩ => ⟨y, hx, hy, decide_eq_true (by omega)⟩, fun ⟨y, hx, hy, l⟩ => ⟨hx, y, hy, by have := of_decide_eq_true l; omega⟩⟩
  | 3 =>
    refine (met_spq h k).congr fun x => ?_
    exact ⟨fun ⟨hx, hy⟩ => ⟨x, hx, hy, decide_eq_true rfl⟩, fun ⟨y, hx, hy, l⟩ => ⟨hx, by have := of_decide_eq_true l; rwa [this]⟩⟩
  | 4 =>
    refine (wi_spq h k).congr fun x => ?_
    exact ⟨fun ⟨hx, y, hy, l⟩ => ⟨y, hx, hy, decide_eq_true l⟩, fun ⟨y, hx, hy, l⟩ => ⟨hx, y, hy, of_decide_eq_true l⟩⟩
  | 5 =>
    refine (from_spq h (c := sumE (eLo B) 1) (by omega)).congr fun x => ?_
    rw [below_iff k (by omega)]
    exact ⟨fun ⟨hx, y, hy, l⟩ => ⟨y, hx, hy, decide_eq_true (by omega)⟩, fun ⟨y, hx, hy, l⟩ => ⟨hx, y, hy, by have := of_decide_eq_true l; omega⟩⟩
  | 6 =>
    refine (from_spq h (c := sumE (eLo B) 0) (by omega)).congr fun x => ?_
    rw [below_iff k (by omega)]
    exact ⟨fun ⟨hx, y, hy, l⟩ => ⟨y, hx, hy, decide_eq_true (by omega)⟩, fun ⟨y, hx, hy, l⟩ => ⟨hx, y, hy, by have := of_decide_eq_true l; omega⟩⟩
  | 0 => omega
  | n + 7 => omega

theorem rel_opp (n : Nat) (h1 : 1 ≤ n) (h2 : n ≤ 6) (x y : Int) : rel (opp n) x y = rel n y x := by
  match n with
  | 1 => rfl
  | 2 => rfl
  | 3 => show decide (x = y) = decide (y = x); rw [Bool.eq_iff_iff]; simp; omega
  | 4 => show decide (x ≠ y) = decide (y ≠ x); rw [Bool.eq_iff_iff]; simp; omega
  | 5 => rfl
  | 6 => rfl
  | 0 => omega
  | n + 7 => omega
theorem opp_r (n : Nat) : 1 ≤ opp n ∧ opp n ≤ 6 := by
  unfold opp; split <;> omega

theorem seconds_spq {A B : Iv} (h : okI A) (k : okI B) (n : Nat) (h1 : 1 ≤ n) (h2 : n ≤ 6) : Spq (seconds A B n) (rxL (opp n) (eLo B) (eHi B) (eLo A) (eHi A)) (rxH (opp n) (eLo B) (eHi B) (eLo A) (eHi A)) := by
  refine (firsts_spq k h (opp n) (opp_r n).1 (opp_r n).2).congr fun x => ?_
  constructor
  · rintro ⟨y, hx, hy, l⟩; exact ⟨y, hy, hx, by rw [← rel_opp n h1 h2]; exact l⟩
  · rintro ⟨y, hy, hx, l⟩; exact ⟨y, hx, hy, by rw [rel_opp n h1 h2]; exact l⟩

theorem refS_of {A B : Iv} (h : okI A) (k : okI B) (n : Nat) (h1 : 1 ≤ n) (h2 : n ≤ 6) {xl xh yl yh : Int} (ex : xl = rxL n (eLo A) (eHi A) (eLo B) (eHi B)) (ex' : xh = rxH n (eLo A) (eHi A) (eLo B) (eHi B)) (ey : yl = rxL (opp n) (eLo B) (eHi B) (eLo A) (eHi A)) (ey' : yh = rxH (opp n) (eLo B) (eHi B) (eLo A) (eHi A)) :
    RefS A B n (if xh < xl then ivZ else told xl xh) (if xh < xl then ivZ else told yl yh) (decide (xl ≤ xh)) := by
  have P := firsts_spq h k n h1 h2
  have Q := seconds_spq h k n h1 h2
  rw [← ex, ← ex'] at P
  rw [← ey, ← ey'] at Q
  by_cases e : xh < xl
  · rw [if_pos e, if_pos e, decide_eq_false (by omega)]
    refine ⟨⟨fun h => (by cases h), ?_⟩, fun _ => ⟨rfl, rfl⟩, fun h => (by cases h), fun h => (by cases h)⟩
    rintro ⟨x, y, hx, hy, l⟩
    exact absurd ⟨y, hx, hy, l⟩ (P.none.1 e x)
  · rw [if_neg e, if_neg e, decide_eq_true (by omega)]
    have s := P.spn (by omega)
    obtain ⟨x, ⟨y, hx, hy, l⟩, _⟩ := s.atLo
    exact ⟨⟨fun _ => ⟨x, y, hx, hy, l⟩, fun _ => rfl⟩, fun h => (by cases h), fun _ => s.least, fun _ => (Q.spn (Q.some y ⟨x, hx, hy, l⟩)).least⟩

end Go.Proofs.YtijbjahedfmfgabDoor
