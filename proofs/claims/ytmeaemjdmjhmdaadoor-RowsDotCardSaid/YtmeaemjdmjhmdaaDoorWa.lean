/- Plain numbers: limbs of 64 bits, the lowest first, and what they are worth. -/
import Derived.Below
namespace Go.Proofs.YtmeaemjdmjhmdaaDoor

def lv : List Int → Int
  | [] => 0
  | x :: r => x + 18446744073709551616 * lv r

def pw (k : Nat) : Int := 18446744073709551616 ^ k

def Limb (l : List Int) : Prop := ∀ x ∈ l, 0 ≤ x ∧ x < 18446744073709551616

/-- The last limb is not 0. -/
def Tr (l : List Int) : Prop := l = [] ∨ l.getD (l.length - 1) 0 ≠ 0

theorem pw_zero : pw 0 = 1 := rfl
theorem pw_succ (k : Nat) : pw (k + 1) = 18446744073709551616 * pw k := by unfold pw; rw [Int.pow_succ, Int.mul_comm]
theorem pw_pos (k : Nat) : 0 < pw k := by
  induction k with
  | zero => rw [pw_zero]; omega
  | succ k ih => rw [pw_succ]; omega
theorem pw_add (a b : Nat) : pw (a + b) = pw a * pw b := by
  induction b with
  | zero => rw [pw_zero, Nat.add_zero]; omega
  | succ b ih => rw [← Nat.add_assoc, pw_succ, pw_succ, ih]; grind
theorem pw_mono {a b : Nat} (h : a ≤ b) : pw a ≤ pw b := by
  obtain ⟨c, rfl⟩ := Nat.exists_eq_add_of_le h
  rw [pw_add]
  have h1 := pw_pos a
  have h2 := pw_pos c
  have := Int.mul_le_mul_of_nonneg_left (show 1 ≤ pw c by omega) (Int.le_of_lt h1)
  omega

theorem lv_append (a b : List Int) : lv (a ++ b) = lv a + pw a.length * lv b := by
  induction a with
  | nil => simp [lv, pw_zero]
  | cons x a ih => simp only [List.cons_append, lv, ih, List.length_cons, pw_succ]; grind

theorem lv_snoc (a : List Int) (x : Int) : lv (a ++ [x]) = lv a + pw a.length * x := by
  rw [lv_append]; simp [lv]

theorem Limb.app {a b : List Int} (ha : Limb a) (hb : Limb b) : Limb (a ++ b) := by
  intro x hx
  rcases List.mem_append.1 hx with h | h
  · exact ha x h
  · exact hb x h
theorem Limb.take {a : List Int} (ha : Limb a) (k : Nat) : Limb (a.take k) := fun x hx => ha x (List.mem_of_mem_take hx)
theorem Limb.drop {a : List Int} (ha : Limb a) (k : Nat) : Limb (a.drop k) := fun x hx => ha x (List.mem_of_mem_drop hx)
theorem Limb.get {a : List Int} (ha : Limb a) {k : Nat} (hk : k < a.length) : 0 ≤ a.getD k 0 ∧ a.getD k 0 < 18446744073709551616 := ha _ (by simp [hk])
theorem Limb.tail {x : Int} {a : List Int} (ha : Limb (x :: a)) : Limb a := fun y hy => ha y (by simp [hy])

theorem lv_nonneg {a : List Int} (ha : Limb a) : 0 ≤ lv a := by
  induction a with
  | nil => simp [lv]
  | cons x a ih =>
    have h1 := ih ha.tail
    have h2 := ha x (by simp)
    simp only [lv]; omega

theorem lv_lt {a : List Int} (ha : Limb a) : lv a < pw a.length := by
  induction a with
  | nil => simp [lv, pw_zero]
  | cons x a ih =>
    have h1 := ih ha.tail
    have h2 := ha x (by simp)
    simp only [lv, List.length_cons, pw_succ]; omega

theorem take_step (a : List Int) (k : Nat) (hk : k < a.length) : a.take (k + 1) = a.take k ++ [a.getD k 0] := by
  rw [List.take_succ_eq_append_getElem hk]; simp [hk]

theorem lv_take_step (a : List Int) (k : Nat) (hk : k < a.length) : lv (a.take (k + 1)) = lv (a.take k) + pw k * a.getD k 0 := by
  rw [take_step a k hk, lv_snoc, List.length_take, Nat.min_eq_left (Nat.le_of_lt hk)]

theorem lv_ge {a : List Int} (ha : Limb a) (hn : a ≠ []) (ht : Tr a) : pw (a.length - 1) ≤ lv a := by
  have hl : 0 < a.length := List.length_pos_iff.2 hn
  have h1 := lv_take_step a (a.length - 1) (by omega)
  rw [show a.length - 1 + 1 = a.length by omega, List.take_length] at h1
  have h2 := lv_nonneg (ha.take (a.length - 1))
  have h3 := ha.get (show a.length - 1 < a.length by omega)
  rcases ht with h | h
  · exact absurd h hn
  · have h4 := pw_pos (a.length - 1)
    have := Int.mul_le_mul_of_nonneg_left (show 1 ≤ a.getD (a.length - 1) 0 by omega) (Int.le_of_lt h4)
    omega

theorem lv_lt_of_length {a b : List Int} (ha : Limb a) (hb : Limb b) (hn : b ≠ []) (ht : Tr b) (h : a.length < b.length) : lv a < lv b := by
  have h1 := lv_lt ha
  have h2 := lv_ge hb hn ht
  have h3 := pw_mono (show a.length ≤ b.length - 1 by omega)
  omega

theorem split_at (a : List Int) (k : Nat) (hk : k < a.length) : lv a = lv (a.take k) + pw k * (a.getD k 0 + 18446744073709551616 * lv (a.drop (k + 1))) := by
  have e : a = a.take (k + 1) ++ a.drop (k + 1) := (List.take_append_drop _ _).symm
  have h : lv a = lv (a.take (k + 1)) + pw (k + 1) * lv (a.drop (k + 1)) := by
    have := lv_append (a.take (k + 1)) (a.drop (k + 1))
    rw [List.take_append_drop, List.length_take, Nat.min_eq_left (by omega)] at this
    exact this
  rw [h, lv_take_step a k hk, pw_succ]; grind

/-- Two lists that are the same above place k, and differ there. -/
theorem lv_lt_at {a b : List Int} (ha : Limb a) (hb : Limb b) (k : Nat) (hka : k < a.length) (hkb : k < b.length) (hd : a.drop (k + 1) = b.drop (k + 1)) (h : a.getD k 0 < b.getD k 0) : lv a < lv b := by
  rw [split_at a k hka, split_at b k hkb, hd]
  have h1 := lv_lt (ha.take k)
  rw [List.length_take, Nat.min_eq_left (Nat.le_of_lt hka)] at h1
  have h2 := lv_nonneg (hb.take k)
  have h4 := pw_pos k
  have := Int.mul_le_mul_of_nonneg_left (show a.getD k 0 + 1 ≤ b.getD k 0 by omega) (Int.le_of_lt h4)
  grind

theorem lv_zeros (n : Nat) : lv (List.replicate n 0) = 0 := by
  induction n with
  | zero => rfl
  | succ n ih => simp [List.replicate_succ, lv, ih]

theorem Limb.zeros (n : Nat) : Limb (List.replicate n 0) := fun x hx => by
  have := (List.mem_replicate.1 hx).2
  omega

theorem Limb.set {a : List Int} (ha : Limb a) (k : Nat) {x : Int} (h0 : 0 ≤ x) (h1 : x < 18446744073709551616) : Limb (a.set k x) := by
  intro y hy
  rcases List.mem_or_eq_of_mem_set hy with h | rfl
  · exact ha y h
  · exact ⟨h0, h1⟩

/-- One limb of a sum. -/
theorem add_step {P S c x y s c' A D : Int} (h : S + c * P = A + D) (h2 : s + 18446744073709551616 * c' = x + y + c) : (S + P * s) + c' * (18446744073709551616 * P) = (A + P * x) + (D + P * y) := by
  grind

/-- One limb of a difference. -/
theorem sub_step {P S c x y s c' A D : Int} (h : S - c * P = A - D) (h2 : s - 18446744073709551616 * c' = x - y - c) : (S + P * s) - c' * (18446744073709551616 * P) = (A + P * x) - (D + P * y) := by
  grind

end Go.Proofs.YtmeaemjdmjhmdaaDoor
