/- Octagons: the reference's closing, all rules over and over, as a machine does it: plain facts. -/
import Derived.Test.YtbafkjhlogkllaaGreatDoorOa
namespace Go.Proofs.YtbafkjhlogkllaaGreatDoor
set_option linter.unusedVariables false

/-! ## One rule after the other -/

inductive Op where
  | tig (i : Nat)
  | str (i j : Nat)
  | rel (i j k : Nat)

def evenB (b : Bd) : Bd := b.map fun v => 2 * (v / 2)
def Op.r : Op → Nat
  | .tig i => i
  | .str i _ => i
  | .rel i _ _ => i
def Op.c : Op → Nat
  | .tig i => bar i
  | .str _ j => j
  | .rel _ j _ => j
def Op.val (g : Int → Int) (d : Mat) : Op → Bd
  | .tig i => evenB (d i (bar i))
  | .str i j => halfB (sumB g (d i (bar i)) (d (bar j) j))
  | .rel i j k => sumB g (d i k) (d k j)
def Op.app (g : Int → Int) (d : Mat) (o : Op) : Mat := setM d o.r o.c (minB (d o.r o.c) (o.val g d))
def runO (g : Int → Int) (d : Mat) : List Op → Mat
  | [] => d
  | o :: l => runO g (o.app g d) l
def Op.ok (n : Nat) : Op → Prop
  | .tig i => i < n
  | .str i j => i < n ∧ j < n
  | .rel i j k => i < n ∧ j < n ∧ k < n
def Op.pl (n : Nat) : Op → Nat
  | .tig i => i * n
  | .str i j => i * n + j
  | .rel i j _ => i * n + j

def oRel (i j : Nat) : Nat → List Op
  | 0 => []
  | k + 1 => oRel i j k ++ [.rel i j k]
def oRow (n i : Nat) : Nat → List Op
  | 0 => [.tig i]
  | j + 1 => oRow n i j ++ (.str i j :: oRel i j n)
def oRnd (n : Nat) : Nat → List Op
  | 0 => []
  | i + 1 => oRnd n i ++ oRow n i n

theorem runO_append (g : Int → Int) (d : Mat) (l m : List Op) : runO g d (l ++ m) = runO g (runO g d l) m := by
  induction l generalizing d with
  | nil => rfl
  | cons o l ih => exact ih _

theorem mem_oRel {i j : Nat} : ∀ {k : Nat} {o : Op}, o ∈ oRel i j k ↔ ∃ q, q < k ∧ o = .rel i j q := by
  intro k
  induction k with
  | zero => intro o; simp [oRel]
  | succ k ih =>
    intro o
    unfold oRel
    rw [List.mem_append, ih]
    constructor
    · rintro (⟨q, h, rfl⟩ | h)
      · exact ⟨q, by omega, rfl⟩
      · exact ⟨k, by omega, by simpa using h⟩
    · rintro ⟨q, h, rfl⟩
      by_cases e : q = k
      · right; simp [e]
      · left; exact ⟨q, by omega, rfl⟩
theorem mem_oRow {n i : Nat} : ∀ {j : Nat} {o : Op}, o ∈ oRow n i j ↔ o = .tig i ∨ ∃ q, q < j ∧ (o = .str i q ∨ ∃ k, k < n ∧ o = .rel i q k) := by
  intro j
  induction j with
  | zero => intro o; simp [oRow]
  | succ j ih =>
    intro o
    unfold oRow
    rw [List.mem_append, ih, List.mem_cons, mem_oRel]
    constructor
    · rintro ((h | ⟨q, h, e⟩) | h | h)
      · exact .inl h
      · exact .inr ⟨q, by omega, e⟩
      · exact .inr ⟨j, by omega, .inl h⟩
      · exact .inr ⟨j, by omega, .inr h⟩
    · rintro (h | ⟨q, h, e⟩)
      · exact .inl (.inl h)
      · by_cases c : q = j
        · subst c; exact .inr e
        · exact .inl (.inr ⟨q, by omega, e⟩)
theorem mem_oRnd {n : Nat} : ∀ {i : Nat} {o : Op}, o ∈ oRnd n i ↔ ∃ p, p < i ∧ o ∈ oRow n p n := by
  intro i
  induction i with
  | zero => intro o; simp [oRnd]
  | succ i ih =>
    intro o
    unfold oRnd
    rw [List.mem_append, ih]
    constructor
    · rintro (⟨p, h, e⟩ | h)
      · exact ⟨p, by omega, e⟩
      · exact ⟨i, by omega, h⟩
    · rintro ⟨p, h, e⟩
      by_cases c : p = i
      · subst c; exact .inr e
      · exact .inl ⟨p, by omega, e⟩
theorem all_ops {n : Nat} {o : Op} : o ∈ oRnd n n ↔ o.ok n := by
  rw [mem_oRnd]
  constructor
  · rintro ⟨p, h, e⟩
    rcases mem_oRow.1 e with rfl | ⟨q, hq, rfl | ⟨k, hk, rfl⟩⟩
    · exact h
    · exact ⟨h, hq⟩
    · exact ⟨h, hq, hk⟩
  · intro h
    cases o with
    | tig i => exact ⟨i, h, mem_oRow.2 (.inl rfl)⟩
    | str i j => exact ⟨i, h.1, mem_oRow.2 (.inr ⟨j, h.2, .inl rfl⟩)⟩
    | rel i j k => exact ⟨i, h.1, mem_oRow.2 (.inr ⟨j, h.2.1, .inr ⟨k, h.2.2, rfl⟩⟩)⟩

def Sorted (n : Nat) (l : List Op) : Prop := l.Pairwise fun a b => a.pl n ≤ b.pl n
theorem oRel_sorted (n i j : Nat) : ∀ k, Sorted n (oRel i j k) := by
  intro k
  induction k with
  | zero => exact List.Pairwise.nil
  | succ k ih =>
    refine List.pairwise_append.2 ⟨ih, List.pairwise_singleton _ _, ?_⟩
    intro a ha b hb
    obtain ⟨q, _, rfl⟩ := mem_oRel.1 ha
    simp at hb
    subst hb
    exact Nat.le_refl _
theorem oRow_sorted (n i : Nat) : ∀ j, Sorted n (oRow n i j) := by
  intro j
  induction j with
  | zero => exact List.pairwise_singleton _ _
  | succ j ih =>
    refine List.pairwise_append.2 ⟨ih, List.pairwise_cons.2 ⟨?_, oRel_sorted n i j n⟩, ?_⟩
    · intro a ha
      obtain ⟨q, _, rfl⟩ := mem_oRel.1 ha
      exact Nat.le_refl _
    · intro a ha b hb
      have h1 : a.pl n ≤ i * n + j := by
        rcases mem_oRow.1 ha with rfl | ⟨q, hq, rfl | ⟨k, hk, rfl⟩⟩ <;> simp [Op.pl] <;> omega
      have h2 : b.pl n = i * n + j := by
        rcases List.mem_cons.1 hb with rfl | hb
        · rfl
        · obtain ⟨q, _, rfl⟩ := mem_oRel.1 hb; rfl
      omega
theorem oRow_pl {n i j : Nat} {o : Op} (hj : j ≤ n) (h : o ∈ oRow n i j) : i * n ≤ o.pl n ∧ o.pl n ≤ i * n + n := by
  rcases mem_oRow.1 h with rfl | ⟨q, hq, rfl | ⟨k, hk, rfl⟩⟩ <;> simp [Op.pl] <;> omega
theorem oRnd_sorted (n : Nat) : ∀ i, Sorted n (oRnd n i) := by
  intro i
  induction i with
  | zero => exact List.Pairwise.nil
  | succ i ih =>
    refine List.pairwise_append.2 ⟨ih, oRow_sorted n i n, ?_⟩
    intro a ha b hb
    obtain ⟨p, hp, e⟩ := mem_oRnd.1 ha
    have h1 := (oRow_pl (Nat.le_refl n) e).2
    have h2 := (oRow_pl (Nat.le_refl n) hb).1
    have := Nat.mul_le_mul_right n (show p + 1 ≤ i from hp)
    rw [Nat.add_mul] at this
    omega

theorem app_le (g : Int → Int) (d : Mat) (o : Op) (p q : Nat) : leB (o.app g d p q) (d p q) := by
  unfold Op.app setM; split
  · rename_i h; rw [h.1, h.2]; exact minB_left _ _
  · exact leB_refl _
theorem app_val (g : Int → Int) (d : Mat) (o : Op) : leB (o.app g d o.r o.c) (o.val g d) := by
  unfold Op.app setM; rw [if_pos ⟨rfl, rfl⟩]; exact minB_right _ _
theorem runO_le (g : Int → Int) (d : Mat) (l : List Op) (p q : Nat) : leB (runO g d l p q) (d p q) := by
  induction l generalizing d with
  | nil => exact leB_refl _
  | cons o l ih => exact leB_trans (ih _) (app_le g d o p q)

theorem sumB_id (a b : Bd) : sumB id a b = addB a b := by cases a <;> cases b <;> rfl
theorem evenB_mono {a b : Bd} (h : leB a b) : leB (evenB a) (evenB b) := by
  cases a <;> cases b <;> simp [evenB, leB] at * <;> omega
theorem val_mono {d e : Mat} (h : ∀ p q, leB (d p q) (e p q)) (o : Op) : leB (o.val id d) (o.val id e) := by
  cases o with
  | tig i => exact evenB_mono (h _ _)
  | str i j => simp only [Op.val, sumB_id]; exact halfB_mono (addB_mono (h _ _) (h _ _))
  | rel i j k => simp only [Op.val, sumB_id]; exact addB_mono (h _ _) (h _ _)

/-! ## No point is lost -/

def SoundO (n : Nat) (z d : Mat) : Prop := ∀ x, OPt n z x → Pt n d x
theorem SoundO.app {g : Int → Int} {n : Nat} {z d : Mat} (hn : n % 2 = 0) (h : SoundO n z d) {o : Op} (ho : o.ok n) (e : o.val g d = o.val id d) : SoundO n z (o.app g d) := by
  intro x hx p q hp hq
  have H := h x hx
  have X := hx.2
  unfold Op.app setM
  split
  · rename_i c
    rw [c.1, c.2, e]
    refine okB_min (H _ _ (by rw [← c.1]; exact hp) (by rw [← c.2]; exact hq)) ?_
    cases o with
    | tig i =>
      have := H i (bar i) ho (bar_lt hn ho)
      have xi := X i
      simp only [Op.val, Op.r, Op.c]
      cases e : d i (bar i) <;> simp [e, okB, evenB] at * ; omega
    | str i j =>
      have h1 := H i (bar i) ho.1 (bar_lt hn ho.1)
      have h2 := H (bar j) j (bar_lt hn ho.2) ho.2
      have xi := X i
      have xj := X j
      simp only [Op.val, Op.r, Op.c, sumB_id]
      cases e1 : d i (bar i) <;> cases e2 : d (bar j) j <;> simp [e1, e2, okB, halfB, addB] at * ; omega
    | rel i j k =>
      have h1 := H i k ho.1 ho.2.2
      have h2 := H k j ho.2.2 ho.2.1
      simp only [Op.val, Op.r, Op.c, sumB_id]
      have := okB_add h1 h2
      rwa [show x k - x i + (x j - x k) = x j - x i by omega] at this
  · exact H p q hp hq

/-! ## How great numbers become in a round -/

def tabO : Nat → Nat → Nat
  | 0, j => if j = 0 then 1 else j + 1
  | 1, 0 => 2 | 1, 1 => 1 | 1, j => j + 3
  | 2, 0 => 3 | 2, 1 => 5 | 2, 2 => 1 | 2, j => j + 8
  | 3, 0 => 4 | 3, 1 => 6 | 3, 2 => 11 | 3, 3 => 1 | 3, j => j + 19
  | 4, 0 => 5 | 4, 1 => 7 | 4, 2 => 12 | 4, 3 => 23 | 4, 4 => 1 | 4, j => j + 42
  | 5, 0 => 6 | 5, 1 => 8 | 5, 2 => 13 | 5, 3 => 24 | 5, 4 => 47 | 5, 5 => 1 | 5, j => j + 89
  | 6, 0 => 7 | 6, 1 => 9 | 6, 2 => 14 | 6, 3 => 25 | 6, 4 => 48 | 6, 5 => 95 | 6, 6 => 1 | 6, _ => 191
  | 7, 0 => 8 | 7, 1 => 10 | 7, 2 => 15 | 7, 3 => 26 | 7, 4 => 49 | 7, 5 => 96 | 7, 6 => 191 | 7, _ => 1
  | _, _ => 1
theorem tabO_rel : ∀ i j k : Fin 8, (k.val = i.val ∨ k.val = j.val ∨ i.val = j.val) ∨ (if k.val < j.val then tabO i.val k.val else 1) + (if k.val < i.val then tabO k.val j.val else 1) ≤ tabO i.val j.val := by decide
theorem tabO_str : ∀ i j : Fin 8, (i.val = j.val ∨ j.val = bar i.val) ∨ (if bar i.val ≤ j.val then tabO i.val (bar i.val) else 1) + (if bar j.val < i.val then tabO (bar j.val) j.val else 1) ≤ 2 * tabO i.val j.val := by decide
theorem tabO_pos : ∀ i, i < 8 → ∀ j, j < 8 → 1 ≤ tabO i j := by decide
theorem tabO_le : ∀ i, i < 8 → ∀ j, j < 8 → tabO i j ≤ 191 := by decide

structure MgO (n m : Nat) (P : Nat) (d : Mat) : Prop where
  diag : ∀ i, i < n → d i i = some 0
  old : ∀ i j, i < n → j < n → P < i * n + j → ∀ v, d i j = some v → v.natAbs ≤ m
  new : ∀ i j, i < n → j < n → i * n + j ≤ P → ∀ v, d i j = some v → v.natAbs ≤ tabO i j * m

theorem MgO.more {n m P Q : Nat} {d : Mat} (hn : n ≤ 8) (h : MgO n m P d) (hPQ : P ≤ Q) : MgO n m Q d := by
  refine ⟨h.diag, fun i j hi hj hP => h.old i j hi hj (by omega), fun i j hi hj hP v hv => ?_⟩
  by_cases e : i * n + j ≤ P
  · exact h.new i j hi hj e v hv
  · have := h.old i j hi hj (by omega) v hv
    have t := tabO_pos i (by omega) j (by omega)
    exact Nat.le_trans this (Nat.le_mul_of_pos_left m t)
theorem MgO.all {n m P : Nat} {d : Mat} (hn : n ≤ 8) (h : MgO n m P d) {i j : Nat} (hi : i < n) (hj : j < n) {v : Int} (hv : d i j = some v) : v.natAbs ≤ 191 * m := by
  by_cases e : i * n + j ≤ P
  · exact Nat.le_trans (h.new i j hi hj e v hv) (Nat.mul_le_mul_right m (tabO_le i (by omega) j (by omega)))
  · have := h.old i j hi hj (by omega) v hv; omega
/-- What a cell is at most: new ones by the table. -/
theorem MgO.cell {n m P : Nat} {d : Mat} (hn : n ≤ 8) (h : MgO n m P d) {i j : Nat} (hi : i < n) (hj : j < n) {v : Int} (hv : d i j = some v) {t : Nat} (ht : (i * n + j ≤ P → tabO i j ≤ t) ∧ 1 ≤ t) : v.natAbs ≤ t * m := by
  by_cases e : i * n + j ≤ P
  · exact Nat.le_trans (h.new i j hi hj e v hv) (Nat.mul_le_mul_right m (ht.1 e))
  · have := h.old i j hi hj (by omega) v hv
    exact Nat.le_trans this (Nat.le_mul_of_pos_left m ht.2)

def NoWrapO (g : Int → Int) (m : Nat) : Prop := ∀ v : Int, v.natAbs ≤ 382 * m → g v = v
theorem MgO.val {g : Int → Int} {n m P : Nat} {d : Mat} (hn : n ≤ 8) (he : n % 2 = 0) (hg : NoWrapO g m) (h : MgO n m P d) {o : Op} (ho : o.ok n) : o.val g d = o.val id d := by
  cases o with
  | tig i => rfl
  | str i j =>
    simp only [Op.val, sumB_id]
    rw [sum_add]
    intro x y hx hy
    exact hg _ (by have := h.all hn ho.1 (bar_lt he ho.1) hx; have := h.all hn (bar_lt he ho.2) ho.2 hy; omega)
  | rel i j k =>
    simp only [Op.val, sumB_id]
    rw [sum_add]
    intro x y hx hy
    exact hg _ (by have := h.all hn ho.1 ho.2.2 hx; have := h.all hn ho.2.2 ho.2.1 hy; omega)

theorem pl_lt {n i j p q : Nat} (hj : j < n) (hq : q < n) : i * n + j ≤ p * n + q → i < p ∨ (i = p ∧ j ≤ q) := by
  intro h
  rcases Nat.lt_trichotomy i p with e | e | e
  · exact .inl e
  · subst e; exact .inr ⟨rfl, by omega⟩
  · have := Nat.mul_le_mul_right n (show p + 1 ≤ i from e)
    rw [Nat.add_mul] at this
    omega

theorem MgO.app {g : Int → Int} {n m : Nat} {d : Mat} (hn : n ≤ 8) (he : n % 2 = 0) (hm : m % 2 = 0) (hg : NoWrapO g m) {o : Op} (ho : o.ok n) (h : MgO n m (o.pl n) d) (hN : NoNeg n (o.app g d)) : MgO n m (o.pl n) (o.app g d) := by
  have hr : o.r < n ∧ o.c < n := by
    cases o with
    | tig i => exact ⟨ho, bar_lt he ho⟩
    | str i j => exact ho
    | rel i j k => exact ⟨ho.1, ho.2.1⟩
  have dg : ∀ p, p < n → o.app g d p p = some 0 := by
    intro p hp
    have h1 := app_le g d o p p
    rw [h.diag p hp] at h1
    exact leB_antisymm h1 (hN p hp)
  have oth : ∀ p q, ¬ (p = o.r ∧ q = o.c) → o.app g d p q = d p q := by
    intro p q hpq
    unfold Op.app setM
    rw [if_neg hpq]
  -- whatever bounds the cell, even, bounds what is put there
  have key : ∀ v, o.r ≠ o.c → o.app g d o.r o.c = some v → ∀ t, 1 ≤ t → (o.r * n + o.c ≤ o.pl n → tabO o.r o.c ≤ t) → (∀ i j, (o = .str i j ∨ ∃ k, o = .rel i j k) → tabO i j ≤ t) → v.natAbs ≤ t * m := by
    intro v hne hv t ht1 ht2 ht3
    have ev := h.val hn he hg ho
    unfold Op.app setM at hv
    rw [if_pos ⟨rfl, rfl⟩, ev] at hv
    rcases minB_cases (d o.r o.c) (o.val id d) with e | e
    · rw [e] at hv; exact h.cell hn hr.1 hr.2 hv ⟨ht2, ht1⟩
    · rw [e] at hv
      cases o with
      | tig i =>
        simp only [Op.val] at hv
        cases ha : d i (bar i) with
        | none => rw [ha] at hv; cases hv
        | some a =>
          have A := h.cell hn ho (bar_lt he ho) ha (t := t) ⟨ht2, ht1⟩
          rw [ha] at hv
          have hv' : 2 * (a / 2) = v := by simpa [evenB] using hv
          have par : (t * m) % 2 = 0 := by rw [Nat.mul_mod, hm]; simp
          omega
      | str i j =>
        simp only [Op.val, sumB_id] at hv
        cases ha : d i (bar i) with
        | none => rw [ha] at hv; cases hv
        | some a =>
          cases hb : d (bar j) j with
          | none => rw [ha, hb] at hv; cases hv
          | some b =>
            rw [ha, hb] at hv
            have hv' : (a + b) / 2 = v := by simpa [addB, halfB] using hv
            have hbi := bar_lt he ho.1
            have hbj := bar_lt he ho.2
            by_cases c : j = bar i
            · subst c
              rw [bar_bar] at hb
              rw [ha] at hb
              obtain rfl : a = b := by simpa using hb
              have A := h.cell hn ho.1 hbi ha (t := t) ⟨ht2, ht1⟩
              omega
            · have T := (tabO_str ⟨i, by have := ho.1; omega⟩ ⟨j, by have := ho.2; omega⟩).resolve_left (by
                rintro (h | h)
                · exact hne h
                · exact c h)
              simp only at T
              have A := h.cell hn ho.1 hbi ha (t := if bar i ≤ j then tabO i (bar i) else 1) ⟨fun hp => by
                rcases pl_lt hbi ho.2 hp with k | ⟨_, k⟩
                · omega
                · rw [if_pos k]; exact Nat.le_refl _, by
                split
                · exact tabO_pos i (by have := ho.1; omega) _ (by omega)
                · omega⟩
              have B := h.cell hn hbj ho.2 hb (t := if bar j < i then tabO (bar j) j else 1) ⟨fun hp => by
                rcases pl_lt ho.2 ho.2 hp with k | ⟨k, _⟩
                · rw [if_pos k]; exact Nat.le_refl _
                · exact absurd (show j = bar i by rw [← k, bar_bar]) c, by
                split
                · exact tabO_pos _ (by omega) j (by have := ho.2; omega)
                · omega⟩
              have T2 := ht3 i j (.inl rfl)
              have M := Nat.mul_le_mul_right m (Nat.le_trans T (Nat.mul_le_mul_left 2 T2))
              rw [Nat.add_mul, Nat.mul_assoc] at M
              omega
      | rel i j k =>
        simp only [Op.val, sumB_id] at hv
        simp only [Op.r, Op.c] at hne
        obtain ⟨hi, hj, hk⟩ := ho
        cases ha : d i k with
        | none => rw [ha] at hv; cases hv
        | some a =>
          cases hb : d k j with
          | none => rw [ha, hb] at hv; cases hv
          | some b =>
            rw [ha, hb] at hv
            have hv' : a + b = v := by simpa [addB] using hv
            by_cases k1 : k = i
            · subst k1
              rw [h.diag k hk] at ha
              obtain rfl : 0 = a := by simpa using ha
              have B := h.cell hn hk hj hb (t := t) ⟨ht2, ht1⟩
              omega
            · by_cases k2 : k = j
              · subst k2
                rw [h.diag k hk] at hb
                obtain rfl : 0 = b := by simpa using hb
                have A := h.cell hn hi hk ha (t := t) ⟨ht2, ht1⟩
                omega
              · have T := (tabO_rel ⟨i, by omega⟩ ⟨j, by omega⟩ ⟨k, by omega⟩).resolve_left (by
                  rintro (h | h | h)
                  · exact k1 h
                  · exact k2 h
                  · exact hne h)
                simp only at T
                have A := h.cell hn hi hk ha (t := if k < j then tabO i k else 1) ⟨fun hp => by
                  rcases pl_lt hk hj hp with q | ⟨_, q⟩
                  · omega
                  · rw [if_pos (by omega)]; exact Nat.le_refl _, by
                  split
                  · exact tabO_pos i (by omega) k (by omega)
                  · omega⟩
                have B := h.cell hn hk hj hb (t := if k < i then tabO k j else 1) ⟨fun hp => by
                  rcases pl_lt hj hj hp with q | ⟨q, _⟩
                  · rw [if_pos q]; exact Nat.le_refl _
                  · exact absurd q k1, by
                  split
                  · exact tabO_pos k (by omega) j (by omega)
                  · omega⟩
                have T2 := ht3 i j (.inr ⟨k, rfl⟩)
                have M := Nat.mul_le_mul_right m (Nat.le_trans T T2)
                rw [Nat.add_mul] at M
                omega
  refine ⟨dg, fun p q hp hq hP v hv => ?_, fun p q hp hq hP v hv => ?_⟩
  · by_cases e : p = o.r ∧ q = o.c
    · obtain ⟨rfl, rfl⟩ := e
      by_cases hij : o.r = o.c
      · have z := dg o.r hr.1
        rw [← hij] at hv
        rw [z] at hv
        obtain rfl : 0 = v := by simpa using hv
        simp
      · have := key v hij hv 1 (by omega) (fun hh => by omega) (by
          rintro i j (rfl | ⟨k, rfl⟩)
          · simp [Op.pl, Op.r, Op.c] at hP
          · simp [Op.pl, Op.r, Op.c] at hP)
        omega
    · rw [oth p q e] at hv; exact h.old p q hp hq hP v hv
  · by_cases e : p = o.r ∧ q = o.c
    · obtain ⟨rfl, rfl⟩ := e
      by_cases hij : o.r = o.c
      · have z := dg o.r hr.1
        rw [← hij] at hv
        rw [z] at hv
        obtain rfl : 0 = v := by simpa using hv
        simp
      · exact key v hij hv _ (tabO_pos _ (by omega) _ (by omega)) (fun _ => Nat.le_refl _) (by
          rintro i j (h | ⟨k, h⟩) <;> subst h <;> exact Nat.le_refl _)
    · rw [oth p q e] at hv; exact h.new p q hp hq hP v hv


/-! ## Rounds -/

/-- A whole list of rules: sizes, points, and what is come to. -/
theorem runO_keep {g : Int → Int} {n m : Nat} {z fin : Mat} (hn : n ≤ 8) (he : n % 2 = 0) (hm : m % 2 = 0) (hg : NoWrapO g m) (nn : ∀ d' : Mat, (∀ p q, leB (fin p q) (d' p q)) → SoundO n z d' → NoNeg n d') :
    ∀ (l : List Op) (P : Nat) (d : Mat), Sorted n l → (∀ o ∈ l, o.ok n ∧ P ≤ o.pl n) → MgO n m P d → SoundO n z d → (∀ p q, leB (fin p q) (runO g d l p q)) →
      (∃ Q, MgO n m Q (runO g d l)) ∧ SoundO n z (runO g d l) ∧ ∀ o ∈ l, leB (runO g d l o.r o.c) (o.val id d) := by
  intro l
  induction l with
  | nil => intro P d _ _ M S _; exact ⟨⟨P, M⟩, S, fun o ho => by cases ho⟩
  | cons o l ih =>
    intro P d hs hl M S hf
    obtain ⟨hs1, hs2⟩ := List.pairwise_cons.1 hs
    obtain ⟨ho, hP⟩ := hl o (List.mem_cons_self ..)
    have M1 := M.more hn hP
    have ev := M1.val hn he hg ho
    have S1 := S.app (g := g) he ho ev
    have N1 := nn (o.app g d) (fun p q => leB_trans (hf p q) (runO_le g _ l p q)) S1
    have M2 := M1.app hn he hm hg ho N1
    obtain ⟨Q, S3, C⟩ := ih (o.pl n) (o.app g d) hs2 (fun o' h' => ⟨(hl o' (List.mem_cons_of_mem _ h')).1, hs1 o' h'⟩) M2 S1 hf
    refine ⟨Q, S3, fun o' h' => ?_⟩
    rcases List.mem_cons.1 h' with rfl | h'
    · refine leB_trans (runO_le g _ l _ _) ?_
      rw [← ev]; exact app_val g d o'
    · exact leB_trans (C o' h') (val_mono (app_le g d o) o')

def rO (g : Int → Int) (n : Nat) (d : Mat) : Nat → Mat
  | 0 => d
  | t + 1 => runO g (rO g n d t) (oRnd n n)
theorem rO_le (g : Int → Int) (n : Nat) (d : Mat) {s t : Nat} (h : s ≤ t) (p q : Nat) : leB (rO g n d t p q) (rO g n d s p q) := by
  induction t with
  | zero =>
    obtain rfl : s = 0 := by omega
    exact leB_refl _
  | succ t ih =>
    by_cases e : s = t + 1
    · subst e; exact leB_refl _
    · exact leB_trans (runO_le g _ _ p q) (ih (by omega))

theorem sat_nn {n : Nat} {z d : Mat} (hs : ∃ x, OPt n z x) (S : SoundO n z d) : NoNeg n d := by
  obtain ⟨x, hx⟩ := hs
  exact nn_of_pt (S x hx)

/-- What rounds come to, as long as no cell of the diagonal is below 0 or there is a point. -/
theorem rounds_keep {g : Int → Int} {n m : Nat} {c d : Mat} (hn : n ≤ 8) (he : n % 2 = 0) (hm : m % 2 = 0) (T : Nat) (hg : ∀ v : Int, v.natAbs ≤ 2 * (191 ^ T * m) → g v = v) (M : MgO n m 0 d) (S : SoundO n c d) (H : NoNeg n (rO g n d T) ∨ ∃ x, OPt n c x) :
    ∀ t, t ≤ T → MgO n (191 ^ t * m) 0 (rO g n d t) ∧ SoundO n c (rO g n d t) ∧ ∀ s, s < t → ∀ o : Op, o.ok n → leB (rO g n d (s + 1) o.r o.c) (o.val id (rO g n d s)) := by
  intro t
  induction t with
  | zero => intro _; exact ⟨by rw [Nat.pow_zero, Nat.one_mul]; exact M, S, fun s h => by omega⟩
  | succ t ih =>
    intro ht
    obtain ⟨M1, S1, C1⟩ := ih (by omega)
    have p1 : 191 ^ (t + 1) * m = 191 * (191 ^ t * m) := by rw [Nat.pow_succ, Nat.mul_comm (191 ^ t) 191, Nat.mul_assoc]
    have hg' : NoWrapO g (191 ^ t * m) := by
      intro v hv
      apply hg
      have : 191 ^ (t + 1) ≤ 191 ^ T := Nat.pow_le_pow_right (by omega) ht
      have := Nat.mul_le_mul_right m this
      omega
    have hm' : (191 ^ t * m) % 2 = 0 := by rw [Nat.mul_mod, hm]; simp
    obtain ⟨⟨Q, M2⟩, S2, C2⟩ := runO_keep (z := c) (fin := rO g n d (t + 1)) hn he hm' hg' (fun d' hd S' => by
      rcases H with H | H
      · exact (H.mono fun i _ => leB_trans (rO_le g n d ht i i) (hd i i))
      · exact sat_nn H S') (oRnd n n) 0 (rO g n d t) (oRnd_sorted n n) (fun o ho => ⟨all_ops.1 ho, Nat.zero_le _⟩) M1 S1 (fun _ _ => leB_refl _)
    refine ⟨?_, S2, ?_⟩
    · rw [p1]
      refine ⟨M2.diag, fun i j hi hj _ v hv => M2.all hn hi hj hv, fun i j hi hj _ v hv => ?_⟩
      exact Nat.le_trans (M2.all hn hi hj hv) (Nat.le_mul_of_pos_left _ (tabO_pos i (by omega) j (by omega)))
    · intro s hs o ho
      by_cases e : s = t
      · subst e; exact C2 o (all_ops.2 ho)
      · exact C1 s (by omega) o ho

/-! ## Ways -/

/-- The bound of a way. -/
def wt (c : Mat) : Nat → List Nat → Bd
  | _, [] => some 0
  | i, v :: l => addB (c i v) (wt c v l)
def endW : Nat → List Nat → Nat
  | i, [] => i
  | _, v :: l => endW v l
theorem zero_addB (a : Bd) : addB (some 0) a = a := by cases a <;> simp [addB]
theorem addB_zero (a : Bd) : addB a (some 0) = a := by cases a <;> simp [addB]
theorem wt_append (c : Mat) (i : Nat) (a b : List Nat) : wt c i (a ++ b) = addB (wt c i a) (wt c (endW i a) b) := by
  induction a generalizing i with
  | nil => rw [show wt c i [] = some 0 from rfl, zero_addB]; rfl
  | cons v a ih =>
    show addB (c i v) (wt c v (a ++ b)) = _
    rw [ih, ← addB_assoc]; rfl
theorem endW_append (i : Nat) (a b : List Nat) : endW i (a ++ b) = endW (endW i a) b := by
  induction a generalizing i with
  | nil => rfl
  | cons v a ih => exact ih v
theorem endW_lt {n i : Nat} {l : List Nat} (hi : i < n) (hl : ∀ v ∈ l, v < n) : endW i l < n := by
  induction l generalizing i with
  | nil => exact hi
  | cons v l ih => exact ih (hl v (List.mem_cons_self ..)) fun u hu => hl u (List.mem_cons_of_mem _ hu)

/-- Each way of at most m steps has no less than the bound. -/
def Cov (n : Nat) (c d : Mat) (m : Nat) : Prop := ∀ i l, i < n → (∀ v ∈ l, v < n) → l.length ≤ m → leB (d i (endW i l)) (wt c i l)
theorem Cov.start (n : Nat) (c : Mat) : Cov n (start c) (start c) 1 := by
  intro i l hi hl h
  cases l with
  | nil => exact start_diag c i
  | cons v l =>
    cases l with
    | nil => show leB _ (addB _ (some 0)); rw [addB_zero]; exact leB_refl _
    | cons u l => simp at h
theorem Cov.twice {n : Nat} {c d e : Mat} {m : Nat} (h : Cov n c d m) (k : ∀ i j k, i < n → j < n → k < n → leB (e i j) (addB (d i k) (d k j))) : Cov n c e (m + m) := by
  intro i l hi hl hm
  have e1 : l = l.take m ++ l.drop m := (List.take_append_drop m l).symm
  have h1 : ∀ v ∈ l.take m, v < n := fun v hv => hl v (List.mem_of_mem_take hv)
  have h2 : ∀ v ∈ l.drop m, v < n := fun v hv => hl v (List.mem_of_mem_drop hv)
  have u := endW_lt hi h1
  rw [e1, wt_append, endW_append]
  refine leB_trans (k i _ (endW i (l.take m)) hi (endW_lt u h2) u) (addB_mono ?_ ?_)
  · exact h i _ hi h1 (by rw [List.length_take]; omega)
  · exact h _ _ u h2 (by rw [List.length_drop]; omega)

theorem nodup_few : ∀ (n : Nat) (l : List Nat), l.Pairwise (· ≠ ·) → (∀ v ∈ l, v < n) → l.length ≤ n := by
  intro n
  induction n with
  | zero =>
    intro l _ h
    cases l with
    | nil => simp
    | cons v l => have := h v (List.mem_cons_self ..); omega
  | succ n ih =>
    intro l hp h
    by_cases e : n ∈ l
    · obtain ⟨a, b, rfl⟩ := List.append_of_mem e
      obtain ⟨p1, p2, p3⟩ := List.pairwise_append.1 hp
      obtain ⟨p4, p5⟩ := List.pairwise_cons.1 p2
      have := ih (a ++ b) (List.pairwise_append.2 ⟨p1, p5, fun x hx y hy => p3 x hx y (List.mem_cons_of_mem _ hy)⟩) (by
        intro v hv
        have hlt : v < n + 1 := h v (by rcases List.mem_append.1 hv with k | k; exact List.mem_append.2 (.inl k); exact List.mem_append.2 (.inr (List.mem_cons_of_mem _ k)))
        have hne : v ≠ n := by
          rcases List.mem_append.1 hv with k | k
          · exact p3 v k n (List.mem_cons_self ..)
          · exact fun e => p4 v k e.symm
        omega)
      simp at this ⊢
      omega
    · have := ih l hp fun v hv => by
        have h1 := h v hv
        have h2 : v ≠ n := fun k => e (k ▸ hv)
        omega
      omega
theorem twice_of : ∀ l : List Nat, ¬ l.Pairwise (· ≠ ·) → ∃ a u b d, l = a ++ u :: (b ++ u :: d) := by
  intro l
  induction l with
  | nil => intro h; exact absurd List.Pairwise.nil h
  | cons v l ih =>
    intro h
    by_cases e : v ∈ l
    · obtain ⟨b, d, rfl⟩ := List.append_of_mem e
      exact ⟨[], v, b, d, rfl⟩
    · have : ¬ l.Pairwise (· ≠ ·) := fun k => h (List.pairwise_cons.2 ⟨fun u hu hv => e (hv ▸ hu), k⟩)
      obtain ⟨a, u, b, d, rfl⟩ := ih this
      exact ⟨v :: a, u, b, d, rfl⟩

/-- A long way comes twice to one place. -/
theorem long_way {n i : Nat} {l : List Nat} (hi : i < n) (hl : ∀ v ∈ l, v < n) (h : n ≤ l.length) : ∃ a b d, l = a ++ (b ++ d) ∧ 1 ≤ b.length ∧ b.length ≤ n ∧ endW (endW i a) b = endW i a := by
  have hp : ¬ (i :: l.take n).Pairwise (· ≠ ·) := by
    intro k
    have := nodup_few n _ k (by
      intro v hv
      rcases List.mem_cons.1 hv with rfl | hv
      · exact hi
      · exact hl v (List.mem_of_mem_take hv))
    rw [List.length_cons, List.length_take] at this
    omega
  obtain ⟨a, u, b, d, e⟩ := twice_of _ hp
  have hlen : (l.take n).length ≤ n := by rw [List.length_take]; omega
  have e0 : l = l.take n ++ l.drop n := (List.take_append_drop n l).symm
  cases a with
  | nil =>
    simp at e
    obtain ⟨rfl, e2⟩ := e
    refine ⟨[], b ++ [i], d ++ l.drop n, ?_, by simp, ?_, ?_⟩
    · rw [List.nil_append]
      conv => lhs; rw [e0, e2]
      simp
    · rw [e2] at hlen; simp at hlen ⊢; omega
    · rw [endW_append]; rfl
  | cons x a =>
    simp at e
    obtain ⟨rfl, e2⟩ := e
    refine ⟨a ++ [u], b ++ [u], d ++ l.drop n, ?_, by simp, ?_, ?_⟩
    · conv => lhs; rw [e0, e2]
      simp
    · rw [e2] at hlen; simp at hlen ⊢; omega
    · rw [endW_append, endW_append]; rfl

/-- Where no way round is below 0, short ways are enough. -/
theorem Cov.any {n : Nat} {c d : Mat} (h : Cov n c d n) (hN : NoNeg n d) : ∀ m, Cov n c d m := by
  intro m
  induction m with
  | zero => intro i l hi hl hm; exact h i l hi hl (by omega)
  | succ m ih =>
    intro i l hi hl hm
    by_cases k : l.length ≤ n
    · exact h i l hi hl k
    · obtain ⟨a, b, f, e, b1, b2, b3⟩ := long_way hi hl (by omega)
      have ha : ∀ v ∈ a, v < n := fun v hv => hl v (by rw [e]; exact List.mem_append.2 (.inl hv))
      have hb : ∀ v ∈ b, v < n := fun v hv => hl v (by rw [e]; exact List.mem_append.2 (.inr (List.mem_append.2 (.inl hv))))
      have hf : ∀ v ∈ f, v < n := fun v hv => hl v (by rw [e]; exact List.mem_append.2 (.inr (List.mem_append.2 (.inr hv))))
      have u := endW_lt hi ha
      have z := h _ b u hb b2
      rw [b3] at z
      have z0 := leB_trans (hN _ u) z
      have s := ih i (a ++ f) hi (by
        intro v hv
        rcases List.mem_append.1 hv with q | q
        · exact ha v q
        · exact hf v q) (by rw [e] at hm; simp at hm ⊢; omega)
      rw [wt_append, endW_append] at s
      rw [e, wt_append, wt_append, endW_append, endW_append, b3]
      refine leB_trans s (addB_mono (leB_refl _) ?_)
      have := addB_mono z0 (leB_refl (wt c (endW i a) f))
      rwa [zero_addB] at this

/-- What FLOYD and WARSHALL tell is a way's. -/
theorem fw_way {n : Nat} {c : Mat} : ∀ t, t ≤ n → ∀ i j, i < n → j < n → fw c t i j = none ∨ ∃ l, (∀ v ∈ l, v < n) ∧ endW i l = j ∧ wt (start c) i l = fw c t i j := by
  intro t
  induction t with
  | zero =>
    intro _ i j hi hj
    exact .inr ⟨[j], by simp; exact hj, rfl, by show addB _ (some 0) = _; rw [addB_zero]; rfl⟩
  | succ t ih =>
    intro ht i j hi hj
    have I := ih (by omega)
    show minB (fw c t i j) (addB (fw c t i t) (fw c t t j)) = none ∨ _
    rcases minB_cases (fw c t i j) (addB (fw c t i t) (fw c t t j)) with e | e
    · rcases I i j hi hj with h | ⟨l, h1, h2, h3⟩
      · left; rw [e]; exact h
      · right; exact ⟨l, h1, h2, by rw [h3]; exact e.symm⟩
    · rcases I i t hi (by omega) with h | ⟨l, h1, h2, h3⟩
      · left; rw [e, h]; rfl
      · rcases I t j (by omega) hj with k | ⟨q, k1, k2, k3⟩
        · left; rw [e, k]; cases fw c t i t <;> rfl
        · right
          refine ⟨l ++ q, ?_, by rw [endW_append, h2, k2], ?_⟩
          · intro v hv
            rcases List.mem_append.1 hv with x | x
            · exact h1 v x
            · exact k1 v x
          · rw [wt_append, h2, h3, k3]; exact e.symm
theorem Cov.fw {n : Nat} {c d : Mat} (h : ∀ m, Cov n (Go.Proofs.YtbafkjhlogkllaaGreatDoor.start c) d m) {i j : Nat} (hi : i < n) (hj : j < n) : leB (d i j) (Go.Proofs.YtbafkjhlogkllaaGreatDoor.fw c n i j) := by
  rcases fw_way (c := c) n (Nat.le_refl n) i j hi hj with e | ⟨l, h1, h2, h3⟩
  · rw [e]; cases d i j <;> trivial
  · have := h l.length i l hi h1 (Nat.le_refl _)
    rwa [h2, h3] at this

/-! ## What the reference comes to -/

theorem top_even (a b : Bd) : halfB (addB (evenB a) (evenB b)) = addB (halfB a) (halfB b) := by
  cases a <;> cases b <;> simp [halfB, evenB, addB]; omega
/-- At most shortest ways, tops put together: at most the tight square. -/
theorem le_tg {n : Nat} (he : n % 2 = 0) {c d : Mat} (h1 : ∀ i j, i < n → j < n → leB (d i j) (fw c n i j)) (h2 : ∀ i j, i < n → j < n → leB (d i j) (halfB (addB (evenB (fw c n i (bar i))) (evenB (fw c n (bar j) j))))) : ∀ i j, i < n → j < n → leB (d i j) (tg n c i j) := by
  intro i j hi hj
  by_cases hN : NoNeg n (fw c n)
  · rw [tg_yes hN]
    refine le_minB (h1 i j hi hj) ?_
    have := h2 i j hi hj
    rw [top_even] at this
    unfold topB
    rw [bar_bar]
    exact this
  · rw [tg_no hN]; exact h1 i j hi hj

theorem start_mg {n m : Nat} {c : Mat} (hn : n ≤ 8) (hc : ∀ i j, i < n → j < n → ∀ v, c i j = some v → v.natAbs ≤ m) (hN : NoNeg n (start c)) : MgO n m 0 (start c) := by
  have dg : ∀ i, i < n → start c i i = some 0 := fun i hi => leB_antisymm (start_diag c i) (hN i hi)
  have cell : ∀ i j, i < n → j < n → ∀ v, start c i j = some v → v.natAbs ≤ m := by
    intro i j hi hj v hv
    by_cases e : i = j
    · subst e
      rw [dg i hi] at hv
      obtain rfl : 0 = v := by simpa using hv
      simp
    · unfold start at hv; rw [if_neg e] at hv
      exact hc i j hi hj v hv
  refine ⟨dg, fun i j hi hj _ => cell i j hi hj, fun i j hi hj _ v hv => ?_⟩
  exact Nat.le_trans (cell i j hi hj v hv) (Nat.le_mul_of_pos_left _ (tabO_pos i (by omega) j (by omega)))

/-- What is asked of the numbers at the beginning. -/
structure BegO (g : Int → Int) (n m : Nat) (c : Mat) : Prop where
  hn : n ≤ 8
  he : n % 2 = 0
  hm : m % 2 = 0
  coh : Coh n c
  hg : ∀ v : Int, v.natAbs ≤ 2 * (191 ^ 5 * m) → g v = v
  hc : ∀ i j, i < n → j < n → ∀ v, c i j = some v → v.natAbs ≤ m

theorem BegO.sound {g : Int → Int} {n m : Nat} {c : Mat} (B : BegO g n m c) : SoundO n c (start c) := fun x hx => start_pt.2 hx.1
theorem BegO.keep {g : Int → Int} {n m : Nat} {c : Mat} (B : BegO g n m c) {T : Nat} (hT : T ≤ 5) (H : NoNeg n (rO g n (start c) T) ∨ ∃ x, OPt n c x) :
    MgO n (191 ^ T * m) 0 (rO g n (start c) T) ∧ SoundO n c (rO g n (start c) T) ∧ ∀ s, s < T → ∀ o : Op, o.ok n → leB (rO g n (start c) (s + 1) o.r o.c) (o.val id (rO g n (start c) s)) := by
  have N0 : NoNeg n (start c) := by
    rcases H with H | H
    · exact H.mono fun i _ => rO_le g n (start c) (Nat.zero_le T) i i
    · exact sat_nn H B.sound
  exact rounds_keep B.hn B.he B.hm T (fun v hv => B.hg v (by
    have : 191 ^ T ≤ 191 ^ 5 := Nat.pow_le_pow_right (by omega) hT
    have := Nat.mul_le_mul_right m this
    omega)) (start_mg B.hn B.hc N0) B.sound H T (Nat.le_refl _)

/-- Five rounds are enough. -/
theorem BegO.five {g : Int → Int} {n m : Nat} {c : Mat} (B : BegO g n m c) (H : NoNeg n (rO g n (start c) 5) ∨ ∃ x, OPt n c x) : ∀ i j, i < n → j < n → leB (rO g n (start c) 5 i j) (tg n c i j) := by
  obtain ⟨M, S, C⟩ := B.keep (Nat.le_refl 5) H
  have N5 : NoNeg n (rO g n (start c) 5) := by
    rcases H with H | H
    · exact H
    · exact sat_nn H S
  have tri : ∀ s, s < 5 → ∀ i j k, i < n → j < n → k < n → leB (rO g n (start c) (s + 1) i j) (addB (rO g n (start c) s i k) (rO g n (start c) s k j)) := by
    intro s hs i j k hi hj hk
    have := C s hs (.rel i j k) ⟨hi, hj, hk⟩
    simpa only [Op.val, sumB_id, Op.r, Op.c] using this
  have c0 := Cov.start n c
  have c1 : Cov n (start c) (rO g n (start c) 1) 2 := c0.twice (tri 0 (by omega))
  have c2 : Cov n (start c) (rO g n (start c) 2) 4 := c1.twice (tri 1 (by omega))
  have c3 : Cov n (start c) (rO g n (start c) 3) 8 := c2.twice (tri 2 (by omega))
  have N3 : NoNeg n (rO g n (start c) 3) := N5.mono fun i _ => rO_le g n (start c) (by omega) i i
  have c3' : Cov n (start c) (rO g n (start c) 3) n := fun i l hi hl h => c3 i l hi hl (Nat.le_trans h B.hn)
  have f3 : ∀ i j, i < n → j < n → leB (rO g n (start c) 3 i j) (fw c n i j) := fun i j hi hj => Cov.fw (c3'.any N3) hi hj
  have f4 : ∀ i, i < n → leB (rO g n (start c) 4 i (bar i)) (evenB (fw c n i (bar i))) := fun i hi =>
    leB_trans (C 3 (by omega) (.tig i) hi) (evenB_mono (f3 i (bar i) hi (bar_lt B.he hi)))
  refine le_tg B.he (fun i j hi hj => leB_trans (rO_le g n (start c) (by omega : 3 ≤ 5) i j) (f3 i j hi hj)) fun i j hi hj => ?_
  have := C 4 (by omega) (.str i j) ⟨hi, hj⟩
  simp only [Op.val, sumB_id, Op.r, Op.c] at this
  refine leB_trans this (halfB_mono (addB_mono (f4 i hi) ?_))
  have := f4 (bar j) (bar_lt B.he hj)
  rwa [bar_bar] at this

theorem tg_le {n : Nat} (he : n % 2 = 0) {c d : Mat} (hc : Coh n c) (hs : ∃ x, OPt n c x) (S : SoundO n c d) {i j : Nat} (hi : i < n) (hj : j < n) : leB (tg n c i j) (d i j) :=
  (tg_tight he hc ((tg_some he hc).1 hs)).least hi hj fun y hy => S y ((tg_pt he).1 hy) i j hi hj
theorem BegO.sat {g : Int → Int} {n m : Nat} {c : Mat} (B : BegO g n m c) (hs : ∃ x, OPt n c x) : ∀ i j, i < n → j < n → rO g n (start c) 5 i j = tg n c i j := fun i j hi hj =>
  leB_antisymm (B.five (.inr hs) i j hi hj) (tg_le B.he B.coh hs (B.keep (Nat.le_refl 5) (.inr hs)).2.1 hi hj)

/-- Nothing changes any more. -/
theorem stable {g : Int → Int} {n : Nat} {d : Mat} (he : n % 2 = 0) : ∀ (l : List Op), (∀ o ∈ l, o.ok n) → (∀ o : Op, o.ok n → leB (d o.r o.c) (o.val g d)) → runO g d l = d := by
  intro l
  induction l with
  | nil => intro _ _; rfl
  | cons o l ih =>
    intro hl h
    have e : o.app g d = d := by
      funext p q
      unfold Op.app setM
      split
      · rename_i k
        rw [k.1, k.2]
        exact leB_antisymm (minB_left _ _) (le_minB (leB_refl _) (h o (hl o (List.mem_cons_self ..))))
      · rfl
    show runO g (o.app g d) l = d
    rw [e]
    exact ih (fun o' h' => hl o' (List.mem_cons_of_mem _ h')) h
theorem BegO.rest {g : Int → Int} {n m : Nat} {c : Mat} (B : BegO g n m c) (hs : ∃ x, OPt n c x) (l : List Op) (hl : ∀ o ∈ l, o.ok n) : runO g (rO g n (start c) 5) l = rO g n (start c) 5 := by
  obtain ⟨M, S, C⟩ := B.keep (Nat.le_refl 5) (.inr hs)
  have E := B.sat hs
  have tt := tg_tight B.he B.coh ((tg_some B.he B.coh).1 hs)
  refine stable B.he l hl fun o ho => ?_
  have ev : o.val g (rO g n (start c) 5) = o.val id (rO g n (start c) 5) := by
    have sz : ∀ i j, i < n → j < n → ∀ v, rO g n (start c) 5 i j = some v → v.natAbs ≤ 191 ^ 5 * m := by
      intro i j hi hj v hv
      by_cases z : 0 < i * n + j
      · exact M.old i j hi hj z v hv
      · obtain rfl : j = 0 := by omega
        have : i = 0 := by
          rcases Nat.eq_zero_or_pos i with q | q
          · exact q
          · have := Nat.mul_le_mul q (show 1 ≤ n by omega); omega
        subst this
        rw [M.diag 0 hi] at hv
        obtain rfl : 0 = v := by simpa using hv
        simp
    cases o with
    | tig i => rfl
    | str i j =>
      simp only [Op.val, sumB_id]
      rw [sum_add]
      intro x y hx hy
      exact B.hg _ (by have := sz _ _ ho.1 (bar_lt B.he ho.1) x hx; have := sz _ _ (bar_lt B.he ho.2) ho.2 y hy; omega)
    | rel i j k =>
      simp only [Op.val, sumB_id]
      rw [sum_add]
      intro x y hx hy
      exact B.hg _ (by have := sz _ _ ho.1 ho.2.2 x hx; have := sz _ _ ho.2.2 ho.2.1 y hy; omega)
  rw [ev]
  cases o with
  | tig i =>
    simp only [Op.val, Op.r, Op.c]
    rw [E i (bar i) ho (bar_lt B.he ho)]
    cases e : tg n c i (bar i) with
    | none => trivial
    | some v =>
      have := tt.par (bar i) v (bar_lt B.he ho) (by rw [bar_bar]; exact e)
      simp [evenB, leB]; omega
  | str i j =>
    simp only [Op.val, Op.r, Op.c, sumB_id]
    have hbi := bar_lt B.he ho.1
    have hbj := bar_lt B.he ho.2
    rw [E i j ho.1 ho.2, E i (bar i) ho.1 hbi, E (bar j) j hbj ho.2]
    have s := tt.str i j ho.1 ho.2
    have t1 := tt.topOk hbi
    rw [bar_bar] at t1
    rw [t1, tt.topOk ho.2]
    refine leB_trans s ?_
    cases topB (tg n c) (bar i) <;> cases topB (tg n c) j <;> simp [addB, halfB, leB]; omega
  | rel i j k =>
    simp only [Op.val, Op.r, Op.c, sumB_id]
    rw [E i j ho.1 ho.2.1, E i k ho.1 ho.2.2, E k j ho.2.2 ho.2.1]
    exact tt.clo.tri i j k ho.1 ho.2.1 ho.2.2

/-- Where there is a point no cell of the diagonal ever is below 0. -/
theorem BegO.never {g : Int → Int} {n m : Nat} {c : Mat} (B : BegO g n m c) (hs : ∃ x, OPt n c x) {t : Nat} (ht : t ≤ 5) {l l' : List Op} (hl : oRnd n n = l ++ l') : NoNeg n (runO g (rO g n (start c) t) l) := by
  have hok : ∀ o ∈ l, o.ok n := fun o ho => all_ops.1 (by rw [hl]; exact List.mem_append.2 (.inl ho))
  by_cases e : t = 5
  · subst e
    rw [B.rest hs l hok]
    exact sat_nn hs (B.keep (Nat.le_refl 5) (.inr hs)).2.1
  · have S := (B.keep (T := t + 1) (by omega) (.inr hs)).2.1
    have N := sat_nn hs S
    refine N.mono fun i _ => ?_
    show leB (runO g (rO g n (start c) t) (oRnd n n) i i) _
    rw [hl, runO_append]
    exact runO_le g _ l' i i

theorem fixed_val {g : Int → Int} {d : Mat} : ∀ (l : List Op), (∀ p q, leB (d p q) (runO g d l p q)) → ∀ o ∈ l, leB (d o.r o.c) (o.val g d) := by
  intro l
  induction l with
  | nil => intro _ o ho; cases ho
  | cons o l ih =>
    intro h o' ho'
    have e : o.app g d = d := by
      funext p q
      exact leB_antisymm (app_le g d o p q) (leB_trans (h p q) (runO_le g _ l p q))
    rcases List.mem_cons.1 ho' with rfl | ho'
    · have := app_val g d o'
      rwa [e] at this
    · refine ih (fun p q => ?_) o' ho'
      have := h p q
      show leB _ _
      have k : runO g d (o :: l) = runO g d l := by show runO g (o.app g d) l = _; rw [e]
      rwa [k] at this

theorem runO_out {g : Int → Int} {n : Nat} (he : n % 2 = 0) {p q : Nat} (h : ¬ (p < n ∧ q < n)) : ∀ (l : List Op) (d : Mat), (∀ o ∈ l, o.ok n) → runO g d l p q = d p q := by
  intro l
  induction l with
  | nil => intro d _; rfl
  | cons o l ih =>
    intro d hl
    have ho := hl o (List.mem_cons_self ..)
    refine (ih (o.app g d) fun o' h' => hl o' (List.mem_cons_of_mem _ h')).trans ?_
    unfold Op.app setM
    rw [if_neg]
    rintro ⟨rfl, rfl⟩
    apply h
    cases o with
    | tig i => exact ⟨ho, bar_lt he ho⟩
    | str i j => exact ho
    | rel i j k => exact ⟨ho.1, ho.2.1⟩
/-- Where nothing changed, and no cell of the diagonal is below 0, that is the tight square. -/
theorem BegO.done {g : Int → Int} {n m : Nat} {c : Mat} (B : BegO g n m c) {t : Nat} (ht : t ≤ 5) (hN : NoNeg n (rO g n (start c) t)) (hf' : ∀ p q, p < n → q < n → leB (rO g n (start c) t p q) (rO g n (start c) (t + 1) p q)) : (∃ x, OPt n c x) ∧ ∀ i j, i < n → j < n → rO g n (start c) t i j = tg n c i j := by
  have hf : ∀ p q, leB (rO g n (start c) t p q) (rO g n (start c) (t + 1) p q) := by
    intro p q
    by_cases k : p < n ∧ q < n
    · exact hf' p q k.1 k.2
    · rw [show rO g n (start c) (t + 1) p q = rO g n (start c) t p q from runO_out B.he k _ _ fun o ho => all_ops.1 ho]
      exact leB_refl _
  have same : ∀ s, rO g n (start c) (t + s) = rO g n (start c) t := by
    have e1 : rO g n (start c) (t + 1) = rO g n (start c) t := by
      funext p q; exact leB_antisymm (rO_le g n (start c) (Nat.le_succ t) p q) (hf p q)
    intro s
    induction s with
    | zero => rfl
    | succ s ih =>
      show runO g (rO g n (start c) (t + s)) (oRnd n n) = _
      rw [ih]; exact e1
  have e5 : rO g n (start c) 5 = rO g n (start c) t := by have := same (5 - t); rwa [show t + (5 - t) = 5 by omega] at this
  have L : ∀ i j, i < n → j < n → leB (rO g n (start c) t i j) (tg n c i j) := by
    have := B.five (.inl (by rw [e5]; exact hN))
    rwa [e5] at this
  have NT : NoNeg n (tg n c) := hN.mono fun i hi => L i i hi hi
  have hs := (tg_some B.he B.coh).2 NT
  refine ⟨hs, ?_⟩
  have := B.sat hs
  rwa [e5] at this

/-- The sixth round changes nothing, if it is come to its end. -/
theorem BegO.sixth {g : Int → Int} {n m : Nat} {c : Mat} (B : BegO g n m c) (hN : NoNeg n (rO g n (start c) 5)) : runO g (rO g n (start c) 5) (oRnd n n) = rO g n (start c) 5 := by
  have NT : NoNeg n (tg n c) := hN.mono fun i hi => B.five (.inl hN) i i hi hi
  exact B.rest ((tg_some B.he B.coh).2 NT) _ fun o ho => all_ops.1 ho

end Go.Proofs.YtbafkjhlogkllaaGreatDoor
