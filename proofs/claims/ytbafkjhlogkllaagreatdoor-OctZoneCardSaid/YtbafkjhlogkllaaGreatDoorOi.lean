/- Zones and octagons: closing a square of which each cell is told or lacks but one step: one round is enough. Plain facts. -/
import Derived.Test.YtbafkjhlogkllaaGreatDoorOh
namespace Go.Proofs.YtbafkjhlogkllaaGreatDoor
set_option linter.unusedVariables false

/-- What is come to: nothing can be lowered by any rule. -/
structure Fin0 (g : Int → Int) (n m : Nat) (S F : Mat) : Prop where
  sz : ∀ p q, p < n → q < n → ∀ v, F p q = some v → v.natAbs ≤ m
  hg : ∀ v : Int, v.natAbs ≤ 4 * m → g v = v
  diag : ∀ i, i < n → F i i = some 0
  sdiag : ∀ i, i < n → S i i = some 0
  par : ∀ p q, p < n → q < n → S p q = none ∨ S p q = F p q

/-- The indices that a rule reads and lowers. -/
def Op.in (n : Nat) : Op → Prop
  | .tig i => i < n ∧ bar i < n
  | .str i j => i < n ∧ j < n ∧ bar i < n ∧ bar j < n
  | .rel i j k => i < n ∧ j < n ∧ k < n
def Op.isT : Op → Prop
  | .tig _ => True
  | _ => False
theorem val_mono' {n : Nat} {d e : Mat} (h : ∀ p q, p < n → q < n → leB (d p q) (e p q)) {o : Op} (ho : o.in n) : leB (o.val id d) (o.val id e) := by
  cases o with
  | tig i => exact evenB_mono (h _ _ ho.1 ho.2)
  | str i j => simp only [Op.val, sumB_id]; exact halfB_mono (addB_mono (h _ _ ho.1 ho.2.2.1) (h _ _ ho.2.2.2 ho.2.1))
  | rel i j k => simp only [Op.val, sumB_id]; exact addB_mono (h _ _ ho.1 ho.2.2) (h _ _ ho.2.2 ho.2.1)

/-- Each cell is none or what is come to. -/
structure PF (n : Nat) (S F d : Mat) : Prop where
  par : ∀ p q, p < n → q < n → d p q = none ∨ d p q = F p q
  low : ∀ p q, p < n → q < n → leB (F p q) (d p q)
  up : ∀ p q, p < n → q < n → leB (d p q) (S p q)
/-- Likewise, but at one place. -/
structure Cur (n m : Nat) (S F d : Mat) (i j : Nat) : Prop where
  par : ∀ p q, p < n → q < n → ¬ (p = i ∧ q = j) → d p q = none ∨ d p q = F p q
  low : ∀ p q, p < n → q < n → leB (F p q) (d p q)
  up : ∀ p q, p < n → q < n → leB (d p q) (S p q)
  sz : ∀ v, d i j = some v → v.natAbs ≤ 2 * m

/-- What is asked of the square that is come to. -/
def Fix (n : Nat) (F : Mat) (o : Op) : Prop := leB (F o.r o.c) (o.val id F)

theorem Cur.step {g : Int → Int} {n m : Nat} {S F d : Mat} (f : Fin0 g n m S F) {i j : Nat} (hi : i < n) (hj : j < n) (h : Cur n m S F d i j) {o : Op} (ho : o.in n) (hr : o.r = i) (hc : o.c = j) (hT : ¬ o.isT) (hF : Fix n F o) :
    Cur n m S F (o.app g d) i j ∧ leB (o.app g d i j) (o.val id S) := by
  have dsz : ∀ p q, p < n → q < n → ∀ v, d p q = some v → v.natAbs ≤ 2 * m := by
    intro p q hp hq v hv
    by_cases e : p = i ∧ q = j
    · rw [e.1, e.2] at hv; exact h.sz v hv
    · rcases h.par p q hp hq e with k | k
      · rw [k] at hv; cases hv
      · rw [k] at hv; have := f.sz p q hp hq v hv; omega
  have osz : ∀ p q, p < n → q < n → ¬ (p = i ∧ q = j) → ∀ v, d p q = some v → v.natAbs ≤ m := by
    intro p q hp hq e v hv
    rcases h.par p q hp hq e with k | k
    · rw [k] at hv; cases hv
    · rw [k] at hv; exact f.sz p q hp hq v hv
  have dd : ∀ p, p < n → d p p = some 0 := by
    intro p hp
    have a := h.low p p hp hp
    have b := h.up p p hp hp
    rw [f.diag p hp] at a
    rw [f.sdiag p hp] at b
    exact leB_antisymm b a
  have ev : o.val g d = o.val id d := by
    cases o with
    | tig i => rfl
    | str i j =>
      simp only [Op.val, sumB_id]
      rw [sum_add]
      intro x y hx hy
      exact f.hg _ (by have := dsz _ _ ho.1 ho.2.2.1 x hx; have := dsz _ _ ho.2.2.2 ho.2.1 y hy; omega)
    | rel i j k =>
      simp only [Op.val, sumB_id]
      rw [sum_add]
      intro x y hx hy
      exact f.hg _ (by have := dsz _ _ ho.1 ho.2.2 x hx; have := dsz _ _ ho.2.2 ho.2.1 y hy; omega)
  have lo : leB (F i j) (o.val id d) := by
    have := leB_trans hF (val_mono' h.low ho)
    rwa [hr, hc] at this
  have vsz : ∀ v, o.val id d = some v → v.natAbs ≤ 2 * m := by
    intro v hv
    cases o with
    | tig i => exact absurd trivial hT
    | str i' j' =>
      simp only [Op.r, Op.c] at hr hc
      subst hr hc
      simp only [Op.val, sumB_id] at hv
      cases ha : d i' (bar i') with
      | none => rw [ha] at hv; cases hv
      | some a =>
        cases hb : d (bar j') j' with
        | none => rw [ha, hb] at hv; cases hv
        | some b =>
          rw [ha, hb] at hv
          have hv' : (a + b) / 2 = v := by simpa [addB, halfB] using hv
          have := dsz _ _ ho.1 ho.2.2.1 a ha
          have := dsz _ _ ho.2.2.2 ho.2.1 b hb
          omega
    | rel i' j' k =>
      simp only [Op.r, Op.c] at hr hc
      subst hr hc
      simp only [Op.val, sumB_id] at hv
      cases ha : d i' k with
      | none => rw [ha] at hv; cases hv
      | some a =>
        cases hb : d k j' with
        | none => rw [ha, hb] at hv; cases hv
        | some b =>
          rw [ha, hb] at hv
          have hv' : a + b = v := by simpa [addB] using hv
          by_cases k1 : k = i'
          · subst k1
            rw [dd k ho.1] at ha
            have : 0 = a := by simpa using ha
            have := dsz _ _ ho.1 ho.2.1 b hb
            omega
          · by_cases k2 : k = j'
            · subst k2
              rw [dd k ho.2.1] at hb
              have : 0 = b := by simpa using hb
              have := dsz _ _ ho.1 ho.2.1 a ha
              omega
            · have := osz _ _ ho.1 ho.2.2 (fun e => k2 e.2) a ha
              have := osz _ _ ho.2.2 ho.2.1 (fun e => k1 e.1) b hb
              omega
  have at_ : o.app g d i j = minB (d i j) (o.val id d) := by
    unfold Op.app setM
    rw [hr, hc, if_pos ⟨rfl, rfl⟩, ev]
  have oth : ∀ p q, ¬ (p = i ∧ q = j) → o.app g d p q = d p q := by
    intro p q k
    unfold Op.app setM
    rw [hr, hc, if_neg k]
  refine ⟨⟨?_, ?_, ?_, ?_⟩, ?_⟩
  · intro p q hp hq e
    rw [oth p q e]; exact h.par p q hp hq e
  · intro p q hp hq
    by_cases e : p = i ∧ q = j
    · rw [e.1, e.2, at_]; exact le_minB (h.low i j hi hj) lo
    · rw [oth p q e]; exact h.low p q hp hq
  · intro p q hp hq
    exact leB_trans (app_le g d o p q) (h.up p q hp hq)
  · intro v hv
    rw [at_] at hv
    rcases minB_cases (d i j) (o.val id d) with e | e
    · rw [e] at hv; exact h.sz v hv
    · rw [e] at hv; exact vsz v hv
  · rw [at_]
    exact leB_trans (minB_right _ _) (val_mono' h.up ho)

theorem Cur.run {g : Int → Int} {n m : Nat} {S F : Mat} (f : Fin0 g n m S F) {i j : Nat} (hi : i < n) (hj : j < n) : ∀ (q : List Op) (d : Mat), (∀ o ∈ q, o.in n ∧ o.r = i ∧ o.c = j ∧ ¬ o.isT ∧ Fix n F o) → Cur n m S F d i j → Cur n m S F (runO g d q) i j ∧ ∀ o ∈ q, leB (runO g d q i j) (o.val id S) := by
  intro q
  induction q with
  | nil => intro d _ h; exact ⟨h, fun o ho => by cases ho⟩
  | cons o q ih =>
    intro d hq h
    obtain ⟨h1, h2, h3, h4, h5⟩ := hq o (List.mem_cons_self ..)
    obtain ⟨c1, c2⟩ := h.step f hi hj h1 h2 h3 h4 h5
    obtain ⟨c3, c4⟩ := ih _ (fun o' h' => hq o' (List.mem_cons_of_mem _ h')) c1
    refine ⟨c3, fun o' h' => ?_⟩
    rcases List.mem_cons.1 h' with rfl | h'
    · exact leB_trans (runO_le g _ q i j) c2
    · exact c4 o' h'

/-- A list of rules, place by place, each of which has what it lacks. -/
inductive Pl (n : Nat) (S F : Mat) : List Op → Prop
  | nil : Pl n S F []
  | tig {l : List Op} {i : Nat} : Pl n S F l → i < n → bar i < n → Fix n F (.tig i) → Pl n S F (l ++ [.tig i])
  | place {l q : List Op} {i j : Nat} : Pl n S F l → i < n → j < n → (∀ o ∈ q, o.in n ∧ o.r = i ∧ o.c = j ∧ ¬ o.isT ∧ Fix n F o) → (leB (S i j) (F i j) ∨ ∃ o ∈ q, leB (o.val id S) (F i j)) → Pl n S F (l ++ q)

theorem Pl.run {g : Int → Int} {n m : Nat} {S F : Mat} (f : Fin0 g n m S F) {l : List Op} (h : Pl n S F l) : PF n S F (runO g S l) := by
  induction h with
  | nil =>
    refine ⟨f.par, fun p q hp hq => ?_, fun p q _ _ => leB_refl _⟩
    rcases f.par p q hp hq with k | k
    · show leB _ (S p q); rw [k]; cases F p q <;> trivial
    · show leB _ (S p q); rw [k]; exact leB_refl _
  | @tig l i _ hi hb hF ih =>
    rw [runO_append]
    show PF n S F (Op.app g (runO g S l) (.tig i))
    have e : ∀ p q, p < n → q < n → Op.app g (runO g S l) (.tig i) p q = runO g S l p q := by
      intro p q hp hq
      unfold Op.app setM
      split
      · rename_i k
        rw [k.1, k.2]
        simp only [Op.r, Op.c, Op.val]
        rcases ih.par i (bar i) hi hb with z | z
        · rw [z]; rfl
        · rw [z]
          have := hF
          unfold Fix at this
          simp only [Op.r, Op.c, Op.val] at this
          exact leB_antisymm (minB_left _ _) (le_minB (leB_refl _) this)
      · rfl
    exact ⟨fun p q hp hq => by rw [e p q hp hq]; exact ih.par p q hp hq, fun p q hp hq => by rw [e p q hp hq]; exact ih.low p q hp hq, fun p q hp hq => by rw [e p q hp hq]; exact ih.up p q hp hq⟩
  | @place l q i j _ hi hj hq hw ih =>
    rw [runO_append]
    have c0 : Cur n m S F (runO g S l) i j := ⟨fun p q hp hq _ => ih.par p q hp hq, ih.low, ih.up, fun v hv => by
      rcases ih.par i j hi hj with k | k
      · rw [k] at hv; cases hv
      · rw [k] at hv; have := f.sz i j hi hj v hv; omega⟩
    obtain ⟨c1, c2⟩ := c0.run f hi hj q _ hq
    refine ⟨fun p q hp hq => ?_, c1.low, c1.up⟩
    by_cases e : p = i ∧ q = j
    · right
      rw [e.1, e.2]
      refine leB_antisymm ?_ (c1.low i j hi hj)
      rcases hw with h | ⟨o, ho, h⟩
      · exact leB_trans (c1.up i j hi hj) h
      · exact leB_trans (c2 o ho) h
    · exact c1.par p q hp hq e

/-- All places come to their end. -/
theorem Pl.end {g : Int → Int} {n m : Nat} {S F : Mat} (f : Fin0 g n m S F) {l : List Op} (h : Pl n S F l) : ∀ i j, i < n → j < n → (leB (S i j) (F i j) ∨ ∃ o ∈ l, o.in n ∧ o.r = i ∧ o.c = j ∧ leB (o.val id S) (F i j)) → leB (runO g S l i j) (F i j) := by
  intro i j hi hj hw
  induction h with
  | nil =>
    rcases hw with k | ⟨o, ho, _⟩
    · exact k
    · cases ho
  | @tig l i' hl hi' hb hF ih =>
    rcases hw with k | ⟨o, ho, h1, h2, h3, h4⟩
    · exact leB_trans (runO_le g S _ i j) k
    · rcases List.mem_append.1 ho with q | q
      · rw [runO_append]
        exact leB_trans (runO_le g _ _ i j) (ih (.inr ⟨o, q, h1, h2, h3, h4⟩))
      · simp at q
        subst q
        simp only [Op.r, Op.c] at h2 h3
        subst h2 h3
        rw [runO_append]
        refine leB_trans (app_val g _ (.tig i')) (leB_trans ?_ h4)
        exact val_mono' (n := n) (fun p q hp hq => runO_le g S l p q) h1
  | @place l q i' j' hl hi' hj' hq hw' ih =>
    rcases hw with k | ⟨o, ho, h1, h2, h3, h4⟩
    · exact leB_trans (runO_le g S _ i j) k
    · rw [runO_append]
      rcases List.mem_append.1 ho with z | z
      · exact leB_trans (runO_le g _ _ i j) (ih (.inr ⟨o, z, h1, h2, h3, h4⟩))
      · have P := hl.run f
        obtain ⟨_, r1, r2, _, _⟩ := hq o z
        obtain rfl : i' = i := by rw [← r1, h2]
        obtain rfl : j' = j := by rw [← r2, h3]
        have c0 : Cur n m S F (runO g S l) i' j' := ⟨fun p q hp hq _ => P.par p q hp hq, P.low, P.up, fun v hv => by
          rcases P.par i' j' hi hj with k | k
          · rw [k] at hv; cases hv
          · rw [k] at hv; have := f.sz i' j' hi hj v hv; omega⟩
        obtain ⟨c1, c2⟩ := c0.run f hi hj q _ hq
        exact leB_trans (c2 o z) h4
theorem Pl.all {g : Int → Int} {n m : Nat} {S F : Mat} (f : Fin0 g n m S F) {l : List Op} (h : Pl n S F l) (hw : ∀ i j, i < n → j < n → leB (S i j) (F i j) ∨ ∃ o ∈ l, o.in n ∧ o.r = i ∧ o.c = j ∧ leB (o.val id S) (F i j)) {i j : Nat} (hi : i < n) (hj : j < n) : runO g S l i j = F i j :=
  leB_antisymm (h.end f i j hi hj (hw i j hi hj)) ((h.run f).low i j hi hj)

/-- What is come to stays. -/
theorem fin_stays {g : Int → Int} {n m : Nat} {S F d : Mat} (f : Fin0 g n m S F) (hd : ∀ i j, i < n → j < n → d i j = F i j) : ∀ l : List Op, (∀ o ∈ l, o.in n ∧ Fix n F o) → ∀ i j, i < n → j < n → runO g d l i j = F i j := by
  intro l
  induction l generalizing d with
  | nil => intro _; exact hd
  | cons o l ih =>
    intro hl
    obtain ⟨ho, hF⟩ := hl o (List.mem_cons_self ..)
    refine ih (d := o.app g d) ?_ (fun o' h' => hl o' (List.mem_cons_of_mem _ h'))
    intro i j hi hj
    have dsz : ∀ p q, p < n → q < n → ∀ v, d p q = some v → v.natAbs ≤ m := fun p q hp hq v hv => f.sz p q hp hq v (by rw [← hd p q hp hq]; exact hv)
    have ev : o.val g d = o.val id d := by
      cases o with
      | tig i => rfl
      | str i j =>
        simp only [Op.val, sumB_id]
        rw [sum_add]
        intro x y hx hy
        exact f.hg _ (by have := dsz _ _ ho.1 ho.2.2.1 x hx; have := dsz _ _ ho.2.2.2 ho.2.1 y hy; omega)
      | rel i j k =>
        simp only [Op.val, sumB_id]
        rw [sum_add]
        intro x y hx hy
        exact f.hg _ (by have := dsz _ _ ho.1 ho.2.2 x hx; have := dsz _ _ ho.2.2 ho.2.1 y hy; omega)
    unfold Op.app setM
    split
    · rename_i k
      rw [k.1] at hi
      rw [k.2] at hj
      rw [k.1, k.2, ev, hd _ _ hi hj]
      refine leB_antisymm (minB_left _ _) (le_minB (leB_refl _) ?_)
      exact leB_trans hF (val_mono' (fun p q hp hq => by rw [hd p q hp hq]; exact leB_refl _) ho)
    · exact hd i j hi hj

end Go.Proofs.YtbafkjhlogkllaaGreatDoor
