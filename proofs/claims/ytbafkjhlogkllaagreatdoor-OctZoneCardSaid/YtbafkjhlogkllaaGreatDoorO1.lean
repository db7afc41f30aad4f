/- Octagons: squares with a bound more, without a variable, with a variable moved: plain facts. -/
import Derived.Test.YtbafkjhlogkllaaGreatDoorOa
namespace Go.Proofs.YtbafkjhlogkllaaGreatDoor
set_option linter.unusedVariables false

/-- One bound more. -/
def grM (d : Mat) (i j : Nat) (c : Int) : Mat := setM d i j (minB (d i j) (some c))
theorem pt_gr {n p q : Nat} {d : Mat} {c : Int} {y : Nat → Int} (hp : p < n) (hq : q < n) : Pt n (grM d p q c) y ↔ Pt n d y ∧ y q - y p ≤ c := by
  constructor
  · intro h
    refine ⟨fun i j hi hj => ?_, ?_⟩
    · have := h i j hi hj
      unfold grM setM at this
      split at this
      · rename_i e
        obtain ⟨rfl, rfl⟩ := e
        exact okB_mono this (minB_left _ _)
      · exact this
    · have := h p q hp hq
      unfold grM setM at this
      rw [if_pos ⟨rfl, rfl⟩] at this
      have := okB_mono this (minB_right _ _)
      simpa [okB] using this
  · rintro ⟨h, k⟩ i j hi hj
    unfold grM setM
    split
    · rename_i e
      obtain ⟨rfl, rfl⟩ := e
      exact okB_min (h i j hi hj) (by simpa [okB] using k)
    · exact h i j hi hj
theorem opt_gr {n p q : Nat} (he : n % 2 = 0) {d : Mat} {c : Int} {y : Nat → Int} (hp : p < n) (hq : q < n) : OPt n (grM (grM d p q c) (bar q) (bar p) c) y ↔ OPt n d y ∧ y q - y p ≤ c := by
  unfold OPt
  rw [pt_gr (bar_lt he hq) (bar_lt he hp), pt_gr hp hq]
  constructor
  · rintro ⟨⟨⟨h1, h2⟩, h3⟩, h4⟩
    exact ⟨⟨h1, h4⟩, h2⟩
  · rintro ⟨⟨h1, h4⟩, h2⟩
    refine ⟨⟨⟨h1, h2⟩, ?_⟩, h4⟩
    rw [h4, h4]; omega

/-- Where a variable, or its opposite, or nothing stands. -/
def oix (s : Int) (y : Nat) : Option Nat := if s = 1 then some (2 * y) else if s = -1 then some (2 * y + 1) else none
/-- Where that stood which stands at i now; how much further it stands. -/
def stO (x : Nat) (s : Int) (y i : Nat) : Option Nat := if i = 2 * x then oix s y else if i = 2 * x + 1 then oix (-s) y else some i
def shO (x : Nat) (c : Int) (i : Nat) : Int := if i = 2 * x then c else if i = 2 * x + 1 then -c else 0
/-- The most that the number at the one less that at the other is; nothing is 0. -/
def apM (d : Mat) : Option Nat → Option Nat → Bd
  | none, none => some 0
  | none, some j => topB d j
  | some i, none => topB d (bar i)
  | some i, some j => d i j
def mvO (d : Mat) (x : Nat) (s : Int) (y : Nat) (c : Int) : Mat := fun i j => addB (apM d (stO x s y i) (stO x s y j)) (some (shO x c j - shO x c i))
def woO (d : Mat) (x : Nat) : Mat := fun i j => if i ≠ j ∧ (i / 2 = x ∨ j / 2 = x) then none else d i j

def vlO (u : Nat → Int) : Option Nat → Int
  | none => 0
  | some i => u i
def oLt (n : Nat) : Option Nat → Prop
  | none => True
  | some i => i < n
theorem oix_lt {n y : Nat} (hy : 2 * y + 1 < n) (s : Int) : oLt n (oix s y) := by
  unfold oix
  split
  · show _ < _; omega
  · split
    · show _ < _; omega
    · trivial
theorem stO_lt {n x y i : Nat} (hy : 2 * y + 1 < n) (hi : i < n) (s : Int) : oLt n (stO x s y i) := by
  unfold stO
  split
  · exact oix_lt hy s
  · split
    · exact oix_lt hy _
    · exact hi
theorem apM_ok {n : Nat} (he : n % 2 = 0) {d : Mat} {u : Nat → Int} (h : OPt n d u) {a b : Option Nat} (ha : oLt n a) (hb : oLt n b) : okB (vlO u b - vlO u a) (apM d a b) := by
  have top : ∀ j, j < n → okB (u j) (topB d j) := by
    intro j hj
    apply okB_half
    have := h.1 (bar j) j (bar_lt he hj) hj
    rw [h.2] at this
    have e : u j - -u j = u j + u j := by omega
    rwa [e] at this
  cases a with
  | none =>
    cases b with
    | none => simp [vlO, apM, okB]
    | some j => simpa [vlO, apM] using top j hb
  | some i =>
    cases b with
    | none =>
      have := top (bar i) (bar_lt he ha)
      rw [h.2] at this
      simpa [vlO, apM] using this
    | some j => exact h.1 i j ha hb
/-- A point, its variable moved. -/
def mvP (u : Nat → Int) (x : Nat) (s : Int) (y : Nat) (c : Int) (i : Nat) : Int := vlO u (stO x s y i) + shO x c i
theorem bar_even (x : Nat) : bar (2 * x) = 2 * x + 1 ∧ bar (2 * x + 1) = 2 * x := by unfold bar; constructor <;> split <;> omega
theorem vl_oix {u : Nat → Int} (hu : ∀ i, u (bar i) = - u i) {s : Int} (hs : s = 1 ∨ s = -1 ∨ s = 0) (y : Nat) : vlO u (oix (-s) y) = - vlO u (oix s y) ∧ vlO u (oix s y) = s * u (2 * y) := by
  obtain ⟨b1, b2⟩ := bar_even y
  have h1 := hu (2 * y)
  rw [b1] at h1
  rcases hs with rfl | rfl | rfl <;> simp [oix, vlO, h1]
theorem mvP_bar {u : Nat → Int} (hu : ∀ i, u (bar i) = - u i) {x y : Nat} {s c : Int} (hs : s = 1 ∨ s = -1 ∨ s = 0) (i : Nat) : mvP u x s y c (bar i) = - mvP u x s y c i := by
  obtain ⟨b1, b2⟩ := bar_even x
  obtain ⟨v1, -⟩ := vl_oix hu hs y
  unfold mvP stO shO
  by_cases h1 : i = 2 * x
  · subst h1
    rw [b1]
    simp only [show ¬ 2 * x + 1 = 2 * x by omega, if_false, if_true]
    omega
  · by_cases h2 : i = 2 * x + 1
    · subst h2
      rw [b2]
      simp only [show ¬ 2 * x + 1 = 2 * x by omega, if_false, if_true]
      omega
    · have n1 : ¬ bar i = 2 * x := fun k => h2 (by rw [← b1, ← k, bar_bar])
      have n2 : ¬ bar i = 2 * x + 1 := fun k => h1 (by rw [← b2, ← k, bar_bar])
      rw [if_neg n1, if_neg n2, if_neg n1, if_neg n2, if_neg h1, if_neg h2, if_neg h1, if_neg h2]
      show u (bar i) + 0 = -(u i + 0)
      rw [hu]; omega
theorem opt_mv {n : Nat} (he : n % 2 = 0) {d : Mat} {u : Nat → Int} (h : OPt n d u) {x y : Nat} (hy : 2 * y + 1 < n) {s c : Int} (hs : s = 1 ∨ s = -1 ∨ s = 0) : OPt n (mvO d x s y c) (mvP u x s y c) := by
  refine ⟨fun i j hi hj => ?_, mvP_bar h.2 hs⟩
  have := okB_add (apM_ok he h (stO_lt (x := x) hy hi s) (stO_lt (x := x) hy hj s)) (show okB (shO x c j - shO x c i) (some (shO x c j - shO x c i)) by simp [okB])
  unfold mvP mvO
  have e : vlO u (stO x s y j) + shO x c j - (vlO u (stO x s y i) + shO x c i) = vlO u (stO x s y j) - vlO u (stO x s y i) + (shO x c j - shO x c i) := by omega
  rw [e]
  exact this
/-- Without a variable: any number will do. -/
theorem opt_wo {n : Nat} {d : Mat} {u v : Nat → Int} (h : OPt n d u) {x : Nat} (hv : ∀ i, v (bar i) = - v i) (e : ∀ i, i / 2 ≠ x → v i = u i) : OPt n (woO d x) v := by
  refine ⟨fun i j hi hj => ?_, hv⟩
  unfold woO
  split
  · simp [okB]
  · rename_i hne
    by_cases k : i = j
    · subst k
      have := h.1 i i hi hi
      rw [Int.sub_self] at this ⊢
      exact this
    · rw [e i (fun z => hne ⟨k, .inl z⟩), e j (fun z => hne ⟨k, .inr z⟩)]
      exact h.1 i j hi hj

/-- A variable that becomes itself or its opposite, and a number: a square that is tight stays so. -/
def sgI (x : Nat) (s : Int) (i : Nat) : Nat := if s = -1 ∧ i / 2 = x then bar i else i
theorem sgI_lt {n x : Nat} (he : n % 2 = 0) {s : Int} {i : Nat} (hi : i < n) : sgI x s i < n := by
  unfold sgI; split
  · exact bar_lt he hi
  · exact hi
theorem bar_half (i : Nat) : bar i / 2 = i / 2 := by unfold bar; split <;> omega
theorem sgI_bar (x : Nat) (s : Int) (i : Nat) : sgI x s (bar i) = bar (sgI x s i) := by
  unfold sgI; rw [bar_half]; split <;> rfl
theorem sgI_sgI (x : Nat) (s : Int) (i : Nat) : sgI x s (sgI x s i) = i := by
  unfold sgI
  by_cases h : s = -1 ∧ i / 2 = x
  · rw [if_pos h, if_pos ⟨h.1, by rw [bar_half]; exact h.2⟩, bar_bar]
  · rw [if_neg h, if_neg h]
theorem sgI_inj {x : Nat} {s : Int} {i j : Nat} (h : sgI x s i = sgI x s j) : i = j := by rw [← sgI_sgI x s i, h, sgI_sgI]
theorem stO_own {x : Nat} {s : Int} (hs : s = 1 ∨ s = -1) (i : Nat) : stO x s x i = some (sgI x s i) := by
  obtain ⟨b1, b2⟩ := bar_even x
  unfold stO sgI oix
  by_cases h1 : i = 2 * x
  · subst h1
    rcases hs with rfl | rfl
    · simp
    · simp [b1]
  · by_cases h2 : i = 2 * x + 1
    · subst h2
      rcases hs with rfl | rfl
      · simp
      · have e : (2 * x + 1) / 2 = x := by omega
        simp [b2, e]
    · rw [if_neg h1, if_neg h2, if_neg (fun k => by have := k.2; omega)]
theorem shO_bar (x : Nat) (c : Int) (i : Nat) : shO x c (bar i) = - shO x c i := by
  obtain ⟨b1, b2⟩ := bar_even x
  unfold shO
  by_cases h1 : i = 2 * x
  · subst h1; rw [b1]; simp
  · by_cases h2 : i = 2 * x + 1
    · subst h2; rw [b2]; simp
    · have n1 : ¬ bar i = 2 * x := fun k => h2 (by rw [← b1, ← k, bar_bar])
      have n2 : ¬ bar i = 2 * x + 1 := fun k => h1 (by rw [← b2, ← k, bar_bar])
      rw [if_neg n1, if_neg n2, if_neg h1, if_neg h2]; rfl
theorem shO_sg (x : Nat) (s c : Int) (i : Nat) : shO x c (sgI x s i) = if s = -1 then - shO x c i else shO x c i := by
  unfold sgI
  by_cases h : s = -1
  · rw [if_pos h]
    by_cases k : i / 2 = x
    · rw [if_pos ⟨h, k⟩, shO_bar]
    · rw [if_neg (fun z => k z.2)]
      unfold shO
      rw [if_neg (by omega), if_neg (by omega)]; rfl
  · rw [if_neg h, if_neg (fun z => h z.1)]
theorem mvO_own {d : Mat} {x : Nat} {s c : Int} (hs : s = 1 ∨ s = -1) (i j : Nat) : mvO d x s x c i j = addB (d (sgI x s i) (sgI x s j)) (some (shO x c j - shO x c i)) := by
  unfold mvO
  rw [stO_own hs, stO_own hs]
  rfl
theorem addB_some2 (a : Bd) (u v : Int) : addB (addB a (some u)) (some v) = addB a (some (u + v)) := by
  cases a <;> simp [addB]; omega
theorem half_two (a : Bd) (v : Int) : halfB (addB a (some (v + v))) = addB (halfB a) (some v) := by
  cases a <;> simp [addB, halfB]; omega
theorem leB_addS {a b : Bd} (v : Int) (h : leB a b) : leB (addB a (some v)) (addB b (some v)) := addB_mono h (leB_refl _)
theorem tight_own {n : Nat} {d : Mat} (h : Tight n d) {x : Nat} {s c : Int} (hs : s = 1 ∨ s = -1) : Tight n (mvO d x s x c) := by
  have he := h.even
  have top : ∀ j, topB (mvO d x s x c) j = addB (topB d (sgI x s j)) (some (shO x c j)) := by
    intro j
    unfold topB
    rw [mvO_own hs, sgI_bar, shO_bar, show shO x c j - -shO x c j = shO x c j + shO x c j by omega, half_two]
  refine ⟨he, ?_, fun i j hi hj => ?_, fun i j hi hj => ?_, fun i v hi hv => ?_⟩
  · have k := h.clo
    refine ⟨fun i hi => ?_, fun i j l hi hj hl => ?_⟩
    · rw [mvO_own hs, Int.sub_self, k.diag _ (sgI_lt he hi)]
      rfl
    · rw [mvO_own hs, mvO_own hs, mvO_own hs]
      have := k.tri (sgI x s i) (sgI x s j) (sgI x s l) (sgI_lt he hi) (sgI_lt he hj) (sgI_lt he hl)
      revert this
      cases d (sgI x s i) (sgI x s j) <;> cases d (sgI x s i) (sgI x s l) <;> cases d (sgI x s l) (sgI x s j) <;> simp [leB, addB] <;> omega
  · rw [mvO_own hs, mvO_own hs, sgI_bar, sgI_bar, shO_bar, shO_bar, h.coh _ _ (sgI_lt he hi) (sgI_lt he hj)]
    congr 2
    omega
  · rw [mvO_own hs, top, top, sgI_bar, shO_bar]
    have := h.str (sgI x s i) (sgI x s j) (sgI_lt he hi) (sgI_lt he hj)
    revert this
    cases d (sgI x s i) (sgI x s j) <;> cases topB d (bar (sgI x s i)) <;> cases topB d (sgI x s j) <;> simp [leB, addB] <;> omega
  · rw [mvO_own hs, sgI_bar, shO_bar] at hv
    cases e : d (bar (sgI x s i)) (sgI x s i) with
    | none => rw [e] at hv; simp [addB] at hv
    | some u =>
      have := h.par _ u (sgI_lt he hi) e
      rw [e] at hv
      simp [addB] at hv
      omega
/-- Twice, it is as it was. -/
theorem own_twice {d : Mat} {x : Nat} {s c c' : Int} (hs : s = 1 ∨ s = -1) (hc : c' = if s = -1 then c else -c) (i j : Nat) : mvO (mvO d x s x c) x s x c' i j = d i j := by
  rw [mvO_own hs, mvO_own hs, sgI_sgI, sgI_sgI, addB_some2, shO_sg, shO_sg]
  have e : ∀ k, shO x c' k = if s = -1 then shO x c k else - shO x c k := by
    intro k
    rw [hc]
    by_cases h : s = -1
    · rw [if_pos h, if_pos h]
    · rw [if_neg h, if_neg h]; unfold shO; split
      · rfl
      · split
        · rfl
        · rfl
  rw [e, e]
  by_cases h : s = -1
  · rw [if_pos h, if_pos h, if_pos h, if_pos h]
    cases d i j <;> simp [addB]; omega
  · rw [if_neg h, if_neg h, if_neg h, if_neg h]
    cases d i j <;> simp [addB]; omega

end Go.Proofs.YtbafkjhlogkllaaGreatDoor
