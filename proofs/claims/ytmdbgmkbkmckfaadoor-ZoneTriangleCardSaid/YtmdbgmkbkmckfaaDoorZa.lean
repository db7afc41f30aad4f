/- Zones: bounds of differences, their closure, the points that reach each bound: plain facts, no program in them. -/
import Derived.Test.YtmdbgmkbkmckfaaDoorKz
namespace Go.Proofs.YtmdbgmkbkmckfaaDoor

/-- A bound, or none. -/
abbrev Bd := Option Int
/-- Bounds of differences: cell i j: number j less number i. -/
abbrev Mat := Nat → Nat → Bd

/-- A bound that is at most another one. -/
def leB : Bd → Bd → Prop
  | _, none => True
  | none, some _ => False
  | some a, some b => a ≤ b
def addB : Bd → Bd → Bd
  | some a, some b => some (a + b)
  | _, _ => none
def minB : Bd → Bd → Bd
  | some a, some b => some (min a b)
  | some a, none => some a
  | none, b => b
/-- A number within a bound. -/
def okB (d : Int) : Bd → Prop
  | none => True
  | some a => d ≤ a

theorem leB_refl (a : Bd) : leB a a := by cases a <;> simp [leB]
theorem leB_trans {a b c : Bd} (h : leB a b) (k : leB b c) : leB a c := by
  cases a <;> cases b <;> cases c <;> simp [leB] at * <;> omega
theorem leB_antisymm {a b : Bd} (h : leB a b) (k : leB b a) : a = b := by
  cases a <;> cases b <;> simp [leB] at * <;> omega
theorem minB_left (a b : Bd) : leB (minB a b) a := by cases a <;> cases b <;> simp [leB, minB] <;> omega
theorem minB_right (a b : Bd) : leB (minB a b) b := by cases a <;> cases b <;> simp [leB, minB] <;> omega
theorem le_minB {a b c : Bd} (h : leB c a) (k : leB c b) : leB c (minB a b) := by
  cases a <;> cases b <;> cases c <;> simp [leB, minB] at * <;> omega
theorem addB_mono {a b c d : Bd} (h : leB a c) (k : leB b d) : leB (addB a b) (addB c d) := by
  cases a <;> cases b <;> cases c <;> cases d <;> simp [leB, addB] at * <;> omega
theorem okB_mono {d : Int} {a b : Bd} (h : okB d a) (k : leB a b) : okB d b := by
  cases a <;> cases b <;> simp [leB, okB] at * <;> omega
theorem okB_add {d e : Int} {a b : Bd} (h : okB d a) (k : okB e b) : okB (d + e) (addB a b) := by
  cases a <;> cases b <;> simp [okB, addB] at * <;> omega
theorem okB_min {d : Int} {a b : Bd} (h : okB d a) (k : okB d b) : okB d (minB a b) := by
  cases a <;> cases b <;> simp [okB, minB] at * <;> omega
theorem minB_cases (a b : Bd) : minB a b = a ∨ minB a b = b := by
  cases a <;> cases b <;> simp [minB] <;> omega
theorem addB_assoc (a b c : Bd) : addB (addB a b) c = addB a (addB b c) := by
  cases a <;> cases b <;> cases c <;> simp [addB] <;> omega

/-- A point: n numbers, whatever the first is. -/
def Pt (n : Nat) (c : Mat) (x : Nat → Int) : Prop := ∀ i j, i < n → j < n → okB (x j - x i) (c i j)

/-- No bound is more than two on the way; nothing is less than itself. -/
structure Closed (n : Nat) (c : Mat) : Prop where
  diag : ∀ i, i < n → c i i = some 0
  tri : ∀ i j k, i < n → j < n → k < n → leB (c i j) (addB (c i k) (c k j))

theorem lo_up {lo up : List Int} (h : ∀ a ∈ lo, ∀ b ∈ up, a ≤ b) : ∃ z : Int, (∀ a ∈ lo, a ≤ z) ∧ (∀ b ∈ up, z ≤ b) := by
  induction lo with
  | nil =>
    induction up with
    | nil => exact ⟨0, by simp, by simp⟩
    | cons b up ih =>
      obtain ⟨z, _, h2⟩ := ih (by simp)
      refine ⟨min z b, by simp, ?_⟩
      intro c hc
      rcases List.mem_cons.1 hc with rfl | hc
      · omega
      · have := h2 c hc; omega
  | cons a lo ih =>
    obtain ⟨z, h1, h2⟩ := ih (fun a' ha' b hb => h a' (List.mem_cons_of_mem _ ha') b hb)
    refine ⟨max z a, ?_, ?_⟩
    · intro c hc
      rcases List.mem_cons.1 hc with rfl | hc
      · omega
      · have := h1 c hc; omega
    · intro b hb
      have := h2 b hb
      have := h a (List.mem_cons_self ..) b hb
      omega

/-- A point of some of the variables. -/
def PtOn (D : List Nat) (c : Mat) (x : Nat → Int) : Prop := ∀ i ∈ D, ∀ j ∈ D, okB (x j - x i) (c i j)

/-- A point of some variables goes on to one more. -/
theorem extend {n : Nat} {c : Mat} (hc : Closed n c) {D : List Nat} (hD : ∀ i ∈ D, i < n) {x : Nat → Int} (hx : PtOn D c x) {v : Nat} (hv : v < n) : ∃ y : Nat → Int, PtOn (v :: D) c y ∧ ∀ i ∈ D, y i = x i := by
  by_cases hin : v ∈ D
  · refine ⟨x, ?_, fun _ _ => rfl⟩
    intro i hi j hj
    have hi' : i ∈ D := by rcases List.mem_cons.1 hi with rfl | h; exact hin; exact h
    have hj' : j ∈ D := by rcases List.mem_cons.1 hj with rfl | h; exact hin; exact h
    exact hx i hi' j hj'
  · -- what v must be at least, and at most
    have hlo : ∀ a ∈ D.filterMap (fun i => (c v i).map fun m => x i - m), ∃ i ∈ D, ∃ m, c v i = some m ∧ a = x i - m := by
      intro a ha
      obtain ⟨i, hi, e⟩ := List.mem_filterMap.1 ha
      cases h : c v i with
      | none => rw [h] at e; cases e
      | some m => rw [h] at e; simp at e; exact ⟨i, hi, m, h, e.symm⟩
    have hup : ∀ b ∈ D.filterMap (fun i => (c i v).map fun m => x i + m), ∃ i ∈ D, ∃ m, c i v = some m ∧ b = x i + m := by
      intro a ha
      obtain ⟨i, hi, e⟩ := List.mem_filterMap.1 ha
      cases h : c i v with
      | none => rw [h] at e; cases e
      | some m => rw [h] at e; simp at e; exact ⟨i, hi, m, h, e.symm⟩
    obtain ⟨z, z1, z2⟩ := lo_up (lo := D.filterMap (fun i => (c v i).map fun m => x i - m)) (up := D.filterMap (fun i => (c i v).map fun m => x i + m)) (by
      intro a ha b hb
      obtain ⟨i, hi, m, hm, rfl⟩ := hlo a ha
      obtain ⟨j, hj, m', hm', rfl⟩ := hup b hb
      have t := hc.tri j i v (hD j hj) (hD i hi) hv
      rw [hm, hm'] at t
      have p := okB_mono (hx j hj i hi) t
      simp [addB, okB] at p
      omega)
    refine ⟨fun i => if i = v then z else x i, ?_, ?_⟩
    · intro i hi j hj
      rcases List.mem_cons.1 hi with rfl | hi'
      · rcases List.mem_cons.1 hj with rfl | hj'
        · rw [hc.diag _ hv]; simp [okB]
        · have ne : j ≠ i := fun e => hin (e ▸ hj')
          simp only [if_true, if_neg ne]
          cases h : c i j with
          | none => trivial
          | some m =>
            have := z1 (x j - m) (List.mem_filterMap.2 ⟨j, hj', by rw [h]; rfl⟩)
            simp [okB]; omega
      · have ne : i ≠ v := fun e => hin (e ▸ hi')
        rcases List.mem_cons.1 hj with rfl | hj'
        · simp only [if_true, if_neg ne]
          cases h : c i j with
          | none => trivial
          | some m =>
            have := z2 (x i + m) (List.mem_filterMap.2 ⟨i, hi', by rw [h]; rfl⟩)
            simp [okB]; omega
        · have ne' : j ≠ v := fun e => hin (e ▸ hj')
          simp only [if_neg ne, if_neg ne']
          exact hx i hi' j hj'
    · intro i hi
      have ne : i ≠ v := fun e => hin (e ▸ hi)
      simp only [if_neg ne]

theorem extend_all {n : Nat} {c : Mat} (hc : Closed n c) {D : List Nat} (hD : ∀ i ∈ D, i < n) {x : Nat → Int} (hx : PtOn D c x) (k : Nat) (hk : k ≤ n) : ∃ y : Nat → Int, PtOn (List.range k ++ D) c y ∧ ∀ i ∈ D, y i = x i := by
  induction k with
  | zero => exact ⟨x, by simpa using hx, fun _ _ => rfl⟩
  | succ k ih =>
    obtain ⟨y, h1, h2⟩ := ih (by omega)
    obtain ⟨z, k1, k2⟩ := extend hc (D := List.range k ++ D) (by
      intro i hi
      rcases List.mem_append.1 hi with h | h
      · have := List.mem_range.1 h; omega
      · exact hD i h) h1 (v := k) (by omega)
    refine ⟨z, ?_, fun i hi => (k2 i (List.mem_append.2 (.inr hi))).trans (h2 i hi)⟩
    intro i hi j hj
    have m : ∀ i, i ∈ List.range (k + 1) ++ D → i ∈ k :: (List.range k ++ D) := by
      intro i hi
      rcases List.mem_append.1 hi with h | h
      · have := List.mem_range.1 h
        by_cases e : i = k
        · rw [e]; exact List.mem_cons_self ..
        · exact List.mem_cons_of_mem _ (List.mem_append.2 (.inl (List.mem_range.2 (by omega))))
      · exact List.mem_cons_of_mem _ (List.mem_append.2 (.inr h))
    exact k1 i (m i hi) j (m j hj)

theorem extend_pt {n : Nat} {c : Mat} (hc : Closed n c) {D : List Nat} (hD : ∀ i ∈ D, i < n) {x : Nat → Int} (hx : PtOn D c x) : ∃ y : Nat → Int, Pt n c y ∧ ∀ i ∈ D, y i = x i := by
  obtain ⟨y, h1, h2⟩ := extend_all hc hD hx n (Nat.le_refl _)
  exact ⟨y, fun i j hi hj => h1 i (List.mem_append.2 (.inl (List.mem_range.2 hi))) j (List.mem_append.2 (.inl (List.mem_range.2 hj))), h2⟩

/-- Each bound of a closed zone is reached. -/
theorem Closed.reach {n : Nat} {c : Mat} (hc : Closed n c) {i j : Nat} (hi : i < n) (hj : j < n) {m : Int} (h : c i j = some m) : ∃ y, Pt n c y ∧ y j - y i = m := by
  by_cases e : i = j
  · subst e
    rw [hc.diag i hi] at h
    obtain ⟨y, h1, _⟩ := extend_pt hc (D := [i]) (by simp; exact hi) (x := fun _ => 0) (by
      intro p hp q hq
      simp at hp hq
      subst hp hq
      rw [hc.diag _ hi]; simp [okB])
    refine ⟨y, h1, ?_⟩
    simp at h; omega
  · obtain ⟨y, h1, h2⟩ := extend_pt hc (D := [i, j]) (by simp; exact ⟨hi, hj⟩) (x := fun k => if k = j then m else 0) (by
      intro p hp q hq
      simp at hp hq
      have back : okB (-m) (c j i) := by
        have t := hc.tri i i j hi hi hj
        rw [hc.diag i hi, h] at t
        cases h' : c j i with
        | none => trivial
        | some m' => rw [h'] at t; simp [leB, addB] at t; simp [okB]; omega
      rcases hp with rfl | rfl <;> rcases hq with rfl | rfl
      · rw [hc.diag _ hi]; simp [okB]
      · rw [h]; simp [okB, e]
      · simp [e]; exact back
      · rw [hc.diag _ hj]; simp [okB])
    refine ⟨y, h1, ?_⟩
    rw [h2 i (by simp), h2 j (by simp)]
    simp [e]

/-- Where there is no bound there is no bound. -/
theorem Closed.free {n : Nat} {c : Mat} (hc : Closed n c) {i j : Nat} (hi : i < n) (hj : j < n) (h : c i j = none) (K : Int) : ∃ y, Pt n c y ∧ K ≤ y j - y i := by
  have e : i ≠ j := by rintro rfl; rw [hc.diag i hi] at h; cases h
  obtain ⟨M, hM1, hM2⟩ : ∃ M : Int, K ≤ M ∧ okB (-M) (c j i) := by
    cases h' : c j i with
    | none => exact ⟨K, Int.le_refl _, trivial⟩
    | some m => exact ⟨max K (-m), by omega, by simp [okB]; omega⟩
  obtain ⟨y, h1, h2⟩ := extend_pt hc (D := [i, j]) (by simp; exact ⟨hi, hj⟩) (x := fun k => if k = j then M else 0) (by
    intro p hp q hq
    simp at hp hq
    rcases hp with rfl | rfl <;> rcases hq with rfl | rfl
    · rw [hc.diag _ hi]; simp [okB]
    · rw [h]; trivial
    · simp [e]; exact hM2
    · rw [hc.diag _ hj]; simp [okB])
  refine ⟨y, h1, ?_⟩
  rw [h2 i (by simp), h2 j (by simp)]
  simp [e]; exact hM1

/-- What all points are within is at least the closed bound. -/
theorem Closed.least {n : Nat} {c : Mat} (hc : Closed n c) {i j : Nat} (hi : i < n) (hj : j < n) {b : Bd} (h : ∀ y, Pt n c y → okB (y j - y i) b) : leB (c i j) b := by
  cases e : c i j with
  | none =>
    cases b with
    | none => trivial
    | some m =>
      obtain ⟨y, h1, h2⟩ := hc.free hi hj e (m + 1)
      have := h y h1
      simp [okB] at this
      omega
  | some m =>
    obtain ⟨y, h1, h2⟩ := hc.reach hi hj e
    have := h y h1
    rw [h2] at this
    cases b with
    | none => trivial
    | some m' => simpa [leB, okB] using this

/-- Two closed ones with the same points are the same. -/
theorem Closed.unique {n : Nat} {c d : Mat} (hc : Closed n c) (hd : Closed n d) (h : ∀ y, Pt n c y ↔ Pt n d y) {i j : Nat} (hi : i < n) (hj : j < n) : c i j = d i j :=
  leB_antisymm (hc.least hi hj fun y hy => (h y).1 hy i j hi hj) (hd.least hi hj fun y hy => (h y).2 hy i j hi hj)

/-! ## FLOYD and WARSHALL -/

def step (k : Nat) (c : Mat) : Mat := fun i j => minB (c i j) (addB (c i k) (c k j))
def start (c : Mat) : Mat := fun i j => if i = j then minB (c i j) (some 0) else c i j
def fw (c : Mat) : Nat → Mat
  | 0 => start c
  | k + 1 => step k (fw c k)

theorem step_le (k : Nat) (c : Mat) (i j : Nat) : leB (step k c i j) (c i j) := minB_left _ _
theorem fw_le {c : Mat} {k l : Nat} (h : k ≤ l) (i j : Nat) : leB (fw c l i j) (fw c k i j) := by
  induction l with
  | zero =>
    obtain rfl : k = 0 := by omega
    exact leB_refl _
  | succ l ih =>
    by_cases e : k = l + 1
    · subst e; exact leB_refl _
    · exact leB_trans (step_le _ _ _ _) (ih (by omega))

theorem start_pt {n : Nat} {c : Mat} {x : Nat → Int} : Pt n (start c) x ↔ Pt n c x := by
  constructor
  · intro h i j hi hj
    have := h i j hi hj
    unfold start at this
    split at this
    · exact okB_mono this (minB_left _ _)
    · exact this
  · intro h i j hi hj
    have := h i j hi hj
    unfold start
    split
    · rename_i e; subst e
      exact okB_min this (by simp [okB])
    · exact this

theorem step_pt {n k : Nat} (hk : k < n) {c : Mat} {x : Nat → Int} : Pt n (step k c) x ↔ Pt n c x := by
  constructor
  · intro h i j hi hj; exact okB_mono (h i j hi hj) (step_le _ _ _ _)
  · intro h i j hi hj
    refine okB_min (h i j hi hj) ?_
    have := okB_add (h i k hi hk) (h k j hk hj)
    rwa [show x k - x i + (x j - x k) = x j - x i by omega] at this

theorem fw_pt {n k : Nat} (hk : k ≤ n) {c : Mat} {x : Nat → Int} : Pt n (fw c k) x ↔ Pt n c x := by
  induction k with
  | zero => exact start_pt
  | succ k ih => exact (step_pt (by omega)).trans (ih (by omega))

/-- Nothing less than 0 in the diagonal. -/
def NoNeg (n : Nat) (c : Mat) : Prop := ∀ i, i < n → leB (some 0) (c i i)

theorem NoNeg.mono {n : Nat} {c d : Mat} (h : NoNeg n c) (k : ∀ i, i < n → leB (c i i) (d i i)) : NoNeg n d := fun i hi => leB_trans (h i hi) (k i hi)

theorem start_diag (c : Mat) (i : Nat) : leB (start c i i) (some 0) := by
  unfold start; rw [if_pos rfl]; exact minB_right _ _

/-- Up to k no bound is more than two on the way. -/
theorem fw_tri {n : Nat} {c : Mat} (k : Nat) (hk : k ≤ n) (hN : NoNeg n (fw c k)) : ∀ l, l < k → ∀ i j, i < n → j < n → leB (fw c k i j) (addB (fw c k i l) (fw c k l j)) := by
  induction k with
  | zero => intro l hl; omega
  | succ k ih =>
    have hN' : NoNeg n (fw c k) := hN.mono fun i _ => fw_le (by omega) i i
    have T := ih (by omega) hN'
    generalize hd : fw c k = d at *
    have e : fw c (k + 1) = step k d := by show step k (fw c k) = _; rw [hd]
    rw [e] at hN ⊢
    have hkk : leB (some 0) (d k k) := hN' k (by omega)
    have kk : k < n := by omega
    -- the cells of row and column k stay
    have rk : ∀ i, leB (d i k) (step k d i k) := by
      intro i
      refine le_minB (leB_refl _) ?_
      cases h1 : d i k <;> cases h2 : d k k <;> simp [addB, leB]
      rw [h2] at hkk; simp [leB] at hkk; omega
    have ck : ∀ j, leB (d k j) (step k d k j) := by
      intro j
      refine le_minB (leB_refl _) ?_
      cases h1 : d k j <;> cases h2 : d k k <;> simp [addB, leB]
      rw [h2] at hkk; simp [leB] at hkk; omega
    intro l hl i j hi hj
    by_cases hlk : l = k
    · subst hlk
      exact leB_trans (minB_right _ _) (addB_mono (rk i) (ck j))
    · have hl' : l < k := by omega
      have ll : l < n := by omega
      rcases minB_cases (d i l) (addB (d i k) (d k l)) with e1 | e1 <;> rcases minB_cases (d l j) (addB (d l k) (d k j)) with e2 | e2
      · show leB _ (addB (minB _ _) (minB _ _)); rw [e1, e2]
        exact leB_trans (minB_left _ _) (T l hl' i j hi hj)
      · show leB _ (addB (minB _ _) (minB _ _)); rw [e1, e2, ← addB_assoc]
        exact leB_trans (minB_right _ _) (addB_mono (T l hl' i k hi kk) (leB_refl _))
      · show leB _ (addB (minB _ _) (minB _ _)); rw [e1, e2, addB_assoc]
        exact leB_trans (minB_right _ _) (addB_mono (leB_refl _) (T l hl' k j kk hj))
      · show leB _ (addB (minB _ _) (minB _ _)); rw [e1, e2, addB_assoc, ← addB_assoc (d k l)]
        refine leB_trans (minB_right _ _) (addB_mono (leB_refl _) ?_)
        have z : leB (some 0) (addB (d k l) (d l k)) := leB_trans hkk (T l hl' k k kk kk)
        have := addB_mono z (leB_refl (d k j))
        refine leB_trans ?_ this
        cases d k j <;> simp [addB, leB]

theorem fw_closed {n : Nat} {c : Mat} (hN : NoNeg n (fw c n)) : Closed n (fw c n) := by
  refine ⟨fun i hi => ?_, fun i j k hi hj hk => fw_tri n (Nat.le_refl _) hN k hk i j hi hj⟩
  exact leB_antisymm (leB_trans (fw_le (Nat.zero_le _) i i) (start_diag c i)) (hN i hi)

/-- There is a point just if nothing in the diagonal is less than 0. -/
theorem fw_some {n : Nat} {c : Mat} : (∃ x, Pt n c x) ↔ NoNeg n (fw c n) := by
  constructor
  · rintro ⟨x, hx⟩ i hi
    have := (fw_pt (Nat.le_refl n)).2 hx i i hi hi
    cases h : fw c n i i with
    | none => trivial
    | some m => rw [h] at this; simp [okB] at this; simpa [leB] using this
  · intro h
    obtain ⟨y, h1, _⟩ := extend_pt (fw_closed h) (D := []) (by simp) (x := fun _ => 0) (by intro i hi; cases hi)
    exact ⟨y, (fw_pt (Nat.le_refl n)).1 h1⟩

/-- Whatever has the same points and lies at most at the closed bounds is closed. -/
theorem closed_of_le {n : Nat} {c d : Mat} (hs : ∀ x, Pt n c x → Pt n d x) (hl : ∀ i j, i < n → j < n → leB (d i j) (fw c n i j)) (hN : NoNeg n (fw c n)) {i j : Nat} (hi : i < n) (hj : j < n) : d i j = fw c n i j :=
  leB_antisymm (hl i j hi hj) ((fw_closed hN).least hi hj fun y hy => hs y ((fw_pt (Nat.le_refl n)).1 hy) i j hi hj)

end Go.Proofs.YtmdbgmkbkmckfaaDoor
