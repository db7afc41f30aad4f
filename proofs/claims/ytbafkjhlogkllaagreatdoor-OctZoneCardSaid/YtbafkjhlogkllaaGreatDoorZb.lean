/- Zones: bounds of differences, their closure, the points that reach each bound: plain facts, no program in them. -/
import Derived.Test.YtbafkjhlogkllaaGreatDoorKz
namespace Go.Proofs.YtbafkjhlogkllaaGreatDoor

/-- A bound, or none. -/
abbrev Bd := Option Int
/-- Bounds of differences: cell i j: number j less number i. -/
abbrev Mat := Nat → Nat → Bd

/-- A bound that is at most another one. -/
def leB : Bd → Bd → Prop
  | _, none => True
  | none, some _ => False
  | some a, some b => a ≤ b
def addB : Bd → Bd → Bd
  | some a, some b => some (a + b)
  | _, _ => none
def minB : Bd → Bd → Bd
  | some a, some b => some (min a b)
  | some a, none => some a
  | none, b => b
/-- A number within a bound. -/
def okB (d : Int) : Bd → Prop
  | none => True
  | some a => d ≤ a

theorem leB_refl (a : Bd) : leB a a := by cases a <;> simp [leB]
theorem leB_trans {a b c : Bd} (h : leB a b) (k : leB b c) : leB a c := by
  cases a <;> cases b <;> cases c <;> simp [leB] at * <;> omega
theorem leB_antisymm {a b : Bd} (h : leB a b) (k : leB b a) : a = b := by
  cases a <;> cases b <;> simp [leB] at * <;> omega
theorem minB_left (a b : Bd) : leB (minB a b) a := by cases a <;> cases b <;> simp [leB, minB] <;> omega
theorem minB_right (a b : Bd) : leB (minB a b) b := by cases a <;> cases b <;> simp [leB, minB] <;> omega
theorem le_minB {a b c : Bd} (h : leB c a) (k : leB c b) : leB c (minB a b) := by
  cases a <;> cases b <;> cases c <;> simp [leB, minB] at * <;> omega
theorem addB_mono {a b c d : Bd} (h : leB a c) (k : leB b d) : leB (addB a b) (addB c d) := by
  cases a <;> cases b <;> cases c <;> cases d <;> simp [leB, addB] at * <;> omega
theorem okB_mono {d : Int} {a b : Bd} (h : okB d a) (k : leB a b) : okB d b := by
  cases a <;> cases b <;> simp [leB, okB] at * <;> omega
theorem okB_add {d e : Int} {a b : Bd} (h : okB d a) (k : okB e b) : okB (d + e) (addB a b) := by
  cases a <;> cases b <;> simp [okB, addB] at * <;> omega
theorem okB_min {d : Int} {a b : Bd} (h : okB d a) (k : okB d b) : okB d (minB a b) := by
  cases a <;> cases b <;> simp [okB, minB] at * <;> omega
theorem minB_cases (a b : Bd) : minB a b = a ∨ minB a b = b := by
  cases a <;> cases b <;> simp [minB] <;> omega
theorem addB_assoc (a b c : Bd) : addB (addB a b) c = addB a (addB b c) := by
  cases a <;> cases b <;> cases c <;> simp [addB] <;> omega

/-- A point: n numbers, whatever the first is. -/
def Pt (n : Nat) (c : Mat) (x : Nat → Int) : Prop := ∀ i j, i < n → j < n → okB (x j - x i) (c i j)

/-- No bound is more than two on the way; nothing is less than itself. -/
structure Closed (n : Nat) (c : Mat) : Prop where
  diag : ∀ i, i < n → c i i = some 0
  tri : ∀ i j k, i < n → j < n → k < n → leB (c i j) (addB (c i k) (c k j))

theorem lo_up {lo up : List Int} (h : ∀ a ∈ lo, ∀ b ∈ up, a ≤ b) : ∃ z : Int, (∀ a ∈ lo, a ≤ z) ∧ (∀ b ∈ up, z ≤ b) := by
  induction lo with
  | nil =>
    induction up with
    | nil => exact ⟨0, by simp, by simp⟩
    | cons b up ih =>
      obtain ⟨z, _, h2⟩ := ih (by simp)
      refine ⟨min z b, by simp, ?_⟩
      intro c hc
      rcases List.mem_cons.1 hc with rfl | hc
      · omega
      · have := h2 c hc; omega
  | cons a lo ih =>
    obtain ⟨z, h1, h2⟩ := ih (fun a' ha' b hb => h a' (List.mem_cons_of_mem _ ha') b hb)
    refine ⟨max z a, ?_, ?_⟩
    · intro c hc
      rcases List.mem_cons.1 hc with rfl | hc
      · omega
      · have := h1 c hc; omega
    · intro b hb
      have := h2 b hb
      have := h a (List.mem_cons_self ..) b hb
      omega

/-- A point of some of the variables. -/
def PtOn (D : List Nat) (c : Mat) (x : Nat → Int) : Prop := ∀ i ∈ D, ∀ j ∈ D, okB (x j - x i) (c i j)

/-- A point of some variables goes on to one more. -/
theorem extend {n : Nat} {c : Mat} (hc : Closed n c) {D : List Nat} (hD : ∀ i ∈ D, i < n) {x : Nat → Int} (hx : PtOn D c x) {v : Nat} (hv : v < n) : ∃ y : Nat → Int, PtOn (v :: D) c y ∧ ∀ i ∈ D, y i = x i := by
  by_cases hin : v ∈ D
  · refine ⟨x, ?_, fun _ _ => rfl⟩
    intro i hi j hj
    have hi' : i ∈ D := by rcases List.mem_cons.1 hi with rfl | h; exact hin; exact h
    have hj' : j ∈ D := by rcases List.mem_cons.1 hj with rfl | h; exact hin; exact h
    exact hx i hi' j hj'
  · -- what v must be at least, and at most
    have hlo : ∀ a ∈ D.filterMap (fun i => (c v i).map fun m => x i - m), ∃ i ∈ D, ∃ m, c v i = some m ∧ a = x i - m := by
      intro a ha
      obtain ⟨i, hi, e⟩ := List.mem_filterMap.1 ha
      cases h : c v i with
      | none => rw [h] at e; cases e
      | some m => rw [h] at e; simp at e; exact ⟨i, hi, m, h, e.symm⟩
    have hup : ∀ b ∈ D.filterMap (fun i => (c i v).map fun m => x i + m), ∃ i ∈ D, ∃ m, c i v = some m ∧ b = x i + m := by
      intro a ha
      obtain ⟨i, hi, e⟩ := List.mem_filterMap.1 ha
      cases h : c i v with
      | none => rw [h] at e; cases e
      | some m => rw [h] at e; simp at e; exact ⟨i, hi, m, h, e.symm⟩
    obtain ⟨z, z1, z2⟩ := lo_up (lo := D.filterMap (fun i => (c v i).map fun m => x i - m)) (up := D.filterMap (fun i => (c i v).map fun m => x i + m)) (by
      intro a ha b hb
      obtain ⟨i, hi, m, hm, rfl⟩ := hlo a ha
      obtain ⟨j, hj, m', hm', rfl⟩ := hup b hb
      have t := hc.tri j i v (hD j hj) (hD i hi) hv
      rw [hm, hm'] at t
      have p := okB_mono (hx j hj i hi) t
      simp [addB, okB] at p
      omega)
    refine ⟨fun i => if i = v then z else x i, ?_, ?_⟩
    · intro i hi j hj
      rcases List.mem_cons.1 hi with rfl | hi'
      · rcases List.mem_cons.1 hj with rfl | hj'
        · rw [hc.diag _ hv]; simp [okB]
        · have ne : j ≠ i := fun e => hin (e ▸ hj')
          simp only [if_true, if_neg ne]
          cases h : c i j with
          | none => trivial
          | some m =>
            have := z1 (x j - m) (List.mem_filterMap.2 ⟨j, hj', by rw [h]; rfl⟩)
            simp [okB]; omega
      · have ne : i ≠ v := fun e => hin (e ▸ hi')
        rcases List.mem_cons.1 hj with rfl | hj'
        · simp only [if_true, if_neg ne]
          cases h : c i j with
          | none => trivial
          | some m =>
            have := z2 (x i + m) (List.mem_filterMap.2 ⟨i, hi', by rw [h]; rfl⟩)
            simp [okB]; omega
        · have ne' : j ≠ v := fun e => hin (e ▸ hj')
          simp only [if_neg ne, if_neg ne']
          exact hx i hi' j hj'
    · intro i hi
      have ne : i ≠ v := fun e => hin (e ▸ hi)
      simp only [if_neg ne]

theorem extend_all {n : Nat} {c : Mat} (hc : Closed n c) {D : List Nat} (hD : ∀ i ∈ D, i < n) {x : Nat → Int} (hx : PtOn D c x) (k : Nat) (hk : k ≤ n) : ∃ y : Nat → Int, PtOn (List.range k ++ D) c y ∧ ∀ i ∈ D, y i = x i := by
  induction k with
  | zero => exact ⟨x, by simpa using hx, fun _ _ => rfl⟩
  | succ k ih =>
    obtain ⟨y, h1, h2⟩ := ih (by omega)
    obtain ⟨z, k1, k2⟩ := extend hc (D := List.range k ++ D) (by
      intro i hi
      rcases List.mem_append.1 hi with h | h
      · have := List.mem_range.1 h; omega
      · exact hD i h) h1 (v := k) (by omega)
    refine ⟨z, ?_, fun i hi => (k2 i (List.mem_append.2 (.inr hi))).trans (h2 i hi)⟩
    intro i hi j hj
    have m : ∀ i, i ∈ List.range (k + 1) ++ D → i ∈ k :: (List.range k ++ D) := by
      intro i hi
      rcases List.mem_append.1 hi with h | h
      · have := List.mem_range.1 h
        by_cases e : i = k
        · rw [e]; exact List.mem_cons_self ..
        · exact List.mem_cons_of_mem _ (List.mem_append.2 (.inl (List.mem_range.2 (by omega))))
      · exact List.mem_cons_of_mem _ (List.mem_append.2 (.inr h))
    exact k1 i (m i hi) j (m j hj)

theorem extend_pt {n : Nat} {c : Mat} (hc : Closed n c) {D : List Nat} (hD : ∀ i ∈ D, i < n) {x : Nat → Int} (hx : PtOn D c x) : ∃ y : Nat → Int, Pt n c y ∧ ∀ i ∈ D, y i = x i := by
  obtain ⟨y, h1, h2⟩ := extend_all hc hD hx n (Nat.le_refl _)
  exact ⟨y, fun i j hi hj => h1 i (List.mem_append.2 (.inl (List.mem_range.2 hi))) j (List.mem_append.2 (.inl (List.mem_range.2 hj))), h2⟩

/-- Each bound of a closed zone is reached. -/
theorem Closed.reach {n : Nat} {c : Mat} (hc : Closed n c) {i j : Nat} (hi : i < n) (hj : j < n) {m : Int} (h : c i j = some m) : ∃ y, Pt n c y ∧ y j - y i = m := by
  by_cases e : i = j
  · subst e
    rw [hc.diag i hi] at h
    obtain ⟨y, h1, _⟩ := extend_pt hc (D := [i]) (by simp; exact hi) (x := fun _ => 0) (by
      intro p hp q hq
      simp at hp hq
      subst hp hq
      rw [hc.diag _ hi]; simp [okB])
    refine ⟨y, h1, ?_⟩
    simp at h; omega
  · obtain ⟨y, h1, h2⟩ := extend_pt hc (D := [i, j]) (by simp; exact ⟨hi, hj⟩) (x := fun k => if k = j then m else 0) (by
      intro p hp q hq
      simp at hp hq
      have back : okB (-m) (c j i) := by
        have t := hc.tri i i j hi hi hj
        rw [hc.diag i hi, h] at t
        cases h' : c j i with
        | none => trivial
        | some m' => rw [h'] at t; simp [leB, addB] at t; simp [okB]; omega
      rcases hp with rfl | rfl <;> rcases hq with rfl | rfl
      · rw [hc.diag _ hi]; simp [okB]
      · rw [h]; simp [okB, e]
      · simp [e]; exact back
      · rw [hc.diag _ hj]; simp [okB])
    refine ⟨y, h1, ?_⟩
    rw [h2 i (by simp), h2 j (by simp)]
    simp [e]

/-- Where there is no bound there is no bound. -/
theorem Closed.free {n : Nat} {c : Mat} (hc : Closed n c) {i j : Nat} (hi : i < n) (hj : j < n) (h : c i j = none) (K : Int) : ∃ y, Pt n c y ∧ K ≤ y j - y i := by
  have e : i ≠ j := by rintro rfl; rw [hc.diag i hi] at h; cases h
  obtain ⟨M, hM1, hM2⟩ : ∃ M : Int, K ≤ M ∧ okB (-M) (c j i) := by
    cases h' : c j i with
    | none => exact ⟨K, Int.le_refl _, trivial⟩
    | some m => exact ⟨max K (-m), by omega, by simp [okB]; omega⟩
  obtain ⟨y, h1, h2⟩ := extend_pt hc (D := [i, j]) (by simp; exact ⟨hi, hj⟩) (x := fun k => if k = j then M else 0) (by
    intro p hp q hq
    simp at hp hq
    rcases hp with rfl | rfl <;> rcases hq with rfl | rfl
    · rw [hc.diag _ hi]; simp [okB]
    · rw [h]; trivial
    · simp [e]; exact hM2
    · rw [hc.diag _ hj]; simp [okB])
  refine ⟨y, h1, ?_⟩
  rw [h2 i (by simp), h2 j (by simp)]
  simp [e]; exact hM1

/-- What all points are within is at least the closed bound. -/
theorem Closed.least {n : Nat} {c : Mat} (hc : Closed n c) {i j : Nat} (hi : i < n) (hj : j < n) {b : Bd} (h : ∀ y, Pt n c y → okB (y j - y i) b) : leB (c i j) b := by
  cases e : c i j with
  | none =>
    cases b with
    | none => trivial
    | some m =>
      obtain ⟨y, h1, h2⟩ := hc.free hi hj e (m + 1)
      have := h y h1
      simp [okB] at this
      omega
  | some m =>
    obtain ⟨y, h1, h2⟩ := hc.reach hi hj e
    have := h y h1
    rw [h2] at this
    cases b with
    | none => trivial
    | some m' => simpa [leB, okB] using this

/-- Two closed ones with the same points are the same. -/
theorem Closed.unique {n : Nat} {c d : Mat} (hc : Closed n c) (hd : Closed n d) (h : ∀ y, Pt n c y ↔ Pt n d y) {i j : Nat} (hi : i < n) (hj : j < n) : c i j = d i j :=
  leB_antisymm (hc.least hi hj fun y hy => (h y).1 hy i j hi hj) (hd.least hi hj fun y hy => (h y).2 hy i j hi hj)

/-! ## FLOYD and WARSHALL -/

def step (k : Nat) (c : Mat) : Mat := fun i j => minB (c i j) (addB (c i k) (c k j))
def start (c : Mat) : Mat := fun i j => if i = j then minB (c i j) (some 0) else c i j
def fw (c : Mat) : Nat → Mat
  | 0 => start c
  | k + 1 => step k (fw c k)

theorem step_le (k : Nat) (c : Mat) (i j : Nat) : leB (step k c i j) (c i j) := minB_left _ _
theorem fw_le {c : Mat} {k l : Nat} (h : k ≤ l) (i j : Nat) : leB (fw c l i j) (fw c k i j) := by
  induction l with
  | zero =>
    obtain rfl : k = 0 := by omega
    exact leB_refl _
  | succ l ih =>
    by_cases e : k = l + 1
    · subst e; exact leB_refl _
    · exact leB_trans (step_le _ _ _ _) (ih (by omega))

theorem start_pt {n : Nat} {c : Mat} {x : Nat → Int} : Pt n (start c) x ↔ Pt n c x := by
  constructor
  · intro h i j hi hj
    have := h i j hi hj
    unfold start at this
    split at this
    · exact okB_mono this (minB_left _ _)
    · exact this
  · intro h i j hi hj
    have := h i j hi hj
    unfold start
    split
    · rename_i e; subst e
      exact okB_min this (by simp [okB])
    · exact this

theorem step_pt {n k : Nat} (hk : k < n) {c : Mat} {x : Nat → Int} : Pt n (step k c) x ↔ Pt n c x := by
  constructor
  · intro h i j hi hj; exact okB_mono (h i j hi hj) (step_le _ _ _ _)
  · intro h i j hi hj
    refine okB_min (h i j hi hj) ?_
    have := okB_add (h i k hi hk) (h k j hk hj)
    rwa [show x k - x i + (x j - x k) = x j - x i by omega] at this

theorem fw_pt {n k : Nat} (hk : k ≤ n) {c : Mat} {x : Nat → Int} : Pt n (fw c k) x ↔ Pt n c x := by
  induction k with
  | zero => exact start_pt
  | succ k ih => exact (step_pt (by omega)).trans (ih (by omega))

/-- Nothing less than 0 in the diagonal. -/
def NoNeg (n : Nat) (c : Mat) : Prop := ∀ i, i < n → leB (some 0) (c i i)

theorem NoNeg.mono {n : Nat} {c d : Mat} (h : NoNeg n c) (k : ∀ i, i < n → leB (c i i) (d i i)) : NoNeg n d := fun i hi => leB_trans (h i hi) (k i hi)

theorem start_diag (c : Mat) (i : Nat) : leB (start c i i) (some 0) := by
  unfold start; rw [if_pos rfl]; exact minB_right _ _

/-- Up to k no bound is more than two on the way. -/
theorem fw_tri {n : Nat} {c : Mat} (k : Nat) (hk : k ≤ n) (hN : NoNeg n (fw c k)) : ∀ l, l < k → ∀ i j, i < n → j < n → leB (fw c k i j) (addB (fw c k i l) (fw c k l j)) := by
  induction k with
  | zero => intro l hl; omega
  | succ k ih =>
    have hN' : NoNeg n (fw c k) := hN.mono fun i _ => fw_le (by omega) i i
    have T := ih (by omega) hN'
    generalize hd : fw c k = d at *
    have e : fw c (k + 1) = step k d := by show step k (fw c k) = _; rw [hd]
    rw [e] at hN ⊢
    have hkk : leB (some 0) (d k k) := hN' k (by omega)
    have kk : k < n := by omega
    -- the cells of row and column k stay
    have rk : ∀ i, leB (d i k) (step k d i k) := by
      intro i
      refine le_minB (leB_refl _) ?_
      cases h1 : d i k <;> cases h2 : d k k <;> simp [addB, leB]
      rw [h2] at hkk; simp [leB] at hkk; omega
    have ck : ∀ j, leB (d k j) (step k d k j) := by
      intro j
      refine le_minB (leB_refl _) ?_
      cases h1 : d k j <;> cases h2 : d k k <;> simp [addB, leB]
      rw [h2] at hkk; simp [leB] at hkk; omega
    intro l hl i j hi hj
    by_cases hlk : l = k
    · subst hlk
      exact leB_trans (minB_right _ _) (addB_mono (rk i) (ck j))
    · have hl' : l < k := by omega
      have ll : l < n := by omega
      rcases minB_cases (d i l) (addB (d i k) (d k l)) with e1 | e1 <;> rcases minB_cases (d l j) (addB (d l k) (d k j)) with e2 | e2
      · show leB _ (addB (minB _ _) (minB _ _)); rw [e1, e2]
        exact leB_trans (minB_left _ _) (T l hl' i j hi hj)
      · show leB _ (addB (minB _ _) (minB _ _)); rw [e1, e2, ← addB_assoc]
        exact leB_trans (minB_right _ _) (addB_mono (T l hl' i k hi kk) (leB_refl _))
      · show leB _ (addB (minB _ _) (minB _ _)); rw [e1, e2, addB_assoc]
        exact leB_trans (minB_right _ _) (addB_mono (leB_refl _) (T l hl' k j kk hj))
      · show leB _ (addB (minB _ _) (minB _ _)); rw [e1, e2, addB_assoc, ← addB_assoc (d k l)]
        refine leB_trans (minB_right _ _) (addB_mono (leB_refl _) ?_)
        have z : leB (some 0) (addB (d k l) (d l k)) := leB_trans hkk (T l hl' k k kk kk)
        have := addB_mono z (leB_refl (d k j))
        refine leB_trans ?_ this
        cases d k j <;> simp [addB, leB]

theorem fw_closed {n : Nat} {c : Mat} (hN : NoNeg n (fw c n)) : Closed n (fw c n) := by
  refine ⟨fun i hi => ?_, fun i j k hi hj hk => fw_tri n (Nat.le_refl _) hN k hk i j hi hj⟩
  exact leB_antisymm (leB_trans (fw_le (Nat.zero_le _) i i) (start_diag c i)) (hN i hi)

/-- There is a point just if nothing in the diagonal is less than 0. -/
theorem fw_some {n : Nat} {c : Mat} : (∃ x, Pt n c x) ↔ NoNeg n (fw c n) := by
  constructor
  · rintro ⟨x, hx⟩ i hi
    have := (fw_pt (Nat.le_refl n)).2 hx i i hi hi
    cases h : fw c n i i with
    | none => trivial
    | some m => rw [h] at this; simp [okB] at this; simpa [leB] using this
  · intro h
    obtain ⟨y, h1, _⟩ := extend_pt (fw_closed h) (D := []) (by simp) (x := fun _ => 0) (by intro i hi; cases hi)
    exact ⟨y, (fw_pt (Nat.le_refl n)).1 h1⟩

/-- Whatever has the same points and lies at most at the closed bounds is closed. -/
theorem closed_of_le {n : Nat} {c d : Mat} (hs : ∀ x, Pt n c x → Pt n d x) (hl : ∀ i j, i < n → j < n → leB (d i j) (fw c n i j)) (hN : NoNeg n (fw c n)) {i j : Nat} (hi : i < n) (hj : j < n) : d i j = fw c n i j :=
  leB_antisymm (hl i j hi hj) ((fw_closed hN).least hi hj fun y hy => hs y ((fw_pt (Nat.le_refl n)).1 hy) i j hi hj)

end Go.Proofs.YtbafkjhlogkllaaGreatDoor

/- Zones: closing over and over, as a machine does it (sums may wrap round): plain facts. -/
namespace Go.Proofs.YtbafkjhlogkllaaGreatDoor
set_option linter.unusedVariables false

/-- One cell set anew. -/
def setM (d : Mat) (i j : Nat) (b : Bd) : Mat := fun p q => if p = i ∧ q = j then b else d p q
/-- One way tried: g is what a sum becomes. -/
def sumB (g : Int → Int) : Bd → Bd → Bd
  | some a, some b => some (g (a + b))
  | _, _ => none
def relax (g : Int → Int) (d : Mat) (i j k : Nat) : Mat := setM d i j (minB (d i j) (sumB g (d i k) (d k j)))
/-- The first p ways of a round. -/
def sweep (g : Int → Int) (n : Nat) (d : Mat) : Nat → Mat
  | 0 => d
  | p + 1 => relax g (sweep g n d p) (p / n / n) (p / n % n) (p % n)
def rounds (g : Int → Int) (n : Nat) (d : Mat) : Nat → Mat
  | 0 => d
  | t + 1 => sweep g n (rounds g n d t) (n * n * n)

theorem relax_le (g : Int → Int) (d : Mat) (i j k p q : Nat) : leB (relax g d i j k p q) (d p q) := by
  unfold relax setM; split
  · rename_i h; rw [h.1, h.2]; exact minB_left _ _
  · exact leB_refl _
theorem sweep_le (g : Int → Int) (n : Nat) (d : Mat) {p q : Nat} (h : p ≤ q) (i j : Nat) : leB (sweep g n d q i j) (sweep g n d p i j) := by
  induction q with
  | zero =>
    obtain rfl : p = 0 := by omega
    exact leB_refl _
  | succ q ih =>
    by_cases e : p = q + 1
    · subst e; exact leB_refl _
    · exact leB_trans (relax_le _ _ _ _ _ _ _) (ih (by omega))
theorem rounds_le (g : Int → Int) (n : Nat) (d : Mat) {p q : Nat} (h : p ≤ q) (i j : Nat) : leB (rounds g n d q i j) (rounds g n d p i j) := by
  induction q with
  | zero =>
    obtain rfl : p = 0 := by omega
    exact leB_refl _
  | succ q ih =>
    by_cases e : p = q + 1
    · subst e; exact leB_refl _
    · exact leB_trans (sweep_le g n _ (Nat.zero_le _) i j) (ih (by omega))

/-- How great the cells of a round may become, of five variables. -/
def tab : Nat → Nat → Nat
  | 0, 1 => 2 | 0, 2 => 3 | 0, 3 => 4 | 0, 4 => 5
  | 1, 0 => 2 | 1, 2 => 5 | 1, 3 => 6 | 1, 4 => 7
  | 2, 0 => 3 | 2, 1 => 5 | 2, 3 => 11 | 2, 4 => 12
  | 3, 0 => 4 | 3, 1 => 6 | 3, 2 => 11 | 3, 4 => 23
  | 4, 0 => 5 | 4, 1 => 7 | 4, 2 => 12 | 4, 3 => 23
  | _, _ => 1

theorem tab_fin : ∀ i j k : Fin 5, (k.val = i.val ∨ k.val = j.val ∨ i.val = j.val) ∨ (if k.val < j.val then tab i.val k.val else 1) + (if k.val < i.val then tab k.val j.val else 1) ≤ tab i.val j.val := by decide
theorem tab_ok (i : Nat) (hi : i < 5) (j : Nat) (hj : j < 5) (k : Nat) (hk : k < 5) (h1 : k ≠ i) (h2 : k ≠ j) (h3 : i ≠ j) : (if k < j then tab i k else 1) + (if k < i then tab k j else 1) ≤ tab i j :=
  (tab_fin ⟨i, hi⟩ ⟨j, hj⟩ ⟨k, hk⟩).resolve_left (by rintro (h | h | h) <;> contradiction)
theorem tab_pos : ∀ i, i < 5 → ∀ j, j < 5 → 1 ≤ tab i j := by decide
theorem tab_le : ∀ i, i < 5 → ∀ j, j < 5 → tab i j ≤ 23 := by decide

/-- What is held within a round: at place P (of n times n) all that lies behind is as it was. -/
structure Mg (n m : Nat) (P : Nat) (d : Mat) : Prop where
  diag : ∀ i, i < n → d i i = some 0
  old : ∀ i j, i < n → j < n → P < i * n + j → ∀ v, d i j = some v → v.natAbs ≤ m
  new : ∀ i j, i < n → j < n → i * n + j ≤ P → ∀ v, d i j = some v → v.natAbs ≤ tab i j * m

theorem Mg.more {n m P : Nat} {d : Mat} (hn : n ≤ 5) (h : Mg n m P d) : Mg n m (P + 1) d := by
  refine ⟨h.diag, fun i j hi hj hP => h.old i j hi hj (by omega), fun i j hi hj hP v hv => ?_⟩
  by_cases e : i * n + j ≤ P
  · exact h.new i j hi hj e v hv
  · have := h.old i j hi hj (by omega) v hv
    have t := tab_pos i (by omega) j (by omega)
    exact Nat.le_trans this (Nat.le_mul_of_pos_left m t)

theorem Mg.all {n m P : Nat} {d : Mat} (hn : n ≤ 5) (h : Mg n m P d) {i j : Nat} (hi : i < n) (hj : j < n) {v : Int} (hv : d i j = some v) : v.natAbs ≤ 23 * m := by
  by_cases e : i * n + j ≤ P
  · exact Nat.le_trans (h.new i j hi hj e v hv) (Nat.mul_le_mul_right m (tab_le i (by omega) j (by omega)))
  · have := h.old i j hi hj (by omega) v hv; omega

theorem row_lt {n i j k : Nat} (hj : j < n) (h : k < i) : k * n + j ≤ i * n + j := by
  have := Nat.mul_le_mul_right n (Nat.le_of_lt h)
  omega

/-- What is found of sums that do not wrap round. -/
def NoWrap (g : Int → Int) (m : Nat) : Prop := ∀ v : Int, v.natAbs ≤ 46 * m → g v = v

/-- One way tried keeps sizes, as long as no diagonal cell falls. -/
theorem Mg.relax {g : Int → Int} {n m : Nat} {d : Mat} (hn : n ≤ 5) (hg : NoWrap g m) {i j k : Nat} (hi : i < n) (hj : j < n) (hk : k < n) (h : Mg n m (i * n + j) d) (hN : ∀ p, p < n → leB (some 0) (relax g d i j k p p)) : Mg n m (i * n + j) (relax g d i j k) := by
  have dg : ∀ p, p < n → Go.Proofs.YtbafkjhlogkllaaGreatDoor.relax g d i j k p p = some 0 := by
    intro p hp
    have h1 := relax_le g d i j k p p
    rw [h.diag p hp] at h1
    exact leB_antisymm h1 (hN p hp)
  have key : ∀ v, i ≠ j → Go.Proofs.YtbafkjhlogkllaaGreatDoor.relax g d i j k i j = some v → v.natAbs ≤ tab i j * m := by
    intro v hij hv
    unfold Go.Proofs.YtbafkjhlogkllaaGreatDoor.relax setM at hv
    rw [if_pos ⟨rfl, rfl⟩] at hv
    rcases minB_cases (d i j) (sumB g (d i k) (d k j)) with e | e
    · rw [e] at hv; exact h.new i j hi hj (Nat.le_refl _) v hv
    · rw [e] at hv
      cases ha : d i k with
      | none => rw [ha] at hv; cases hv
      | some a =>
        cases hb : d k j with
        | none => rw [ha, hb] at hv; cases hv
        | some b =>
          rw [ha, hb] at hv
          have A := h.all hn hi hk ha
          have B := h.all hn hk hj hb
          have gv : g (a + b) = a + b := hg _ (by omega)
          have hv' : a + b = v := by simpa [sumB, gv] using hv
          by_cases k1 : k = i
          · subst k1
            rw [h.diag k hi] at ha
            obtain rfl : 0 = a := by simpa using ha
            have : v = b := by omega
            rw [this]
            exact h.new k j hi hj (Nat.le_refl _) b hb
          · by_cases k2 : k = j
            · subst k2
              rw [h.diag k hj] at hb
              obtain rfl : 0 = b := by simpa using hb
              have : v = a := by omega
              rw [this]
              exact h.new i k hi hj (Nat.le_refl _) a ha
            · have T := tab_ok i (by omega) j (by omega) k (by omega) k1 k2 hij
              have a1 : a.natAbs ≤ (if k < j then tab i k else 1) * m := by
                split
                · exact h.new i k hi hk (by omega) a ha
                · have := h.old i k hi hk (by omega) a ha; omega
              have b1 : b.natAbs ≤ (if k < i then tab k j else 1) * m := by
                split
                · exact h.new k j hk hj (row_lt hj (by assumption)) b hb
                · have hk' : i + 1 ≤ k := by omega
                  have := Nat.mul_le_mul_right n hk'
                  have := h.old k j hk hj (by rw [Nat.add_mul] at this; omega) b hb
                  omega
              have : v.natAbs ≤ a.natAbs + b.natAbs := by omega
              have M := Nat.mul_le_mul_right m T
              rw [Nat.add_mul] at M
              omega
  have oth : ∀ p q, ¬ (p = i ∧ q = j) → Go.Proofs.YtbafkjhlogkllaaGreatDoor.relax g d i j k p q = d p q := by
    intro p q hpq
    unfold Go.Proofs.YtbafkjhlogkllaaGreatDoor.relax setM
    rw [if_neg hpq]
  refine ⟨dg, fun p q hp hq hP v hv => ?_, fun p q hp hq hP v hv => ?_⟩
  · by_cases e : p = i ∧ q = j
    · rw [e.1, e.2] at hP; omega
    · rw [oth p q e] at hv; exact h.old p q hp hq hP v hv
  · by_cases e : p = i ∧ q = j
    · obtain ⟨rfl, rfl⟩ := e
      by_cases hij : p = q
      · subst hij
        rw [dg p hp] at hv
        obtain rfl : 0 = v := by simpa using hv
        simp
      · exact key v hij hv
    · rw [oth p q e] at hv; exact h.new p q hp hq hP v hv

/-- No point is lost. -/
def Sound (n : Nat) (z d : Mat) : Prop := ∀ x, Pt n z x → Pt n d x

theorem sum_add {g : Int → Int} {a b : Bd} (h : ∀ x y, a = some x → b = some y → g (x + y) = x + y) : sumB g a b = addB a b := by
  cases a with
  | none => rfl
  | some x =>
    cases b with
    | none => rfl
    | some y => simp [sumB, addB, h x y rfl rfl]

theorem Mg.sum {g : Int → Int} {n m P : Nat} {d : Mat} (hn : n ≤ 5) (hg : NoWrap g m) (h : Mg n m P d) {i j k : Nat} (hi : i < n) (hj : j < n) (hk : k < n) : sumB g (d i k) (d k j) = addB (d i k) (d k j) :=
  sum_add fun x y hx hy => hg _ (by have := h.all hn hi hk hx; have := h.all hn hk hj hy; omega)

theorem Sound.relax {g : Int → Int} {n : Nat} {z d : Mat} (h : Sound n z d) {i j k : Nat} (hi : i < n) (hj : j < n) (hk : k < n) (e : sumB g (d i k) (d k j) = addB (d i k) (d k j)) : Sound n z (relax g d i j k) := by
  intro x hx p q hp hq
  have H := h x hx
  unfold Go.Proofs.YtbafkjhlogkllaaGreatDoor.relax setM
  split
  · rename_i c
    rw [c.1, c.2, e]
    refine okB_min (H i j hi hj) ?_
    have := okB_add (H i k hi hk) (H k j hk hj)
    rwa [show x k - x i + (x j - x k) = x j - x i by omega] at this
  · exact H p q hp hq

theorem place {n p : Nat} (h : p < n * n * n) : p / n / n < n ∧ p / n % n < n ∧ p % n < n ∧ p / n / n * n + p / n % n = p / n := by
  have n0 : 0 < n := by
    rcases Nat.eq_zero_or_pos n with e | e
    · subst e; simp at h
    · exact e
  refine ⟨?_, Nat.mod_lt _ n0, Nat.mod_lt _ n0, ?_⟩
  · rw [Nat.div_div_eq_div_mul]
    exact Nat.div_lt_of_lt_mul h
  · rw [Nat.mul_comm]; exact Nat.div_add_mod _ _

theorem sweep_run {g : Int → Int} {n m : Nat} {z d : Mat} (hn : n ≤ 5) (hg : NoWrap g m) (h0 : Mg n m 0 d) (hs : Sound n z d) (hQ : ∀ p, p ≤ n * n * n → Sound n z (sweep g n d p) → NoNeg n (sweep g n d p)) :
    ∀ p, p ≤ n * n * n → Mg n m (p / n) (sweep g n d p) ∧ Sound n z (sweep g n d p) := by
  intro p
  induction p with
  | zero => intro _; exact ⟨by rw [Nat.zero_div]; exact h0, hs⟩
  | succ p ih =>
    intro hp
    obtain ⟨M, S⟩ := ih (by omega)
    obtain ⟨hi, hj, hk, e⟩ := place (show p < n * n * n by omega)
    have S' : Sound n z (sweep g n d (p + 1)) := S.relax hi hj hk (M.sum hn hg hi hj hk)
    have N := hQ (p + 1) hp S'
    have M' : Mg n m (p / n) (sweep g n d (p + 1)) := by
      rw [← e] at M ⊢
      exact M.relax hn hg hi hj hk N
    refine ⟨?_, S'⟩
    have n0 : 0 < n := by omega
    by_cases c : (p + 1) / n = p / n
    · rw [c]; exact M'
    · have : (p + 1) / n = p / n + 1 := by
        have := Nat.succ_div (a := p) (b := n)
        split at this <;> omega
      rw [this]; exact M'.more hn

theorem sweep_end {g : Int → Int} {n m : Nat} {z d : Mat} (hn : n ≤ 5) (hg : NoWrap g m) (h0 : Mg n m 0 d) (hs : Sound n z d) (hQ : ∀ p, p ≤ n * n * n → Sound n z (sweep g n d p) → NoNeg n (sweep g n d p)) :
    Mg n (23 * m) 0 (sweep g n d (n * n * n)) ∧ Sound n z (sweep g n d (n * n * n)) ∧ ∀ i j k, i < n → j < n → k < n → leB (sweep g n d (n * n * n) i j) (addB (d i k) (d k j)) := by
  have R := sweep_run hn hg h0 hs hQ
  obtain ⟨M, S⟩ := R (n * n * n) (Nat.le_refl _)
  refine ⟨⟨M.diag, fun i j hi hj _ v hv => M.all hn hi hj hv, fun i j hi hj _ v hv => ?_⟩, S, ?_⟩
  · have := M.all hn hi hj hv
    have t := tab_pos i (by omega) j (by omega)
    exact Nat.le_trans this (Nat.le_mul_of_pos_left _ t)
  · intro i j k hi hj hk
    have p1 : (i * n + j) * n + k < n * n * n := by
      have a : i * n + j + 1 ≤ n * n := by
        have := Nat.mul_le_mul_right n (show i + 1 ≤ n from hi)
        rw [Nat.add_mul] at this; omega
      have := Nat.mul_le_mul_right n a
      rw [Nat.add_mul (i * n + j) 1 n] at this
      omega
    have n0 : 0 < n := by omega
    have e1 : ((i * n + j) * n + k) / n = i * n + j := by rw [Nat.mul_comm, Nat.mul_add_div n0, Nat.div_eq_of_lt hk]; rfl
    have e2 : ((i * n + j) * n + k) % n = k := by rw [Nat.mul_comm, Nat.mul_add_mod, Nat.mod_eq_of_lt hk]
    have e3 : (i * n + j) / n = i := by rw [Nat.mul_comm, Nat.mul_add_div n0, Nat.div_eq_of_lt hj]; rfl
    have e4 : (i * n + j) % n = j := by rw [Nat.mul_comm, Nat.mul_add_mod, Nat.mod_eq_of_lt hj]
    refine leB_trans (sweep_le g n d p1 i j) ?_
    show leB (Go.Proofs.YtbafkjhlogkllaaGreatDoor.relax g _ _ _ _ i j) _
    rw [e1, e2, e3, e4]
    obtain ⟨M1, _⟩ := R ((i * n + j) * n + k) (by omega)
    unfold Go.Proofs.YtbafkjhlogkllaaGreatDoor.relax setM
    rw [if_pos ⟨rfl, rfl⟩, M1.sum hn hg hi hj hk]
    exact leB_trans (minB_right _ _) (addB_mono (sweep_le g n d (Nat.zero_le _) i k) (sweep_le g n d (Nat.zero_le _) k j))

theorem rounds_run {g : Int → Int} {n m : Nat} {z d : Mat} (hn : n ≤ 5) (T : Nat) (hg : NoWrap g (23 ^ T * m)) (h0 : Mg n m 0 d) (hs : Sound n z d) (hQ : ∀ t p, t < T → p ≤ n * n * n → Sound n z (sweep g n (rounds g n d t) p) → NoNeg n (sweep g n (rounds g n d t) p)) :
    ∀ t, t ≤ T → Mg n (23 ^ t * m) 0 (rounds g n d t) ∧ Sound n z (rounds g n d t) ∧ (∀ s, s < t → ∀ i j k, i < n → j < n → k < n → leB (rounds g n d (s + 1) i j) (addB (rounds g n d s i k) (rounds g n d s k j))) := by
  intro t
  induction t with
  | zero => intro _; exact ⟨by rw [Nat.pow_zero, Nat.one_mul]; exact h0, hs, fun s h => by omega⟩
  | succ t ih =>
    intro ht
    obtain ⟨M, S, W⟩ := ih (by omega)
    have hg' : NoWrap g (23 ^ t * m) := by
      intro v hv
      apply hg
      have : 23 ^ t ≤ 23 ^ T := Nat.pow_le_pow_right (by omega) (by omega)
      have := Nat.mul_le_mul_right m this
      omega
    obtain ⟨M', S', W'⟩ := sweep_end hn hg' M S (fun p hp => hQ t p (by omega) hp)
    refine ⟨?_, S', ?_⟩
    · have : 23 ^ (t + 1) * m = 23 * (23 ^ t * m) := by rw [Nat.pow_succ, Nat.mul_comm (23 ^ t) 23, Nat.mul_assoc]
      rw [this]; exact M'
    · intro s hs i j k hi hj hk
      by_cases e : s = t
      · subst e; exact W' i j k hi hj hk
      · exact W s (by omega) i j k hi hj hk

/-- Rounds come to what FLOYD and WARSHALL come to. -/
theorem rounds_fw {g : Int → Int} {n : Nat} {c : Mat} {T : Nat} (W : ∀ s, s < T → ∀ i j k, i < n → j < n → k < n → leB (rounds g n (start c) (s + 1) i j) (addB (rounds g n (start c) s i k) (rounds g n (start c) s k j))) :
    ∀ t, t ≤ T → t ≤ n → ∀ i j, i < n → j < n → leB (rounds g n (start c) t i j) (fw c t i j) := by
  intro t
  induction t with
  | zero => intro _ _ i j _ _; exact leB_refl _
  | succ t ih =>
    intro h1 h2 i j hi hj
    have I := ih (by omega) (by omega)
    refine le_minB (leB_trans (rounds_le g n _ (Nat.le_succ t) i j) (I i j hi hj)) ?_
    exact leB_trans (W t (by omega) i j t hi hj (by omega)) (addB_mono (I i t hi (by omega)) (I t j (by omega) hj))

/-- What closing over and over, T times or more, comes to. -/
theorem closing {g : Int → Int} {n m T : Nat} {z : Mat} (hn : n ≤ 5) (hT : n ≤ T) (hg : NoWrap g (23 ^ T * m)) (hz : ∀ i j, i < n → j < n → ∀ v, z i j = some v → v.natAbs ≤ m) :
    (NoNeg n (rounds g n (start z) T) ↔ ∃ x, Pt n z x) ∧ (NoNeg n (rounds g n (start z) T) → ∀ i j, i < n → j < n → rounds g n (start z) T i j = fw z n i j) ∧ ((∃ i, i < n ∧ ¬ leB (some 0) (z i i)) ∨ Mg n m 0 (start z)) := by
  have mg : (∀ i, i < n → leB (some 0) (z i i)) → Mg n m 0 (start z) := by
    intro hd
    have dg : ∀ i, i < n → start z i i = some 0 := by
      intro i hi
      refine leB_antisymm (start_diag z i) ?_
      unfold start; rw [if_pos rfl]
      exact le_minB (hd i hi) (leB_refl _)
    have cell : ∀ i j, i < n → j < n → ∀ v, start z i j = some v → v.natAbs ≤ m := by
      intro i j hi hj v hv
      by_cases e : i = j
      · subst e
        rw [dg i hi] at hv
        obtain rfl : 0 = v := by simpa using hv
        simp
      · unfold start at hv; rw [if_neg e] at hv
        exact hz i j hi hj v hv
    refine ⟨dg, fun i j hi hj _ => cell i j hi hj, fun i j hi hj _ v hv => ?_⟩
    have := cell i j hi hj v hv
    exact Nat.le_trans this (Nat.le_mul_of_pos_left _ (tab_pos i (by omega) j (by omega)))
  have s0 : Sound n z (start z) := fun x hx => start_pt.2 hx
  have core : Mg n m 0 (start z) → (∀ t p, t < T → p ≤ n * n * n → Sound n z (sweep g n (rounds g n (start z) t) p) → NoNeg n (sweep g n (rounds g n (start z) t) p)) → Sound n z (rounds g n (start z) T) ∧ ∀ i j, i < n → j < n → leB (rounds g n (start z) T i j) (fw z n i j) := by
    intro M hQ
    obtain ⟨_, S, W⟩ := rounds_run hn T hg M s0 hQ T (Nat.le_refl _)
    exact ⟨S, fun i j hi hj => leB_trans (rounds_le g n _ hT i j) (rounds_fw W n hT (Nat.le_refl _) i j hi hj)⟩
  have nn : ∀ {d : Mat}, Sound n z d → (∃ x, Pt n z x) → NoNeg n d := by
    rintro d S ⟨x, hx⟩ i hi
    have := S x hx i i hi hi
    cases h : d i i with
    | none => trivial
    | some v => rw [h] at this; simp [okB] at this; simpa [leB] using this
  have zd : NoNeg n (rounds g n (start z) T) → ∀ i, i < n → leB (some 0) (z i i) := by
    intro N i hi
    have h1 := leB_trans (N i hi) (rounds_le g n (start z) (Nat.zero_le T) i i)
    have h2 : leB (start z i i) (z i i) := by unfold start; rw [if_pos rfl]; exact minB_left _ _
    exact leB_trans h1 h2
  have later : NoNeg n (rounds g n (start z) T) → ∀ t p, t < T → p ≤ n * n * n → NoNeg n (sweep g n (rounds g n (start z) t) p) := by
    intro N t p ht hp
    refine N.mono fun i _ => leB_trans (rounds_le g n _ (show t + 1 ≤ T from ht) i i) ?_
    exact sweep_le g n _ hp i i
  have A : NoNeg n (rounds g n (start z) T) → (∃ x, Pt n z x) ∧ ∀ i j, i < n → j < n → rounds g n (start z) T i j = fw z n i j := by
    intro N
    obtain ⟨S, L⟩ := core (mg (zd N)) (fun t p ht hp _ => later N t p ht hp)
    have NF : NoNeg n (fw z n) := N.mono fun i hi => L i i hi hi
    exact ⟨fw_some.2 NF, fun i j hi hj => closed_of_le S L NF hi hj⟩
  refine ⟨⟨fun N => (A N).1, fun hx => ?_⟩, fun N => (A N).2, ?_⟩
  · have hd : ∀ i, i < n → leB (some 0) (z i i) := nn (fun x hx => hx) hx
    obtain ⟨S, _⟩ := core (mg hd) (fun t p _ _ S => nn S hx)
    exact nn S hx
  · by_cases hd : ∀ i, i < n → leB (some 0) (z i i)
    · exact .inr (mg hd)
    · left
      apply Classical.byContradiction
      intro h
      apply hd
      intro i hi
      apply Classical.byContradiction
      intro k
      exact h ⟨i, hi, k⟩

end Go.Proofs.YtbafkjhlogkllaaGreatDoor
