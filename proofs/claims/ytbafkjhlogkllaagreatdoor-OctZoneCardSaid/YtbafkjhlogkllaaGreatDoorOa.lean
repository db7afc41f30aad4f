/- Octagons: tight over whole numbers (BAGNARA, HILL, ZAFFANELLA), the points that reach each bound: plain facts. -/
import Derived.Test.YtbafkjhlogkllaaGreatDoorZb
namespace Go.Proofs.YtbafkjhlogkllaaGreatDoor
set_option linter.unusedVariables false

/-- The opposite of what an index means. -/
def bar (i : Nat) : Nat := if i % 2 = 0 then i + 1 else i - 1
theorem bar_bar (i : Nat) : bar (bar i) = i := by unfold bar; split <;> split <;> omega
theorem bar_ne (i : Nat) : bar i ≠ i := by unfold bar; split <;> omega
theorem bar_lt {n i : Nat} (hn : n % 2 = 0) (hi : i < n) : bar i < n := by unfold bar; split <;> omega
theorem bar_inj {i j : Nat} (h : bar i = bar j) : i = j := by rw [← bar_bar i, h, bar_bar]

def Coh (n : Nat) (c : Mat) : Prop := ∀ i j, i < n → j < n → c i j = c (bar j) (bar i)
/-- A point of numbers and their opposites. -/
def OPt (n : Nat) (c : Mat) (x : Nat → Int) : Prop := Pt n c x ∧ ∀ i, x (bar i) = - x i
def halfB (b : Bd) : Bd := b.map fun v => v / 2
/-- The most that the number at i is. -/
def topB (d : Mat) (i : Nat) : Bd := halfB (d (bar i) i)
def tigM (d : Mat) : Mat := fun i j => minB (d i j) (addB (topB d (bar i)) (topB d j))

theorem halfB_mono {a b : Bd} (h : leB a b) : leB (halfB a) (halfB b) := by
  cases a <;> cases b <;> simp [halfB, leB] at * <;> omega
/-- Closed, coherent, whole: as a square of an octagon that is tight. -/
structure Tight (n : Nat) (c : Mat) : Prop where
  even : n % 2 = 0
  clo : Closed n c
  coh : Coh n c
  str : ∀ i j, i < n → j < n → leB (c i j) (addB (topB c (bar i)) (topB c j))
  par : ∀ i v, i < n → c (bar i) i = some v → v % 2 = 0

/-- The transposed of a square, by opposites. -/
def trM (c : Mat) : Mat := fun i j => c (bar j) (bar i)
theorem trM_pt {n : Nat} (hn : n % 2 = 0) {c : Mat} {x : Nat → Int} : Pt n (trM c) x ↔ Pt n c (fun i => - x (bar i)) := by
  constructor
  · intro h i j hi hj
    have := h (bar j) (bar i) (bar_lt hn hj) (bar_lt hn hi)
    unfold trM at this
    rw [bar_bar, bar_bar] at this
    show okB (- x (bar j) - - x (bar i)) (c i j)
    rwa [show - x (bar j) - - x (bar i) = x (bar i) - x (bar j) by omega]
  · intro h i j hi hj
    have := h (bar j) (bar i) (bar_lt hn hj) (bar_lt hn hi)
    show okB (x j - x i) (c (bar j) (bar i))
    have e : (fun i => - x (bar i)) (bar i) - (fun i => - x (bar i)) (bar j) = x j - x i := by
      show - x (bar (bar i)) - - x (bar (bar j)) = _
      rw [bar_bar, bar_bar]; omega
    rwa [e] at this
theorem trM_closed {n : Nat} (hn : n % 2 = 0) {c : Mat} (h : Closed n c) : Closed n (trM c) := by
  refine ⟨fun i hi => h.diag _ (bar_lt hn hi), fun i j k hi hj hk => ?_⟩
  have := h.tri (bar j) (bar i) (bar k) (bar_lt hn hj) (bar_lt hn hi) (bar_lt hn hk)
  unfold trM
  refine leB_trans this ?_
  cases c (bar j) (bar k) <;> cases c (bar k) (bar i) <;> simp [addB, leB]; omega
theorem fw_coh {n : Nat} (hn : n % 2 = 0) {c : Mat} (hc : Coh n c) (hN : NoNeg n (fw c n)) : Coh n (fw c n) := by
  intro i j hi hj
  have k1 := fw_closed hN
  have k2 := trM_closed hn k1
  refine k1.unique k2 (fun y => ?_) hi hj
  have e : Pt n c y ↔ Pt n (trM c) y := ⟨fun h i j hi hj => by unfold trM; rw [← hc i j hi hj]; exact h i j hi hj, fun h i j hi hj => by rw [hc i j hi hj]; exact h i j hi hj⟩
  rw [fw_pt (Nat.le_refl n), e, trM_pt hn, trM_pt hn, fw_pt (Nat.le_refl n)]

theorem half_add (a b : Bd) : halfB (addB (addB a a) b) = addB a (halfB b) := by
  cases a <;> cases b <;> simp [halfB, addB]; omega
theorem addB_comm (a b : Bd) : addB a b = addB b a := by
  cases a <;> cases b <;> simp [addB]; omega

/-- Of a closed coherent square: what one top says of another one. -/
theorem top_step {n : Nat} (hn : n % 2 = 0) {d : Mat} (hd : Closed n d) (hc : Coh n d) {i k : Nat} (hi : i < n) (hk : k < n) : leB (topB d (bar i)) (addB (d i k) (topB d (bar k))) := by
  unfold topB
  rw [bar_bar, bar_bar, ← half_add]
  apply halfB_mono
  have t1 := hd.tri i (bar i) k hi (bar_lt hn hi) hk
  have t2 := hd.tri k (bar i) (bar k) hk (bar_lt hn hi) (bar_lt hn hk)
  have e : d (bar k) (bar i) = d i k := (hc i k hi hk).symm
  rw [e] at t2
  refine leB_trans t1 (leB_trans (addB_mono (leB_refl _) t2) ?_)
  cases d i k <;> cases d k (bar k) <;> simp [addB, leB]; omega
theorem top_step' {n : Nat} (hn : n % 2 = 0) {d : Mat} (hd : Closed n d) (hc : Coh n d) {j k : Nat} (hj : j < n) (hk : k < n) : leB (topB d j) (addB (topB d k) (d k j)) := by
  have := top_step hn hd hc (i := bar j) (k := bar k) (bar_lt hn hj) (bar_lt hn hk)
  rw [bar_bar, bar_bar, ← hc k j hk hj, addB_comm] at this
  exact this

theorem tig_diag {n : Nat} (hn : n % 2 = 0) {d : Mat} (hd : Closed n d) (hN : NoNeg n (tigM d)) {i : Nat} (hi : i < n) : tigM d i i = some 0 ∧ leB (some 0) (addB (topB d (bar i)) (topB d i)) := by
  have h := hN i hi
  refine ⟨leB_antisymm ?_ h, leB_trans h (minB_right _ _)⟩
  exact leB_trans (minB_left _ _) (by rw [hd.diag i hi]; exact leB_refl _)

theorem tig_top {n : Nat} {d : Mat} (i : Nat) : tigM d (bar i) i = addB (topB d i) (topB d i) := by
  unfold tigM
  rw [bar_bar]
  unfold topB
  cases d (bar i) i with
  | none => simp [halfB, addB, minB]
  | some v => simp [halfB, addB, minB]; omega
theorem tig_topB {n : Nat} {d : Mat} (i : Nat) : topB (tigM d) i = topB d i := by
  show halfB (tigM d (bar i) i) = _
  rw [tig_top (n := n)]
  cases topB d i <;> simp [halfB, addB]; omega

/-- Tops put together two by two: tight. -/
theorem tig_tight {n : Nat} (hn : n % 2 = 0) {d : Mat} (hd : Closed n d) (hc : Coh n d) (hN : NoNeg n (tigM d)) : Tight n (tigM d) := by
  have dg : ∀ i, i < n → leB (some 0) (addB (topB d (bar i)) (topB d i)) := fun i hi => (tig_diag hn hd hN hi).2
  refine ⟨hn, ⟨fun i hi => (tig_diag hn hd hN hi).1, ?_⟩, ?_, ?_, ?_⟩
  · intro i j k hi hj hk
    have s1 := top_step hn hd hc hi hk
    have s2 := top_step' hn hd hc hj hk
    rcases minB_cases (d i k) (addB (topB d (bar i)) (topB d k)) with e1 | e1 <;> rcases minB_cases (d k j) (addB (topB d (bar k)) (topB d j)) with e2 | e2
    · show leB _ (addB (minB _ _) (minB _ _)); rw [e1, e2]
      exact leB_trans (minB_left _ _) (hd.tri i j k hi hj hk)
    · show leB _ (addB (minB _ _) (minB _ _)); rw [e1, e2, ← addB_assoc]
      exact leB_trans (minB_right _ _) (addB_mono s1 (leB_refl _))
    · show leB _ (addB (minB _ _) (minB _ _)); rw [e1, e2, addB_assoc]
      exact leB_trans (minB_right _ _) (addB_mono (leB_refl _) s2)
    · show leB _ (addB (minB _ _) (minB _ _)); rw [e1, e2, addB_assoc, ← addB_assoc (topB d k)]
      refine leB_trans (minB_right _ _) (addB_mono (leB_refl _) ?_)
      have z := dg k hk
      rw [addB_comm (topB d (bar k))] at z
      have := addB_mono z (leB_refl (topB d j))
      refine leB_trans ?_ this
      cases topB d j <;> simp [addB, leB]
  · intro i j hi hj
    show minB (d i j) _ = minB (d (bar j) (bar i)) _
    rw [← hc i j hi hj, bar_bar, addB_comm (topB d j)]
  · intro i j hi hj
    rw [tig_topB (n := n), tig_topB (n := n)]
    exact minB_right _ _
  · intro i v hi h
    rw [tig_top (n := n)] at h
    cases e : topB d i with
    | none => rw [e] at h; cases h
    | some u =>
      rw [e] at h
      have : u + u = v := by simpa [addB] using h
      omega

/-- No point is lost, none is won. -/
theorem okB_half {x : Int} {b : Bd} (h : okB (x + x) b) : okB x (halfB b) := by
  cases b <;> simp [okB, halfB] at *; omega
theorem tig_pt {n : Nat} (hn : n % 2 = 0) {d : Mat} {x : Nat → Int} : OPt n (tigM d) x ↔ OPt n d x := by
  constructor
  · rintro ⟨h, k⟩
    exact ⟨fun i j hi hj => okB_mono (h i j hi hj) (minB_left _ _), k⟩
  · rintro ⟨h, k⟩
    have t : ∀ i, i < n → okB (x i) (topB d i) := by
      intro i hi
      apply okB_half
      have := h (bar i) i (bar_lt hn hi) hi
      rwa [k i, show x i - - x i = x i + x i by omega] at this
    refine ⟨fun i j hi hj => okB_min (h i j hi hj) ?_, k⟩
    have := okB_add (t (bar i) (bar_lt hn hi)) (t j hj)
    rwa [k i, show - x i + x j = x j - x i by omega] at this

/-! ## Each bound of a tight square is reached -/

/-- A number between bounds from above and from below. -/
theorem between {U L : List Bd} (h : ∀ u ∈ U, ∀ l ∈ L, leB (some 0) (addB u l)) : ∃ z : Int, (∀ u ∈ U, okB z u) ∧ (∀ l ∈ L, okB (-z) l) := by
  obtain ⟨z, h1, h2⟩ := lo_up (lo := L.filterMap (fun b => b.map fun v => - v)) (up := U.filterMap id) (by
    intro a ha b hb
    obtain ⟨l, hl, el⟩ := List.mem_filterMap.1 ha
    obtain ⟨u, hu, eu⟩ := List.mem_filterMap.1 hb
    have := h u hu l hl
    cases l with
    | none => cases el
    | some lv =>
      simp at eu el
      subst eu
      simp [addB, leB] at this
      omega)
  refine ⟨z, fun u hu => ?_, fun l hl => ?_⟩
  · cases u with
    | none => trivial
    | some v => exact h2 v (List.mem_filterMap.2 ⟨some v, hu, rfl⟩)
  · cases l with
    | none => trivial
    | some v =>
      have := h1 (-v) (List.mem_filterMap.2 ⟨some v, hl, rfl⟩)
      simp [okB]; omega

def OPtOn (D : List Nat) (c : Mat) (x : Nat → Int) : Prop := PtOn D c x ∧ (∀ i, x (bar i) = - x i) ∧ ∀ i ∈ D, bar i ∈ D

theorem Tight.topOk {n : Nat} {c : Mat} (h : Tight n c) {i : Nat} (hi : i < n) : c (bar i) i = addB (topB c i) (topB c i) := by
  unfold topB
  cases e : c (bar i) i with
  | none => simp [halfB, addB]
  | some v => have := h.par i v hi e; simp [halfB, addB]; omega
theorem Tight.tops {n : Nat} {c : Mat} (h : Tight n c) {i : Nat} (hi : i < n) : leB (some 0) (addB (topB c (bar i)) (topB c i)) := by
  have := h.str i i hi hi
  rwa [h.clo.diag i hi] at this

/-- A point of some variables goes on to one more. -/
theorem oextend {n : Nat} {c : Mat} (h : Tight n c) {D : List Nat} (hD : ∀ i ∈ D, i < n) {x : Nat → Int} (hx : OPtOn D c x) {v : Nat} (hv : v < n) : ∃ y : Nat → Int, OPtOn (v :: bar v :: D) c y ∧ ∀ i ∈ D, y i = x i := by
  obtain ⟨hp, hx1, hx2⟩ := hx
  by_cases hin : v ∈ D
  · refine ⟨x, ⟨?_, hx1, ?_⟩, fun _ _ => rfl⟩
    · have m : ∀ i, i ∈ v :: bar v :: D → i ∈ D := by
        intro i hi
        rcases List.mem_cons.1 hi with rfl | hi
        · exact hin
        · rcases List.mem_cons.1 hi with rfl | hi
          · exact hx2 v hin
          · exact hi
      exact fun i hi j hj => hp i (m i hi) j (m j hj)
    · intro i hi
      have m : i ∈ D := by
        rcases List.mem_cons.1 hi with rfl | hi
        · exact hin
        · rcases List.mem_cons.1 hi with rfl | hi
          · exact hx2 v hin
          · exact hi
      exact List.mem_cons_of_mem _ (List.mem_cons_of_mem _ (hx2 i m))
  have hbv : bar v ∉ D := fun k => hin (by have := hx2 _ k; rwa [bar_bar] at this)
  have one : ∀ i ∈ D, okB (x i) (topB c i) := by
    intro i hi
    apply okB_half
    have := hp (bar i) (hx2 i hi) i hi
    rwa [hx1 i, show x i - - x i = x i + x i by omega] at this
  have hbvn := bar_lt h.even hv
  obtain ⟨z, z1, z2⟩ := between (U := topB c v :: D.map fun i => addB (some (x i)) (c i v)) (L := topB c (bar v) :: D.map fun i => addB (some (- x i)) (c v i)) (by
    intro u hu l hl
    rcases List.mem_cons.1 hu with rfl | hu
    · rcases List.mem_cons.1 hl with rfl | hl
      · rw [addB_comm]; exact h.tops hv
      · obtain ⟨i, hi, rfl⟩ := List.mem_map.1 hl
        have s := top_step' h.even h.clo h.coh (j := i) (k := v) (hD i hi) hv
        have o := okB_mono (one i hi) s
        cases e1 : topB c v <;> cases e2 : c v i <;> simp [e1, e2, addB, okB, leB] at * <;> omega
    · obtain ⟨i, hi, rfl⟩ := List.mem_map.1 hu
      rcases List.mem_cons.1 hl with rfl | hl
      · have s := top_step h.even h.clo h.coh (i := i) (k := v) (hD i hi) hv
        have o := okB_mono (one (bar i) (hx2 i hi)) s
        rw [hx1 i] at o
        cases e1 : topB c (bar v) <;> cases e2 : c i v <;> simp [e1, e2, addB, okB, leB] at * <;> omega
      · obtain ⟨j, hj, rfl⟩ := List.mem_map.1 hl
        have t := h.clo.tri i j v (hD i hi) (hD j hj) hv
        have o := okB_mono (hp i hi j hj) t
        cases e1 : c i v <;> cases e2 : c v j <;> simp [e1, e2, addB, okB, leB] at * <;> omega)
  have zt := z1 _ (List.mem_cons_self ..)
  have zb := z2 _ (List.mem_cons_self ..)
  have zu : ∀ i ∈ D, okB (z - x i) (c i v) := by
    intro i hi
    have := z1 _ (List.mem_cons_of_mem _ (List.mem_map.2 ⟨i, hi, rfl⟩))
    cases e : c i v <;> simp [e, addB, okB] at *; omega
  have zl : ∀ i ∈ D, okB (x i - z) (c v i) := by
    intro i hi
    have := z2 _ (List.mem_cons_of_mem _ (List.mem_map.2 ⟨i, hi, rfl⟩))
    cases e : c v i <;> simp [e, addB, okB] at *; omega
  let y : Nat → Int := fun i => if i = v then z else if i = bar v then - z else x i
  have yv : y v = z := by simp [y]
  have yb : y (bar v) = - z := by simp [y, bar_ne v]
  have yo : ∀ i, i ≠ v → i ≠ bar v → y i = x i := fun i h1 h2 => by simp [y, h1, h2]
  have yD : ∀ i ∈ D, y i = x i := fun i hi => yo i (fun e => hin (e ▸ hi)) (fun e => hbv (e ▸ hi))
  have yc : ∀ i, y (bar i) = - y i := by
    intro i
    by_cases e1 : i = v
    · subst e1; rw [yv, yb]
    · by_cases e2 : i = bar v
      · subst e2; rw [bar_bar, yv, yb]; omega
      · rw [yo i e1 e2, yo (bar i) (fun e => e2 (by rw [← e, bar_bar])) (fun e => e1 (bar_inj e)), hx1]
  refine ⟨y, ⟨?_, yc, ?_⟩, yD⟩
  · have vv : okB (y v - y (bar v)) (c (bar v) v) := by
      rw [h.topOk hv, yv, yb, show z - - z = z + z by omega]
      exact okB_add zt zt
    have bb : okB (y (bar v) - y v) (c v (bar v)) := by
      have e := h.topOk hbvn
      rw [bar_bar] at e
      rw [e, yv, yb, show - z - z = - z + - z by omega]
      exact okB_add zb zb
    have zz : ∀ i, i < n → okB (y i - y i) (c i i) := fun i hi => by rw [h.clo.diag i hi]; simp [okB]
    have vD : ∀ i ∈ D, okB (y v - y i) (c i v) ∧ okB (y i - y v) (c v i) := fun i hi => by rw [yv, yD i hi]; exact ⟨zu i hi, zl i hi⟩
    have bD : ∀ i ∈ D, okB (y (bar v) - y i) (c i (bar v)) ∧ okB (y i - y (bar v)) (c (bar v) i) := by
      intro i hi
      obtain ⟨k1, k2⟩ := vD (bar i) (hx2 i hi)
      have e1 := h.coh i (bar v) (hD i hi) hbvn
      have e2 := h.coh (bar v) i hbvn (hD i hi)
      rw [bar_bar] at e1 e2
      rw [yc i] at k1 k2
      rw [e1, e2, yc v]
      exact ⟨by rwa [show - y v - y i = - y i - y v by omega], by rwa [show y i - - y v = y v - - y i by omega]⟩
    intro i hi0 j hj0
    have ci : i = v ∨ i = bar v ∨ i ∈ D := by simpa using hi0
    have cj : j = v ∨ j = bar v ∨ j ∈ D := by simpa using hj0
    clear hi0 hj0
    rcases ci with e1 | e1 | hi <;> rcases cj with e2 | e2 | hj
    · rw [e1, e2]; exact zz _ hv
    · rw [e1, e2]; exact bb
    · rw [e1]; exact (vD j hj).2
    · rw [e1, e2]; exact vv
    · rw [e1, e2]; exact zz _ hbvn
    · rw [e1]; exact (bD j hj).2
    · rw [e2]; exact (vD i hi).1
    · rw [e2]; exact (bD i hi).1
    · rw [yD i hi, yD j hj]; exact hp i hi j hj
  · intro i hi
    rcases List.mem_cons.1 hi with rfl | hi
    · simp
    · rcases List.mem_cons.1 hi with rfl | hi
      · rw [bar_bar]; simp
      · exact List.mem_cons_of_mem _ (List.mem_cons_of_mem _ (hx2 i hi))

theorem oextend_all {n : Nat} {c : Mat} (h : Tight n c) {D : List Nat} (hD : ∀ i ∈ D, i < n) {x : Nat → Int} (hx : OPtOn D c x) (k : Nat) (hk : k ≤ n) : ∃ (y : Nat → Int) (E : List Nat), OPtOn E c y ∧ (∀ i ∈ E, i < n) ∧ (∀ i, i < k → i ∈ E) ∧ (∀ i ∈ D, i ∈ E) ∧ ∀ i ∈ D, y i = x i := by
  induction k with
  | zero => exact ⟨x, D, hx, hD, fun i h => by omega, fun i h => h, fun _ _ => rfl⟩
  | succ k ih =>
    obtain ⟨y, E, h1, h2, h3, h4, h5⟩ := ih (by omega)
    obtain ⟨z, k1, k2⟩ := oextend h h2 h1 (v := k) (by omega)
    refine ⟨z, _, k1, ?_, ?_, ?_, fun i hi => (k2 i (h4 i hi)).trans (h5 i hi)⟩
    · intro i hi
      rcases List.mem_cons.1 hi with rfl | hi
      · omega
      · rcases List.mem_cons.1 hi with rfl | hi
        · exact bar_lt h.even (by omega)
        · exact h2 i hi
    · intro i hi
      by_cases e : i = k
      · rw [e]; exact List.mem_cons_self ..
      · exact List.mem_cons_of_mem _ (List.mem_cons_of_mem _ (h3 i (by omega)))
    · intro i hi
      exact List.mem_cons_of_mem _ (List.mem_cons_of_mem _ (h4 i hi))
theorem oextend_pt {n : Nat} {c : Mat} (h : Tight n c) {D : List Nat} (hD : ∀ i ∈ D, i < n) {x : Nat → Int} (hx : OPtOn D c x) : ∃ y : Nat → Int, OPt n c y ∧ ∀ i ∈ D, y i = x i := by
  obtain ⟨y, E, h1, h2, h3, h4, h5⟩ := oextend_all h hD hx n (Nat.le_refl _)
  exact ⟨y, ⟨fun i j hi hj => h1.1 i (h3 i hi) j (h3 j hj), h1.2.1⟩, h5⟩
theorem Tight.pts {n : Nat} {c : Mat} (h : Tight n c) : ∃ y, OPt n c y := by
  obtain ⟨y, h1, _⟩ := oextend_pt h (D := []) (by simp) (x := fun _ => 0) ⟨(fun i hi => by cases hi), (by simp), (by simp)⟩
  exact ⟨y, h1⟩

/-- A tight square of one variable: any number between its tops. -/
theorem Tight.single {n : Nat} {c : Mat} (h : Tight n c) {i : Nat} (hi : i < n) {z : Int} (h1 : okB z (topB c i)) (h2 : okB (-z) (topB c (bar i))) : ∃ y, OPt n c y ∧ y i = z := by
  obtain ⟨y, k1, k2⟩ := oextend_pt h (D := [i, bar i]) (by simp; exact ⟨hi, bar_lt h.even hi⟩) (x := fun k => if k = i then z else if k = bar i then - z else 0) ⟨by
    intro p hp q hq
    have hb := bar_lt h.even hi
    have e := h.topOk hb
    rw [bar_bar] at e
    have ne := bar_ne i
    simp at hp hq
    rcases hp with rfl | rfl <;> rcases hq with rfl | rfl
    · simp [h.clo.diag _ hi, okB]
    · simp only [if_true, if_neg ne]
      rw [e, show - z - z = - z + - z by omega]; exact okB_add h2 h2
    · simp only [if_true, if_neg ne]
      rw [h.topOk hi, show z - - z = z + z by omega]; exact okB_add h1 h1
    · simp [h.clo.diag _ hb, okB], by
    intro k
    have ne := bar_ne i
    by_cases e1 : k = i
    · subst e1; simp [ne]
    · by_cases e2 : k = bar i
      · subst e2; simp [bar_bar, ne]
      · have e3 : bar k ≠ i := fun e => e2 (by rw [← e, bar_bar])
        have e4 : bar k ≠ bar i := fun e => e1 (bar_inj e)
        simp [e1, e2, e3, e4], by
    intro k hk
    simp at hk
    rcases hk with rfl | rfl
    · simp
    · simp [bar_bar]⟩
  exact ⟨y, k1, by rw [k2 i (by simp)]; simp⟩

/-- Two variables: any two numbers that no bound between them bars. -/
theorem Tight.pair {n : Nat} {c : Mat} (h : Tight n c) {i j : Nat} (hi : i < n) (hj : j < n) (h1 : j ≠ i) (h2 : j ≠ bar i) {a b : Int}
    (a1 : okB a (topB c i)) (a2 : okB (-a) (topB c (bar i))) (b1 : okB b (topB c j)) (b2 : okB (-b) (topB c (bar j)))
    (d1 : okB (b - a) (c i j)) (d2 : okB (a - b) (c j i)) (d3 : okB (b + a) (c (bar i) j)) (d4 : okB (-(a + b)) (c i (bar j))) : ∃ y, OPt n c y ∧ y i = a ∧ y j = b := by
  have hbi := bar_lt h.even hi
  have hbj := bar_lt h.even hj
  have ni := bar_ne i
  have nj := bar_ne j
  have n1 : bar j ≠ i := fun e => h2 (by rw [← e, bar_bar])
  have n2 : bar j ≠ bar i := fun e => h1 (bar_inj e)
  let x : Nat → Int := fun k => if k = i then a else if k = bar i then - a else if k = j then b else if k = bar j then - b else 0
  have xi : x i = a := by simp [x]
  have xbi : x (bar i) = - a := by simp [x, ni]
  have xj : x j = b := by simp [x, h1, h2]
  have xbj : x (bar j) = - b := by simp [x, n1, n2, nj]
  obtain ⟨y, k1, k2⟩ := oextend_pt h (D := [i, bar i, j, bar j]) (by simp; exact ⟨hi, hbi, hj, hbj⟩) (x := x) ⟨by
    have e1 := h.topOk hi
    have e2 := h.topOk hbi
    rw [bar_bar] at e2
    have e3 := h.topOk hj
    have e4 := h.topOk hbj
    rw [bar_bar] at e4
    have c1 := h.coh i j hi hj
    have c2 := h.coh j i hj hi
    have c3 := h.coh (bar i) j hbi hj
    have c4 := h.coh i (bar j) hi hbj
    rw [bar_bar] at c3 c4
    intro p hp q hq
    simp at hp hq
    rcases hp with rfl | rfl | rfl | rfl <;> rcases hq with rfl | rfl | rfl | rfl
    · rw [h.clo.diag _ hi]; simp [okB]
    · rw [xi, xbi, e2, show - a - a = - a + - a by omega]; exact okB_add a2 a2
    · rw [xi, xj]; exact d1
    · rw [xi, xbj, show - b - a = -(a + b) by omega]; exact d4
    · rw [xi, xbi, e1, show a - - a = a + a by omega]; exact okB_add a1 a1
    · rw [h.clo.diag _ hbi]; simp [okB]
    · rw [xbi, xj, show b - - a = b + a by omega]; exact d3
    · rw [xbi, xbj, ← c2, show - b - - a = a - b by omega]; exact d2
    · rw [xi, xj]; exact d2
    · rw [xj, xbi, ← c4, show - a - b = -(a + b) by omega]; exact d4
    · rw [h.clo.diag _ hj]; simp [okB]
    · rw [xj, xbj, e4, show - b - b = - b + - b by omega]; exact okB_add b2 b2
    · rw [xi, xbj, ← c3, show a - - b = b + a by omega]; exact d3
    · rw [xbi, xbj, ← c1, show - a - - b = b - a by omega]; exact d1
    · rw [xj, xbj, e3, show b - - b = b + b by omega]; exact okB_add b1 b1
    · rw [h.clo.diag _ hbj]; simp [okB], by
    intro k
    by_cases e1 : k = i
    · subst e1; rw [xi, xbi]
    by_cases e2 : k = bar i
    · subst e2; rw [bar_bar, xi, xbi]; omega
    by_cases e3 : k = j
    · subst e3; rw [xj, xbj]
    by_cases e4 : k = bar j
    · subst e4; rw [bar_bar, xj, xbj]; omega
    have f1 : bar k ≠ i := fun e => e2 (by rw [← e, bar_bar])
    have f2 : bar k ≠ bar i := fun e => e1 (bar_inj e)
    have f3 : bar k ≠ j := fun e => e4 (by rw [← e, bar_bar])
    have f4 : bar k ≠ bar j := fun e => e3 (bar_inj e)
    simp [x, e1, e2, e3, e4, f1, f2, f3, f4], by
    intro k hk
    simp at hk
    rcases hk with rfl | rfl | rfl | rfl
    · simp
    · simp [bar_bar]
    · simp
    · simp [bar_bar]⟩
  exact ⟨y, k1, by rw [k2 i (by simp), xi], by rw [k2 j (by simp), xj]⟩

theorem leB_some {a : Int} {b : Bd} : leB (some a) b ↔ okB a b := by cases b <;> simp [leB, okB]

/-- Two variables whose difference is m: if no two bounds bar it. -/
theorem Tight.diff {n : Nat} {c : Mat} (h : Tight n c) {i j : Nat} (hi : i < n) (hj : j < n) (h1 : j ≠ i) (h2 : j ≠ bar i) {m : Int} (d1 : okB m (c i j)) (d2 : okB (-m) (c j i))
    (k1 : okB m (addB (topB c (bar i)) (topB c j))) (k2 : okB (-m) (addB (topB c i) (topB c (bar j))))
    (k3 : okB m (addB (c (bar i) j) (c i (bar i)))) (k4 : okB (-m) (addB (c (bar i) j) (c j (bar j)))) (k5 : okB (-m) (addB (c i (bar j)) (c (bar i) i))) (k6 : okB m (addB (c i (bar j)) (c (bar j) j)))
    (k7 : ∀ u v, c (bar i) j = some u → c i (bar j) = some v → 0 ≤ u + v ∧ (u + v = 0 → (u - m) % 2 = 0)) : ∃ y, OPt n c y ∧ y j - y i = m := by
  have hbi := bar_lt h.even hi
  have hbj := bar_lt h.even hj
  have e1 := h.topOk hi
  have e2 := h.topOk hbi
  rw [bar_bar] at e2
  have e3 := h.topOk hj
  have e4 := h.topOk hbj
  rw [bar_bar] at e4
  have t1 := h.tops hi
  have t2 := h.tops hj
  obtain ⟨a, a1, a2⟩ := between (U := [topB c i, addB (some (-m)) (topB c j), halfB (addB (some (-m)) (c (bar i) j))]) (L := [topB c (bar i), addB (some m) (topB c (bar j)), halfB (addB (some m) (c i (bar j)))]) (by
    intro u hu l hl
    simp at hu hl
    rw [e2] at k3
    rw [e4] at k4
    rw [e1] at k5
    rw [e3] at k6
    rcases hu with rfl | rfl | rfl <;> rcases hl with rfl | rfl | rfl
    · rw [addB_comm]; exact t1
    · cases u1 : topB c i <;> cases u2 : topB c (bar j) <;> simp [u1, u2, addB, okB, leB] at * ; omega
    · cases u1 : topB c i <;> cases u2 : c i (bar j) <;> simp [u1, u2, addB, okB, leB, halfB] at * ; omega
    · cases u1 : topB c j <;> cases u2 : topB c (bar i) <;> simp [u1, u2, addB, okB, leB] at * ; omega
    · cases u1 : topB c j <;> cases u2 : topB c (bar j) <;> simp [u1, u2, addB, okB, leB] at * ; omega
    · cases u1 : topB c j <;> cases u2 : c i (bar j) <;> simp [u1, u2, addB, okB, leB, halfB] at * ; omega
    · cases u1 : c (bar i) j <;> cases u2 : topB c (bar i) <;> simp [u1, u2, addB, okB, leB, halfB] at * ; omega
    · cases u1 : c (bar i) j <;> cases u2 : topB c (bar j) <;> simp [u1, u2, addB, okB, leB, halfB] at * ; omega
    · cases u1 : c (bar i) j with
      | none => simp [addB, leB, halfB]
      | some u =>
        cases u2 : c i (bar j) with
        | none => simp [addB, leB, halfB]
        | some v =>
          have := k7 u v u1 u2
          simp [addB, leB, halfB]
          omega)
  have p1 := a1 _ (by simp : topB c i ∈ _)
  have p2 := a1 _ (by simp : addB (some (-m)) (topB c j) ∈ _)
  have p3 := a1 _ (by simp : halfB (addB (some (-m)) (c (bar i) j)) ∈ _)
  have q1 := a2 _ (by simp : topB c (bar i) ∈ _)
  have q2 := a2 _ (by simp : addB (some m) (topB c (bar j)) ∈ _)
  have q3 := a2 _ (by simp : halfB (addB (some m) (c i (bar j))) ∈ _)
  obtain ⟨y, z1, z2, z3⟩ := h.pair hi hj h1 h2 (a := a) (b := a + m) p1 q1
    (by cases u : topB c j <;> simp [u, addB, okB] at *; omega)
    (by cases u : topB c (bar j) <;> simp [u, addB, okB] at *; omega)
    (by rwa [show a + m - a = m by omega]) (by rwa [show a - (a + m) = -m by omega])
    (by cases u : c (bar i) j <;> simp [u, addB, okB, halfB] at *; omega)
    (by cases u : c i (bar j) <;> simp [u, addB, okB, halfB] at *; omega)
  exact ⟨y, z1, by rw [z2, z3]; omega⟩

/-- Each bound of a tight square is reached. -/
theorem Tight.reach {n : Nat} {c : Mat} (h : Tight n c) {i j : Nat} (hi : i < n) (hj : j < n) {m : Int} (e : c i j = some m) : ∃ y, OPt n c y ∧ y j - y i = m := by
  by_cases h1 : j = i
  · subst h1
    rw [h.clo.diag j hi] at e
    obtain ⟨y, k⟩ := h.pts
    exact ⟨y, k, by simp at e; omega⟩
  have hbi := bar_lt h.even hi
  have hbj := bar_lt h.even hj
  by_cases h2 : j = bar i
  · subst h2
    have t := h.topOk hbi
    rw [bar_bar] at t
    rw [e] at t
    have tt := h.tops hbi
    rw [bar_bar] at tt
    cases u : topB c (bar i) with
    | none => rw [u] at t; cases t
    | some v =>
      rw [u] at t tt
      obtain ⟨y, k1, k2⟩ := h.single hbi (z := v) (by rw [u]; simp [okB]) (by rw [bar_bar]; cases w : topB c i <;> simp [w, addB, okB, leB] at *; omega)
      refine ⟨y, k1, ?_⟩
      have := k1.2 i
      simp [addB] at t
      omega
  have cyc : ∀ k, k < n → leB (some m) (addB (c i k) (c k j)) := fun k hk => by rw [← e]; exact h.clo.tri i j k hi hj hk
  have back : okB (-m) (c j i) := by
    have := h.clo.tri i i j hi hi hj
    rw [h.clo.diag i hi, e] at this
    cases u : c j i <;> simp [u, addB, leB, okB] at *; omega
  have cb : c (bar j) (bar i) = some m := by rw [← h.coh i j hi hj]; exact e
  refine h.diff hi hj h1 h2 (by rw [e]; simp [okB]) back ?_ ?_ ?_ ?_ ?_ ?_ ?_
  · have := h.str i j hi hj; rw [e] at this; exact leB_some.1 this
  · have := okB_mono back (h.str j i hj hi)
    rwa [addB_comm] at this
  · have := cyc (bar i) hbi
    rw [addB_comm] at this; exact leB_some.1 this
  · have t := h.clo.tri (bar i) (bar i) (bar j) hbi hbi hbj
    have t2 := h.clo.tri (bar i) (bar j) j hbi hbj hj
    rw [h.clo.diag _ hbi, cb] at t
    have := leB_trans t (addB_mono t2 (leB_refl _))
    cases u1 : c (bar i) j <;> cases u2 : c j (bar j) <;> simp [u1, u2, addB, leB, okB] at * ; omega
  · have t := h.clo.tri i i (bar j) hi hi hbj
    have t2 := h.clo.tri (bar j) i (bar i) hbj hi hbi
    rw [h.clo.diag _ hi] at t
    rw [cb] at t2
    have := leB_trans t (addB_mono (leB_refl _) t2)
    cases u1 : c i (bar j) <;> cases u2 : c (bar i) i <;> simp [u1, u2, addB, leB, okB] at * ; omega
  · exact leB_some.1 (cyc (bar j) hbj)
  · intro u v hu hv
    have t := h.clo.tri i i (bar j) hi hi hbj
    have e5 := h.coh (bar i) j hbi hj
    rw [bar_bar] at e5
    rw [h.clo.diag _ hi, hv, ← e5, hu] at t
    simp [addB, leB] at t
    refine ⟨by omega, fun h0 => ?_⟩
    -- the sum is one number: so twice the one is
    have t1 := cyc (bar i) hbi
    rw [hu] at t1
    have t2 := h.clo.tri i (bar i) j hi hbi hj
    have e6 := h.coh i (bar j) hi hbj
    rw [bar_bar] at e6
    rw [e, ← e6, hv] at t2
    cases w : c i (bar i) with
    | none => rw [w] at t2; simp [addB, leB] at t2
    | some q =>
      rw [w] at t1 t2
      simp [addB, leB] at t1 t2
      have := h.par (bar i) q hbi (by rw [bar_bar]; exact w)
      omega

/-- Where there is no bound there is no bound. -/
theorem Tight.free {n : Nat} {c : Mat} (h : Tight n c) {i j : Nat} (hi : i < n) (hj : j < n) (e : c i j = none) (K : Int) : ∃ y, OPt n c y ∧ K ≤ y j - y i := by
  have h1 : j ≠ i := by rintro rfl; rw [h.clo.diag j hi] at e; cases e
  have hbi := bar_lt h.even hi
  have hbj := bar_lt h.even hj
  by_cases h2 : j = bar i
  · subst h2
    have t := h.topOk hbi
    rw [bar_bar] at t
    rw [e] at t
    have u : topB c (bar i) = none := by cases u : topB c (bar i) with
      | none => rfl
      | some v => rw [u] at t; cases t
    obtain ⟨z, hz1, hz2⟩ : ∃ z : Int, K ≤ z + z ∧ okB (-z) (topB c i) := by
      cases w : topB c i with
      | none => exact ⟨max K 0, by omega, trivial⟩
      | some v => exact ⟨max (max K 0) (-v), by omega, by simp [okB]; omega⟩
    obtain ⟨y, k1, k2⟩ := h.single hbi (z := z) (by rw [u]; trivial) (by rw [bar_bar]; exact hz2)
    refine ⟨y, k1, ?_⟩
    have := k1.2 i
    omega
  have st := h.str i j hi hj
  rw [e] at st
  have cyc : ∀ k, k < n → addB (c i k) (c k j) = none := fun k hk => by
    have := h.clo.tri i j k hi hj hk
    rw [e] at this
    cases u : addB (c i k) (c k j) with
    | none => rfl
    | some v => rw [u] at this; simp [leB] at this
  have sn : addB (topB c (bar i)) (topB c j) = none := by
    cases u : addB (topB c (bar i)) (topB c j) with
    | none => rfl
    | some v => rw [u] at st; simp [leB] at st
  -- how great m must be
  have big : ∀ b : Bd, ∃ M : Int, 0 ≤ M ∧ ∀ v, b = some v → - M ≤ v := by
    intro b
    cases b with
    | none => exact ⟨0, by omega, fun v h => by cases h⟩
    | some v => exact ⟨max 0 (-v), by omega, fun v' h => by simp at h; omega⟩
  obtain ⟨M1, g1, f1⟩ := big (c j i)
  obtain ⟨M2, g2, f2⟩ := big (addB (topB c i) (topB c (bar j)))
  obtain ⟨M3, g3, f3⟩ := big (addB (c (bar i) j) (c j (bar j)))
  obtain ⟨M4, g4, f4⟩ := big (addB (c i (bar j)) (c (bar i) i))
  obtain ⟨m0, hm0⟩ : ∃ m0 : Int, m0 = max K 0 + M1 + M2 + M3 + M4 := ⟨_, rfl⟩
  obtain ⟨m, hm1, hm2⟩ : ∃ m : Int, m0 ≤ m ∧ ∀ u, c (bar i) j = some u → (u - m) % 2 = 0 := by
    cases w : c (bar i) j with
    | none => exact ⟨m0, by omega, fun u h => by cases h⟩
    | some u =>
      by_cases p : (u - m0) % 2 = 0
      · exact ⟨m0, by omega, fun u' h => by simp at h; omega⟩
      · exact ⟨m0 + 1, by omega, fun u' h => by simp at h; omega⟩
  have low : ∀ {b : Bd} {M : Int}, (∀ v, b = some v → - M ≤ v) → M ≤ m → okB (-m) b := by
    intro b M hb hM
    cases b with
    | none => trivial
    | some v => have := hb v rfl; simp [okB]; omega
  obtain ⟨y, k1, k2⟩ := h.diff hi hj h1 h2 (m := m) (by rw [e]; trivial) (low f1 (by omega)) (by rw [sn]; trivial) (low f2 (by omega))
    (by rw [addB_comm, cyc (bar i) hbi]; trivial) (low f3 (by omega)) (low f4 (by omega)) (by rw [cyc (bar j) hbj]; trivial)
    (fun u v hu hv => by
      have t := h.clo.tri i i (bar j) hi hi hbj
      have e5 := h.coh (bar i) j hbi hj
      rw [bar_bar] at e5
      rw [h.clo.diag _ hi, hv, ← e5, hu] at t
      simp [addB, leB] at t
      exact ⟨by omega, fun _ => hm2 u hu⟩)
  exact ⟨y, k1, by omega⟩

/-- What all points are within is at least the tight bound. -/
theorem Tight.least {n : Nat} {c : Mat} (h : Tight n c) {i j : Nat} (hi : i < n) (hj : j < n) {b : Bd} (k : ∀ y, OPt n c y → okB (y j - y i) b) : leB (c i j) b := by
  cases e : c i j with
  | none =>
    cases b with
    | none => trivial
    | some m =>
      obtain ⟨y, h1, h2⟩ := h.free hi hj e (m + 1)
      have := k y h1
      simp [okB] at this
      omega
  | some m =>
    obtain ⟨y, h1, h2⟩ := h.reach hi hj e
    have := k y h1
    rw [h2] at this
    exact leB_some.2 this
theorem Tight.unique {n : Nat} {c d : Mat} (hc : Tight n c) (hd : Tight n d) (h : ∀ y, OPt n c y ↔ OPt n d y) {i j : Nat} (hi : i < n) (hj : j < n) : c i j = d i j :=
  leB_antisymm (hc.least hi hj fun y hy => ((h y).1 hy).1 i j hi hj) (hd.least hi hj fun y hy => ((h y).2 hy).1 i j hi hj)

/-! ## The tight square of any coherent one -/

def tnB (n : Nat) (d : Mat) : Bool := (List.range n).all fun i => match d i i with | some v => decide (0 ≤ v) | none => true
theorem tnB_iff {n : Nat} {d : Mat} : tnB n d = true ↔ NoNeg n d := by
  unfold tnB NoNeg
  rw [List.all_eq_true]
  constructor
  · intro h i hi
    have := h i (List.mem_range.2 hi)
    cases e : d i i with
    | none => simp [leB]
    | some v => rw [e] at this; simpa [leB] using this
  · intro h i hi
    have := h i (List.mem_range.1 hi)
    cases e : d i i with
    | none => rfl
    | some v => rw [e] at this; simpa [leB] using this
/-- Shortest ways, then tops two by two; where shortest ways show that there is no point: those. -/
def tg (n : Nat) (c : Mat) : Mat := if tnB n (fw c n) = true then tigM (fw c n) else fw c n
theorem tg_yes {n : Nat} {c : Mat} (h : NoNeg n (fw c n)) : tg n c = tigM (fw c n) := by unfold tg; rw [if_pos (tnB_iff.2 h)]
theorem tg_no {n : Nat} {c : Mat} (h : ¬ NoNeg n (fw c n)) : tg n c = fw c n := by unfold tg; rw [if_neg (fun k => h (tnB_iff.1 k))]
theorem tg_nn {n : Nat} {c : Mat} : NoNeg n (tg n c) ↔ NoNeg n (fw c n) ∧ NoNeg n (tigM (fw c n)) := by
  by_cases h : NoNeg n (fw c n)
  · rw [tg_yes h]; exact ⟨fun k => ⟨h, k⟩, fun k => k.2⟩
  · rw [tg_no h]; exact ⟨fun k => absurd k h, fun k => absurd k.1 h⟩
theorem tg_tight {n : Nat} (hn : n % 2 = 0) {c : Mat} (hc : Coh n c) (h : NoNeg n (tg n c)) : Tight n (tg n c) := by
  obtain ⟨h1, h2⟩ := tg_nn.1 h
  rw [tg_yes h1]
  exact tig_tight hn (fw_closed h1) (fw_coh hn hc h1) h2
theorem opt_fw {n : Nat} {c : Mat} {x : Nat → Int} : OPt n (fw c n) x ↔ OPt n c x := by
  unfold OPt; rw [fw_pt (Nat.le_refl n)]
theorem tg_pt {n : Nat} (hn : n % 2 = 0) {c : Mat} {x : Nat → Int} : OPt n (tg n c) x ↔ OPt n c x := by
  by_cases h : NoNeg n (fw c n)
  · rw [tg_yes h, tig_pt hn, opt_fw]
  · rw [tg_no h, opt_fw]
theorem nn_of_pt {n : Nat} {c : Mat} {x : Nat → Int} (h : Pt n c x) : NoNeg n c := by
  intro i hi
  have := h i i hi hi
  cases e : c i i with
  | none => trivial
  | some v => rw [e] at this; simp [okB] at this; simpa [leB] using this
/-- There is a point just if no cell of the diagonal is below 0. -/
theorem tg_some {n : Nat} (hn : n % 2 = 0) {c : Mat} (hc : Coh n c) : (∃ x, OPt n c x) ↔ NoNeg n (tg n c) := by
  constructor
  · rintro ⟨x, hx⟩
    exact nn_of_pt ((tg_pt hn).2 hx).1
  · intro h
    obtain ⟨y, hy⟩ := (tg_tight hn hc h).pts
    exact ⟨y, (tg_pt hn).1 hy⟩
/-- A tight square is its own. -/
theorem tg_same {n : Nat} {c : Mat} (h : Tight n c) : NoNeg n (tg n c) ∧ ∀ i j, i < n → j < n → tg n c i j = c i j := by
  have k := (tg_some h.even h.coh).1 h.pts
  exact ⟨k, fun i j hi hj => (tg_tight h.even h.coh k).unique h (fun y => tg_pt h.even) hi hj⟩
theorem tg_congr {n : Nat} (hn : n % 2 = 0) {c d : Mat} (hc : Coh n c) (h : ∀ i j, i < n → j < n → c i j = d i j) : (NoNeg n (tg n c) ↔ NoNeg n (tg n d)) ∧ (NoNeg n (tg n c) → ∀ i j, i < n → j < n → tg n c i j = tg n d i j) := by
  have hd : Coh n d := fun i j hi hj => by rw [← h i j hi hj, ← h _ _ (bar_lt hn hj) (bar_lt hn hi)]; exact hc i j hi hj
  have pt : ∀ x, OPt n c x ↔ OPt n d x := fun x => ⟨fun k => ⟨fun i j hi hj => by rw [← h i j hi hj]; exact k.1 i j hi hj, k.2⟩, fun k => ⟨fun i j hi hj => by rw [h i j hi hj]; exact k.1 i j hi hj, k.2⟩⟩
  have e : NoNeg n (tg n c) ↔ NoNeg n (tg n d) := by
    rw [← tg_some hn hc, ← tg_some hn hd]
    exact ⟨fun ⟨x, k⟩ => ⟨x, (pt x).1 k⟩, fun ⟨x, k⟩ => ⟨x, (pt x).2 k⟩⟩
  refine ⟨e, fun k i j hi hj => (tg_tight hn hc k).unique (tg_tight hn hd (e.1 k)) (fun y => ?_) hi hj⟩
  rw [tg_pt hn, tg_pt hn]
  exact pt y

end Go.Proofs.YtbafkjhlogkllaaGreatDoor
