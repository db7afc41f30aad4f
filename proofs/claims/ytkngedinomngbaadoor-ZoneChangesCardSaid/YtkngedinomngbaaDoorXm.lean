/- Zones: one variable more: one round is enough. Plain facts. -/
import Derived.Test.YtkngedinomngbaaDoorOi
import Derived.Test.YtkngedinomngbaaDoorYw
namespace Go.Proofs.YtkngedinomngbaaDoor
set_option linter.unusedVariables false

/-- The rules of a sweep, one behind the other. -/
def relOps (n : Nat) : Nat → List Op
  | 0 => []
  | p + 1 => relOps n p ++ [.rel (p / n / n) (p / n % n) (p % n)]
theorem sweep_ops (g : Int → Int) (n : Nat) (d : Mat) : ∀ p, sweep g n d p = runO g d (relOps n p) := by
  intro p
  induction p with
  | zero => rfl
  | succ p ih =>
    show relax g (sweep g n d p) _ _ _ = runO g d (relOps n p ++ [_])
    rw [runO_append, ← ih]
    rfl
theorem relOps_blk (n q : Nat) : ∀ r, r ≤ n → relOps n (q * n + r) = relOps n (q * n) ++ (List.range r).map fun k => Op.rel (q / n) (q % n) k := by
  intro r
  induction r with
  | zero => intro _; simp
  | succ r ih =>
    intro hr
    have e1 : (q * n + r) / n = q := by rw [Nat.mul_comm, Nat.mul_add_div (by omega), Nat.div_eq_of_lt (by omega)]; rfl
    have e2 : (q * n + r) % n = r := by rw [Nat.mul_comm, Nat.mul_add_mod, Nat.mod_eq_of_lt (by omega)]
    show relOps n (q * n + r) ++ [Op.rel ((q * n + r) / n / n) ((q * n + r) / n % n) ((q * n + r) % n)] = _
    rw [ih (by omega), e1, e2, List.range_succ, List.map_append, List.append_assoc]
    rfl
theorem relOps_in {n : Nat} : ∀ p, p ≤ n * n * n → ∀ o ∈ relOps n p, ∃ i j k, i < n ∧ j < n ∧ k < n ∧ o = .rel i j k := by
  intro p
  induction p with
  | zero => intro _ o ho; cases ho
  | succ p ih =>
    intro hp o ho
    rcases List.mem_append.1 ho with h | h
    · exact ih (by omega) o h
    · obtain ⟨a, b, c, _⟩ := place (show p < n * n * n by omega)
      exact ⟨_, _, _, a, b, c, by simpa using h⟩
/-- Where each cell is none or what is come to, and lacks but one step: one round, and however many more. -/
theorem one_round {g : Int → Int} {n m : Nat} {S F : Mat} (f : Fin0 g n m S F) (hfix : ∀ i j k, i < n → j < n → k < n → leB (F i j) (addB (F i k) (F k j)))
    (hw : ∀ i j, i < n → j < n → leB (S i j) (F i j) ∨ ∃ k, k < n ∧ leB (addB (S i k) (S k j)) (F i j)) : ∀ t i j, i < n → j < n → rounds g n S (t + 1) i j = F i j := by
  have fix : ∀ i j k, i < n → j < n → k < n → Fix n F (.rel i j k) := fun i j k hi hj hk => by
    show leB (F i j) (sumB id (F i k) (F k j))
    rw [sumB_id]; exact hfix i j k hi hj hk
  have pl : ∀ q, q ≤ n * n → Pl n S F (relOps n (q * n)) := by
    intro q
    induction q with
    | zero => intro _; rw [Nat.zero_mul]; exact .nil
    | succ q ih =>
      intro hq
      have n0 : 0 < n := Nat.pos_of_ne_zero (fun e => by subst e; simp at hq)
      have hi : q / n < n := Nat.div_lt_of_lt_mul (by omega)
      have hj : q % n < n := Nat.mod_lt _ n0
      rw [Nat.add_mul, Nat.one_mul, relOps_blk n q n (Nat.le_refl n)]
      refine .place (ih (by omega)) hi hj ?_ ?_
      · intro o ho
        obtain ⟨k, hk, rfl⟩ := List.mem_map.1 ho
        rw [List.mem_range] at hk
        exact ⟨⟨hi, hj, hk⟩, rfl, rfl, fun h => h, fix _ _ _ hi hj hk⟩
      · rcases hw _ _ hi hj with h | ⟨k, hk, h⟩
        · exact .inl h
        · refine .inr ⟨.rel (q / n) (q % n) k, List.mem_map.2 ⟨k, List.mem_range.2 hk, rfl⟩, ?_⟩
          show leB (sumB id _ _) _
          rw [sumB_id]; exact h
  have all := pl (n * n) (Nat.le_refl _)
  have hwit : ∀ i j, i < n → j < n → leB (S i j) (F i j) ∨ ∃ o ∈ relOps n (n * n * n), o.in n ∧ o.r = i ∧ o.c = j ∧ leB (o.val id S) (F i j) := by
    intro i j hi hj
    rcases hw i j hi hj with h | ⟨k, hk, h⟩
    · exact .inl h
    · refine .inr ⟨.rel i j k, ?_, ⟨hi, hj, hk⟩, rfl, rfl, ?_⟩
      · have key : ∀ P p, p < P → P ≤ n * n * n → Op.rel (p / n / n) (p / n % n) (p % n) ∈ relOps n P := by
          intro P
          induction P with
          | zero => intro p hp; omega
          | succ P ih =>
            intro p hp hP
            show _ ∈ relOps n P ++ [_]
            by_cases e : p = P
            · subst e; exact List.mem_append.2 (.inr (List.mem_singleton.2 rfl))
            · exact List.mem_append.2 (.inl (ih p (by omega) (by omega)))
        have n0 : 0 < n := by omega
        have hp : (i * n + j) * n + k < n * n * n := by
          have h1 : i * n + j < n * n := by
            have := Nat.mul_le_mul_right n (show i + 1 ≤ n from hi)
            rw [Nat.add_mul] at this; omega
          have := Nat.mul_le_mul_right n (show (i * n + j) + 1 ≤ n * n from h1)
          rw [Nat.add_mul] at this; omega
        have e1 : ((i * n + j) * n + k) / n = i * n + j := by rw [Nat.mul_comm, Nat.mul_add_div n0, Nat.div_eq_of_lt hk]; rfl
        have e2 : ((i * n + j) * n + k) % n = k := by rw [Nat.mul_comm, Nat.mul_add_mod, Nat.mod_eq_of_lt hk]
        have e3 : (i * n + j) / n = i := by rw [Nat.mul_comm, Nat.mul_add_div n0, Nat.div_eq_of_lt hj]; rfl
        have e4 : (i * n + j) % n = j := by rw [Nat.mul_comm, Nat.mul_add_mod, Nat.mod_eq_of_lt hj]
        have := key (n * n * n) _ hp (Nat.le_refl _)
        rw [e1, e2, e3, e4] at this
        exact this
      · show leB (sumB id _ _) _
        rw [sumB_id]; exact h
  intro t
  induction t with
  | zero =>
    intro i j hi hj
    show sweep g n S (n * n * n) i j = _
    rw [sweep_ops]
    exact Pl.all f all hwit hi hj
  | succ t ih =>
    intro i j hi hj
    show sweep g n (rounds g n S (t + 1)) (n * n * n) i j = _
    rw [sweep_ops]
    refine fin_stays f ih _ ?_ i j hi hj
    intro o ho
    obtain ⟨a, b, c, ha, hb, hc, rfl⟩ := relOps_in _ (Nat.le_refl _) o ho
    exact ⟨⟨ha, hb, hc⟩, fix a b c ha hb hc⟩

/-- A closed square with one variable more, that is y and c. -/
def bigM (n y : Nat) (c : Int) (d : Mat) : Mat := fun i j => if i < n ∧ j < n then d i j else if i = y ∧ j = n then some c else if i = n ∧ j = y then some (-c) else none
theorem big_closed {g : Int → Int} {n y m : Nat} {d : Mat} {c : Int} (hc : Closed n d) (hy : y < n) (hs : ∀ i j, i < n → j < n → ∀ v, d i j = some v → v.natAbs ≤ m) (hcm : c.natAbs ≤ m) (hg : ∀ v : Int, v.natAbs ≤ 12 * m → g v = v) :
    ∀ t i j, i < n + 1 → j < n + 1 → rounds g (n + 1) (start (bigM n y c d)) (t + 1) i j = mvM d n y c i j := by
  have st : ∀ i, i < n + 1 → stI n y i < n := by intro i hi; unfold stI; split <;> omega
  have sh : ∀ i, (shI n c i).natAbs ≤ m := by intro i; unfold shI; split; exact hcm; simp
  have old : ∀ i j, i < n → j < n → mvM d n y c i j = d i j := by
    intro i j hi hj
    unfold mvM stI shI
    rw [if_neg (by omega), if_neg (by omega), if_neg (by omega), if_neg (by omega), Int.sub_self, addB_zero]
  have Sd : ∀ i, i < n + 1 → start (bigM n y c d) i i = some 0 := by
    intro i hi
    unfold start bigM
    rw [if_pos rfl]
    by_cases h : i < n
    · rw [if_pos ⟨h, h⟩, hc.diag i h]; rfl
    · rw [if_neg (fun k => h k.1), if_neg (by omega), if_neg (by omega)]; rfl
  have Fd : ∀ i, i < n + 1 → mvM d n y c i i = some 0 := by
    intro i hi
    unfold mvM
    rw [Int.sub_self, addB_zero]
    exact hc.diag _ (st i hi)
  have So : ∀ i j, i ≠ j → start (bigM n y c d) i j = bigM n y c d i j := by intro i j h; unfold start; rw [if_neg h]
  have tri : ∀ i j k, i < n + 1 → j < n + 1 → k < n + 1 → leB (mvM d n y c i j) (addB (mvM d n y c i k) (mvM d n y c k j)) := by
    intro i j k hi hj hk
    have := hc.tri _ _ _ (st i hi) (st j hj) (st k hk)
    unfold mvM
    revert this
    cases d (stI n y i) (stI n y j) <;> cases d (stI n y i) (stI n y k) <;> cases d (stI n y k) (stI n y j) <;> simp [leB, addB] <;> omega
  refine one_round (m := 3 * m) ⟨?_, fun v hv => hg v (by omega), Fd, Sd, ?_⟩ tri ?_
  · intro p q hp hq v hv
    unfold mvM at hv
    have h1 := sh p
    have h2 := sh q
    cases e : d (stI n y p) (stI n y q) with
    | none => rw [e] at hv; simp [addB] at hv
    | some u =>
      have := hs _ _ (st p hp) (st q hq) u e
      rw [e] at hv
      simp [addB] at hv
      omega
  · intro p q hp hq
    by_cases e : p = q
    · subst e; right; rw [Sd p hp, Fd p hp]
    · rw [So p q e]
      unfold bigM
      by_cases h : p < n ∧ q < n
      · right; rw [if_pos h, old p q h.1 h.2]
      · rw [if_neg h]
        by_cases h1 : p = y ∧ q = n
        · right
          rw [if_pos h1]
          unfold mvM stI shI
          rw [if_neg (by omega), if_pos h1.2, if_pos h1.2, if_neg (by omega), h1.1, hc.diag y hy]
          simp [addB]
        · rw [if_neg h1]
          by_cases h2 : p = n ∧ q = y
          · right
            rw [if_pos h2]
            unfold mvM stI shI
            rw [if_pos h2.1, if_neg (by omega), if_neg (by omega), if_pos h2.1, h2.2, hc.diag y hy]
            simp [addB]
          · left; rw [if_neg h2]
  · intro i j hi hj
    by_cases e : i = j
    · subst e; left; rw [Sd i hi, Fd i hi]; exact leB_refl _
    by_cases h : i < n ∧ j < n
    · left; rw [So i j e]; unfold bigM; rw [if_pos h, old i j h.1 h.2]; exact leB_refl _
    · right
      refine ⟨y, by omega, ?_⟩
      by_cases hi2 : i = n
      · have hjn : j < n := by omega
        have e1 : start (bigM n y c d) i y = some (-c) := by
          rw [So i y (by omega)]; unfold bigM
          rw [if_neg (by omega), if_neg (by omega), if_pos ⟨hi2, rfl⟩]
        have e2 : start (bigM n y c d) y j = d y j := by
          by_cases k : y = j
          · subst k; rw [Sd y (by omega), hc.diag y hy]
          · rw [So y j k]; unfold bigM; rw [if_pos ⟨hy, hjn⟩]
        rw [e1, e2]
        unfold mvM stI shI
        rw [if_pos hi2, if_neg (by omega), if_neg (by omega), if_pos hi2]
        cases d y j <;> simp [addB, leB]; omega
      · have hjn : j = n := by omega
        have hin : i < n := by omega
        have e1 : start (bigM n y c d) y j = some c := by
          rw [So y j (by omega)]; unfold bigM
          rw [if_neg (by omega), if_pos ⟨rfl, hjn⟩]
        have e2 : start (bigM n y c d) i y = d i y := by
          by_cases k : i = y
          · subst k; rw [Sd i (by omega), hc.diag i hin]
          · rw [So i y k]; unfold bigM; rw [if_pos ⟨hin, hy⟩]
        rw [e1, e2]
        unfold mvM stI shI
        rw [if_neg hi2, if_pos hjn, if_pos hjn, if_neg hi2]
        cases d i y <;> simp [addB, leB]
/-- The new variable takes the place of x. -/
theorem big_out {n x y : Nat} {d : Mat} {c : Int} (hy : y < n) {i j : Nat} (hi : i < n) (hj : j < n) : mvM d n y c (if i = x then n else i) (if j = x then n else j) = mvM d x y c i j := by
  unfold mvM stI shI
  by_cases h1 : i = x <;> by_cases h2 : j = x
  · rw [if_pos h1, if_pos h2]; simp [h1, h2]
  · rw [if_pos h1, if_neg h2, if_pos rfl, if_neg (by omega : ¬ j = n), if_neg (by omega : ¬ j = n), if_pos rfl, if_pos h1, if_neg h2, if_neg h2, if_pos h1]
  · rw [if_neg h1, if_pos h2, if_pos rfl, if_neg (by omega : ¬ i = n), if_neg (by omega : ¬ i = n), if_pos rfl, if_neg h1, if_pos h2, if_pos h2, if_neg h1]
  · rw [if_neg h1, if_neg h2, if_neg (by omega : ¬ i = n), if_neg (by omega : ¬ j = n), if_neg (by omega : ¬ j = n), if_neg (by omega : ¬ i = n), if_neg h1, if_neg h2, if_neg h2, if_neg h1]
end Go.Proofs.YtkngedinomngbaaDoor
