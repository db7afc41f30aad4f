/- Octagons: the reference's closing over rows of cells: lists. -/
import Derived.Test.YtbafkjhlogkllaaGreatDoorOh
import Derived.Test.YtbafkjhlogkllaaGreatDoorZh
namespace Go.Proofs.YtbafkjhlogkllaaGreatDoor
open Go.RowKit
set_option linter.unusedVariables false

def tigL (n : Nat) (L : List Ce) (i : Nat) : List Ce := if (L.getD (i * n + bar i) ceZ).h = true then lowL L (i * n + bar i) (2 * ((L.getD (i * n + bar i) ceZ).m / 2)) else L
def strL (n : Nat) (L : List Ce) (i j : Nat) : List Ce :=
  if (L.getD (i * n + bar i) ceZ).h = true ∧ (L.getD (bar j * n + j) ceZ).h = true then lowL L (i * n + j) (wrap64 ((L.getD (i * n + bar i) ceZ).m + (L.getD (bar j * n + j) ceZ).m) / 2) else L
def appL (n : Nat) (L : List Ce) : Op → List Ce
  | .tig i => tigL n L i
  | .str i j => strL n L i j
  | .rel i j k => relL n L i j k
def runL (n : Nat) (L : List Ce) : List Op → List Ce
  | [] => L
  | o :: l => runL n (appL n L o) l
def rtL (n : Nat) (L : List Ce) : Nat → List Ce
  | 0 => L
  | t + 1 => runL n (rtL n L t) (oRnd n n)

theorem runL_append (n : Nat) (L : List Ce) (l m : List Op) : runL n L (l ++ m) = runL n (runL n L l) m := by
  induction l generalizing L with
  | nil => rfl
  | cons o l ih => exact ih _
theorem appL_len (n : Nat) (L : List Ce) (o : Op) : (appL n L o).length = L.length := by
  cases o with
  | tig i => simp only [appL, tigL]; split <;> simp [lowL_len]
  | str i j => simp only [appL, strL]; split <;> simp [lowL_len]
  | rel i j k => exact relL_len _ _ _ _ _
theorem runL_len (n : Nat) (L : List Ce) (l : List Op) : (runL n L l).length = L.length := by
  induction l generalizing L with
  | nil => rfl
  | cons o l ih => exact (ih _).trans (appL_len _ _ _)
theorem rtL_len (n : Nat) (L : List Ce) (t : Nat) : (rtL n L t).length = L.length := by
  induction t with
  | zero => rfl
  | succ t ih => exact (runL_len _ _ _).trans ih

theorem setM_self (d : Mat) (i j p q : Nat) : setM d i j (d i j) p q = d p q := by
  unfold setM; split
  · rename_i h; rw [h.1, h.2]
  · rfl
theorem bd_yes {c : Ce} (h : c.h = true) : c.bd = some c.m := by unfold Ce.bd; rw [h]; rfl
theorem bd_no {c : Ce} (h : ¬ c.h = true) : c.bd = none := by unfold Ce.bd; rw [if_neg h]
theorem minB_none (a : Bd) : minB a none = a := by cases a <;> rfl

theorem matOf_app {n : Nat} (he : n % 2 = 0) {L : List Ce} (hL : L.length = n * n) {o : Op} (ho : o.ok n) {p q : Nat} (hp : p < n) (hq : q < n) : matOf n (appL n L o) p q = o.app wrap64 (matOf n L) p q := by
  cases o with
  | tig i =>
    have hb := bar_lt he ho
    simp only [appL, tigL, Op.app, Op.r, Op.c, Op.val]
    split
    · rename_i h
      rw [matOf_low hL ho hb _ hp hq]
      have e : matOf n L i (bar i) = some (L.getD (i * n + bar i) ceZ).m := bd_yes h
      rw [e]; rfl
    · rename_i h
      have e : matOf n L i (bar i) = none := bd_no h
      have : minB (matOf n L i (bar i)) (evenB (matOf n L i (bar i))) = matOf n L i (bar i) := by rw [e]; rfl
      rw [this, setM_self]
  | str i j =>
    simp only [appL, strL, Op.app, Op.r, Op.c, Op.val]
    split
    · rename_i h
      rw [matOf_low hL ho.1 ho.2 _ hp hq]
      have e1 : matOf n L i (bar i) = some (L.getD (i * n + bar i) ceZ).m := bd_yes h.1
      have e2 : matOf n L (bar j) j = some (L.getD (bar j * n + j) ceZ).m := bd_yes h.2
      rw [e1, e2]; rfl
    · rename_i h
      have e : halfB (sumB wrap64 (matOf n L i (bar i)) (matOf n L (bar j) j)) = none := by
        by_cases h1 : (L.getD (i * n + bar i) ceZ).h = true
        · have e2 : matOf n L (bar j) j = none := bd_no fun k => h ⟨h1, k⟩
          rw [e2]; cases matOf n L i (bar i) <;> rfl
        · have e1 : matOf n L i (bar i) = none := bd_no h1
          rw [e1]; rfl
      rw [e, minB_none, setM_self]
  | rel i j k => exact matOf_rel hL ho.1 ho.2.1 ho.2.2 hp hq
theorem app_congr {g : Int → Int} {n : Nat} (he : n % 2 = 0) {c d : Mat} (h : ∀ p q, p < n → q < n → c p q = d p q) {o : Op} (ho : o.ok n) {p q : Nat} (hp : p < n) (hq : q < n) : o.app g c p q = o.app g d p q := by
  unfold Op.app setM
  cases o with
  | tig i => have hb := bar_lt he ho; simp only [Op.r, Op.c, Op.val]; rw [h i (bar i) ho hb, h p q hp hq]
  | str i j => simp only [Op.r, Op.c, Op.val]; rw [h i j ho.1 ho.2, h i (bar i) ho.1 (bar_lt he ho.1), h (bar j) j (bar_lt he ho.2) ho.2, h p q hp hq]
  | rel i j k => simp only [Op.r, Op.c, Op.val]; rw [h i j ho.1 ho.2.1, h i k ho.1 ho.2.2, h k j ho.2.2 ho.2.1, h p q hp hq]
theorem matOf_run {n : Nat} (he : n % 2 = 0) : ∀ (l : List Op) (L : List Ce) (d : Mat), L.length = n * n → (∀ o ∈ l, o.ok n) → (∀ p q, p < n → q < n → matOf n L p q = d p q) → ∀ p q, p < n → q < n → matOf n (runL n L l) p q = runO wrap64 d l p q := by
  intro l
  induction l with
  | nil => intro L d _ _ h; exact h
  | cons o l ih =>
    intro L d hL hl h
    refine ih (appL n L o) (o.app wrap64 d) (by rw [appL_len]; exact hL) (fun o' h' => hl o' (List.mem_cons_of_mem _ h')) fun p q hp hq => ?_
    rw [matOf_app he hL (hl o (List.mem_cons_self ..)) hp hq]
    exact app_congr he h (hl o (List.mem_cons_self ..)) hp hq
theorem matOf_rt {n : Nat} (he : n % 2 = 0) {L : List Ce} {d : Mat} (hL : L.length = n * n) (h : ∀ p q, p < n → q < n → matOf n L p q = d p q) : ∀ t p q, p < n → q < n → matOf n (rtL n L t) p q = rO wrap64 n d t p q := by
  intro t
  induction t with
  | zero => exact h
  | succ t ih => exact matOf_run he (oRnd n n) _ _ (by rw [rtL_len]; exact hL) (fun o ho => all_ops.1 ho) ih

/-- What the flag tells of the round so far. -/
structure FlagO (n : Nat) (R L : List Ce) (fl : Bool) : Prop where
  le : ∀ p q, p < n → q < n → leB (matOf n L p q) (matOf n R p q)
  no : fl = false → L = R
  yes : fl = true → ∃ p q, p < n ∧ q < n ∧ ¬ leB (matOf n R p q) (matOf n L p q)
theorem FlagO.start (n : Nat) (R : List Ce) : FlagO n R R false := ⟨fun _ _ _ _ => leB_refl _, fun _ => rfl, fun h => Bool.noConfusion h⟩
theorem low_same {L : List Ce} {x : Nat} {most : Int} (hx : x < L.length) (h : lowR (L.getD x ceZ) most = false) : lowL L x most = L := by
  unfold lowL
  have : lowC (L.getD x ceZ) most = L.getD x ceZ := by
    unfold lowR at h
    unfold lowC
    simp_all
  rw [this]
  exact set_same hx
theorem low_less {n : Nat} {L : List Ce} (hL : L.length = n * n) {i j : Nat} (hi : i < n) (hj : j < n) {most : Int} (h : lowR (L.getD (i * n + j) ceZ) most = true) : ¬ leB (matOf n L i j) (matOf n (lowL L (i * n + j) most) i j) := by
  rw [matOf_low hL hi hj most hi hj]
  unfold setM
  rw [if_pos ⟨rfl, rfl⟩]
  unfold matOf
  obtain ⟨C, hC⟩ : ∃ C, C = L.getD (i * n + j) ceZ := ⟨_, rfl⟩
  rw [← hC] at h ⊢
  obtain ⟨ch, cm⟩ := C
  cases ch
  · simp [Ce.bd, leB, minB]
  · simp [lowR] at h
    simp [Ce.bd, leB, minB]
    omega
theorem FlagO.low {n : Nat} {R L : List Ce} {fl : Bool} (h : FlagO n R L fl) (hL : L.length = n * n) {i j : Nat} (hi : i < n) (hj : j < n) (most : Int) : FlagO n R (lowL L (i * n + j) most) (if lowR (L.getD (i * n + j) ceZ) most = true then true else fl) := by
  have mono : ∀ p q, p < n → q < n → leB (matOf n (lowL L (i * n + j) most) p q) (matOf n L p q) := by
    intro p q hp hq
    rw [matOf_low hL hi hj most hp hq]
    unfold setM
    split
    · rename_i k; rw [k.1, k.2]; exact minB_left _ _
    · exact leB_refl _
  refine ⟨fun p q hp hq => leB_trans (mono p q hp hq) (h.le p q hp hq), ?_, ?_⟩
  · intro k
    cases e : lowR (L.getD (i * n + j) ceZ) most with
    | true => rw [e] at k; simp at k
    | false =>
      rw [e] at k
      rw [low_same (by rw [hL]; exact idx_in hi hj) e]
      exact h.no (by simpa using k)
  · intro k
    cases e : lowR (L.getD (i * n + j) ceZ) most with
    | true =>
      refine ⟨i, j, hi, hj, fun q => ?_⟩
      exact low_less hL hi hj e (leB_trans (h.le i j hi hj) q)
    | false =>
      rw [e] at k
      rw [low_same (by rw [hL]; exact idx_in hi hj) e]
      exact h.yes (by simpa using k)
end Go.Proofs.YtbafkjhlogkllaaGreatDoor
