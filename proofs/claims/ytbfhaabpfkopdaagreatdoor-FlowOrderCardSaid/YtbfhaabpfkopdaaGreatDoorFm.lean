/- Graphs: points, as they are come to (plain: no program in it). -/
import Derived.Test.YtbfhaabpfkopdaaGreatDoorN1
namespace Go.Proofs.YtbfhaabpfkopdaaGreatDoor
set_option linter.unusedVariables false
/-- An edge. -/
structure Eg where
  fr : Int
  tt : Int
  kind : Bs
  name : Bs
  args : List Ex
  tests : List Te
/-- How many are not seen. -/
def uns (l : List Bool) : Nat := l.countP (· == false)
def stepE (vis : Int → List Bool → List Bool × List Int) (p : Int) (s : List Bool × List Int) (e : Eg) : List Bool × List Int :=
  if e.fr = p ∧ s.1.getD e.tt.toNat true = false then ((vis e.tt s.1).1, s.2 ++ (vis e.tt s.1).2) else s
/-- Points come to from p on, the last ones first, and what is seen then. -/
def dfs (es : List Eg) : Nat → Int → List Bool → List Bool × List Int
  | 0, p, seen => (seen, [])
  | k + 1, p, seen =>
    let r := es.foldl (stepE (dfs es k) p) (seen.set p.toNat true, [])
    (r.1, r.2 ++ [p])
theorem uns_le (l : List Bool) : uns l ≤ l.length := List.countP_le_length
theorem uns_set {l : List Bool} {i : Nat} (hi : i < l.length) (h : l[i]? = some false) : uns (l.set i true) + 1 = uns l := by
  unfold uns
  induction l generalizing i with
  | nil => simp at hi
  | cons a l ih =>
    cases i with
    | zero =>
      simp at h
      subst h
      simp
    | succ i =>
      have := ih (i := i) (by simpa using hi) (by simpa using h)
      rw [List.set_cons_succ, List.countP_cons, List.countP_cons]
      omega
/-- What is told is as many as are seen anew; the rest stays as long. -/
def Go' (P : Nat) (s s' : List Bool × List Int) : Prop := s'.1.length = s.1.length ∧ ∃ o, s'.2 = s.2 ++ o ∧ o.length + uns s'.1 ≤ uns s.1 ∧ ∀ x ∈ o, 0 ≤ x ∧ x < (P : Int)
theorem Go'.refl (P : Nat) (s : List Bool × List Int) : Go' P s s := ⟨rfl, [], by simp, by simp, by simp⟩
theorem Go'.trans {P : Nat} {a b c : List Bool × List Int} (h : Go' P a b) (k : Go' P b c) : Go' P a c := by
  obtain ⟨h1, o, h2, h3, h4⟩ := h
  obtain ⟨k1, q, k2, k3, k4⟩ := k
  refine ⟨k1.trans h1, o ++ q, by rw [k2, h2, List.append_assoc], by simp; omega, fun x hx => ?_⟩
  rcases List.mem_append.1 hx with hx | hx
  · exact h4 x hx
  · exact k4 x hx
theorem stepE_go {P k : Nat} {vis : Int → List Bool → List Bool × List Int} (H : ∀ (p : Int) (seen : List Bool), seen.length = P → 0 ≤ p → p < (P : Int) → seen[p.toNat]? = some false → uns seen ≤ k → Go' P (seen, []) (vis p seen)) {p : Int} {s : List Bool × List Int} {e : Eg} (he : 0 ≤ e.tt ∧ e.tt < (P : Int)) (hl : s.1.length = P) (hu : uns s.1 ≤ k) : Go' P s (stepE vis p s e) := by
  unfold stepE
  split
  · rename_i hc
    have hlt : e.tt.toNat < s.1.length := by omega
    have hf : s.1[e.tt.toNat]? = some false := by
      have := hc.2
      rw [List.getD_eq_getElem?_getD, List.getElem?_eq_getElem hlt] at this
      rw [List.getElem?_eq_getElem hlt]
      simpa using this
    obtain ⟨g1, o, g2, g3, g4⟩ := H e.tt s.1 hl he.1 he.2 hf hu
    have g2 : (vis e.tt s.1).2 = o := by simpa using g2
    exact ⟨g1, o, by show s.2 ++ (vis e.tt s.1).2 = s.2 ++ o; rw [g2], g3, g4⟩
  · exact Go'.refl P s
theorem foldE_go {P k : Nat} {vis : Int → List Bool → List Bool × List Int} (H : ∀ (p : Int) (seen : List Bool), seen.length = P → 0 ≤ p → p < (P : Int) → seen[p.toNat]? = some false → uns seen ≤ k → Go' P (seen, []) (vis p seen)) {p : Int} : ∀ (l : List Eg), (∀ e ∈ l, 0 ≤ e.tt ∧ e.tt < (P : Int)) → ∀ s : List Bool × List Int, s.1.length = P → uns s.1 ≤ k → Go' P s (l.foldl (stepE vis p) s)
  | [], _, s, _, _ => Go'.refl P s
  | e :: l, hm, s, hl, hu => by
    have one := stepE_go H (p := p) (hm e (by simp)) hl hu
    have h := one
    obtain ⟨g1, o, g2, g3, g4⟩ := h
    exact one.trans (foldE_go H l (fun x hx => hm x (by simp [hx])) _ (by rw [g1]; exact hl) (by omega))
theorem dfs_go {P : Nat} {es : List Eg} (hes : ∀ e ∈ es, 0 ≤ e.tt ∧ e.tt < (P : Int)) : ∀ (k : Nat) (p : Int) (seen : List Bool), seen.length = P → 0 ≤ p → p < (P : Int) → seen[p.toNat]? = some false → uns seen ≤ k → Go' P (seen, []) (dfs es k p seen)
  | 0, p, seen, hl, h0, h1, hs, hk => by
    have := uns_set (i := p.toNat) (by omega) hs
    omega
  | k + 1, p, seen, hl, h0, h1, hs, hk => by
    have hu := uns_set (i := p.toNat) (by omega) hs
    have key := foldE_go (dfs_go hes k) (p := p) es hes (seen.set p.toNat true, []) (by simpa using hl) (by show uns (seen.set p.toNat true) ≤ k; omega)
    show Go' P (seen, []) ((es.foldl (stepE (dfs es k) p) (seen.set p.toNat true, [])).1, (es.foldl (stepE (dfs es k) p) (seen.set p.toNat true, [])).2 ++ [p])
    generalize es.foldl (stepE (dfs es k) p) (seen.set p.toNat true, []) = r at key ⊢
    obtain ⟨g1, o, g2, g3, g4⟩ := key
    have g1 : r.1.length = (seen.set p.toNat true).length := g1
    have g2 : r.2 = [] ++ o := g2
    have g3 : o.length + uns r.1 ≤ uns (seen.set p.toNat true) := g3
    refine ⟨by show r.1.length = seen.length; rw [g1]; simp, o ++ [p], by show r.2 ++ [p] = [] ++ (o ++ [p]); rw [g2]; simp, by show (o ++ [p]).length + uns r.1 ≤ uns seen; simp; omega, fun x hx => ?_⟩
    rcases List.mem_append.1 hx with hx | hx
    · exact g4 x hx
    · simp at hx; subst hx; exact ⟨h0, h1⟩
/-- One edge more. -/
theorem fold_more {es : List Eg} {f : List Bool × List Int → Eg → List Bool × List Int} {s : List Bool × List Int} {i : Nat} {e : Eg} (h : es[i]? = some e) : (es.take (i + 1)).foldl f s = f ((es.take i).foldl f s) e := by
  rw [List.take_add_one, h, Option.toList_some, List.foldl_append]
  rfl
/-- What is come to of the first i edges. -/
theorem fold_go {P : Nat} {es : List Eg} (hes : ∀ e ∈ es, 0 ≤ e.tt ∧ e.tt < (P : Int)) (k : Nat) (p : Int) (i : Nat) (s : List Bool × List Int) (hl : s.1.length = P) (hu : uns s.1 ≤ k) : Go' P s ((es.take i).foldl (stepE (dfs es k) p) s) :=
  foldE_go (dfs_go hes k) (es.take i) (fun e he => hes e (List.mem_of_mem_take he)) s hl hu
end Go.Proofs.YtbfhaabpfkopdaaGreatDoor
