/- The language: statements read: the recursion closed. -/
import Derived.Test.YtbfhaabpfkopdaaGreatDoorLy
import Derived.KernelRfl
namespace Go.Proofs.YtbfhaabpfkopdaaGreatDoor
open Go.RowKit
set_option linter.unusedVariables false

/-- Statements, given fuel for their depth. -/
def stsF (s : Bs) (k n : Nat) : Nat → Nat → Wd → Res (List Stm)
  | 0, _, _ => .out
  | m + 1, deep, d => stmtsL s (stmtF s k n (chgF s k n) (blockF s (stsF s k n m))) deep n [] d
theorem sts_any (w0 : World) (a : Nat → Addr) (p r k n : Nat) (s : Bs) (hk : k ≤ 1000000) (hn : n ≤ 1000000) : ∀ (m deep : Nat), deep ≤ 13 → StmtsC w0 a p r s 165 deep (stsF s k n m deep)
  | 0, deep, hd => fun W d h hne => absurd rfl hne
  | m + 1, deep, hd => statements_any w0 a p r deep n s (stmtF s k n (chgF s k n) (blockF s (stsF s k n m))) hd hn (hide fun h12 =>
      statement_any w0 a p r deep k n s (chgF s k n) (blockF s (stsF s k n m)) h12 hk hn (hide (change_any w0 a p r k n s)) (hide (block_any w0 a p r (deep + 1) s (stsF s k n m) (hide (sts_any w0 a p r k n s hk hn m (deep + 1) (by omega))))))
theorem blk_any (w0 : World) (a : Nat → Addr) (p r k n m deep : Nat) (s : Bs) (hk : k ≤ 1000000) (hn : n ≤ 1000000) (hd : deep ≤ 13) : StmtsC w0 a p r s 110 deep (blockF s (stsF s k n m) deep) :=
  block_any w0 a p r deep s (stsF s k n m) (hide (sts_any w0 a p r k n s hk hn m deep hd))
end Go.Proofs.YtbfhaabpfkopdaaGreatDoor

/- The language: a program read (plain: no program in it), and that reading ends. -/
namespace Go.Proofs.YtbfhaabpfkopdaaGreatDoor
set_option linter.unusedVariables false

structure Ar where
  name : Bs
  size : Int
structure Pc where
  name : Bs
  params : List Bs
  body : List Stm
  ret : Ex
/-- A program. -/
structure Pg where
  vars : List Bs
  arrays : List Ar
  procs : List Pc
  main : List Stm
def numF (s : Bs) (d : Wd) : Res Int := (wantR s 3 d).bind fun t d => .ok (numOf t) d
def arrF (s : Bs) (d : Wd) : Res Ar :=
  (wantR s 2 d).bind fun nm d => (wantW s [91] d).bind fun _ d => (numF s d).bind fun n d => (wantL s [[93], [59]] d).bind fun _ d => .ok ⟨nm, n⟩ d
/-- One parameter more. -/
def prmF (s : Bs) (l : List Bs) (d : Wd) : Res (List Bs) := if 5000 < l.length then .out else (wantR s 2 d).bind fun nm d => .ok (l ++ [nm]) d
def prcF (s : Bs) (k n m : Nat) (d : Wd) : Res Pc :=
  (wantR s 2 d).bind fun nm d => (wantW s [40] d).bind fun _ d => (listF s (prmF s) n [] d).bind fun ps d => (wantW s [123] d).bind fun _ d =>
    (stsF s k n m 1 d).bind fun b d => (wantW s [114, 101, 116, 117, 114, 110] d).bind fun _ d => (exF s k 2 1 d).bind fun e d => (wantL s [[59], [125]] d).bind fun _ d => .ok ⟨nm, ps, b, e⟩ d
def varF (s : Bs) (d : Wd) : Res Bs := (wantR s 2 d).bind fun nm d => (wantW s [59] d).bind fun _ d => .ok nm d
/-- Things, each behind the same word. -/
def kwL {α : Type} (s w : Bs) (F : Wd → Res α) : Nat → List α → Wd → Res (List α)
  | 0, _, _ => .out
  | n + 1, l, d => if d.text = w then (F (nextW s d)).bind fun x d => kwL s w F n (l ++ [x]) d else .ok l d
def prgF (s : Bs) (k n m : Nat) (d : Wd) : Res Pg :=
  (kwL s [118, 97, 114] (varF s) n [] d).bind fun vs d => (kwL s [97, 114, 114, 97, 121] (arrF s) n [] d).bind fun ars d => (kwL s [112, 114, 111, 99] (prcF s k n m) n [] d).bind fun ps d =>
    (wantW s [109, 97, 105, 110] d).bind fun _ d => (blockF s (stsF s k n m) 1 d).bind fun b d => (wantR s 1 d).bind fun _ d => .ok ⟨vs, ars, ps, b⟩ d
/-- A text read. -/
def readF (s : Bs) : Res Pg := prgF s 5000 5000 14 (wordAt s 0)

/-- It comes to an end, not ahead of b. -/
def Ends {α : Type} (s : Bs) (b : Nat) (x : Res α) (Q : α → Wd → Prop) : Prop := match x with
  | .ok a d => InS s d ∧ b ≤ d.pos ∧ Q a d
  | .err _ _ => True
  | .out => False
theorem Ends.bind {α β : Type} {s : Bs} {b : Nat} {x : Res α} {Q : α → Wd → Prop} {f : α → Wd → Res β} {R : β → Wd → Prop} (h : Ends s b x Q) (k : ∀ a d, InS s d → b ≤ d.pos → Q a d → Ends s b (f a d) R) : Ends s b (x.bind f) R := by
  cases x with
  | ok a d => exact k a d h.1 h.2.1 h.2.2
  | err c p => trivial
  | out => exact h
theorem Ends.le {α : Type} {s : Bs} {b b' : Nat} {x : Res α} {Q R : α → Wd → Prop} (h : Ends s b x Q) (hb : b' ≤ b) (k : ∀ a d, b ≤ d.pos → Q a d → R a d) : Ends s b' x R := by
  cases x with
  | ok a d => exact ⟨h.1, by have := h.2.1; omega, k a d h.2.1 h.2.2⟩
  | err c p => trivial
  | out => exact h
theorem Ends.ne {α : Type} {s : Bs} {b : Nat} {x : Res α} {Q : α → Wd → Prop} (h : Ends s b x Q) : x ≠ .out := by
  intro e; rw [e] at h; exact h
theorem Ends.ok {α : Type} {s : Bs} {b : Nat} {Q : α → Wd → Prop} {a : α} {d : Wd} (h : InS s d) (hb : b ≤ d.pos) (hq : Q a d) : Ends s b (.ok a d) Q := ⟨h, hb, hq⟩
abbrev TT {α : Type} : α → Wd → Prop := fun _ _ => True
theorem next_lt {s : Bs} {d : Wd} (h : InS s d) (ht : d.text ≠ []) : d.pos + 1 ≤ (nextW s d).pos := by
  have := nextW_pos h
  have : 0 < d.text.length := List.length_pos_iff.2 ht
  omega
theorem role_text {s : Bs} {d : Wd} (h : InS s d) (hr : d.role ≠ 1) : d.text ≠ [] := by
  obtain ⟨i, rfl⟩ := h.wd
  intro e
  have : (wordAt s i).role = roleW (wordAt s i).text := rfl
  rw [e] at this
  exact hr (this.trans (by decide))
theorem wantW_ends {s t : Bs} {d : Wd} (h : InS s d) (ht : t ≠ []) : Ends s (d.pos + 1) (wantW s t d) TT := by
  unfold wantW
  split
  · rename_i e
    exact ⟨nextW_in s d, next_lt h (by rw [e]; exact ht), trivial⟩
  · trivial
theorem wantR_ends {s : Bs} {r : Int} {d : Wd} (h : InS s d) (hr : r ≠ 1) : Ends s (d.pos + 1) (wantR s r d) TT := by
  unfold wantR
  split
  · rename_i e
    exact ⟨nextW_in s d, next_lt h (role_text h (by rw [e]; exact hr)), trivial⟩
  · trivial
theorem wantL_ends {s : Bs} : ∀ (l : List Bs) (d : Wd), InS s d → (∀ t ∈ l, t ≠ []) → Ends s d.pos (wantL s l d) TT
  | [], d, h, _ => ⟨h, Nat.le_refl _, trivial⟩
  | t :: l, d, h, hl => (((wantW_ends h (hl t (by simp))).le (by omega) (fun _ _ _ _ => trivial)).bind fun _ d' h' hp _ => (wantL_ends l d' h' (fun u hu => hl u (by simp [hu]))).le hp (fun _ _ _ _ => trivial) : Ends s d.pos _ TT)
theorem deepW_ends {s t : Bs} {deep : Nat} {d : Wd} (h : InS s d) (ht : t ≠ []) : Ends s d.pos (deepW s t deep d) (fun b d' => b = true → d.pos + 1 ≤ d'.pos ∧ deep < 12) := by
  unfold deepW
  split
  · rename_i e
    split
    · trivial
    · have := next_lt h (by rw [e]; exact ht)
      exact ⟨nextW_in s d, by omega, fun _ => ⟨this, by omega⟩⟩
  · exact ⟨h, Nat.le_refl _, fun k => by cases k⟩
theorem grpF_ends {s : Bs} {sign : Int} {f : Wd → Res Ex} (hs : sign ≠ 1) (hf : ∀ d, InS s d → Ends s (d.pos + 1) (f d) TT) : ∀ (k : Nat) (e : Ex) (d : Wd), InS s d → s.length < k + d.pos → Ends s d.pos (grpF s sign f k e d) TT
  | 0, e, d, h, hk => by have := h.le; omega
  | k + 1, e, d, h, hk => by
    show Ends s d.pos (if d.role = sign then _ else _) TT
    split
    · rename_i er
      have h1 := next_lt h (role_text h (by rw [er]; exact hs))
      refine (((hf _ (nextW_in s d)).le (b' := d.pos) (by omega) (R := fun _ d' => d.pos + 1 ≤ d'.pos) (fun _ d' hd _ => by omega)).bind fun e2 d2 h2 hp hq => ?_)
      exact (grpF_ends hs hf k _ d2 h2 (by omega)).le (by omega) (fun _ _ _ _ => trivial)
    · exact ⟨h, Nat.le_refl _, trivial⟩
theorem exF_ends (s : Bs) : ∀ (k lev deep : Nat) (d : Wd), InS s d → deep ≤ 12 → lev ≤ 2 → 3 * (12 - deep) + lev + 1 + s.length < k → Ends s (d.pos + 1) (exF s k lev deep d) TT
  | 0, lev, deep, d, h, hd, hv, hk => by omega
  | k + 1, 0, deep, d, h, hd, hv, hk => by
    show Ends s (d.pos + 1) (partF s (exF s k 0) (exF s k 2) deep d) TT
    unfold partF
    have key : ∀ {α : Type} {x : Res α} {Q R : α → Wd → Prop} {b b' : Nat}, Ends s b x Q → b' ≤ b → (∀ a d, b ≤ d.pos → Q a d → R a d) → Ends s b' x R := fun h hb k => h.le hb k
    have X1 := deepW_ends (deep := deep) h (t := [45]) (by simp)
    cases e1 : deepW s [45] deep d with
    | out => rw [e1] at X1; exact X1.elim
    | err c q => trivial
    | ok b1 d1 =>
      rw [e1] at X1
      obtain ⟨h1, p1, q1⟩ := X1
      show Ends s (d.pos + 1) (if b1 = true then _ else _) TT
      split
      · rename_i eb
        have := q1 eb
        refine ((exF_ends s k 0 (deep + 1) d1 h1 (by omega) (by omega) (by omega)).le (b' := d.pos + 1) (by omega) (R := TT) (fun _ _ _ _ => trivial)).bind fun e d' h' hp _ => ?_
        exact ⟨h', hp, trivial⟩
      · have X2 := deepW_ends (deep := deep) h1 (t := [40]) (by simp)
        cases e2 : deepW s [40] deep d1 with
        | out => rw [e2] at X2; exact X2.elim
        | err c q => trivial
        | ok b2 d2 =>
          rw [e2] at X2
          obtain ⟨h2, p2, q2⟩ := X2
          show Ends s (d.pos + 1) (if b2 = true then _ else _) TT
          split
          · rename_i eb
            have := q2 eb
            refine ((exF_ends s k 2 (deep + 1) d2 h2 (by omega) (by omega) (by omega)).le (b' := d.pos + 1) (by omega) (R := TT) (fun _ _ _ _ => trivial)).bind fun e d' h' hp _ => ?_
            refine ((wantW_ends h' (by simp)).le (b' := d.pos + 1) (by omega) (R := TT) (fun _ _ _ _ => trivial)).bind fun u d' h' hp _ => ?_
            exact ⟨h', hp, trivial⟩
          · split
            · rename_i er
              have := next_lt h2 (role_text h2 (by rw [er]; omega))
              exact ⟨nextW_in s d2, by omega, trivial⟩
            · refine ((wantR_ends h2 (by omega)).le (b' := d.pos + 1) (by omega) (R := TT) (fun _ _ _ _ => trivial)).bind fun nm d3 h3 p3 _ => ?_
              have X4 := deepW_ends (deep := deep) h3 (t := [91]) (by simp)
              cases e4 : deepW s [91] deep d3 with
              | out => rw [e4] at X4; exact X4.elim
              | err c q => trivial
              | ok b4 d4 =>
                rw [e4] at X4
                obtain ⟨h4, p4, q4⟩ := X4
                show Ends s (d.pos + 1) (if b4 = true then _ else _) TT
                split
                · rename_i eb
                  have := q4 eb
                  refine ((exF_ends s k 2 (deep + 1) d4 h4 (by omega) (by omega) (by omega)).le (b' := d.pos + 1) (by omega) (R := TT) (fun _ _ _ _ => trivial)).bind fun e d' h' hp _ => ?_
                  refine ((wantW_ends h' (by simp)).le (b' := d.pos + 1) (by omega) (R := TT) (fun _ _ _ _ => trivial)).bind fun u d' h' hp _ => ?_
                  exact ⟨h', hp, trivial⟩
                · exact ⟨h4, by omega, trivial⟩
  | k + 1, lev + 1, deep, d, h, hd, hv, hk => by
    show Ends s (d.pos + 1) ((exF s k lev deep d).bind fun e d => grpF s (8 - lev) (exF s k lev deep) k e d) TT
    refine (exF_ends s k lev deep d h hd (by omega) (by omega)).bind fun e d' h' hp _ => ?_
    exact (grpF_ends (by omega) (fun d'' h'' => exF_ends s k lev deep d'' h'' hd (by omega) (by omega)) k e d' h' (by omega)).le hp (fun _ _ _ _ => trivial)

section
variable {s : Bs} {k n : Nat} (hs : s.length ≤ 4000) (hk : 4500 ≤ k) (hn : 4500 ≤ n)
include hs hk
theorem sum_ends {d : Wd} (h : InS s d) : Ends s (d.pos + 1) (exF s k 2 1 d) TT := exF_ends s k 2 1 d h (by omega) (by omega) (by omega)
theorem testF_ends {d : Wd} (h : InS s d) : Ends s (d.pos + 1) (testF s k d) TT := by
  unfold testF
  refine (sum_ends hs hk h).bind fun a d h hp _ => ?_
  refine ((wantR_ends h (by omega)).le (by omega) (R := TT) (fun _ _ _ _ => trivial)).bind fun a d h hp _ => ?_
  refine ((sum_ends hs hk h).le (by omega) (R := TT) (fun _ _ _ _ => trivial)).bind fun a d h hp _ => ?_
  exact ⟨h, hp, trivial⟩
theorem rowL_ends : ∀ (n : Nat) (l : List Te) (d : Wd), InS s d → s.length < n + d.pos → Ends s d.pos (rowL s k n l d) TT
  | 0, l, d, h, hk => by have := h.le; omega
  | n + 1, l, d, h, hk' => by
    show Ends s d.pos (if d.text = [97, 110, 100] then _ else _) TT
    split
    · rename_i e
      have h1 := next_lt h (by rw [e]; simp)
      refine ((testF_ends hs hk (nextW_in s d)).le (b' := d.pos) (by omega) (R := fun _ d' => d.pos + 1 ≤ d'.pos) (fun _ d' hd _ => by omega)).bind fun e2 d2 h2 hp hq => ?_
      exact (rowL_ends n _ d2 h2 (by omega)).le (by omega) (fun _ _ _ _ => trivial)
    · exact ⟨h, Nat.le_refl _, trivial⟩
theorem rowF_ends {n : Nat} (hn : 4500 ≤ n) {d : Wd} (h : InS s d) : Ends s (d.pos + 1) (rowF s k n d) TT := by
  unfold rowF
  split
  · rename_i e
    exact ⟨nextW_in s d, next_lt h (by rw [e]; simp), trivial⟩
  · refine (testF_ends hs hk h).bind fun a d h hp _ => ?_
    exact (rowL_ends hs hk n _ d h (by omega)).le hp (fun _ _ _ _ => trivial)
theorem condL_ends : ∀ (n : Nat) (l : List (List Te)) (d : Wd), InS s d → s.length < n + d.pos → Ends s d.pos (condL s k n l d) TT
  | 0, l, d, h, hk => by have := h.le; omega
  | n + 1, l, d, h, hk' => by
    show Ends s d.pos (if d.text = [111, 114] then _ else _) TT
    split
    · rename_i e
      have h1 := next_lt h (by rw [e]; simp)
      refine ((rowF_ends hs hk hk (nextW_in s d)).le (b' := d.pos) (by omega) (R := fun _ d' => d.pos + 1 ≤ d'.pos) (fun _ d' hd _ => by omega)).bind fun e2 d2 h2 hp hq => ?_
      exact (condL_ends n _ d2 h2 (by omega)).le (by omega) (fun _ _ _ _ => trivial)
    · exact ⟨h, Nat.le_refl _, trivial⟩
theorem condF_ends {n : Nat} (hn : 4500 ≤ n) {d : Wd} (h : InS s d) : Ends s (d.pos + 1) (condF s k n d) TT := by
  unfold condF
  split
  · rename_i e
    exact ⟨nextW_in s d, next_lt h (by rw [e]; simp), trivial⟩
  · refine (rowF_ends hs hk hk h).bind fun a d h hp _ => ?_
    exact (condL_ends hs hk n _ d h (by omega)).le hp (fun _ _ _ _ => trivial)
theorem argF_ends {l : List Ex} {d : Wd} (h : InS s d) (hl : l.length ≤ d.pos) : Ends s (d.pos + 1) (argF s k l d) (fun l' d' => l'.length ≤ d'.pos) := by
  have := h.le
  unfold argF
  rw [if_neg (by omega)]
  refine (sum_ends hs hk h).bind fun a d' h hp _ => ?_
  exact ⟨h, hp, by simp; omega⟩
end
theorem prmF_ends {s : Bs} (hs : s.length ≤ 4000) {l : List Bs} {d : Wd} (h : InS s d) (hl : l.length ≤ d.pos) : Ends s (d.pos + 1) (prmF s l d) (fun l' d' => l'.length ≤ d'.pos) := by
  have := h.le
  unfold prmF
  rw [if_neg (by omega)]
  refine (wantR_ends h (by omega)).bind fun a d' h hp _ => ?_
  exact ⟨h, hp, by simp; omega⟩
theorem listL_ends {α : Type} {s : Bs} {F : α → Wd → Res α} {I : α → Wd → Prop} (hF : ∀ x d, InS s d → I x d → Ends s (d.pos + 1) (F x d) I) (hI : ∀ x d d', I x d → d.pos ≤ d'.pos → I x d') : ∀ (n : Nat) (x : α) (d : Wd), InS s d → I x d → s.length < n + d.pos → Ends s d.pos (listL s F n x d) TT
  | 0, x, d, h, _, hk => by have := h.le; omega
  | n + 1, x, d, h, hi, hk => by
    show Ends s d.pos (if d.text = [44] then _ else _) TT
    split
    · rename_i e
      have h1 := next_lt h (by rw [e]; simp)
      refine ((hF x _ (nextW_in s d) (hI _ _ _ hi (by omega))).le (b' := d.pos) (by omega) (R := fun x d' => d.pos + 1 ≤ d'.pos ∧ I x d') (fun _ d' hd k => ⟨by omega, k⟩)).bind fun e2 d2 h2 hp hq => ?_
      exact (listL_ends hF hI n _ d2 h2 hq.2 (by omega)).le (by omega) (fun _ _ _ _ => trivial)
    · refine ((wantW_ends h (by simp)).le (b' := d.pos) (by omega) (R := TT) (fun _ _ _ _ => trivial)).bind fun u d' h' hp _ => ?_
      exact ⟨h', hp, trivial⟩
theorem listF_ends {α : Type} {s : Bs} {F : α → Wd → Res α} {I : α → Wd → Prop} (hF : ∀ x d, InS s d → I x d → Ends s (d.pos + 1) (F x d) I) (hI : ∀ x d d', I x d → d.pos ≤ d'.pos → I x d') {n : Nat} {x : α} {d : Wd} (h : InS s d) (hi : I x d) (hk : s.length < n) : Ends s (d.pos + 1) (listF s F n x d) TT := by
  unfold listF
  split
  · rename_i e
    exact ⟨nextW_in s d, next_lt h (by rw [e]; simp), trivial⟩
  · refine (hF x d h hi).bind fun x d' h' hp hq => ?_
    exact (listL_ends hF hI n x d' h' hq (by omega)).le hp (fun _ _ _ _ => trivial)
section
variable {s : Bs} {k n : Nat} (hs : s.length ≤ 4000) (hk : 4500 ≤ k) (hn : 4500 ≤ n)
include hs hk hn
theorem chgF_ends {d : Wd} (h : InS s d) : Ends s (d.pos + 1) (chgF s k n d) TT := by
  unfold chgF
  refine ((wantR_ends h (by omega)).le (by omega) (R := TT) (fun _ _ _ _ => trivial)).bind fun nm d h hp _ => ?_
  split
  · rename_i e
    have h1 := next_lt h (by rw [e]; simp)
    refine ((argF_ends hs hk (nextW_in s d) (l := []) (by simp)).le (by omega) (R := fun l d' => l.length ≤ d'.pos) (fun _ _ _ q => q)).bind fun l d h hp hq => ?_
    refine ((wantW_ends h (by simp)).le (b' := _) (by omega) (R := fun _ d' => d.pos ≤ d'.pos) (fun _ _ _ _ => by omega)).bind fun u d h hp hq2 => ?_
    refine ((wantW_ends h (by simp)).le (by omega) (R := fun _ d' => d.pos ≤ d'.pos) (fun _ _ _ _ => by omega)).bind fun u d h hp hq3 => ?_
    refine ((argF_ends hs hk h (l := l) (by omega)).le (by omega) (R := TT) (fun _ _ _ q => trivial)).bind fun l d h hp hq => ?_
    refine ((wantW_ends h (by simp)).le (by omega) (R := TT) (fun _ _ _ _ => trivial)).bind fun u d h hp _ => ?_
    exact ⟨h, hp, trivial⟩
  · refine ((wantW_ends h (by simp)).le (by omega) (R := TT) (fun _ _ _ _ => trivial)).bind fun u d h hp _ => ?_
    split
    · rename_i e
      have h1 := next_lt h (by rw [e]; simp)
      refine ((wantR_ends (nextW_in s d) (by omega)).le (by omega) (R := TT) (fun _ _ _ _ => trivial)).bind fun pr d h hp _ => ?_
      refine ((wantW_ends h (by simp)).le (by omega) (R := TT) (fun _ _ _ _ => trivial)).bind fun u d h hp _ => ?_
      refine ((listF_ends (I := fun l d' => l.length ≤ d'.pos) (fun x d h i => argF_ends hs hk h i) (fun _ _ _ i j => Nat.le_trans i j) h (by simp) (by omega)).le (by omega) (R := TT) (fun _ _ _ _ => trivial)).bind fun l d h hp _ => ?_
      refine ((wantW_ends h (by simp)).le (by omega) (R := TT) (fun _ _ _ _ => trivial)).bind fun u d h hp _ => ?_
      exact ⟨h, hp, trivial⟩
    · refine ((argF_ends hs hk h (l := []) (by simp)).le (by omega) (R := TT) (fun _ _ _ q => trivial)).bind fun l d h hp hq => ?_
      refine ((wantW_ends h (by simp)).le (by omega) (R := TT) (fun _ _ _ _ => trivial)).bind fun u d h hp _ => ?_
      exact ⟨h, hp, trivial⟩
theorem stmtF_ends {blk : Nat → Wd → Res (List Stm)} {deep : Nat} (hB : ∀ d, InS s d → Ends s (d.pos + 1) (blk (deep + 1) d) TT) {d : Wd} (h : InS s d) (hr : d.role = 2 ∨ d.role = 5) : Ends s (d.pos + 1) (stmtF s k n (chgF s k n) blk deep d) TT := by
  have h0 := next_lt h (role_text h (by omega))
  have hN := nextW_in s d
  unfold stmtF
  split
  · exact chgF_ends hs hk hn h
  split
  · refine ((condF_ends hs hk hn hN).le (by omega) (R := TT) (fun _ _ _ _ => trivial)).bind fun c d h hp _ => ?_
    refine ((hB d h).le (by omega) (R := TT) (fun _ _ _ _ => trivial)).bind fun b d h hp _ => ?_
    split
    · rename_i e
      have h1 := next_lt h (by rw [e]; simp)
      refine ((hB _ (nextW_in s d)).le (by omega) (R := TT) (fun _ _ _ _ => trivial)).bind fun e d h hp _ => ?_
      exact ⟨h, hp, trivial⟩
    · exact ⟨h, hp, trivial⟩
  split
  · refine ((condF_ends hs hk hn hN).le (by omega) (R := TT) (fun _ _ _ _ => trivial)).bind fun c d h hp _ => ?_
    refine ((hB d h).le (by omega) (R := TT) (fun _ _ _ _ => trivial)).bind fun b d h hp _ => ?_
    exact ⟨h, hp, trivial⟩
  split
  · refine ((condF_ends hs hk hn hN).le (by omega) (R := TT) (fun _ _ _ _ => trivial)).bind fun c d h hp _ => ?_
    refine ((wantW_ends h (by simp)).le (by omega) (R := TT) (fun _ _ _ _ => trivial)).bind fun u d h hp _ => ?_
    exact ⟨h, hp, trivial⟩
  split
  · refine ((wantR_ends hN (by omega)).le (by omega) (R := TT) (fun _ _ _ _ => trivial)).bind fun nm d h hp _ => ?_
    refine ((wantW_ends h (by simp)).le (by omega) (R := TT) (fun _ _ _ _ => trivial)).bind fun u d h hp _ => ?_
    exact ⟨h, hp, trivial⟩
  · exact ⟨hN, h0, trivial⟩
omit hs hk hn in
theorem stmtsL_ends {f : Nat → Wd → Res Stm} {deep : Nat} (hf : deep ≤ 12 → ∀ d, InS s d → (d.role = 2 ∨ d.role = 5) → Ends s (d.pos + 1) (f deep d) TT) : ∀ (n : Nat) (l : List Stm) (d : Wd), InS s d → s.length < n + d.pos → Ends s d.pos (stmtsL s f deep n l d) TT
  | 0, l, d, h, hk => by have := h.le; omega
  | n + 1, l, d, h, hk => by
    show Ends s d.pos (if d.role = 2 ∨ d.role = 5 then _ else _) TT
    split
    · rename_i er
      split
      · trivial
      · refine ((hf (by omega) d h er).le (b' := d.pos) (by omega) (R := fun _ d' => d.pos + 1 ≤ d'.pos) (fun _ d' hd _ => by omega)).bind fun e2 d2 h2 hp hq => ?_
        exact (stmtsL_ends hf n _ d2 h2 (by omega)).le (by omega) (fun _ _ _ _ => trivial)
    · exact ⟨h, Nat.le_refl _, trivial⟩
omit hs hk hn in
theorem blockF_ends {g : Nat → Wd → Res (List Stm)} {deep : Nat} (hg : ∀ d, InS s d → Ends s d.pos (g deep d) TT) {d : Wd} (h : InS s d) : Ends s (d.pos + 1) (blockF s g deep d) TT := by
  unfold blockF
  refine ((wantW_ends h (by simp)).le (by omega) (R := TT) (fun _ _ _ _ => trivial)).bind fun u d h hp _ => ?_
  refine ((hg d h).le (by omega) (R := TT) (fun _ _ _ _ => trivial)).bind fun l d h hp _ => ?_
  refine ((wantW_ends h (by simp)).le (by omega) (R := TT) (fun _ _ _ _ => trivial)).bind fun u d h hp _ => ?_
  exact ⟨h, hp, trivial⟩
theorem stsF_ends : ∀ (m deep : Nat) (d : Wd), InS s d → deep ≤ 13 → 14 ≤ m + deep → Ends s d.pos (stsF s k n m deep d) TT
  | 0, deep, d, h, hd, hm => by omega
  | m + 1, deep, d, h, hd, hm => by
    show Ends s d.pos (stmtsL s (stmtF s k n (chgF s k n) (blockF s (stsF s k n m))) deep n [] d) TT
    exact stmtsL_ends (fun h12 d' h' hr => stmtF_ends hs hk hn (fun d2 h2 => blockF_ends (fun d3 h3 => stsF_ends m (deep + 1) d3 h3 (by omega) (by omega)) h2) h' hr) n [] d h (by omega)
theorem prcF_ends {d : Wd} (h : InS s d) : Ends s (d.pos + 1) (prcF s k n 14 d) TT := by
  unfold prcF
  refine ((wantR_ends h (by omega)).le (by omega) (R := TT) (fun _ _ _ _ => trivial)).bind fun nm d h hp _ => ?_
  refine ((wantW_ends h (by simp)).le (by omega) (R := TT) (fun _ _ _ _ => trivial)).bind fun u d h hp _ => ?_
  refine ((listF_ends (I := fun l d' => l.length ≤ d'.pos) (fun x d h i => prmF_ends hs h i) (fun _ _ _ i j => Nat.le_trans i j) h (by simp) (by omega)).le (by omega) (R := TT) (fun _ _ _ _ => trivial)).bind fun l d h hp _ => ?_
  refine ((wantW_ends h (by simp)).le (by omega) (R := TT) (fun _ _ _ _ => trivial)).bind fun u d h hp _ => ?_
  refine ((stsF_ends hs hk hn 14 1 d h (by omega) (by omega)).le (by omega) (R := TT) (fun _ _ _ _ => trivial)).bind fun b d h hp _ => ?_
  refine ((wantW_ends h (by simp)).le (by omega) (R := TT) (fun _ _ _ _ => trivial)).bind fun u d h hp _ => ?_
  refine ((sum_ends hs hk h).le (by omega) (R := TT) (fun _ _ _ _ => trivial)).bind fun e d h hp _ => ?_
  refine ((wantL_ends _ d h (by simp)).le (by omega) (R := TT) (fun _ _ _ _ => trivial)).bind fun u d h hp _ => ?_
  exact ⟨h, hp, trivial⟩
omit hs hk hn in
theorem kwL_ends {α : Type} {w : Bs} {F : Wd → Res α} (hw : w ≠ []) (hF : ∀ d, InS s d → Ends s (d.pos + 1) (F d) TT) : ∀ (n : Nat) (l : List α) (d : Wd), InS s d → s.length < n + d.pos → Ends s d.pos (kwL s w F n l d) TT
  | 0, l, d, h, hk => by have := h.le; omega
  | n + 1, l, d, h, hk => by
    show Ends s d.pos (if d.text = w then _ else _) TT
    split
    · rename_i e
      have h1 := next_lt h (by rw [e]; exact hw)
      refine ((hF _ (nextW_in s d)).le (b' := d.pos) (by omega) (R := fun _ d' => d.pos + 1 ≤ d'.pos) (fun _ d' hd _ => by omega)).bind fun e2 d2 h2 hp hq => ?_
      exact (kwL_ends hw hF n _ d2 h2 (by omega)).le (by omega) (fun _ _ _ _ => trivial)
    · exact ⟨h, Nat.le_refl _, trivial⟩
omit hs hk hn in
theorem varF_ends {d : Wd} (h : InS s d) : Ends s (d.pos + 1) (varF s d) TT := by
  unfold varF
  refine ((wantR_ends h (by omega)).le (by omega) (R := TT) (fun _ _ _ _ => trivial)).bind fun nm d h hp _ => ?_
  refine ((wantW_ends h (by simp)).le (by omega) (R := TT) (fun _ _ _ _ => trivial)).bind fun u d h hp _ => ?_
  exact ⟨h, hp, trivial⟩
omit hs hk hn in
theorem numF_ends {d : Wd} (h : InS s d) : Ends s (d.pos + 1) (numF s d) TT := by
  unfold numF
  refine ((wantR_ends h (by omega)).le (by omega) (R := TT) (fun _ _ _ _ => trivial)).bind fun t d h hp _ => ?_
  exact ⟨h, hp, trivial⟩
omit hs hk hn in
theorem arrF_ends {d : Wd} (h : InS s d) : Ends s (d.pos + 1) (arrF s d) TT := by
  unfold arrF
  refine ((wantR_ends h (by omega)).le (by omega) (R := TT) (fun _ _ _ _ => trivial)).bind fun nm d h hp _ => ?_
  refine ((wantW_ends h (by simp)).le (by omega) (R := TT) (fun _ _ _ _ => trivial)).bind fun u d h hp _ => ?_
  refine ((numF_ends h).le (by omega) (R := TT) (fun _ _ _ _ => trivial)).bind fun z d h hp _ => ?_
  refine ((wantL_ends _ d h (by simp)).le (by omega) (R := TT) (fun _ _ _ _ => trivial)).bind fun u d h hp _ => ?_
  exact ⟨h, hp, trivial⟩
theorem prgF_ends {d : Wd} (h : InS s d) : prgF s k n 14 d ≠ .out := by
  refine Ends.ne (s := s) (b := 0) (Q := TT) ?_
  unfold prgF
  refine ((kwL_ends (by simp) (fun d h => varF_ends h) n [] d h (by omega)).le (by omega) (R := TT) (fun _ _ _ _ => trivial)).bind fun vs d h hp _ => ?_
  refine ((kwL_ends (by simp) (fun d h => arrF_ends h) n [] d h (by omega)).le (by omega) (R := TT) (fun _ _ _ _ => trivial)).bind fun ars d h hp _ => ?_
  refine ((kwL_ends (by simp) (fun d h => prcF_ends hs hk hn h) n [] d h (by omega)).le (by omega) (R := TT) (fun _ _ _ _ => trivial)).bind fun ps d h hp _ => ?_
  refine ((wantW_ends h (by simp)).le (by omega) (R := TT) (fun _ _ _ _ => trivial)).bind fun u d h hp _ => ?_
  refine ((blockF_ends (fun d h => stsF_ends hs hk hn 14 1 d h (by omega) (by omega)) h).le (by omega) (R := TT) (fun _ _ _ _ => trivial)).bind fun b d h hp _ => ?_
  unfold wantR
  split
  · exact ⟨nextW_in s d, by omega, trivial⟩
  · trivial
end
theorem readF_ends {s : Bs} (hs : s.length ≤ 4000) : readF s ≠ .out := prgF_ends hs (by omega) (by omega) (wordAt_in s 0)
end Go.Proofs.YtbfhaabpfkopdaaGreatDoor

/- The language: a program written (plain: no program in it). -/
namespace Go.Proofs.YtbfhaabpfkopdaaGreatDoor
set_option linter.unusedVariables false

/-- What is written so far, and how many terms. -/
abbrev Wst := Bs × Nat
def putW : List Bs → Wst → Option Wst
  | [], st => some st
  | t :: l, st => if 4000 < st.1.length + t.length then none else putW l (st.1 ++ t, st.2)
def indW : Nat → Wst → Option Wst
  | 0, st => some st
  | n + 1, st => (putW [[32, 32]] st).bind fun st => indW n st
/-- Things from number i on, with a text between. -/
def betW (t : Bs) (F : Nat → Wst → Option Wst) : Nat → Nat → Wst → Option Wst
  | 0, _, st => some st
  | m + 1, i, st => (if i = 0 then some st else putW [t] st).bind fun st => (F i st).bind fun st => betW t F m (i + 1) st
def pickW (l : List Ex) (i : Nat) (F : Ex → Option Wst) : Option Wst := match l[i]? with | some e => F e | none => none
def pairW (f : Ex → Int → Wst → Option Wst) (e : Ex) (sign : Int) (st : Wst) : Option Wst :=
  (pickW e.l 0 fun a => f a sign st).bind fun st => (putW [[32], e.op, [32]] st).bind fun st => pickW e.l 1 fun b => f b (sign + 1) st
def exW : Nat → Ex → Int → Wst → Option Wst
  | 0, _, _, _ => none
  | k + 1, e, least, st =>
    if 4000 < st.2 + 1 then none
    else if e.op = [110, 117, 109] then putW [Lib.itoa e.n] (st.1, st.2 + 1)
    else if e.op = [118, 97, 114] then putW [e.name] (st.1, st.2 + 1)
    else if e.op = [97, 116] then (putW [e.name, [91]] (st.1, st.2 + 1)).bind fun st => (pickW e.l 0 fun a => exW k a 7 st).bind fun st => putW [[93]] st
    else if e.op = [110, 101, 103] then (putW [[45]] (st.1, st.2 + 1)).bind fun st => pickW e.l 0 fun a => exW k a 9 st
    else if roleTab e.op < 7 then none
    else if roleTab e.op < least then (putW [[40]] (st.1, st.2 + 1)).bind fun st => (pairW (exW k) e (roleTab e.op) st).bind fun st => putW [[41]] st
    else pairW (exW k) e (roleTab e.op) (st.1, st.2 + 1)
/-- A term of its own. -/
def tmW (e : Ex) (st : Wst) : Option Wst := exW 4001 e 7 st
def teW (t : Te) (st : Wst) : Option Wst := (tmW t.a st).bind fun st => (putW [[32], t.rel, [32]] st).bind fun st => tmW t.b st
def rowW (l : List Te) (st : Wst) : Option Wst :=
  (if l.length = 0 then putW [[116, 114, 117, 101]] st else some st).bind fun st => betW [32, 97, 110, 100, 32] (fun i st => match l[i]? with | some t => teW t st | none => none) l.length 0 st
def condW (l : List (List Te)) (st : Wst) : Option Wst :=
  (if l.length = 0 then putW [[102, 97, 108, 115, 101]] st else some st).bind fun st => betW [32, 111, 114, 32] (fun i st => match l[i]? with | some t => rowW t st | none => none) l.length 0 st
/-- Statements, given how one is written. -/
def stsW (f : Stm → Nat → Wst → Option Wst) (b : Nat) : List Stm → Wst → Option Wst
  | [], st => some st
  | s :: l, st => (indW b st).bind fun st => (f s b st).bind fun st => stsW f b l st
def brW (f : Stm → Nat → Wst → Option Wst) (s : Stm) (b : Nat) (st : Wst) : Option Wst :=
  (putW [[32, 123, 10]] st).bind fun st => (stsW f (b + 1) s.body st).bind fun st =>
    (if 0 < s.els.length then (indW b st).bind fun st => (putW [[125, 32, 101, 108, 115, 101, 32, 123, 10]] st).bind fun st => stsW f (b + 1) s.els st else some st).bind fun st =>
      (indW b st).bind fun st => putW [[125, 10]] st
/-- A statement; k: how deep it may be. -/
def stW : Nat → Stm → Nat → Wst → Option Wst
  | 0, _, _, _ => none
  | k + 1, s, b, st =>
    if s.kind = [115, 101, 116] then (putW [s.name, [32, 61, 32]] st).bind fun st => (pickW s.args 0 fun a => tmW a st).bind fun st => putW [[59, 10]] st
    else if s.kind = [112, 117, 116] then (putW [s.name, [91]] st).bind fun st => (pickW s.args 0 fun a => tmW a st).bind fun st => (putW [[93, 32, 61, 32]] st).bind fun st => (pickW s.args 1 fun a => tmW a st).bind fun st => putW [[59, 10]] st
    else if s.kind = [99, 97, 108, 108] then (putW [s.name, [32, 61, 32, 99, 97, 108, 108, 32], s.proc, [40]] st).bind fun st => (betW [44, 32] (fun i st => match s.args[i]? with | some a => tmW a st | none => none) s.args.length 0 st).bind fun st => putW [[41, 59, 10]] st
    else if s.kind = [105, 102] ∨ s.kind = [119, 104, 105, 108, 101] then (putW [s.kind, [32]] st).bind fun st => (condW s.cond st).bind fun st => brW (stW k) s b st
    else if s.kind = [97, 115, 115, 101, 114, 116] ∨ s.kind = [97, 115, 115, 117, 109, 101] then (putW [s.kind, [32]] st).bind fun st => (condW s.cond st).bind fun st => putW [[59, 10]] st
    else if s.kind = [114, 101, 97, 100] then putW [[114, 101, 97, 100, 32], s.name, [59, 10]] st
    else none
def blW (l : List Stm) (b : Nat) (st : Wst) : Option Wst := stsW (stW 4001) b l st
def pcW (p : Pc) (st : Wst) : Option Wst :=
  (putW [[112, 114, 111, 99, 32], p.name, [40]] st).bind fun st => (betW [44, 32] (fun i st => match p.params[i]? with | some t => putW [t] st | none => none) p.params.length 0 st).bind fun st =>
    (putW [[41, 32, 123, 10]] st).bind fun st => (blW p.body 1 st).bind fun st => (indW 1 st).bind fun st => (putW [[114, 101, 116, 117, 114, 110, 32]] st).bind fun st => (tmW p.ret st).bind fun st => putW [[59, 10, 125, 10]] st
/-- One thing behind the other. -/
def eachW {α : Type} (F : α → Wst → Option Wst) : List α → Wst → Option Wst
  | [], st => some st
  | x :: l, st => (F x st).bind fun st => eachW F l st
def pgW (p : Pg) (st : Wst) : Option Wst :=
  (eachW (fun t st => putW [[118, 97, 114, 32], t, [59, 10]] st) p.vars st).bind fun st =>
  (eachW (fun (a : Ar) st => putW [[97, 114, 114, 97, 121, 32], a.name, [91], Lib.itoa a.size, [93, 59, 10]] st) p.arrays st).bind fun st =>
  (eachW pcW p.procs st).bind fun st => (putW [[109, 97, 105, 110, 32, 123, 10]] st).bind fun st => (blW p.main 1 st).bind fun st => putW [[125, 10]] st
def writeF (p : Pg) : Option Bs := (pgW p ([], 0)).map Prod.fst
def oneS : Bs := [118, 97, 114, 32, 120, 59, 32, 109, 97, 105, 110, 32, 123, 32, 120, 32, 61, 32, 49, 32, 43, 32, 50, 59, 32, 125]
def oneT : Bs := [118, 97, 114, 32, 120, 59, 10, 109, 97, 105, 110, 32, 123, 10, 32, 32, 120, 32, 61, 32, 49, 32, 43, 32, 50, 59, 10, 125, 10]
def oneP : Pg := ⟨[[120]], [], [], [⟨[115, 101, 116], [120], [], [⟨[43], 0, [], [⟨[110, 117, 109], 1, [], []⟩, ⟨[110, 117, 109], 2, [], []⟩]⟩], [], [], []⟩]⟩
theorem one_write : writeF oneP = some oneT := by decide +kernel
set_option maxRecDepth 20000 in
theorem one_read : readF oneS = .ok oneP ⟨1, [], 26⟩ := by kernel_rfl
set_option maxRecDepth 20000 in
theorem one_again : readF oneT = .ok oneP ⟨1, [], 29⟩ := by kernel_rfl
end Go.Proofs.YtbfhaabpfkopdaaGreatDoor
