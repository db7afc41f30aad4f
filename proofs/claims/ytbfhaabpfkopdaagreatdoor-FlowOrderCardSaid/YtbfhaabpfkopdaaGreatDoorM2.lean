/- The language: what is read is small: numbers, lengths, depth (plain: no program in it). -/
import Derived.Test.YtbfhaabpfkopdaaGreatDoorV6
namespace Go.Proofs.YtbfhaabpfkopdaaGreatDoor
set_option linter.unusedVariables false

/-- A term that memory holds, with room for a copy. -/
inductive ExFit : Ex → Prop
  | mk (e : Ex) (ho : e.op.length ≤ maxLen) (hn : (-9223372036854775808 ≤ e.n ∧ e.n ≤ 9223372036854775807)) (hl : e.l.length * 64 ≤ 140737488355328) (h : ∀ (i : Nat) (a : Ex), e.l[i]? = some a → ExFit a) : ExFit e
theorem ExFit.sm {e : Ex} (h : ExFit e) : ExSm e := by
  induction h with
  | mk e ho hn hl h ih => exact .mk e ho hn (by unfold maxLen; omega) ih
theorem ExFit.len {e : Ex} (h : ExFit e) : e.l.length * 64 ≤ 140737488355328 := by cases h; assumption
theorem ExFit.at {e a : Ex} {i : Nat} (h : ExFit e) (hi : e.l[i]? = some a) : ExFit a := by cases h with | mk _ _ _ _ h => exact h i a hi
structure TeFit (t : Te) : Prop where
  a : ExFit t.a
  b : ExFit t.b
/-- A list, each of its things such, with room for a copy of n bytes a thing. -/
structure LsFit {α : Type} (n : Nat) (P : α → Prop) (l : List α) : Prop where
  len : l.length * n ≤ 140737488355328
  el : ∀ (i : Nat) (a : α), l[i]? = some a → P a
inductive StFit : Stm → Prop
  | mk (s : Stm) (h1 : LsFit 64 ExFit s.args) (h2 : LsFit 24 (LsFit 144 TeFit) s.cond) (hb : s.body.length * 144 ≤ 140737488355328) (h3 : ∀ (i : Nat) (a : Stm), s.body[i]? = some a → StFit a) (he : s.els.length * 144 ≤ 140737488355328) (h4 : ∀ (i : Nat) (a : Stm), s.els[i]? = some a → StFit a) : StFit s
structure PcFit (p : Pc) : Prop where
  params : p.params.length * 16 ≤ 140737488355328
  body : LsFit 144 StFit p.body
  ret : ExFit p.ret
structure PgFit (p : Pg) : Prop where
  vars : p.vars.length * 16 ≤ 140737488355328
  arrays : LsFit 24 (fun a : Ar => (-9223372036854775808 ≤ a.size ∧ a.size ≤ 9223372036854775807)) p.arrays
  procs : LsFit 128 PcFit p.procs
  main : LsFit 144 StFit p.main
theorem ExsFit.sm {l : List Ex} (h : LsFit 64 ExFit l) : l.length ≤ maxLen ∧ ∀ (i : Nat) (a : Ex), l[i]? = some a → ExSm a := ⟨by have := h.len; unfold maxLen; omega, fun i a ha => (h.el i a ha).sm⟩
theorem RwFit.sm {t : List Te} (k : LsFit 144 TeFit t) : RwSm t := ⟨by have := k.len; unfold maxLen; omega, fun i e he => ⟨(k.el i e he).a.sm, (k.el i e he).b.sm⟩⟩
theorem StFit.sm {s : Stm} (h : StFit s) : StSm s := by
  induction h with
  | mk s h1 h2 hb h3 he h4 ih3 ih4 => exact .mk s (ExsFit.sm h1).1 (ExsFit.sm h1).2 (by have := h2.len; unfold maxLen; omega) (fun i a ha => RwFit.sm (h2.el i a ha)) (by unfold maxLen; omega) ih3 (by unfold maxLen; omega) ih4
theorem StFit.args {s : Stm} (h : StFit s) : LsFit 64 ExFit s.args := by cases h; assumption
theorem StFit.cond {s : Stm} (h : StFit s) : LsFit 24 (LsFit 144 TeFit) s.cond := by cases h; assumption
theorem StFit.body {s : Stm} (h : StFit s) : LsFit 144 StFit s.body := by cases h with | mk _ h1 h2 hb h3 he h4 => exact ⟨hb, h3⟩
theorem StFit.els {s : Stm} (h : StFit s) : LsFit 144 StFit s.els := by cases h with | mk _ h1 h2 hb h3 he h4 => exact ⟨he, h4⟩
theorem StsFit.sm {l : List Stm} (h : LsFit 144 StFit l) : StsSm l := ⟨by have := h.len; unfold maxLen; omega, fun i a ha => (h.el i a ha).sm⟩
/-- Terms that stand at most n deep in each other. -/
def DepL : Nat → List Ex → Prop
  | 0, l => l = []
  | n + 1, l => ∀ a ∈ l, DepL n a.l
theorem DepL.succ : ∀ {n : Nat} {l : List Ex}, DepL n l → DepL (n + 1) l
  | 0, l, h => by have h : l = [] := h; subst h; intro a ha; cases ha
  | n + 1, l, h => fun a ha => DepL.succ (h a ha)
theorem DepL.le {n m : Nat} {l : List Ex} (h : DepL n l) (hm : n ≤ m) : DepL m l := by
  induction hm with
  | refl => exact h
  | step _ ih => exact ih.succ
/-- A term as it is read: from place p to place q. -/
structure ExR (p q : Nat) (e : Ex) : Prop where
  sm : ExFit e
  dep : ∃ n, DepL n e.l ∧ n + p + 1 ≤ q
theorem bind_ok {α β : Type} {x : Res α} {f : α → Wd → Res β} {b : β} {d' : Wd} (h : x.bind f = .ok b d') : ∃ a d, x = .ok a d ∧ f a d = .ok b d' := by
  cases x with
  | ok a d => exact ⟨a, d, rfl, h⟩
  | err c p => cases h
  | out => cases h
theorem wantW_ok {s t : Bs} {d d' : Wd} {u : Unit} (hI : InS s d) (ht : t ≠ []) (h : wantW s t d = .ok u d') : InS s d' ∧ d.pos + 1 ≤ d'.pos := by
  unfold wantW at h
  split at h
  · rename_i e
    cases h
    exact ⟨nextW_in s d, next_lt hI (by rw [e]; exact ht)⟩
  · cases h
theorem wantL_ok {s : Bs} : ∀ {l : List Bs} {d d' : Wd} {u : Unit}, InS s d → (∀ t ∈ l, t ≠ []) → wantL s l d = .ok u d' → InS s d' ∧ d.pos ≤ d'.pos
  | [], d, d', u, hI, _, h => by cases h; exact ⟨hI, Nat.le_refl _⟩
  | t :: l, d, d', u, hI, hl, h => by
    obtain ⟨a, d1, h1, h2⟩ := bind_ok (show (wantW s t d).bind _ = _ from h)
    obtain ⟨i1, p1⟩ := wantW_ok hI (hl t (by simp)) h1
    obtain ⟨i2, p2⟩ := wantL_ok i1 (fun x hx => hl x (by simp [hx])) h2
    exact ⟨i2, by omega⟩
theorem wantR_ok {s : Bs} {r : Int} {d d' : Wd} {t : Bs} (hI : InS s d) (hr : r ≠ 1) (h : wantR s r d = .ok t d') : InS s d' ∧ d.pos + 1 ≤ d'.pos ∧ t = d.text ∧ d.role = r := by
  unfold wantR at h
  split at h
  · rename_i e
    cases h
    exact ⟨nextW_in s d, next_lt hI (role_text hI (by rw [e]; exact hr)), rfl, e⟩
  · cases h
theorem deepW_ok {s t : Bs} {deep : Nat} {d d' : Wd} {b : Bool} (hI : InS s d) (ht : t ≠ []) (h : deepW s t deep d = .ok b d') : InS s d' ∧ ((b = true ∧ d.pos + 1 ≤ d'.pos) ∨ (b = false ∧ d' = d)) := by
  unfold deepW at h
  split at h
  · rename_i e
    split at h
    · cases h
    · cases h
      exact ⟨nextW_in s d, .inl ⟨rfl, next_lt hI (by rw [e]; exact ht)⟩⟩
  · cases h
    exact ⟨hI, .inr ⟨rfl, rfl⟩⟩
theorem max4 : 4000 ≤ maxLen := by unfold maxLen; omega
theorem numOf_in {t : Bs} (h : isNum t = true) : 0 ≤ numOf t ∧ numOf t ≤ 1099511627776 := by
  unfold isNum at h
  unfold numOf
  cases e : Lib.atoiAll t with
  | ok v => rw [e] at h; simp at h; exact ⟨h.1, h.2.1⟩
  | _ => rw [e] at h; simp at h
theorem roleTab3 (t : Bs) : roleTab t ≠ 3 := by
  have tabs : ∀ p ∈ tab.reverse, p.2 ≠ 3 := by decide
  unfold roleTab
  cases hf : tab.reverse.find? (fun p => p.1 == t) with
  | none => simp
  | some q => exact tabs q (List.mem_of_find?_eq_some hf)
theorem role3 {s : Bs} {d : Wd} (hI : InS s d) (h : d.role = 3) : isNum d.text = true := by
  obtain ⟨i, rfl⟩ := hI.wd
  have h : roleW (wordAt s i).text = 3 := h
  unfold roleW at h
  split at h
  · exact absurd h (roleTab3 _)
  split at h
  · omega
  split at h
  · omega
  split at h
  · assumption
  · omega
theorem numOf_role {s : Bs} {d : Wd} (hI : InS s d) (h : d.role = 3) : -9223372036854775808 ≤ numOf d.text ∧ numOf d.text ≤ 9223372036854775807 := by
  have := numOf_in (role3 hI h)
  omega
theorem ExFit.leaf {op : Bs} {n : Int} {name : Bs} (ho : op.length ≤ maxLen) (hn : -9223372036854775808 ≤ n ∧ n ≤ 9223372036854775807) : ExFit ⟨op, n, name, []⟩ :=
  .mk _ ho hn (by simp) (fun i a h => by simp at h)
theorem ExFit.one {op name : Bs} {a : Ex} (ho : op.length ≤ maxLen) (ha : ExFit a) : ExFit ⟨op, 0, name, [a]⟩ :=
  .mk _ ho (by show (-9223372036854775808 : Int) ≤ 0 ∧ (0 : Int) ≤ 9223372036854775807; omega) (by simp) (fun i x h => by
    cases i with
    | zero => cases h; exact ha
    | succ j => simp at h)
theorem ExFit.two {op name : Bs} {a b : Ex} (ho : op.length ≤ maxLen) (ha : ExFit a) (hb : ExFit b) : ExFit ⟨op, 0, name, [a, b]⟩ :=
  .mk _ ho (by show (-9223372036854775808 : Int) ≤ 0 ∧ (0 : Int) ≤ 9223372036854775807; omega) (by simp) (fun i x h => by
    cases i with
    | zero => cases h; exact ha
    | succ j =>
      cases j with
      | zero => cases h; exact hb
      | succ j => simp at h)
section
variable {s : Bs} (hs : s.length ≤ 4000)
include hs
theorem grpF_ok {sign : Int} {f : Wd → Res Ex} (hs1 : sign ≠ 1) (hf : ∀ d e d', InS s d → f d = .ok e d' → InS s d' ∧ ExR d.pos d'.pos e) (p : Nat) : ∀ (k : Nat) (e : Ex) (d : Wd) (e' : Ex) (d' : Wd), InS s d → ExR p d.pos e → grpF s sign f k e d = .ok e' d' → InS s d' ∧ ExR p d'.pos e'
  | 0, e, d, e', d', hI, he, h => by cases h
  | k + 1, e, d, e', d', hI, he, h => by
    have h : (if d.role = sign then (f (nextW s d)).bind fun e2 d2 => grpF s sign f k ⟨d.text, 0, [], [e, e2]⟩ d2 else .ok e d) = .ok e' d' := h
    split at h
    · rename_i er
      have h1 := next_lt hI (role_text hI (by rw [er]; exact hs1))
      obtain ⟨e2, d2, h2, h3⟩ := bind_ok h
      obtain ⟨i2, r2⟩ := hf _ e2 d2 (nextW_in s d) h2
      refine grpF_ok hs1 hf p k _ d2 e' d' i2 ?_ h3
      obtain ⟨n1, D1, q1⟩ := he.dep
      obtain ⟨n2, D2, q2⟩ := r2.dep
      refine ⟨.two (by have := hI.le; have := max4; omega) he.sm r2.sm, max n1 n2 + 1, ?_, by omega⟩
      intro a ha
      simp at ha
      rcases ha with rfl | rfl
      · exact D1.le (by omega)
      · exact D2.le (by omega)
    · cases h
      exact ⟨hI, he⟩
theorem exF_ok : ∀ (k lev deep : Nat) (d : Wd) (e : Ex) (d' : Wd), InS s d → lev ≤ 2 → exF s k lev deep d = .ok e d' → InS s d' ∧ ExR d.pos d'.pos e
  | 0, lev, deep, d, e, d', hI, hv, h => by cases h
  | k + 1, 0, deep, d, e, d', hI, hv, h => by
    replace h : partF s (exF s k 0) (exF s k 2) deep d = .ok e d' := h
    unfold partF at h
    have m4 := max4
    obtain ⟨b1, d1, h1, hN⟩ := bind_ok h
    clear h
    have h := hN
    clear hN
    obtain ⟨i1, c1⟩ := deepW_ok hI (by simp) h1
    rcases c1 with ⟨rfl, p1⟩ | ⟨rfl, rfl⟩
    · simp only [if_true] at h
      obtain ⟨e2, d2, h2, h⟩ := bind_ok h
      obtain ⟨i2, r2⟩ := exF_ok k 0 (deep + 1) d1 e2 d2 i1 (by omega) h2
      cases h
      obtain ⟨n, D, q⟩ := r2.dep
      refine ⟨i2, .one (by simp; omega) r2.sm, n + 1, ?_, by omega⟩
      intro a ha
      simp at ha
      subst ha
      exact D
    · simp only [Bool.false_eq_true, if_false] at h
      obtain ⟨b2, d2, h2, hN⟩ := bind_ok h
      clear h
      have h := hN
      clear hN
      obtain ⟨i2, c2⟩ := deepW_ok hI (by simp) h2
      rcases c2 with ⟨rfl, p2⟩ | ⟨rfl, rfl⟩
      · simp only [if_true] at h
        obtain ⟨e3, d3, h3, h⟩ := bind_ok h
        obtain ⟨i3, r3⟩ := exF_ok k 2 (deep + 1) d2 e3 d3 i2 (by omega) h3
        obtain ⟨u, d4, h4, h⟩ := bind_ok h
        obtain ⟨i4, p4⟩ := wantW_ok i3 (by simp) h4
        cases h
        obtain ⟨n, D, q⟩ := r3.dep
        exact ⟨i4, r3.sm, n, D, by omega⟩
      · simp only [Bool.false_eq_true, if_false] at h
        split at h
        · rename_i er
          cases h
          have := next_lt hI (role_text hI (by rw [er]; omega))
          exact ⟨nextW_in s d2, .leaf (by simp; omega) (numOf_role hI er), 0, rfl, by omega⟩
        · obtain ⟨nm, d3, h3, h⟩ := bind_ok h
          obtain ⟨i3, p3, _, _⟩ := wantR_ok hI (by omega) h3
          obtain ⟨b4, d4, h4, hN⟩ := bind_ok h
          clear h
          have h := hN
          clear hN
          obtain ⟨i4, c4⟩ := deepW_ok i3 (by simp) h4
          rcases c4 with ⟨rfl, p4⟩ | ⟨rfl, rfl⟩
          · simp only [if_true] at h
            obtain ⟨e5, d5, h5, h⟩ := bind_ok h
            obtain ⟨i5, r5⟩ := exF_ok k 2 (deep + 1) d4 e5 d5 i4 (by omega) h5
            obtain ⟨u, d6, h6, h⟩ := bind_ok h
            obtain ⟨i6, p6⟩ := wantW_ok i5 (by simp) h6
            cases h
            obtain ⟨n, D, q⟩ := r5.dep
            refine ⟨i6, .one (by simp; omega) r5.sm, n + 1, ?_, by omega⟩
            intro a ha
            simp at ha
            subst ha
            exact D
          · simp only [Bool.false_eq_true, if_false] at h
            cases h
            exact ⟨i3, .leaf (by simp; omega) (by omega), 0, rfl, by omega⟩
  | k + 1, lev + 1, deep, d, e, d', hI, hv, h => by
    obtain ⟨e1, d1, h1, h2⟩ := bind_ok (show (exF s k lev deep d).bind _ = _ from h)
    obtain ⟨i1, r1⟩ := exF_ok k lev deep d e1 d1 hI (by omega) h1
    exact grpF_ok (s := s) hs (by omega) (fun d e d' hI h => exF_ok k lev deep d e d' hI (by omega) h) d.pos k e1 d1 e d' i1 r1 h2
end
/-- A term that was read. -/
structure ExOk (e : Ex) : Prop where
  sm : ExFit e
  dep : DepL 4000 e.l
structure TeOk (t : Te) : Prop where
  a : ExOk t.a
  b : ExOk t.b
/-- A list of things, not too long. -/
structure LsOk {α : Type} (P : α → Prop) (l : List α) : Prop where
  len : l.length ≤ 5001
  el : ∀ a ∈ l, P a
theorem LsOk.nil {α : Type} {P : α → Prop} : LsOk P [] := ⟨by simp, fun a h => by cases h⟩
/-- Statements that stand at most m deep. -/
def StsOk : Nat → List Stm → Prop
  | 0, l => l = []
  | m + 1, l => LsOk (fun a => LsOk ExOk a.args ∧ LsOk (LsOk TeOk) a.cond ∧ StsOk m a.body ∧ StsOk m a.els) l
theorem StsOk.nil : ∀ m, StsOk m []
  | 0 => rfl
  | m + 1 => LsOk.nil
structure PcOk (p : Pc) : Prop where
  params : p.params.length ≤ 5001
  body : StsOk 14 p.body
  ret : ExOk p.ret
structure PgOk (p : Pg) : Prop where
  vars : p.vars.length ≤ 5001
  arrays : LsOk (fun a : Ar => 0 ≤ a.size ∧ a.size ≤ 1099511627776) p.arrays
  procs : LsOk PcOk p.procs
  main : StsOk 14 p.main
section
variable {s : Bs} (hs : s.length ≤ 4000)
include hs
theorem sum_ok {k deep : Nat} {d d' : Wd} {e : Ex} (hI : InS s d) (h : exF s k 2 deep d = .ok e d') : InS s d' ∧ d.pos + 1 ≤ d'.pos ∧ ExOk e := by
  obtain ⟨i, r⟩ := exF_ok hs k 2 deep d e d' hI (by omega) h
  obtain ⟨n, D, q⟩ := r.dep
  have := i.le
  exact ⟨i, by omega, r.sm, D.le (by omega)⟩
theorem testF_ok {k : Nat} {d d' : Wd} {t : Te} (hI : InS s d) (h : testF s k d = .ok t d') : InS s d' ∧ d.pos + 1 ≤ d'.pos ∧ TeOk t := by
  unfold testF at h
  obtain ⟨a, d1, h1, h⟩ := bind_ok h
  obtain ⟨i1, p1, o1⟩ := sum_ok hs hI h1
  obtain ⟨r, d2, h2, h⟩ := bind_ok h
  obtain ⟨i2, p2, _⟩ := wantR_ok i1 (by omega) h2
  obtain ⟨b, d3, h3, h⟩ := bind_ok h
  obtain ⟨i3, p3, o3⟩ := sum_ok hs i2 h3
  cases h
  exact ⟨i3, by omega, o1, o3⟩
omit hs in
theorem LsOk.app {α : Type} {P : α → Prop} {l : List α} {x : α} (h : LsOk P l) (hx : P x) (hl : l.length ≤ 5000) : LsOk P (l ++ [x]) :=
  ⟨by simp; omega, fun a ha => by
    rcases List.mem_append.1 ha with k | k
    · exact h.el a k
    · simp at k; subst k; exact hx⟩
theorem rowL_ok {k : Nat} : ∀ (n : Nat) (l : List Te) (d : Wd) (l' : List Te) (d' : Wd), InS s d → LsOk TeOk l → l.length ≤ d.pos → rowL s k n l d = .ok l' d' → InS s d' ∧ d.pos ≤ d'.pos ∧ LsOk TeOk l'
  | 0, l, d, l', d', hI, hl, hp, h => by cases h
  | n + 1, l, d, l', d', hI, hl, hp, h => by
    have h : (if d.text = [97, 110, 100] then (testF s k (nextW s d)).bind fun t d => rowL s k n (l ++ [t]) d else .ok l d) = .ok l' d' := h
    have hd := hI.le
    split at h
    · rename_i e
      have h1 := next_lt hI (by rw [e]; simp)
      obtain ⟨t, d2, h2, h⟩ := bind_ok h
      obtain ⟨i2, p2, o2⟩ := testF_ok hs (nextW_in s d) h2
      obtain ⟨i3, p3, o3⟩ := rowL_ok n (l ++ [t]) d2 l' d' i2 (hl.app o2 (by omega)) (by simp; omega) h
      exact ⟨i3, by omega, o3⟩
    · cases h; exact ⟨hI, Nat.le_refl _, hl⟩
theorem rowF_ok {k n : Nat} {d d' : Wd} {l : List Te} (hI : InS s d) (h : rowF s k n d = .ok l d') : InS s d' ∧ d.pos + 1 ≤ d'.pos ∧ LsOk TeOk l := by
  unfold rowF at h
  split at h
  · rename_i e
    cases h
    exact ⟨nextW_in s d, next_lt hI (by rw [e]; simp), .nil⟩
  · obtain ⟨t, d1, h1, h⟩ := bind_ok h
    obtain ⟨i1, p1, o1⟩ := testF_ok hs hI h1
    obtain ⟨i2, p2, o2⟩ := rowL_ok hs n [t] d1 l d' i1 (LsOk.nil.app o1 (by simp)) (by simp; omega) h
    exact ⟨i2, by omega, o2⟩
theorem condL_ok {k : Nat} : ∀ (n : Nat) (l : List (List Te)) (d : Wd) (l' : List (List Te)) (d' : Wd), InS s d → LsOk (LsOk TeOk) l → l.length ≤ d.pos → condL s k n l d = .ok l' d' → InS s d' ∧ d.pos ≤ d'.pos ∧ LsOk (LsOk TeOk) l'
  | 0, l, d, l', d', hI, hl, hp, h => by cases h
  | n + 1, l, d, l', d', hI, hl, hp, h => by
    have h : (if d.text = [111, 114] then (rowF s k k (nextW s d)).bind fun t d => condL s k n (l ++ [t]) d else .ok l d) = .ok l' d' := h
    have hd := hI.le
    split at h
    · rename_i e
      have h1 := next_lt hI (by rw [e]; simp)
      obtain ⟨t, d2, h2, h⟩ := bind_ok h
      obtain ⟨i2, p2, o2⟩ := rowF_ok hs (nextW_in s d) h2
      obtain ⟨i3, p3, o3⟩ := condL_ok n (l ++ [t]) d2 l' d' i2 (hl.app o2 (by omega)) (by simp; omega) h
      exact ⟨i3, by omega, o3⟩
    · cases h; exact ⟨hI, Nat.le_refl _, hl⟩
theorem condF_ok {k n : Nat} {d d' : Wd} {l : List (List Te)} (hI : InS s d) (h : condF s k n d = .ok l d') : InS s d' ∧ d.pos + 1 ≤ d'.pos ∧ LsOk (LsOk TeOk) l := by
  unfold condF at h
  split at h
  · rename_i e
    cases h
    exact ⟨nextW_in s d, next_lt hI (by rw [e]; simp), .nil⟩
  · obtain ⟨t, d1, h1, h⟩ := bind_ok h
    obtain ⟨i1, p1, o1⟩ := rowF_ok hs hI h1
    obtain ⟨i2, p2, o2⟩ := condL_ok hs n [t] d1 l d' i1 (LsOk.nil.app o1 (by simp)) (by simp; omega) h
    exact ⟨i2, by omega, o2⟩
theorem argF_ok {k : Nat} {l l' : List Ex} {d d' : Wd} (hI : InS s d) (hl : LsOk ExOk l) (h : argF s k l d = .ok l' d') : InS s d' ∧ d.pos + 1 ≤ d'.pos ∧ LsOk ExOk l' := by
  unfold argF at h
  split at h
  · cases h
  · obtain ⟨e, d1, h1, h⟩ := bind_ok h
    obtain ⟨i1, p1, o1⟩ := sum_ok hs hI h1
    cases h
    exact ⟨i1, p1, hl.app o1 (by omega)⟩
omit hs in
theorem prmF_ok {l l' : List Bs} {d d' : Wd} (hI : InS s d) (h : prmF s l d = .ok l' d') : InS s d' ∧ d.pos + 1 ≤ d'.pos ∧ l'.length ≤ 5001 := by
  unfold prmF at h
  split at h
  · cases h
  · obtain ⟨e, d1, h1, h⟩ := bind_ok h
    obtain ⟨i1, p1, _⟩ := wantR_ok hI (by omega) h1
    cases h
    exact ⟨i1, p1, by simp; omega⟩
omit hs in
theorem listL_ok {α : Type} {F : α → Wd → Res α} {I : α → Prop} (hF : ∀ x d x' d', InS s d → I x → F x d = .ok x' d' → InS s d' ∧ d.pos + 1 ≤ d'.pos ∧ I x') : ∀ (n : Nat) (x : α) (d : Wd) (x' : α) (d' : Wd), InS s d → I x → listL s F n x d = .ok x' d' → InS s d' ∧ d.pos + 1 ≤ d'.pos ∧ I x'
  | 0, x, d, x', d', hI, hx, h => by cases h
  | n + 1, x, d, x', d', hI, hx, h => by
    have h : (if d.text = [44] then (F x (nextW s d)).bind fun x d => listL s F n x d else (wantW s [41] d).bind fun _ d => .ok x d) = .ok x' d' := h
    split at h
    · rename_i e
      have h1 := next_lt hI (by rw [e]; simp)
      obtain ⟨x2, d2, h2, h⟩ := bind_ok h
      obtain ⟨i2, p2, o2⟩ := hF x _ x2 d2 (nextW_in s d) hx h2
      obtain ⟨i3, p3, o3⟩ := listL_ok hF n x2 d2 x' d' i2 o2 h
      exact ⟨i3, by omega, o3⟩
    · obtain ⟨u, d2, h2, h⟩ := bind_ok h
      obtain ⟨i2, p2⟩ := wantW_ok hI (by simp) h2
      cases h
      exact ⟨i2, p2, hx⟩
omit hs in
theorem listF_ok {α : Type} {F : α → Wd → Res α} {I : α → Prop} (hF : ∀ x d x' d', InS s d → I x → F x d = .ok x' d' → InS s d' ∧ d.pos + 1 ≤ d'.pos ∧ I x') {n : Nat} {x : α} {d : Wd} {x' : α} {d' : Wd} (hI : InS s d) (hx : I x) (h : listF s F n x d = .ok x' d') : InS s d' ∧ d.pos + 1 ≤ d'.pos ∧ I x' := by
  unfold listF at h
  split at h
  · rename_i e
    cases h
    exact ⟨nextW_in s d, next_lt hI (by rw [e]; simp), hx⟩
  · obtain ⟨x2, d2, h2, h⟩ := bind_ok h
    obtain ⟨i2, p2, o2⟩ := hF x _ x2 d2 hI hx h2
    obtain ⟨i3, p3, o3⟩ := listL_ok hF n x2 d2 x' d' i2 o2 h
    exact ⟨i3, by omega, o3⟩
/-- A statement without blocks. -/
def StB (m : Nat) (a : Stm) : Prop := LsOk ExOk a.args ∧ LsOk (LsOk TeOk) a.cond ∧ StsOk m a.body ∧ StsOk m a.els
theorem chgF_ok {k n m : Nat} {d d' : Wd} {t : Stm} (hI : InS s d) (h : chgF s k n d = .ok t d') : InS s d' ∧ d.pos + 1 ≤ d'.pos ∧ StB m t := by
  unfold chgF at h
  obtain ⟨nm, d1, h1, h⟩ := bind_ok h
  obtain ⟨i1, p1, _⟩ := wantR_ok hI (by omega) h1
  split at h
  · rename_i e
    have q1 := next_lt i1 (by rw [e]; simp)
    obtain ⟨l, d2, h2, h⟩ := bind_ok h
    obtain ⟨i2, p2, o2⟩ := argF_ok hs (nextW_in s d1) .nil h2
    obtain ⟨u, d3, h3, h⟩ := bind_ok h
    obtain ⟨i3, p3⟩ := wantW_ok i2 (by simp) h3
    obtain ⟨u, d4, h4, h⟩ := bind_ok h
    obtain ⟨i4, p4⟩ := wantW_ok i3 (by simp) h4
    obtain ⟨l2, d5, h5, h⟩ := bind_ok h
    obtain ⟨i5, p5, o5⟩ := argF_ok hs i4 o2 h5
    obtain ⟨u, d6, h6, h⟩ := bind_ok h
    obtain ⟨i6, p6⟩ := wantW_ok i5 (by simp) h6
    cases h
    exact ⟨i6, by omega, o5, .nil, .nil m, .nil m⟩
  · obtain ⟨u, d2, h2, h⟩ := bind_ok h
    obtain ⟨i2, p2⟩ := wantW_ok i1 (by simp) h2
    split at h
    · rename_i e
      have q2 := next_lt i2 (by rw [e]; simp)
      obtain ⟨pr, d3, h3, h⟩ := bind_ok h
      obtain ⟨i3, p3, _⟩ := wantR_ok (nextW_in s d2) (by omega) h3
      obtain ⟨u, d4, h4, h⟩ := bind_ok h
      obtain ⟨i4, p4⟩ := wantW_ok i3 (by simp) h4
      obtain ⟨l, d5, h5, h⟩ := bind_ok h
      obtain ⟨i5, p5, o5⟩ := listF_ok (I := LsOk ExOk) (fun x d x' d' i j k => argF_ok hs i j k) i4 .nil h5
      obtain ⟨u, d6, h6, h⟩ := bind_ok h
      obtain ⟨i6, p6⟩ := wantW_ok i5 (by simp) h6
      cases h
      exact ⟨i6, by omega, o5, .nil, .nil m, .nil m⟩
    · obtain ⟨l, d5, h5, h⟩ := bind_ok h
      obtain ⟨i5, p5, o5⟩ := argF_ok hs i2 .nil h5
      obtain ⟨u, d6, h6, h⟩ := bind_ok h
      obtain ⟨i6, p6⟩ := wantW_ok i5 (by simp) h6
      cases h
      exact ⟨i6, by omega, o5, .nil, .nil m, .nil m⟩
theorem stmtF_ok {k n m deep : Nat} {blk : Nat → Wd → Res (List Stm)} (hB : ∀ d l d', InS s d → blk (deep + 1) d = .ok l d' → InS s d' ∧ d.pos + 1 ≤ d'.pos ∧ StsOk m l) {d d' : Wd} {t : Stm} (hI : InS s d) (hr : d.role = 2 ∨ d.role = 5) (h : stmtF s k n (chgF s k n) blk deep d = .ok t d') : InS s d' ∧ d.pos + 1 ≤ d'.pos ∧ StB m t := by
  have h0 := next_lt hI (role_text hI (by omega))
  have hN := nextW_in s d
  unfold stmtF at h
  split at h
  · exact chgF_ok hs hI h
  split at h
  · obtain ⟨c, d1, h1, h⟩ := bind_ok h
    obtain ⟨i1, p1, o1⟩ := condF_ok hs hN h1
    obtain ⟨b, d2, h2, h⟩ := bind_ok h
    obtain ⟨i2, p2, o2⟩ := hB _ _ _ i1 h2
    split at h
    · rename_i e
      have q2 := next_lt i2 (by rw [e]; simp)
      obtain ⟨b3, d3, h3, h⟩ := bind_ok h
      obtain ⟨i3, p3, o3⟩ := hB _ _ _ (nextW_in s d2) h3
      cases h
      exact ⟨i3, by omega, .nil, o1, o2, o3⟩
    · cases h
      exact ⟨i2, by omega, .nil, o1, o2, .nil m⟩
  split at h
  · obtain ⟨c, d1, h1, h⟩ := bind_ok h
    obtain ⟨i1, p1, o1⟩ := condF_ok hs hN h1
    obtain ⟨b, d2, h2, h⟩ := bind_ok h
    obtain ⟨i2, p2, o2⟩ := hB _ _ _ i1 h2
    cases h
    exact ⟨i2, by omega, .nil, o1, o2, .nil m⟩
  split at h
  · obtain ⟨c, d1, h1, h⟩ := bind_ok h
    obtain ⟨i1, p1, o1⟩ := condF_ok hs hN h1
    obtain ⟨u, d2, h2, h⟩ := bind_ok h
    obtain ⟨i2, p2⟩ := wantW_ok i1 (by simp) h2
    cases h
    exact ⟨i2, by omega, .nil, o1, .nil m, .nil m⟩
  split at h
  · obtain ⟨nm, d1, h1, h⟩ := bind_ok h
    obtain ⟨i1, p1, _⟩ := wantR_ok hN (by omega) h1
    obtain ⟨u, d2, h2, h⟩ := bind_ok h
    obtain ⟨i2, p2⟩ := wantW_ok i1 (by simp) h2
    cases h
    exact ⟨i2, by omega, .nil, .nil, .nil m, .nil m⟩
  · cases h
    exact ⟨hN, h0, .nil, .nil, .nil m, .nil m⟩
theorem stmtsL_ok {m deep : Nat} {f : Nat → Wd → Res Stm} (hf : ∀ d t d', InS s d → (d.role = 2 ∨ d.role = 5) → f deep d = .ok t d' → InS s d' ∧ d.pos + 1 ≤ d'.pos ∧ StB m t) : ∀ (n : Nat) (l : List Stm) (d : Wd) (l' : List Stm) (d' : Wd), InS s d → LsOk (StB m) l → l.length ≤ d.pos → stmtsL s f deep n l d = .ok l' d' → InS s d' ∧ d.pos ≤ d'.pos ∧ LsOk (StB m) l'
  | 0, l, d, l', d', hI, hl, hp, h => by cases h
  | n + 1, l, d, l', d', hI, hl, hp, h => by
    have h : (if d.role = 2 ∨ d.role = 5 then (if 12 < deep then .err 2 d.pos else (f deep d).bind fun t d => stmtsL s f deep n (l ++ [t]) d) else .ok l d) = .ok l' d' := h
    have hd := hI.le
    split at h
    · rename_i er
      split at h
      · cases h
      · obtain ⟨t, d2, h2, h⟩ := bind_ok h
        obtain ⟨i2, p2, o2⟩ := hf _ _ _ hI er h2
        obtain ⟨i3, p3, o3⟩ := stmtsL_ok hf n (l ++ [t]) d2 l' d' i2 (hl.app o2 (by omega)) (by simp; omega) h
        exact ⟨i3, by omega, o3⟩
    · cases h; exact ⟨hI, Nat.le_refl _, hl⟩
omit hs in
theorem blockF_ok {m deep : Nat} {g : Nat → Wd → Res (List Stm)} (hg : ∀ d l d', InS s d → g deep d = .ok l d' → InS s d' ∧ d.pos ≤ d'.pos ∧ StsOk m l) {d d' : Wd} {l : List Stm} (hI : InS s d) (h : blockF s g deep d = .ok l d') : InS s d' ∧ d.pos + 1 ≤ d'.pos ∧ StsOk m l := by
  unfold blockF at h
  obtain ⟨u, d1, h1, h⟩ := bind_ok h
  obtain ⟨i1, p1⟩ := wantW_ok hI (by simp) h1
  obtain ⟨l2, d2, h2, h⟩ := bind_ok h
  obtain ⟨i2, p2, o2⟩ := hg _ _ _ i1 h2
  obtain ⟨u, d3, h3, h⟩ := bind_ok h
  obtain ⟨i3, p3⟩ := wantW_ok i2 (by simp) h3
  cases h
  exact ⟨i3, by omega, o2⟩
theorem stsF_ok {k n : Nat} : ∀ (m deep : Nat) (d : Wd) (l : List Stm) (d' : Wd), InS s d → stsF s k n m deep d = .ok l d' → InS s d' ∧ d.pos ≤ d'.pos ∧ StsOk m l
  | 0, deep, d, l, d', hI, h => by cases h
  | m + 1, deep, d, l, d', hI, h => by
    have h : stmtsL s (stmtF s k n (chgF s k n) (blockF s (stsF s k n m))) deep n [] d = .ok l d' := h
    exact stmtsL_ok hs (m := m) (fun d t d' i r h => stmtF_ok hs (fun d l d' i h => blockF_ok (fun d l d' i h => stsF_ok m (deep + 1) d l d' i h) i h) i r h) n [] d l d' hI .nil (by simp) h
theorem prcF_ok {k n : Nat} {d d' : Wd} {p : Pc} (hI : InS s d) (h : prcF s k n 14 d = .ok p d') : InS s d' ∧ d.pos + 1 ≤ d'.pos ∧ PcOk p := by
  unfold prcF at h
  obtain ⟨nm, d1, h1, h⟩ := bind_ok h
  obtain ⟨i1, p1, _⟩ := wantR_ok hI (by omega) h1
  obtain ⟨u, d2, h2, h⟩ := bind_ok h
  obtain ⟨i2, p2⟩ := wantW_ok i1 (by simp) h2
  obtain ⟨ps, d3, h3, h⟩ := bind_ok h
  obtain ⟨i3, p3, o3⟩ := listF_ok (I := fun l : List Bs => l.length ≤ 5001) (fun x d x' d' i j k => prmF_ok i k) i2 (by simp) h3
  obtain ⟨u, d4, h4, h⟩ := bind_ok h
  obtain ⟨i4, p4⟩ := wantW_ok i3 (by simp) h4
  obtain ⟨b, d5, h5, h⟩ := bind_ok h
  obtain ⟨i5, p5, o5⟩ := stsF_ok hs 14 1 d4 b d5 i4 h5
  obtain ⟨u, d6, h6, h⟩ := bind_ok h
  obtain ⟨i6, p6⟩ := wantW_ok i5 (by simp) h6
  obtain ⟨e, d7, h7, h⟩ := bind_ok h
  obtain ⟨i7, p7, o7⟩ := sum_ok hs i6 h7
  obtain ⟨u, d8, h8, h⟩ := bind_ok h
  obtain ⟨i8, p8⟩ := wantL_ok i7 (by simp) h8
  cases h
  exact ⟨i8, by omega, o3, o5, o7⟩
theorem kwL_ok {α : Type} {w : Bs} {F : Wd → Res α} {P : α → Prop} (hw : w ≠ []) (hF : ∀ d x d', InS s d → F d = .ok x d' → InS s d' ∧ d.pos + 1 ≤ d'.pos ∧ P x) : ∀ (n : Nat) (l : List α) (d : Wd) (l' : List α) (d' : Wd), InS s d → LsOk P l → l.length ≤ d.pos → kwL s w F n l d = .ok l' d' → InS s d' ∧ d.pos ≤ d'.pos ∧ LsOk P l'
  | 0, l, d, l', d', hI, hl, hp, h => by cases h
  | n + 1, l, d, l', d', hI, hl, hp, h => by
    have h : (if d.text = w then (F (nextW s d)).bind fun x d => kwL s w F n (l ++ [x]) d else .ok l d) = .ok l' d' := h
    have hd := hI.le
    split at h
    · rename_i e
      have h1 := next_lt hI (by rw [e]; exact hw)
      obtain ⟨x, d2, h2, h⟩ := bind_ok h
      obtain ⟨i2, p2, o2⟩ := hF _ _ _ (nextW_in s d) h2
      obtain ⟨i3, p3, o3⟩ := kwL_ok hw hF n (l ++ [x]) d2 l' d' i2 (hl.app o2 (by omega)) (by simp; omega) h
      exact ⟨i3, by omega, o3⟩
    · cases h; exact ⟨hI, Nat.le_refl _, hl⟩
omit hs in
theorem varF_ok {d d' : Wd} {x : Bs} (hI : InS s d) (h : varF s d = .ok x d') : InS s d' ∧ d.pos + 1 ≤ d'.pos ∧ True := by
  unfold varF at h
  obtain ⟨nm, d1, h1, h⟩ := bind_ok h
  obtain ⟨i1, p1, _⟩ := wantR_ok hI (by omega) h1
  obtain ⟨u, d2, h2, h⟩ := bind_ok h
  obtain ⟨i2, p2⟩ := wantW_ok i1 (by simp) h2
  cases h
  exact ⟨i2, by omega, trivial⟩
omit hs in
theorem arrF_ok {d d' : Wd} {x : Ar} (hI : InS s d) (h : arrF s d = .ok x d') : InS s d' ∧ d.pos + 1 ≤ d'.pos ∧ (0 ≤ x.size ∧ x.size ≤ 1099511627776) := by
  unfold arrF at h
  obtain ⟨nm, d1, h1, h⟩ := bind_ok h
  obtain ⟨i1, p1, _⟩ := wantR_ok hI (by omega) h1
  obtain ⟨u, d2, h2, h⟩ := bind_ok h
  obtain ⟨i2, p2⟩ := wantW_ok i1 (by simp) h2
  obtain ⟨z, d3, h3, h⟩ := bind_ok h
  unfold numF at h3
  obtain ⟨t, d3, h3, h3'⟩ := bind_ok h3
  obtain ⟨i3, p3, rfl, r3⟩ := wantR_ok i2 (by omega) h3
  cases h3'
  obtain ⟨u, d4, h4, h⟩ := bind_ok h
  obtain ⟨i4, p4⟩ := wantL_ok i3 (by simp) h4
  cases h
  exact ⟨i4, by omega, numOf_in (role3 i2 r3)⟩
theorem readF_ok {p : Pg} {d' : Wd} (h : readF s = .ok p d') : PgOk p := by
  unfold readF prgF at h
  obtain ⟨vs, d1, h1, h⟩ := bind_ok h
  obtain ⟨i1, p1, o1⟩ := kwL_ok hs (P := fun _ => True) (by simp) (fun d x d' i h => varF_ok i h) 5000 [] _ vs d1 (wordAt_in s 0) .nil (by simp) h1
  obtain ⟨ar, d2, h2, h⟩ := bind_ok h
  obtain ⟨i2, p2, o2⟩ := kwL_ok hs (by simp) (fun d x d' i h => arrF_ok i h) 5000 [] _ ar d2 i1 .nil (by simp) h2
  obtain ⟨ps, d3, h3, h⟩ := bind_ok h
  obtain ⟨i3, p3, o3⟩ := kwL_ok hs (by simp) (fun d x d' i h => prcF_ok hs i h) 5000 [] _ ps d3 i2 .nil (by simp) h3
  obtain ⟨u, d4, h4, h⟩ := bind_ok h
  obtain ⟨i4, p4⟩ := wantW_ok i3 (by simp) h4
  obtain ⟨b, d5, h5, h⟩ := bind_ok h
  obtain ⟨i5, p5, o5⟩ := blockF_ok (fun d l d' i h => stsF_ok hs 14 1 d l d' i h) i4 h5
  obtain ⟨t, d6, h6, h⟩ := bind_ok h
  cases h
  exact ⟨o1.len, o2, o3, o5⟩
end
/-- A program that memory can hold. -/
structure PcSm (p : Pc) : Prop where
  params : p.params.length ≤ maxLen
  body : StsSm p.body
  ret : ExSm p.ret
structure PgSm (p : Pg) : Prop where
  vars : p.vars.length ≤ maxLen
  arrl : p.arrays.length ≤ maxLen
  arr : ∀ (i : Nat) (a : Ar), p.arrays[i]? = some a → -9223372036854775808 ≤ a.size ∧ a.size ≤ 9223372036854775807
  procl : p.procs.length ≤ maxLen
  proc : ∀ (i : Nat) (a : Pc), p.procs[i]? = some a → PcSm a
  main : StsSm p.main
theorem StsOk.fit : ∀ {m : Nat} {l : List Stm}, StsOk m l → LsFit 144 StFit l
  | 0, l, h => by have h : l = [] := h; subst h; exact ⟨by simp, fun i a h => by simp at h⟩
  | m + 1, l, h => by
    have h : LsOk (fun a => LsOk ExOk a.args ∧ LsOk (LsOk TeOk) a.cond ∧ StsOk m a.body ∧ StsOk m a.els) l := h
    have hl := h.len
    refine ⟨by omega, fun i a ha => ?_⟩
    obtain ⟨h1, h2, h3, h4⟩ := h.el a (List.mem_of_getElem? ha)
    have l1 := h1.len
    have l2 := h2.len
    have b := StsOk.fit h3
    have e := StsOk.fit h4
    exact .mk a ⟨by omega, fun j x hx => (h1.el x (List.mem_of_getElem? hx)).sm⟩ ⟨by omega, fun j x hx => ⟨by have := (h2.el x (List.mem_of_getElem? hx)).len; omega, fun j' t ht => ⟨((h2.el x (List.mem_of_getElem? hx)).el t (List.mem_of_getElem? ht)).a.sm, ((h2.el x (List.mem_of_getElem? hx)).el t (List.mem_of_getElem? ht)).b.sm⟩⟩⟩ b.len b.el e.len e.el
theorem PcFit.sm {p : Pc} (h : PcFit p) : PcSm p := ⟨by have := h.params; unfold maxLen; omega, StsFit.sm h.body, h.ret.sm⟩
theorem PgFit.sm {p : Pg} (h : PgFit p) : PgSm p := ⟨by have := h.vars; unfold maxLen; omega, by have := h.arrays.len; unfold maxLen; omega, fun i a ha => h.arrays.el i a ha, by have := h.procs.len; unfold maxLen; omega, fun i a ha => (h.procs.el i a ha).sm, StsFit.sm h.main⟩
theorem PgOk.fit {p : Pg} (h : PgOk p) : PgFit p :=
  ⟨by have := h.vars; omega, ⟨by have := h.arrays.len; omega, fun i a ha => by have := h.arrays.el a (List.mem_of_getElem? ha); omega⟩, ⟨by have := h.procs.len; omega, fun i a ha => have k := h.procs.el a (List.mem_of_getElem? ha); ⟨by have := k.params; omega, k.body.fit, k.ret.sm⟩⟩, h.main.fit⟩
theorem PgOk.sm {p : Pg} (h : PgOk p) : PgSm p := h.fit.sm
end Go.Proofs.YtbfhaabpfkopdaaGreatDoor

/- The language: the text of a program (plain: no program in it). -/
namespace Go.Proofs.YtbfhaabpfkopdaaGreatDoor
set_option linter.unusedVariables false

open Classical in
/-- Are two things the same? -/
noncomputable def eqB {α : Type} (a b : α) : Bool := decide (a = b)
theorem eqB_iff {α : Type} (a b : α) : eqB a b = true ↔ a = b := by unfold eqB; simp
theorem eqB_self {α : Type} (a : α) : eqB a a = true := (eqB_iff a a).2 rfl
theorem eqB_ne {α : Type} {a b : α} (h : a ≠ b) : eqB a b = false := by
  cases e : eqB a b with
  | false => rfl
  | true => exact absurd ((eqB_iff a b).1 e) h
/-- A program's text: what is written, if it is read as the same. -/
noncomputable def textF (p : Pg) : Option Bs := match writeF p with
  | none => none
  | some t => match readF t with
    | .ok q _ => if eqB q p = true then some t else none
    | _ => none
theorem putW_one_len {t : Bs} {st st' : Wst} (h : putW [t] st = some st') : st'.1.length ≤ 4000 := by
  have h : (if 4000 < st.1.length + t.length then none else some (st.1 ++ t, st.2)) = some st' := h
  split at h
  · cases h
  · cases h; simp; omega
theorem some_bind {α β : Type} {x : Option α} {f : α → Option β} {b : β} (h : x.bind f = some b) : ∃ a, x = some a ∧ f a = some b := by
  cases x with
  | none => cases h
  | some a => exact ⟨a, rfl, h⟩
theorem writeF_len {p : Pg} {t : Bs} (h : writeF p = some t) : t.length ≤ 4000 := by
  unfold writeF at h
  cases e : pgW p ([], 0) with
  | none => rw [e] at h; cases h
  | some st =>
    rw [e] at h
    cases h
    unfold pgW at e
    obtain ⟨s1, _, e⟩ := some_bind e
    obtain ⟨s2, _, e⟩ := some_bind e
    obtain ⟨s3, _, e⟩ := some_bind e
    obtain ⟨s4, _, e⟩ := some_bind e
    obtain ⟨s5, _, e⟩ := some_bind e
    exact putW_one_len e
theorem textF_of {p : Pg} {t : Bs} {d : Wd} (h : writeF p = some t) (hr : readF t = .ok p d) : textF p = some t := by
  unfold textF
  rw [h]
  simp only
  rw [hr]
  simp only
  rw [if_pos (eqB_self p)]
theorem one_text : textF oneP = some oneT := textF_of one_write one_again
end Go.Proofs.YtbfhaabpfkopdaaGreatDoor
