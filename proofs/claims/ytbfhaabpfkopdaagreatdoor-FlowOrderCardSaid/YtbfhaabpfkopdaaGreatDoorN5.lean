/- The statements' helpers: programs copied: what ProgramOf and Back keep. -/
import Derived.Test.YtbfhaabpfkopdaaGreatDoorN3
import Derived.Laws.AppendOwn
import Derived.Laws.AppendOwnNone
namespace Go.Proofs.YtbfhaabpfkopdaaGreatDoor
open Go.RowKit
set_option linter.unusedVariables false

section
variable {P : Program} {w : World}
/-- At a step of a region that draws its order. -/
theorem step_append_own {ops : Array Oper} {o : Oper} {a : Act} {K : Act → World → Prop} {Q : Exit → Act → World → Prop} {E : Prop} (hgd : o.guard = none) (s x : Operand) (t : TypeId)
    (ho : o.op = .call { callee := .builtin .append, args := #[s, x], argTypes := #[t, t] })
    (base : Nat) (e : TypeId) (i : TypeInfo) (z : Value) (size bytes : Nat) (ht : P.underlying t = some (.slice e)) (hi : P.info? e = some i) (hz : i.zero = some z)
    (hsize : i.size = size) (hby : i.bytes = bytes) (hzs : z.cells.size = size) (hsz : 0 < size)
    (v : Value) (n : Nat) (xs : List Value) (hs : a.eval s = v) (hown : w.ownsRow base e size v n xs)
    (ad : Addr) (m c : Nat) (news : List Value) (hx : a.eval x = .slice (some ad) m c) (hl : news.length = m * size) (hnews : ∀ j u, news[j]? = some u → w.cell? (ad.add j) = some u) (h1 : ∀ u ∈ news, u.oneCell' = true)
    (h63 : n + m ≤ maxLen) (hbytes : (n + m) * bytes ≤ 140737488355328) (hbase : base ≤ w.heap.size)
    (h : ∀ v' w', w'.ownsRow base e size v' (n + m) (xs ++ news) → w.grownBy w' v.ownBlock → K (a.put o.dst v') w') :
    if Region.wanted o (yielded ops a.tmps) = true then Oper.wp P o a w K Q else E := by
  have hw : Region.wanted o (yielded ops a.tmps) = true := by simp [Region.wanted, hgd]
  rw [if_pos hw]
  exact wp_append_own w s x t ho base e i z size bytes ht hi hz hsize hby hzs hsz v n xs hs hown ad m c news hx hl hnews h1 h63 hbytes hbase fun v' w' h2 h3 _ => h v' w' h2 h3
end
theorem strs_flat : ∀ l : List Bs, (l.map fun t => [Value.string (bs t)]).flatten = strsV l
  | [] => rfl
  | a :: l => by
    show [Value.string (bs a)] ++ (l.map fun t => [Value.string (bs t)]).flatten = _
    rw [strs_flat l]; rfl
/-- A list of texts in a row of its own. -/
theorem strs_of_own {W : World} {base : Nat} {v : Value} {l : List Bs} (h : W.ownsRow base 9 1 v l.length (strsV l)) : ∃ x cap, v = .slice x l.length cap ∧ RowAt strVals 1 W (fun b => base ≤ b) x l := by
  have g : GRow strVals 9 1 W base v l (l.map fun t => [Value.string (bs t)]) := by
    refine ⟨?_, by simp, fun i vs hi => ?_, fun i vs e hi he => ?_⟩
    · rw [strs_flat]; exact h
    · rw [List.getElem?_map] at hi
      cases hh : l[i]? with
      | none => rw [hh] at hi; cases hi
      | some a => rw [hh] at hi; cases hi; rfl
    · rw [List.getElem?_map, he] at hi
      cases hi
      rfl
  exact g.row strVals_keeps (by omega)
/-- Where a list of texts lies. -/
theorem strs_src {W : World} {x : Option Addr} {l : List Bs} (h : RowAt strVals 1 W Any x l) : (x = none ∧ l = []) ∨ ∃ ad : Addr, x = some ad ∧ ∀ (W' : World), Below W.heap.size W W' → ∀ j u, (strsV l)[j]? = some u → W'.cell? (ad.add j) = some u := by
  rcases h with rfl | ⟨b, off, rfl, _, hlt, hc⟩
  · cases x with
    | none => exact .inl ⟨rfl, rfl⟩
    | some ad => exact .inr ⟨ad, rfl, fun W' _ j u hj => by simp [strsV] at hj⟩
  · refine .inr ⟨_, rfl, fun W' hb j u hj => ?_⟩
    have hadd : (⟨b, off, none⟩ : Addr).add j = ⟨b, off + j, none⟩ := by
      unfold Addr.add; split
      · rename_i h0; subst h0; simp
      · rfl
    unfold strsV at hj
    rw [List.getElem?_map] at hj
    cases hh : l[j]? with
    | none => rw [hh] at hj; cases hj
    | some t =>
      rw [hh] at hj
      cases hj
      obtain ⟨vs, hvl, hv, rfl⟩ := hc j t hh
      have := hv 0 _ rfl
      simp only [Nat.add_zero, Nat.mul_one] at this
      rw [hadd]
      exact (hb.cell hlt).trans this
theorem strsV_one (l : List Bs) : ∀ u ∈ strsV l, u.oneCell' = true := by
  intro u hu
  unfold strsV at hu
  obtain ⟨t, _, rfl⟩ := List.mem_map.1 hu
  rfl

/-- A program that is being copied: the old one's box, the answer's, the new one's. -/
structure PgBx (w W : World) (g1 g2 o M : Nat) (pc vs : List Value) : Prop where
  P : BoxN W g1 pc
  R : BoxN W g2 [.slice none 0 0, .slice none 0 0, .slice none 0 0, .slice none 0 0]
  O : BoxN W o vs
  n1 : g1 ≠ o
  n2 : g2 ≠ o
  n3 : g2 ≠ g1
  ge2 : w.heap.size ≤ g2
  ge : w.heap.size ≤ o
  l1 : g1 < M
  l2 : g2 < M
  lt : o < M
  mM : M ≤ W.heap.size
  bel : Below w.heap.size w W
theorem PgBx.below {w W W' : World} {g1 g2 o M : Nat} {pc vs : List Value} (h : PgBx w W g1 g2 o M pc vs) (hb : Below W.heap.size W W') : PgBx w W' g1 g2 o M pc vs :=
  ⟨h.P.bel hb, h.R.bel hb, h.O.bel hb, h.n1, h.n2, h.n3, h.ge2, h.ge, h.l1, h.l2, h.lt, Nat.le_trans h.mM hb.size, h.bel.trans (hb.mono h.bel.size)⟩
theorem PgBx.up {w W : World} {g1 g2 o M : Nat} {pc vs : List Value} (h : PgBx w W g1 g2 o M pc vs) {M' : Nat} (h1 : M ≤ M') (h2 : M' ≤ W.heap.size) : PgBx w W g1 g2 o M' pc vs :=
  ⟨h.P, h.R, h.O, h.n1, h.n2, h.n3, h.ge2, h.ge, by have := h.l1; omega, by have := h.l2; omega, by have := h.lt; omega, h2, h.bel⟩
theorem BoxN.far {W W' : World} {b : Nat} {vs : List Value} (h : BoxN W b vs) {row : Option Nat} (hg : W.grownBy W' row) (hr : row ≠ some b) : BoxN W' b vs :=
  ⟨Nat.lt_of_lt_of_le h.lt hg.size, fun j v k => (World.grownBy.cell_far hg ⟨b, j, none⟩ h.lt (fun e => hr e.symm)).trans (h.cell j v k), fun j => (World.grownBy.frozen_far hg ⟨b, j, none⟩ h.lt (fun e => hr e.symm)).trans (h.fr j)⟩
theorem PgBx.far {w W W' : World} {g1 g2 o M : Nat} {pc vs : List Value} (h : PgBx w W g1 g2 o M pc vs) {row : Option Nat} (hg : W.grownBy W' row) (hr : ∀ k, row = some k → M ≤ k) : PgBx w W' g1 g2 o M pc vs := by
  have l1 := h.l1
  have l2 := h.l2
  have lt := h.lt
  have ge := h.ge
  exact ⟨h.P.far hg (fun e => by have := hr _ e; omega), h.R.far hg (fun e => by have := hr _ e; omega), h.O.far hg (fun e => by have := hr _ e; omega), h.n1, h.n2, h.n3, h.ge2, h.ge, l1, l2, lt, Nat.le_trans h.mM hg.size, h.bel.grown hg h.bel.size (fun k e => by have := hr k e; omega)⟩
theorem PgBx.set {w W : World} {g1 g2 o M : Nat} {pc vs : List Value} (h : PgBx w W g1 g2 o M pc vs) (j : Nat) (hj : j < vs.length) (u : Value) : PgBx w (W.setCell ⟨o, j, none⟩ u) g1 g2 o M pc (vs.set j u) :=
  ⟨h.P.other (q := ⟨o, j, none⟩) (fun e => h.n1 e.symm) u, h.R.other (q := ⟨o, j, none⟩) (fun e => h.n2 e.symm) u, h.O.put j hj u, h.n1, h.n2, h.n3, h.ge2, h.ge, h.l1, h.l2, h.lt, by simpa [World.setCell] using h.mM, h.bel.setCell (p := ⟨o, j, none⟩) h.ge u⟩
theorem RowAt.belM {α : Type} {V : Rds α} (hV : KeepsV V) {size : Nat} {W W' : World} {ok : Nat → Prop} {x : Option Addr} {l : List α} (h : RowAt V size W ok x l) (hb : Below W.heap.size W W') : RowAt V size W' ok x l :=
  h.keep hV hb.size (fun b _ hlt => hb.block b hlt) (fun b k _ => k)
theorem RowAt.okk {α : Type} {V : Rds α} (hV : KeepsV V) {size : Nat} {W : World} {ok ok' : Nat → Prop} {x : Option Addr} {l : List α} (h : RowAt V size W ok x l) (k : ∀ b, ok b → b < W.heap.size → ok' b) : RowAt V size W ok' x l :=
  h.keep hV (Nat.le_refl _) (fun _ _ _ => rfl) k
end Go.Proofs.YtbfhaabpfkopdaaGreatDoor
