/- What every row's proof uses: arguments opened. -/
import Derived.Test.YtbfhaabpfkopdaaGreatDoorKz
import Derived.Test.YtbfhaabpfkopdaaGreatDoorChecked
import Derived.ProofKit
import Derived.OpenShut
import Derived.ShutString
import Derived.ChangeOld
import Derived.Below
import Derived.LaidMore
import Derived.ChangeSame
import Derived.Test.YtbfhaabpfkopdaaGreatDoorM2
import Derived.Deep.Slices
namespace Go.Proofs.YtbfhaabpfkopdaaGreatDoor
open Go.ChangeShapes Go.WideShapes Go.ChangeAt Go.RowKit

theorem own : ownKnob Tryz.prog.godebug = none := by kernel_rfl
theorem laidOut : laidOutB Tryz.prog = true := by kernel_rfl

theorem wf_i64 {n : Int} (h : (Lit.int .i64 n).wf = true) : -9223372036854775808 ≤ n ∧ n ≤ 9223372036854775807 := by
  simp [Lit.wf, IntKind.min, IntKind.max, IntKind.signed, IntKind.bits] at h
  omega

end Go.Proofs.YtbfhaabpfkopdaaGreatDoor

/- Programs (trees) among a row's arguments. -/
namespace Go.Proofs.YtbfhaabpfkopdaaGreatDoor
open Go.ChangeShapes Go.WideShapes Go.ChangeAt Go.RowKit
set_option linter.unusedVariables false

/-- Nothing that was met is too great for memory. -/
def Lgt (l : List Nat) : Prop := ∀ x ∈ l, x ≤ reachBytes
theorem Lgt.of {l : List Nat} (h : l.all (· ≤ reachBytes) = true) : Lgt l := by
  intro x hx
  have := List.all_eq_true.1 h x hx
  simpa using this
theorem Lgt.left {a b : List Nat} (h : Lgt (a ++ b)) : Lgt a := fun x hx => h x (List.mem_append.2 (.inl hx))
theorem Lgt.right {a b : List Nat} (h : Lgt (a ++ b)) : Lgt b := fun x hx => h x (List.mem_append.2 (.inr hx))
theorem weightsAll_at {H : Type} {P : Program} {e : TypeId} : ∀ {l : List (DataW H)}, Lgt (DataW.weightsAll P e l) → ∀ {i : Nat} {d : DataW H}, l[i]? = some d → Lgt (d.weights P e)
  | [], _, i, d, hi => by cases hi
  | x :: l, h, 0, d, hi => by
    cases hi
    unfold DataW.weightsAll at h
    exact h.left
  | x :: l, h, i + 1, d, hi => by
    unfold DataW.weightsAll at h
    exact weightsAll_at h.right (by simpa using hi)
/-- A list that came in, given how an element opens. -/
theorem open_rows {α H : Type} {enc : TypeId × Value → H} {W : World} {t e : TypeId} {size fuel : Nat} {v : Value} {x : DataW H × List MemPlace} (ht : Tryz.prog.underlying t = some (.slice e)) (hc : Tryz.prog.cellsOf e = size) (hs0 : 0 < size) (h : DataW.trod enc Tryz.prog W 0 (fun _ => true) true fuel t [v] = some x) (hw : Lgt (x.1.weights Tryz.prog t)) (Q : List Value → α → Prop)
    (E : ∀ n cs d, n < fuel → DataW.trod enc Tryz.prog W 0 (fun _ => true) true n e cs = some d → Lgt (d.1.weights Tryz.prog e) → ∃ a : α, Q cs a) :
    ∃ (a : Option Addr) (cap : Nat) (L : List α), v = .slice a L.length cap ∧ L.length ≤ maxLen ∧ L.length * Tryz.prog.bytesOf e ≤ reachBytes ∧ RowAt (fun _ _ vs y => Q vs y) size W Any a L := by
  rcases DataW.trod_slice ht h with ⟨hcs, _⟩ | ⟨a, len, cap, elems, rest, n, hfu, hcs, rfl, hb, hl, hm, hlen, hel, hsp, hns⟩
  · simp at hcs
    subst hcs
    exact ⟨none, 0, [], rfl, by simp, by simp, .inl rfl⟩
  · simp at hcs
    subst hcs
    simp only [DataW.weights, ht] at hw
    have hw1 : (elems.length + rest.length) * Tryz.prog.bytesOf e ≤ reachBytes := by
      have := hw ((elems.map (·.1)).length + (rest.map (·.1)).length |> (· * Tryz.prog.bytesOf e)) (by simp)
      simpa using this
    have hw2 : Lgt (DataW.weightsAll Tryz.prog e (elems.map (·.1))) := fun y hy => hw y (by simp [hy])
    have each : ∀ i, i < len → ∃ (y : α) (cs : List Value), cs.length = size ∧ (∀ j u, cs[j]? = some u → W.cell? (a.add (i * size + j)) = some u) ∧ Q cs y := by
      intro i hi
      have k := hel i hi
      have he : elems[i]? = some (elems[i]'(by omega)) := List.getElem?_eq_getElem (by omega)
      rw [he] at k
      cases hcl : W.cells? 0 (a.add (i * Tryz.prog.cellsOf e)) (Tryz.prog.cellsOf e) with
      | none => rw [hcl] at k; cases k
      | some cs =>
        rw [hcl] at k
        have k : DataW.trod enc Tryz.prog W 0 (fun _ => true) true n e cs = some _ := k
        obtain ⟨_, hlen2, hcell⟩ := World.cells?_some hcl
        obtain ⟨y, hy⟩ := E n cs _ (by omega) k (weightsAll_at hw2 (i := i) (by rw [List.getElem?_map, he]; rfl))
        rw [hc] at hlen2 hcell
        refine ⟨y, cs, by simpa using hlen2, fun j u hj => ?_, hy⟩
        have hj' : j < cs.length := some_lt hj
        have f := hcell j (by simpa [hlen2] using hj')
        rw [Go.Deep.add_add] at f
        have f2 : W.cell? (a.add (i * size + j)) = cs[j]? := by simpa using f
        exact f2.trans hj
    have hlm : len ≤ maxLen := Nat.le_trans hl hm
    have hlb : len * Tryz.prog.bytesOf e ≤ reachBytes := Nat.le_trans (Nat.mul_le_mul_right _ (by omega)) hw1
    by_cases h0 : len = 0
    · subst h0; exact ⟨some a, cap, [], rfl, by simp, by simp, .inl rfl⟩
    · obtain ⟨y0, cs0, l0, c0, _⟩ := each 0 (by omega)
      obtain ⟨q, hq⟩ : ∃ q : Nat → α, ∀ i, i < len → ∃ cs : List Value, cs.length = size ∧ (∀ j u, cs[j]? = some u → W.cell? (a.add (i * size + j)) = some u) ∧ Q cs (q i) := by
        refine ⟨fun i => if h : i < len then Classical.choose (each i h) else y0, fun i hi => ?_⟩
        simp only [hi, dif_pos]
        exact Classical.choose_spec (each i hi)
      refine ⟨some a, cap, (List.range len).map q, by simp, by simpa using hlm, by simpa using hlb, .inr ?_⟩
      obtain ⟨b, off, spot⟩ := a
      obtain ⟨u0, hu0⟩ : ∃ u, cs0[0]? = some u := ⟨_, List.getElem?_eq_getElem (by omega)⟩
      have hc0 := c0 0 u0 hu0
      have hspot : spot = none := by simpa [Addr.add] using World.cell?_spot hc0
      subst hspot
      have ea : ∀ j, (⟨b, off, none⟩ : Addr).add j = ⟨b, off + j, none⟩ := by
        intro j; unfold Addr.add; split
        · rename_i h0; subst h0; simp
        · rfl
      rw [ea] at hc0
      refine ⟨b, off, rfl, trivial, World.block_lt_of_cell? W _ hc0, fun i y hi => ?_⟩
      have hi' : i < len := by simpa using some_lt hi
      have hy : y = q i := by
        rw [List.getElem?_map] at hi
        simp [hi'] at hi
        exact hi.symm
      subst hy
      obtain ⟨cs, h1, h2, h3⟩ := hq i hi'
      exact ⟨cs, h1, fun j u hj => by have := h2 j u hj; rw [ea] at this; rw [Nat.add_assoc]; exact this, h3⟩
theorem RowAt.imp {α : Type} {V V' : Rds α} {size : Nat} {W : World} {ok : Nat → Prop} {x : Option Addr} {l : List α} (h : RowAt V size W ok x l) (k : ∀ vs e, V W ok vs e → V' W ok vs e) : RowAt V' size W ok x l := by
  rcases h with h | ⟨b, off, rfl, h1, h2, h3⟩
  · exact .inl h
  · exact .inr ⟨b, off, rfl, h1, h2, fun i e hi => by obtain ⟨vs, q1, q2, q3⟩ := h3 i e hi; exact ⟨vs, q1, q2, k vs e q3⟩⟩
theorem RowAt.all {α : Type} {V : Rds α} {size : Nat} {W : World} {ok : Nat → Prop} {x : Option Addr} {l : List α} (h : RowAt V size W ok x l) {P : α → Prop} (k : ∀ vs e, V W ok vs e → P e) : ∀ (i : Nat) (e : α), l[i]? = some e → P e := by
  intro i e hi
  rcases h with rfl | ⟨b, off, rfl, h1, h2, h3⟩
  · cases hi
  · obtain ⟨vs, q1, q2, q3⟩ := h3 i e hi; exact k vs e q3
end Go.Proofs.YtbfhaabpfkopdaaGreatDoor

/- Programs (trees) among a row's arguments: terms, tests, statements, programs. -/
namespace Go.Proofs.YtbfhaabpfkopdaaGreatDoor
open Go.ChangeShapes Go.WideShapes Go.ChangeAt Go.RowKit
set_option linter.unusedVariables false

theorem trod_st2 {H : Type} {enc : TypeId × Value → H} {W : World} {t : TypeId} {f0 f1 : Field} {fuel : Nat} {cs : List Value} {x : DataW H × List MemPlace} (ht : Tryz.prog.underlying t = some (.struct #[f0, f1])) (h : DataW.trod enc Tryz.prog W 0 (fun _ => true) true fuel t cs = some x) (hw : Lgt (x.1.weights Tryz.prog t)) :
    ∃ n y0 y1, fuel = n + 1 ∧ cs.length = Tryz.prog.cellsOf t ∧ DataW.trod enc Tryz.prog W 0 (fun _ => true) true n f0.type ((cs.drop f0.offset).take (Tryz.prog.cellsOf f0.type)) = some y0 ∧ Lgt (y0.1.weights Tryz.prog f0.type) ∧ DataW.trod enc Tryz.prog W 0 (fun _ => true) true n f1.type ((cs.drop f1.offset).take (Tryz.prog.cellsOf f1.type)) = some y1 ∧ Lgt (y1.1.weights Tryz.prog f1.type) := by
  obtain ⟨xs, n, hn, rfl, hl, hlen, hf⟩ := DataW.trod_struct ht h
  simp only [DataW.weights, ht] at hw
  match xs, hlen with
  | [y0, y1], _ =>
    simp only [List.map_cons, List.map_nil, DataW.weightsEach] at hw
    have w0 := hw.left
    have w1 := hw.right.left
    exact ⟨n, y0, y1, hn, hl, by simpa using hf 0 f0 rfl, w0, by simpa using hf 1 f1 rfl, w1⟩
theorem trod_st3 {H : Type} {enc : TypeId × Value → H} {W : World} {t : TypeId} {f0 f1 f2 : Field} {fuel : Nat} {cs : List Value} {x : DataW H × List MemPlace} (ht : Tryz.prog.underlying t = some (.struct #[f0, f1, f2])) (h : DataW.trod enc Tryz.prog W 0 (fun _ => true) true fuel t cs = some x) (hw : Lgt (x.1.weights Tryz.prog t)) :
    ∃ n y0 y1 y2, fuel = n + 1 ∧ cs.length = Tryz.prog.cellsOf t ∧ DataW.trod enc Tryz.prog W 0 (fun _ => true) true n f0.type ((cs.drop f0.offset).take (Tryz.prog.cellsOf f0.type)) = some y0 ∧ Lgt (y0.1.weights Tryz.prog f0.type) ∧ DataW.trod enc Tryz.prog W 0 (fun _ => true) true n f1.type ((cs.drop f1.offset).take (Tryz.prog.cellsOf f1.type)) = some y1 ∧ Lgt (y1.1.weights Tryz.prog f1.type) ∧ DataW.trod enc Tryz.prog W 0 (fun _ => true) true n f2.type ((cs.drop f2.offset).take (Tryz.prog.cellsOf f2.type)) = some y2 ∧ Lgt (y2.1.weights Tryz.prog f2.type) := by
  obtain ⟨xs, n, hn, rfl, hl, hlen, hf⟩ := DataW.trod_struct ht h
  simp only [DataW.weights, ht] at hw
  match xs, hlen with
  | [y0, y1, y2], _ =>
    simp only [List.map_cons, List.map_nil, DataW.weightsEach] at hw
    have w0 := hw.left
    have w1 := hw.right.left
    have w2 := hw.right.right.left
    exact ⟨n, y0, y1, y2, hn, hl, by simpa using hf 0 f0 rfl, w0, by simpa using hf 1 f1 rfl, w1, by simpa using hf 2 f2 rfl, w2⟩
theorem trod_st4 {H : Type} {enc : TypeId × Value → H} {W : World} {t : TypeId} {f0 f1 f2 f3 : Field} {fuel : Nat} {cs : List Value} {x : DataW H × List MemPlace} (ht : Tryz.prog.underlying t = some (.struct #[f0, f1, f2, f3])) (h : DataW.trod enc Tryz.prog W 0 (fun _ => true) true fuel t cs = some x) (hw : Lgt (x.1.weights Tryz.prog t)) :
    ∃ n y0 y1 y2 y3, fuel = n + 1 ∧ cs.length = Tryz.prog.cellsOf t ∧ DataW.trod enc Tryz.prog W 0 (fun _ => true) true n f0.type ((cs.drop f0.offset).take (Tryz.prog.cellsOf f0.type)) = some y0 ∧ Lgt (y0.1.weights Tryz.prog f0.type) ∧ DataW.trod enc Tryz.prog W 0 (fun _ => true) true n f1.type ((cs.drop f1.offset).take (Tryz.prog.cellsOf f1.type)) = some y1 ∧ Lgt (y1.1.weights Tryz.prog f1.type) ∧ DataW.trod enc Tryz.prog W 0 (fun _ => true) true n f2.type ((cs.drop f2.offset).take (Tryz.prog.cellsOf f2.type)) = some y2 ∧ Lgt (y2.1.weights Tryz.prog f2.type) ∧ DataW.trod enc Tryz.prog W 0 (fun _ => true) true n f3.type ((cs.drop f3.offset).take (Tryz.prog.cellsOf f3.type)) = some y3 ∧ Lgt (y3.1.weights Tryz.prog f3.type) := by
  obtain ⟨xs, n, hn, rfl, hl, hlen, hf⟩ := DataW.trod_struct ht h
  simp only [DataW.weights, ht] at hw
  match xs, hlen with
  | [y0, y1, y2, y3], _ =>
    simp only [List.map_cons, List.map_nil, DataW.weightsEach] at hw
    have w0 := hw.left
    have w1 := hw.right.left
    have w2 := hw.right.right.left
    have w3 := hw.right.right.right.left
    exact ⟨n, y0, y1, y2, y3, hn, hl, by simpa using hf 0 f0 rfl, w0, by simpa using hf 1 f1 rfl, w1, by simpa using hf 2 f2 rfl, w2, by simpa using hf 3 f3 rfl, w3⟩
theorem list2t {cs : List Value} (h : cs.length = 2) : ∃ c0 c1, cs = [c0, c1] := by match cs, h with | [a, b], _ => exact ⟨a, b, rfl⟩
theorem list4t {cs : List Value} (h : cs.length = 4) : ∃ c0 c1 c2 c3, cs = [c0, c1, c2, c3] := by match cs, h with | [a, b, c, d], _ => exact ⟨a, b, c, d, rfl⟩
theorem list9t {cs : List Value} (h : cs.length = 9) : ∃ c0 c1 c2 c3 c4 c5 c6 c7 c8, cs = [c0, c1, c2, c3, c4, c5, c6, c7, c8] := by match cs, h with | [a, b, c, d, e, f, g, h, i], _ => exact ⟨a, b, c, d, e, f, g, h, i, rfl⟩
theorem Tryz.cI : Tryz.prog.cellsOf 3 = 1 := by kernel_rfl
theorem Tryz.cS : Tryz.prog.cellsOf 9 = 1 := by kernel_rfl
theorem Tryz.cE : Tryz.prog.cellsOf 104 = 4 := by kernel_rfl
theorem Tryz.cEs : Tryz.prog.cellsOf 87 = 1 := by kernel_rfl
theorem Tryz.cT : Tryz.prog.cellsOf 203 = 9 := by kernel_rfl
theorem Tryz.cTs : Tryz.prog.cellsOf 88 = 1 := by kernel_rfl
theorem Tryz.cA : Tryz.prog.cellsOf 74 = 2 := by kernel_rfl
theorem Tryz.cAs : Tryz.prog.cellsOf 23 = 1 := by kernel_rfl
theorem Tryz.cSs : Tryz.prog.cellsOf 22 = 1 := by kernel_rfl
theorem Tryz.bE : Tryz.prog.bytesOf 104 = 64 := by kernel_rfl
theorem Tryz.bT : Tryz.prog.bytesOf 203 = 144 := by kernel_rfl
theorem Tryz.bA : Tryz.prog.bytesOf 74 = 24 := by kernel_rfl
theorem Tryz.bS : Tryz.prog.bytesOf 9 = 16 := by kernel_rfl
theorem reach_le : reachBytes ≤ 140737488355328 := by decide
section
variable {H : Type} {enc : TypeId × Value → H} {W : World}
theorem open_str {fuel : Nat} {v : Value} {x : DataW H × List MemPlace} (h : DataW.trod enc Tryz.prog W 0 (fun _ => true) true fuel 9 [v] = some x) : ∃ t : Bs, v = .string (bs t) ∧ t.length ≤ maxLen := by
  obtain ⟨s, e, _, hs⟩ := DataW.trod_string Tryz.underlying9 h
  simp at e
  exact ⟨s.data.toList, by rw [e, bs_of s], by simpa using hs⟩
theorem open_int {fuel : Nat} {v : Value} {x : DataW H × List MemPlace} (h : DataW.trod enc Tryz.prog W 0 (fun _ => true) true fuel 3 [v] = some x) : ∃ n : Int, v = .int .i64 n ∧ (-9223372036854775808 ≤ n ∧ n ≤ 9223372036854775807) := by
  obtain ⟨n1, e1, _, w1⟩ := DataW.trod_int Tryz.underlying3 h
  simp at e1
  exact ⟨n1, e1, wf_i64 w1⟩
theorem open_strs {fuel : Nat} {v : Value} {x : DataW H × List MemPlace} (h : DataW.trod enc Tryz.prog W 0 (fun _ => true) true fuel 22 [v] = some x) (hw : Lgt (x.1.weights Tryz.prog 22)) : ∃ (a : Option Addr) (cap : Nat) (L : List Bs), v = .slice a L.length cap ∧ L.length * 16 ≤ 140737488355328 ∧ RowAt strVals 1 W Any a L := by
  obtain ⟨a, cap, L, rfl, _, hb, hr⟩ := open_rows Tryz.underlying22 Tryz.cS (by omega) h hw (fun vs t => vs = [.string (bs t)]) (fun n cs d hn hd _ => by
    obtain ⟨s, e, _, _⟩ := DataW.trod_string Tryz.underlying9 hd
    exact ⟨s.data.toList, by rw [e, bs_of s]⟩)
  rw [Tryz.bS] at hb
  exact ⟨a, cap, L, rfl, Nat.le_trans hb reach_le, hr⟩
/-- A term's cells, of its struct. -/
def exQ (W : World) (vs : List Value) (e : Ex) : Prop := exVals W Any vs e ∧ ExFit e
theorem open_expr (fuel : Nat) (IH : ∀ n, n < fuel → ∀ (v : Value) (x : DataW H × List MemPlace), DataW.trod enc Tryz.prog W 0 (fun _ => true) true n 87 [v] = some x → Lgt (x.1.weights Tryz.prog 87) → ∃ (a : Option Addr) (cap : Nat) (L : List Ex), v = .slice a L.length cap ∧ LsFit 64 ExFit L ∧ ExsAt W Any a L)
    (n : Nat) (hn : n ≤ fuel) (cs : List Value) (d : DataW H × List MemPlace) (h : DataW.trod enc Tryz.prog W 0 (fun _ => true) true n 104 cs = some d) (hw : Lgt (d.1.weights Tryz.prog 104)) : ∃ e, exQ W cs e := by
  obtain ⟨m, y0, y1, y2, y3, rfl, hl, h0, _, h1, _, h2, _, h3, w3⟩ := trod_st4 Tryz.underlying104 h hw
  rw [Tryz.cE] at hl
  obtain ⟨c0, c1, c2, c3, rfl⟩ := list4t hl
  simp [Tryz.cS, Tryz.cI, Tryz.cEs] at h0 h1 h2 h3
  obtain ⟨op, rfl, ho⟩ := open_str h0
  obtain ⟨z, rfl, hz⟩ := open_int h1
  obtain ⟨nm, rfl, _⟩ := open_str h2
  obtain ⟨a, cap, L, rfl, hL, hX⟩ := IH m (by omega) _ _ h3 w3
  exact ⟨⟨op, z, nm, L⟩, ⟨a, cap, rfl, hX⟩, .mk _ ho hz hL.len hL.el⟩
theorem open_exprs : ∀ (fuel : Nat) (v : Value) (x : DataW H × List MemPlace), DataW.trod enc Tryz.prog W 0 (fun _ => true) true fuel 87 [v] = some x → Lgt (x.1.weights Tryz.prog 87) → ∃ (a : Option Addr) (cap : Nat) (L : List Ex), v = .slice a L.length cap ∧ LsFit 64 ExFit L ∧ ExsAt W Any a L := by
  intro fuel
  induction fuel using Nat.strongRecOn with
  | ind fuel ih =>
    intro v x h hw
    obtain ⟨a, cap, L, rfl, _, hb, hr⟩ := open_rows Tryz.underlying87 Tryz.cE (by omega) h hw (exQ W) (fun n cs d hn hd hwd => open_expr n (fun m hm => ih m (by omega)) n (Nat.le_refl _) cs d hd hwd)
    rw [Tryz.bE] at hb
    exact ⟨a, cap, L, rfl, ⟨Nat.le_trans hb reach_le, hr.all (fun vs e k => k.2)⟩, exs_of_row (hr.imp (V' := exVals) (fun vs e k => k.1))⟩
theorem open_ex {n : Nat} {cs : List Value} {d : DataW H × List MemPlace} (h : DataW.trod enc Tryz.prog W 0 (fun _ => true) true n 104 cs = some d) (hw : Lgt (d.1.weights Tryz.prog 104)) : ∃ e, exQ W cs e := open_expr n (fun m _ => open_exprs m) n (Nat.le_refl _) cs d h hw
def teQ (W : World) (vs : List Value) (t : Te) : Prop := teVals W Any vs t ∧ TeFit t
theorem open_test {n : Nat} {cs : List Value} {d : DataW H × List MemPlace} (h : DataW.trod enc Tryz.prog W 0 (fun _ => true) true n 203 cs = some d) (hw : Lgt (d.1.weights Tryz.prog 203)) : ∃ t, teQ W cs t := by
  obtain ⟨m, y0, y1, y2, rfl, hl, h0, w0, h1, _, h2, w2⟩ := trod_st3 Tryz.underlying203 h hw
  rw [Tryz.cT] at hl
  obtain ⟨c0, c1, c2, c3, c4, c5, c6, c7, c8, rfl⟩ := list9t hl
  simp [Tryz.cS, Tryz.cE] at h0 h1 h2
  obtain ⟨ea, ⟨xa, ca, e1, hXa⟩, fa⟩ := open_ex h0 w0
  obtain ⟨rl, rfl, _⟩ := open_str h1
  obtain ⟨eb, ⟨xb, cb, e2, hXb⟩, fb⟩ := open_ex h2 w2
  simp at e1 e2
  obtain ⟨rfl, rfl, rfl, rfl⟩ := e1
  obtain ⟨rfl, rfl, rfl, rfl⟩ := e2
  exact ⟨⟨ea, rl, eb⟩, ⟨xa, ca, xb, cb, rfl, hXa, hXb⟩, fa, fb⟩
theorem open_tests {n : Nat} {v : Value} {x : DataW H × List MemPlace} (h : DataW.trod enc Tryz.prog W 0 (fun _ => true) true n 88 [v] = some x) (hw : Lgt (x.1.weights Tryz.prog 88)) : ∃ (a : Option Addr) (cap : Nat) (L : List Te), v = .slice a L.length cap ∧ LsFit 144 TeFit L ∧ RowAt teVals 9 W Any a L := by
  obtain ⟨a, cap, L, rfl, _, hb, hr⟩ := open_rows Tryz.underlying88 Tryz.cT (by omega) h hw (teQ W) (fun n cs d hn hd hwd => open_test hd hwd)
  rw [Tryz.bT] at hb
  exact ⟨a, cap, L, rfl, ⟨Nat.le_trans hb reach_le, hr.all (fun vs e k => k.2)⟩, hr.imp (V' := teVals) (fun vs e k => k.1)⟩
theorem open_arrays {n : Nat} {v : Value} {x : DataW H × List MemPlace} (h : DataW.trod enc Tryz.prog W 0 (fun _ => true) true n 23 [v] = some x) (hw : Lgt (x.1.weights Tryz.prog 23)) : ∃ (a : Option Addr) (cap : Nat) (L : List Ar), v = .slice a L.length cap ∧ LsFit 24 (fun a : Ar => (-9223372036854775808 ≤ a.size ∧ a.size ≤ 9223372036854775807)) L ∧ RowAt arVals 2 W Any a L := by
  obtain ⟨a, cap, L, rfl, _, hb, hr⟩ := open_rows Tryz.underlying23 Tryz.cA (by omega) h hw (fun vs (t : Ar) => arVals W Any vs t ∧ (-9223372036854775808 ≤ t.size ∧ t.size ≤ 9223372036854775807)) (fun n cs d hn hd hwd => by
    obtain ⟨m, y0, y1, rfl, hl, h0, _, h1, _⟩ := trod_st2 Tryz.underlying74 hd hwd
    rw [Tryz.cA] at hl
    obtain ⟨c0, c1, rfl⟩ := list2t hl
    simp [Tryz.cS, Tryz.cI] at h0 h1
    obtain ⟨nm, rfl, _⟩ := open_str h0
    obtain ⟨z, rfl, hz⟩ := open_int h1
    exact ⟨⟨nm, z⟩, rfl, hz⟩)
  rw [Tryz.bA] at hb
  exact ⟨a, cap, L, rfl, ⟨Nat.le_trans hb reach_le, hr.all (fun vs e k => k.2)⟩, hr.imp (V' := arVals) (fun vs e k => k.1)⟩
end
end Go.Proofs.YtbfhaabpfkopdaaGreatDoor
