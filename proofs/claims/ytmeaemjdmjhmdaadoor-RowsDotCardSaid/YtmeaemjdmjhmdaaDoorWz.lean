/- Regions that draw their order: a load may be taken first though a later operation, which waits for it, stores into its cell. (As the text of the reader's has it, for seats without a reader.) -/
import Derived.Test.YtmeaemjdmjhmdaaDoorKz
import Derived.OrdersHeld
namespace Go.Proofs.YtmeaemjdmjhmdaaDoor
open Go.RowKit
set_option linter.unusedVariables false

/-- Whatever order comes: S holds behind each operation, as long as number E has not come up. -/
def wpTilR (P : Program) (md : Region.Mode) (ops : Array Oper) (Q : Exit → Act → World → Prop) (S : World → Prop) (E : Nat) : Nat → Array Bool → Act → World → Prop
  | 0, listed, a, w => Region.ready md ops listed = [] ∧ Q .normal a w
  | fuel + 1, listed, a, w =>
    (Region.ready md ops listed = [] → Q .normal a w) ∧
    ∀ i ∈ Region.ready md ops listed, wpOp P ops Q i (fun a' w' => ((listed.setIfInBounds i true).getD E true = false → S w') ∧ wpTilR P md ops Q S E fuel (listed.setIfInBounds i true) a' w') a w
theorem wpTilR_any {P : Program} {md : Region.Mode} {ops : Array Oper} {Q : Exit → Act → World → Prop} {S : World → Prop} {E : Nat} : ∀ (fuel : Nat) (listed : Array Bool) (a : Act) (w : World), wpTilR P md ops Q S E fuel listed a w → wpAny P md ops Q fuel listed a w
  | 0, _, _, _, h => h
  | fuel + 1, _, _, _, h => ⟨h.1, fun i hi => wpOp_mono (fun a' w' h' => wpTilR_any fuel _ a' w' h'.2) (h.2 i hi)⟩
/-- A load may be taken first, if E waits for it. -/
theorem wpTilR_first {P : Program} {md : Region.Mode} {ops : Array Oper} {Q : Exit → Act → World → Prop} {S : World → Prop} {E i : Nat} {oi oE : Oper} {v : Value} (hi : ops[i]? = some oi) (hE : ops[E]? = some oE) (hEi : i ≠ E) (hw : ∃ e ∈ oE.after, Region.binds md e = true ∧ e.on = i)
    (hsel : ∀ (j : Nat) (o : Oper) cs b, ops[j]? = some o → o.op ≠ .select cs b) (hQ : ∀ c a w, Q (.panic c) (a.put oi.dst v) w → Q (.panic c) a w) :
    ∀ (fuel : Nat) (listed : Array Bool) (a : Act) (w : World), listed.getD E true = false →
      (∀ j oj, ops[j]? = some oj → j ≠ i → listed.getD j true = false → (∀ e ∈ oj.after, Region.binds md e = true → e.on ≠ i) → oi.apart ops oj = true) →
      i ∈ Region.ready md ops listed → YieldsIf P ops S oi v a → S w →
      wpTilR P md ops Q S E fuel (listed.setIfInBounds i true) (a.put oi.dst v) w → wpTilR P md ops Q S E (fuel + 1) listed a w
  | 0, listed, a, w, hl, hfree, hr, hy, hS, H => by
    refine ⟨fun h => (by rw [h] at hr; cases hr), fun j hj => ?_⟩
    by_cases hji : j = i
    · subst hji; exact hy.wpOp hi hS ⟨fun _ => hS, H⟩
    · have := ready_mono hj hji
      rw [H.1] at this
      cases this
  | fuel + 1, listed, a, w, hl, hfree, hr, hy, hS, H => by
    refine ⟨fun h => (by rw [h] at hr; cases hr), fun j hj => ?_⟩
    by_cases hji : j = i
    · subst hji; exact hy.wpOp hi hS ⟨fun _ => hS, H⟩
    · have h1 := H.2 j (ready_mono hj hji)
      obtain ⟨hjun, oj, hoj, hall⟩ := mem_ready.1 hj
      have hnot : ∀ e ∈ oj.after, Region.binds md e = true → e.on ≠ i := fun e he hb heq => by
        have h1 := hall e he hb
        have h0 := (mem_ready.1 hr).1
        rw [heq] at h1
        rcases Nat.lt_or_ge i listed.size with h' | h'
        · simp [h'] at h0 h1; rw [h0] at h1; cases h1
        · simp [Array.getElem?_eq_none h'] at h1
      have hjE : j ≠ E := fun k => by
        subst k
        rw [hoj] at hE
        cases hE
        obtain ⟨e, he, hb, ho⟩ := hw
        exact hnot e he hb ho
      have h2 := wpOp_putIf hoj (hfree j oj hoj hji hjun hnot) (fun cs b => hsel i oi cs b hi) (fun cs b => hsel j oj cs b hoj) hQ hy h1
      refine wpOp_mono (fun a' w' h3 => ?_) h2
      have e1 : (listed.setIfInBounds j true).getD E true = false := by rw [getD_set_ne true hjE]; exact hl
      have hSw : S w' := h3.2.1 (by rw [getD_set_ne true hjE, getD_set_ne true hEi]; exact hl)
      refine ⟨fun _ => hSw, wpTilR_first hi hE hEi hw hsel hQ fuel (listed.setIfInBounds j true) a' w' e1 ?_ (ready_mono hr (Ne.symm hji)) h3.1 hSw ?_⟩
      · intro k ok hk hki hun hno
        refine hfree k ok hk hki ?_ hno
        by_cases hjk : j = k
        · subst hjk; exact hjun
        · rw [getD_set_ne true hjk] at hun; exact hun
      · rw [Array.setIfInBounds_comm _ _ hji]
        exact h3.2.2
theorem wpTilR_take {P : Program} {md : Region.Mode} {ops : Array Oper} {Q : Exit → Act → World → Prop} {S : World → Prop} {E i : Nat} {oi oE : Oper} {v : Value} {fuel : Nat} {listed : Array Bool} {a : Act} {w : World} (hi : ops[i]? = some oi) (hE : ops[E]? = some oE) (hEi : i ≠ E) (hw : (oE.after.any fun e => Region.binds md e && e.on == i) = true) (hl : listed.getD E true = false)
    (hs : Region.noSelect ops = true) (hf : Region.free md ops listed i = true) (hr : (Region.ready md ops listed).contains i = true)
    (hQ : ∀ c a w, Q (.panic c) (a.put oi.dst v) w → Q (.panic c) a w) (hy : YieldsIf P ops S oi v a) (hS : S w)
    (h : wpTilR P md ops Q S E fuel (listed.setIfInBounds i true) (a.put oi.dst v) w) : wpTilR P md ops Q S E (fuel + 1) listed a w :=
  wpTilR_first hi hE hEi (by
    rw [Array.any_eq_true'] at hw
    obtain ⟨e, he, hb⟩ := hw
    simp only [Bool.and_eq_true, beq_iff_eq] at hb
    exact ⟨e, he, hb.1, hb.2⟩) (Region.noSelect_spec hs) hQ fuel listed a w hl (Region.free_spec hi hf) (by simpa using hr) hy hS h
theorem wpTilR_all {P : Program} {md : Region.Mode} {ops : Array Oper} {Q : Exit → Act → World → Prop} {S : World → Prop} {E : Nat} {rs : List Nat} {fuel : Nat} {listed : Array Bool} {a : Act} {w : World} (hr : Region.ready md ops listed = rs) (hne : rs ≠ [])
    (h : ∀ i ∈ rs, wpOp P ops Q i (fun a' w' => ((listed.setIfInBounds i true).getD E true = false → S w') ∧ wpTilR P md ops Q S E fuel (listed.setIfInBounds i true) a' w') a w) : wpTilR P md ops Q S E (fuel + 1) listed a w :=
  ⟨fun h0 => absurd (hr ▸ h0) hne, hr ▸ h⟩
theorem wpTilR_done {P : Program} {md : Region.Mode} {ops : Array Oper} {Q : Exit → Act → World → Prop} {S : World → Prop} {E : Nat} {listed : Array Bool} {a : Act} {w : World} (hr : Region.ready md ops listed = []) (h : Q .normal a w) : ∀ fuel, wpTilR P md ops Q S E fuel listed a w
  | 0 => ⟨hr, h⟩
  | _ + 1 => ⟨fun _ => h, by rw [hr]; simp⟩
/-- Behind E nothing is asked of S. -/
theorem wpTilR_of_any {P : Program} {md : Region.Mode} {ops : Array Oper} {Q : Exit → Act → World → Prop} {S : World → Prop} {E : Nat} : ∀ (fuel : Nat) (listed : Array Bool) (a : Act) (w : World), listed.getD E true = true → wpAny P md ops Q fuel listed a w → wpTilR P md ops Q S E fuel listed a w
  | 0, _, _, _, _, h => h
  | fuel + 1, listed, a, w, hl, h => ⟨h.1, fun i hi => wpOp_mono (fun a' w' h' => by
      have e : (listed.setIfInBounds i true).getD E true = true := by
        by_cases k : i = E
        · subst k
          rcases Nat.lt_or_ge i listed.size with q | q
          · simp [q]
          · simp [Nat.not_lt.2 q]
        · rw [getD_set_ne true k]; exact hl
      exact ⟨(fun q => by rw [e] at q; cases q), wpTilR_of_any fuel _ a' w' e h'⟩) (h.2 i hi)⟩
theorem wpTilR_one {P : Program} {md : Region.Mode} {ops : Array Oper} {Q : Exit → Act → World → Prop} {S : World → Prop} {E : Nat} {k : Nat} {fuel : Nat} {listed : Array Bool} {a : Act} {w : World} (hr : Region.ready md ops listed = [k])
    (h : wpOp P ops Q k (fun a' w' => ((listed.setIfInBounds k true).getD E true = false → S w') ∧ wpTilR P md ops Q S E fuel (listed.setIfInBounds k true) a' w') a w) : wpTilR P md ops Q S E (fuel + 1) listed a w :=
  wpTilR_all hr (by simp) (fun i hi => by obtain rfl : i = k := by simpa using hi
                                          exact h)
theorem tkR {P : Program} {md : Region.Mode} {ops : Array Oper} {Q : Exit → Act → World → Prop} {S : World → Prop} {E : Nat} (i : Nat) {oi oE : Oper} {v : Value} {fuel : Nat} {listed : Array Bool} {a : Act} {w : World} (hy : ∀ w, S w → (execOp a.eval oi).run P w = .ok (.value v) w) (hS : S w) (h : wpTilR P md ops Q S E fuel (listed.setIfInBounds i true) (a.put oi.dst v) w)
    (hi : ops[i]? = some oi := by rfl) (hE : ops[E]? = some oE := by rfl) (hEi : i ≠ E := by decide) (hn : (oE.after.any fun e => Region.binds md e && e.on == i) = true := by kernel_rfl) (hl : listed.getD E true = false := by kernel_rfl) (hs : Region.noSelect ops = true := by kernel_rfl) (hf : Region.free md ops listed i = true := by kernel_rfl) (hr : (Region.ready md ops listed).contains i = true := by kernel_rfl) (hQ : ∀ c a w, Q (.panic c) (a.put oi.dst v) w → Q (.panic c) a w := by exact fun _ _ _ h => h) (hw : Region.wanted oi (yielded ops a.tmps) = true := by rfl) : wpTilR P md ops Q S E (fuel + 1) listed a w :=
  wpTilR_take hi hE hEi hn hl hs hf hr hQ (Or.inl ⟨hw, hy⟩) hS h
end Go.Proofs.YtmeaemjdmjhmdaaDoor
