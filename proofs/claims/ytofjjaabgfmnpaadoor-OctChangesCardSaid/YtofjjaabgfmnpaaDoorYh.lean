/- Zones: the first error of several. -/
import Derived.Test.YtofjjaabgfmnpaaDoorYe
namespace Go.Proofs.YtofjjaabgfmnpaaDoor
open Go.RowKit
set_option linter.unusedVariables false

def firstE : List Int → Int
  | [] => 0
  | x :: l => if x ≠ 0 then x else firstE l
theorem firstE_take {es : List Int} : ∀ k, (∀ i, i < k → es.getD i 0 = 0) → k < es.length → es.getD k 0 ≠ 0 → firstE es = es.getD k 0 := by
  induction es with
  | nil => intro k _ hk; simp at hk
  | cons x es ih =>
    intro k h hk hne
    cases k with
    | zero => simp at hne; simp [firstE, hne]
    | succ k =>
      have h0 := h 0 (by omega)
      simp at h0
      subst h0
      have := ih k (fun i hi => by have := h (i + 1) (by omega); simpa using this) (by simpa using hk) (by simpa using hne)
      simp only [firstE]
      rw [if_neg (by simp), this]; simp
theorem firstE_none {es : List Int} (h : ∀ i, i < es.length → es.getD i 0 = 0) : firstE es = 0 := by
  induction es with
  | nil => rfl
  | cons x es ih =>
    have h0 := h 0 (by simp)
    simp at h0
    subst h0
    simp only [firstE]
    rw [if_neg (by simp)]
    exact ih (fun i hi => by have := h (i + 1) (by simpa using hi); simpa using this)

set_option maxRecDepth 20000 in
set_option maxHeartbeats 2000000 in
theorem firstOf_any (b n c : Nat) (es : List Int) (a : Nat → Addr) (w : World) (hl : Hid (n = es.length)) (hn : n ≤ 10) (hc : Hid (∀ i, i < n → w.cell? ⟨b, i, none⟩ = some (erV a (es.getD i 0)))) :
    Calls Tryd.prog 49 #[.slice (some ⟨b, 0, none⟩) n c] w fun e w' => e = .returned (erV a (firstE es)) ∧ w' = w := by
  obtain ⟨r, hr⟩ : ∃ r, r = firstE es := ⟨_, rfl⟩
  rw [← hr]
  have Hr := hide hr
  clear hr
  go_enter Tryd.func49, Tryd.ntmps49
  go_wp2_with fail
  go_loopg [7] n (fun gh iv wr => ∃ k : Nat, k + gh = n ∧ iv = .int .i64 k ∧ wr = w ∧ Hid (∀ i, i < k → es.getD i 0 = 0))
  case atStart => exact ⟨0, by omega, rfl, rfl, fun i h => by omega⟩
  case round =>
    rename_i wr
    obtain ⟨k, hkg, rfl, rfl, HL⟩ := hrel
    by_cases hk : k < n
    · have hkn : (k : Int) < (n : Int) := by omega
      have hck := hc.out k hk
      obtain ⟨z, hz⟩ : ∃ z, z = es.getD k 0 := ⟨_, rfl⟩
      rw [← hz] at hck
      have Hz := hide hz
      clear hz
      by_cases h0 : z = 0
      · subst h0
        rw [erV_0] at hck
        go_wp2_with fail
        go_roundg (n - (k + 1))
        case measure => omega
        case rel =>
          refine ⟨k + 1, by omega, by go_num, rfl, fun i hi => ?_⟩
          by_cases e : i = k
          · subst e; exact Hz.out.symm
          · exact HL.out i (by omega)
      · rw [erV_ne h0] at hck
        have hre : Hid (r = z) := by show _ = _; rw [Hr.out, firstE_take k HL.out (by rw [← hl.out]; exact hk) (by rw [← Hz.out]; exact h0), ← Hz.out]
        have H0 := hide h0
        clear h0
        go_wp2_with fail
        go_ret
        exact ⟨by rw [hre.out, erV_ne H0.out]; rfl, rfl⟩
    · have hkn : ¬ (k : Int) < (n : Int) := by omega
      have hre : Hid (r = 0) := by show _ = _; rw [Hr.out]; exact firstE_none fun i hi => HL.out i (by rw [← hl.out] at hi; omega)
      go_wp2_with fail
      go_ret
      exact ⟨by rw [hre.out]; rfl, rfl⟩

theorem erV_cells (a : Nat → Addr) (x : Int) : (erV a x).cells = #[erV a x] := by unfold erV; split <;> rfl
theorem first4 (a : Nat → Addr) (e1 e2 e3 e4 : Int) (t : TypeId) (W : World) :
    Calls Tryd.prog 49 #[.slice (some ⟨W.heap.size, 0, none⟩) 4 4] (W.alloc (.cells #[erV a e1, erV a e2, erV a e3, erV a e4] t)) fun e w' => e = .returned (erV a (firstE [e1, e2, e3, e4])) ∧ w' = (W.alloc (.cells #[erV a e1, erV a e2, erV a e3, erV a e4] t)) := by
  refine firstOf_any W.heap.size 4 4 [e1, e2, e3, e4] a _ rfl (by omega) ?_
  intro i hi
  rcases (by omega : i = 0 ∨ i = 1 ∨ i = 2 ∨ i = 3) with rfl | rfl | rfl | rfl <;> simp
theorem first3 (a : Nat → Addr) (e1 e2 e3 : Int) (t : TypeId) (W : World) :
    Calls Tryd.prog 49 #[.slice (some ⟨W.heap.size, 0, none⟩) 3 3] (W.alloc (.cells #[erV a e1, erV a e2, erV a e3] t)) fun e w' => e = .returned (erV a (firstE [e1, e2, e3])) ∧ w' = (W.alloc (.cells #[erV a e1, erV a e2, erV a e3] t)) := by
  refine firstOf_any W.heap.size 3 3 [e1, e2, e3] a _ rfl (by omega) ?_
  intro i hi
  rcases (by omega : i = 0 ∨ i = 1 ∨ i = 2) with rfl | rfl | rfl <;> simp
theorem first2 (a : Nat → Addr) (e1 e2 : Int) (t : TypeId) (W : World) :
    Calls Tryd.prog 49 #[.slice (some ⟨W.heap.size, 0, none⟩) 2 2] (W.alloc (.cells #[erV a e1, erV a e2] t)) fun e w' => e = .returned (erV a (firstE [e1, e2])) ∧ w' = (W.alloc (.cells #[erV a e1, erV a e2] t)) := by
  refine firstOf_any W.heap.size 2 2 [e1, e2] a _ rfl (by omega) ?_
  intro i hi
  rcases (by omega : i = 0 ∨ i = 1) with rfl | rfl <;> simp

def varErr (N first x : Int) : Int := if x < first ∨ N < x then 3 else 0
def numErr (c : Int) : Int := if farB c 1099511627776 = true then 2 else 0
set_option maxHeartbeats 1000000 in
theorem varErr_any (N first x : Int) (a : Nat → Addr) (w : World) (hS : ErrS w a) :
    Calls Tryd.prog 103 #[.int .i64 x, .int .i64 first, .int .i64 N] w fun e w' => e = .returned (erV a (varErr N first x)) ∧ Below w.heap.size w w' := by
  have e2 : w.cell? ⟨1, 0, none⟩ = some (.iface 169 (.pointer (some (a 2)))) := hS.2
  have l2 := World.block_lt_of_cell? w _ e2
  obtain ⟨r, hr⟩ : ∃ r, r = varErr N first x := ⟨_, rfl⟩
  rw [← hr]
  unfold varErr at hr
  clear hS
  by_cases h1 : x < first
  · rw [if_pos (.inl h1)] at hr
    subst hr
    go_enter Tryd.func103, Tryd.ntmps103
    go_wp2_with fail
    go_ret
    exact ⟨rfl, Below.refl _ _⟩
  · by_cases h2 : N < x
    · rw [if_pos (.inr h2)] at hr
      subst hr
      go_enter Tryd.func103, Tryd.ntmps103
      go_wp2_with fail
      go_ret
      exact ⟨rfl, Below.refl _ _⟩
    · rw [if_neg (by omega)] at hr
      subst hr
      go_enter Tryd.func103, Tryd.ntmps103
      go_wp2_with fail
      go_ret
      exact ⟨rfl, Below.refl _ _⟩
set_option maxHeartbeats 1000000 in
theorem numErr_any (c : Int) (a : Nat → Addr) (w : World) (hS : ErrS w a) :
    Calls Tryd.prog 76 #[.int .i64 c] w fun e w' => e = .returned (erV a (numErr c)) ∧ w' = w := by
  have e2 : w.cell? ⟨0, 0, none⟩ = some (.iface 169 (.pointer (some (a 1)))) := hS.1
  obtain ⟨q, hq⟩ : ∃ q, q = farB c 1099511627776 := ⟨_, rfl⟩
  have HF : Hid (∀ W : World, Calls Tryd.prog 57 #[.int .i64 c] W fun e w' => e = .returned (.bool q) ∧ w' = W) := fun W => by rw [hq]; exact bfar_any c W
  unfold numErr
  rw [← hq]
  clear hq hS
  cases q
  all_goals
    go_enter Tryd.func76, Tryd.ntmps76
    go_wp2_with fail
    refine (HF.out _).mono ?_
    rintro e w1 ⟨rfl, hw⟩
    rw [hw]
    go_wp2_with fail
    go_ret
    exact ⟨rfl, rfl⟩
end Go.Proofs.YtofjjaabgfmnpaaDoor
