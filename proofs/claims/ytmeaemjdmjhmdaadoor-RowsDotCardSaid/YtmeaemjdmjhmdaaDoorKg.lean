/- What the statement itself calls: great numbers, lists that are the same, the document's own row. -/
import Derived.Test.YtmeaemjdmjhmdaaDoorKf
namespace Go.Proofs.YtmeaemjdmjhmdaaDoor
open Go.RowKit

def largeB (l : List Int) : Bool := l.any fun x => decide (2147483648 < x ∨ x < -2147483648)

theorem largeB_false {l : List Int} (h : largeB l = false) : ∀ x ∈ l, -2147483648 ≤ x ∧ x ≤ 2147483648 := by
  intro x hx
  simp only [largeB, List.any_eq_false, decide_eq_true_eq] at h
  have := h x hx
  omega

theorem largeB_take_succ (l : List Int) (k : Nat) (h : k < l.length) (h1 : largeB (l.take k) = false) (h2 : -2147483648 ≤ l.getD k 0) (h3 : l.getD k 0 ≤ 2147483648) : largeB (l.take (k + 1)) = false := by
  rw [take_succ_getD l k h]
  simp only [largeB, List.any_append, Bool.or_eq_false_iff]
  refine ⟨h1, ?_⟩
  simp; simp at h2 h3; omega

theorem largeB_of_get (l : List Int) (k : Nat) (h : k < l.length) (h2 : 2147483648 < l.getD k 0 ∨ l.getD k 0 < -2147483648) : largeB l = true := by
  simp only [largeB, List.any_eq_true, decide_eq_true_eq]
  exact ⟨l.getD k 0, by simp [h], h2⟩

set_option maxHeartbeats 400000 in
theorem large_none (a : Option Addr) (c : Nat) (w : World) :
    Calls Tryd.prog 8 #[.slice a 0 c] w fun e w' => e = .returned (.bool false) ∧ Below w.heap.size w w' := by
  go_enter Tryd.func8, Tryd.ntmps8
  go_wp2_with fail
  refine wp_loop_rounds 1 ?_
  rw [rounds_succ]
  go_wp2_with fail
  go_ret
  exact ⟨rfl, Below.refl _ _⟩

set_option maxHeartbeats 1000000 in
theorem large_some (b off c : Nat) (l : List Int) (w : World) (hb : b < w.heap.size) (hc : ∀ i, i < l.length → w.cell? ⟨b, off + i, none⟩ = some (.int .i64 (l.getD i 0))) (hn : l.length ≤ 4611686018427387903) :
    Calls Tryd.prog 8 #[.slice (some ⟨b, off, none⟩) l.length c] w fun e w' => e = .returned (.bool (largeB l)) ∧ Below w.heap.size w w' := by
  obtain ⟨n, hnl⟩ : ∃ n, n = l.length := ⟨_, rfl⟩
  rw [← hnl] at hn ⊢
  have Hn := hide hnl
  clear hnl
  go_enter Tryd.func8, Tryd.ntmps8
  go_wp2_with fail
  go_loopw [3] (fun i wr => ∃ k : Nat, k ≤ n ∧ i = .int .i64 k ∧ largeB (l.take k) = false ∧ Below w.heap.size w wr) (fun i _ => n - (intOf i).toNat)
  case atStart => exact ⟨0, Nat.zero_le _, rfl, rfl, Below.refl _ _⟩
  case round =>
    obtain ⟨k, hk, rfl, hl, hbel⟩ := hrel
    have HL := hide hl
    clear hl
    by_cases hlt : k < n
    · have hkl : k < l.length := by rw [← Hn.out]; exact hlt
      obtain ⟨x, hxe⟩ : ∃ x, x = l.getD k 0 := ⟨_, rfl⟩
      have hcx : wr.cell? ⟨b, off + k, none⟩ = some (.int .i64 x) := by rw [hxe, hbel.cell (p := ⟨b, off + k, none⟩) hb]; exact hc k hkl
      have Hx := hide hxe
      clear hxe
      rcases (show 2147483648 < x ∨ x < -2147483648 ∨ (-2147483648 ≤ x ∧ x ≤ 2147483648) by omega) with h | h | ⟨h, h'⟩
      · have hr : Hid (largeB l = true) := largeB_of_get l k hkl (by rw [← Hx.out]; exact .inl h)
        go_wp2_with fail
        go_ret
        exact ⟨ret_bool hr.out.symm, hbel⟩
      · have hr : Hid (largeB l = true) := largeB_of_get l k hkl (by rw [← Hx.out]; exact .inr h)
        go_wp2_with fail
        go_ret
        exact ⟨ret_bool hr.out.symm, hbel⟩
      · go_wp2_with fail
        go_roundw
        case rel => exact ⟨k + 1, by omega, by go_num, largeB_take_succ l k hkl HL.out (by rw [← Hx.out]; exact h) (by rw [← Hx.out]; exact h'), hbel⟩
        case measure => simp [intOf]; omega
    · have hke : Hid (l.take k = l) := List.take_of_length_le (by rw [← Hn.out]; omega)
      go_wp2_with fail
      go_ret
      exact ⟨ret_bool (by rw [← HL.out, hke.out]), hbel⟩

theorem large_any (a : Option Addr) (c : Nat) (l : List Int) (w : World) (hA : IntsAt w a l) (hn : l.length ≤ 4611686018427387903) :
    Calls Tryd.prog 8 #[.slice a l.length c] w fun e w' => e = .returned (.bool (largeB l)) ∧ Below w.heap.size w w' := by
  rcases hA with rfl | ⟨b, off, rfl, hb, hc⟩
  · exact large_none a c w
  · exact large_some b off c l w hb hc hn

end Go.Proofs.YtmeaemjdmjhmdaaDoor
