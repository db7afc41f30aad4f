/- Zones: has one a point? The point as a square of bounds. -/
import Derived.Test.YtkaodfmfkafjfaaDoorYd
import Derived.Test.YtkaodfmfkafjfaaDoorYh
import Derived.Test.YtkaodfmfkafjfaaDoorYj
import Derived.Laws.EntriesVeiled
namespace Go.Proofs.YtkaodfmfkafjfaaDoor
open Go.RowKit
set_option linter.unusedVariables false

def inB (n : Nat) (f f' : Nat → Nat → Int) : Bool := decide (∀ p, p < n * n → f (p / n) (p % n) ≤ f' (p / n) (p % n))
set_option maxRecDepth 20000 in
set_option maxHeartbeats 2000000 in
theorem gwithin_any (n g cp h ch len : Nat) (f f' : Nat → Nat → Int) (w : World) (hG : GrI w g n f) (hH : GrI w h n f') (hl : Hid (len = n * n)) (hn : n ≤ 8) :
    Calls Tryd.prog 52 #[(.agg #[.int .i64 n, (.slice (some ⟨g, 0, none⟩) len cp)]), (.agg #[.int .i64 n, (.slice (some ⟨h, 0, none⟩) len ch)])] w fun e w' => e = .returned (.bool (inB n f f')) ∧ Below w.heap.size w w' := by
  have hlen : len ≤ 64 := by
    have := hl.out
    have h1 := Nat.mul_le_mul hn hn
    omega
  have s0 := (((⟨Below.refl _ _, trivial, ⟨hG, hH⟩, fun _ _ q hb => ⟨GrI.stays hG.lt q.1 hb, GrI.stays hH.lt q.2 hb⟩⟩ : St w w (fun W => GrI W g n f ∧ GrI W h n f') [])).box2 84 (.int .i64 n) (.slice (some ⟨g, 0, none⟩) len cp)).box2 84 (.int .i64 n) (.slice (some ⟨h, 0, none⟩) len ch)
  simp only [World.size_alloc] at s0
  have q0 := s0.hold
  simp only [Holds, and_true] at q0
  have hat : Hid (∀ (W : World) (b k : Nat) (F : Nat → Nat → Int), GrI W b n F → k < len → W.cell? ⟨b, k, none⟩ = some (.int .i64 (F (k / n) (k % n)))) := by
    intro W b k F hB hk
    have hk2 : k < n * n := by rw [← hl.out]; exact hk
    have c := hB.cell (k / n) (k % n) (Nat.div_lt_of_lt_mul hk2) (Nat.mod_lt _ (Nat.pos_of_ne_zero (fun e => by subst e; simp at hk2)))
    rwa [show k / n * n + k % n = k by rw [Nat.mul_comm]; exact Nat.div_add_mod _ _] at c
  obtain ⟨r, hr⟩ : ∃ r, r = inB n f f' := ⟨_, rfl⟩
  rw [← hr]
  have Hr := hide hr
  have z1 := hG.lt
  have z2 := hH.lt
  have bel0 := s0.bel
  clear hr
  go_enter Tryd.func52, Tryd.ntmps52
  go_wp2_with fail
  go_loopg [10] len (fun gh kv wr => ∃ k : Nat, k + gh = len ∧ kv = .int .i64 k ∧ wr = ((w.alloc (.cells #[.int .i64 n, (.slice (some ⟨g, 0, none⟩) len cp)] 84)).alloc (.cells #[.int .i64 n, (.slice (some ⟨h, 0, none⟩) len ch)] 84)) ∧ Hid (∀ p, p < k → f (p / n) (p % n) ≤ f' (p / n) (p % n)))
  case atStart => exact ⟨0, by omega, rfl, rfl, fun p h => by omega⟩
  case round =>
    obtain ⟨k, hkg, rfl, rfl, HL⟩ := hrel
    by_cases hk : k < len
    · have hk' : (k : Int) < (len : Int) := by omega
      obtain ⟨u, hu⟩ : ∃ u, u = f (k / n) (k % n) := ⟨_, rfl⟩
      obtain ⟨v, hv⟩ : ∃ v, v = f' (k / n) (k % n) := ⟨_, rfl⟩
      have c1 := hat.out w g k f hG hk
      have c2 := hat.out w h k f' hH hk
      rw [← hu] at c1
      rw [← hv] at c2
      have Hu := hide hu
      have Hv := hide hv
      clear hu hv
      by_cases huv : v < u
      · have hre : Hid (r = false) := by
          show _ = _; rw [Hr.out]; unfold inB; apply decide_eq_false
          intro hall
          have := hall k (by rw [← hl.out]; exact hk)
          rw [← Hu.out, ← Hv.out] at this
          omega
        go_wp2_with fail
        go_ret
        exact ⟨ret_bool (by rw [hre.out]), bel0⟩
      · go_wp2_with fail
        go_roundg (len - (k + 1))
        case measure => omega
        case rel =>
          refine ⟨k + 1, by omega, by go_num, rfl, fun p hp => ?_⟩
          by_cases e : p = k
          · subst e; rw [← Hu.out, ← Hv.out]; omega
          · exact HL.out p (by omega)
    · have hk' : ¬ (k : Int) < (len : Int) := by omega
      have hre : Hid (r = true) := by
        show _ = _; rw [Hr.out]; unfold inB; apply decide_eq_true
        intro p hp
        exact HL.out p (by rw [← hl.out] at hp; omega)
      go_wp2_with fail
      go_ret
      exact ⟨ret_bool (by rw [hre.out]), bel0⟩

end Go.Proofs.YtkaodfmfkafjfaaDoor
