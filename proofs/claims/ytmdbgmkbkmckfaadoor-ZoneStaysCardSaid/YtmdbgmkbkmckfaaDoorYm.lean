/- Zones: the law's closed fact (free). -/
import Derived.Test.YtmdbgmkbkmckfaaDoorYj
import Derived.Test.YtmdbgmkbkmckfaaDoorZq
namespace Go.Proofs.YtmdbgmkbkmckfaaDoor
open Go.RowKit
set_option linter.unusedVariables false

def fre : List Ce := [⟨true, 0⟩, ceZ, ceZ, ⟨true, 0⟩]
def fr0 : List Ce := List.replicate 4 ceZ
theorem fre_err : zErr 1 fr0 = 0 := by decide
theorem fre_is : tellL 2 (fw (matOf 2 fr0) 2) = fre := by decide
theorem fre_ok : NoNeg 2 (fw (matOf 2 fr0) 2) := by
  intro i hi
  rcases (by omega : i = 0 ∨ i = 1) with rfl | rfl
  · show leB (some 0) (some 0); simp [leB]
  · show leB (some 0) (some 0); simp [leB]
theorem fre_row (W : World) : RowC (W.alloc (.cells #[.bool true, .int .i64 0, .bool false, .int .i64 0, .bool false, .int .i64 0, .bool true, .int .i64 0] 63)) W.heap.size 0 fre := by
  refine ⟨by simp, fun i hi => ?_, fun i hi => ?_⟩
  · have hi' : i < 4 := hi
    rcases (by omega : i = 0 ∨ i = 1 ∨ i = 2 ∨ i = 3) with rfl | rfl | rfl | rfl <;> simp [fre, ceZ]
  · have hi' : i < 4 := hi
    rcases (by omega : i = 0 ∨ i = 1 ∨ i = 2 ∨ i = 3) with rfl | rfl | rfl | rfl <;> simp [fre, ceZ]

set_option maxRecDepth 20000 in
set_option maxHeartbeats 4000000 in
theorem free_any (a : Nat → Addr) (w : World) (hS : ErrS w a) :
    Calls Tryd.prog 7 #[] w fun e w' => e = .returned (.bool true) ∧ Below w.heap.size w w' := by
  obtain ⟨i0, hi, hz0, hz1, hz2⟩ := info_parts Tryd.infoZC
  have HC : Hid (∀ (W : World) (b c : Nat), ErrS W a → RowC W b 0 fr0 → Calls Tryd.prog 9 #[(.agg #[.int .i64 1, (.slice (some ⟨b, 0, none⟩) 4 c)])] W fun e w' => ∃ g cp, e = .returned (.tuple #[(.agg #[.int .i64 1, (.slice (some ⟨g, 0, none⟩) 4 cp)]), .bool true, .nilIface]) ∧ RowC w' g 0 fre ∧ Below W.heap.size W w') := by
    intro W b c h1 h2
    refine (close_any 1 (some ⟨b, 0, none⟩) c 4 fr0 a W h1 (.inr ⟨b, 0, rfl, h2⟩) rfl (by omega)).mono ?_
    rintro e w' ⟨hb, h | h | h⟩
    · exact absurd fre_err h.1
    · exact absurd fre_ok h.2.1
    · obtain ⟨_, _, g, cp, rfl, _, hR⟩ := h
      exact ⟨g, cp, rfl, by rw [← fre_is]; exact hR, hb⟩
  have HI : Hid (∀ (W : World) (g cp b c : Nat), RowC W g 0 fre → RowC W b 0 fre → Calls Tryd.prog 20 #[(.agg #[.int .i64 1, (.slice (some ⟨g, 0, none⟩) 4 cp)]), (.agg #[.int .i64 1, (.slice (some ⟨b, 0, none⟩) 4 c)])] W fun e w' => e = .returned (.bool true) ∧ Below W.heap.size W w') := by
    intro W g cp b c h1 h2
    refine (isZone_any 1 1 (some ⟨g, 0, none⟩) (some ⟨b, 0, none⟩) 4 cp 4 c fre fre W (.inr ⟨g, 0, rfl, h1⟩) (.inr ⟨b, 0, rfl, h2⟩) rfl rfl (by omega)).mono ?_
    rintro e w' ⟨rfl, hb⟩
    exact ⟨by simp, hb⟩
  have s0 := St.startE hS
  go_enter Tryd.func7, Tryd.ntmps7
  go_wp2_with (at_make; refine wpList_make_full _ rfl _ _ 28 rfl w.heap.size 49 i0 (.agg #[.bool false, .int .i64 0]) 2 Tryd.underlying28 hi hz0 hz1 _ _ _ _ 4 rfl rfl rfl rfl ?b2 ?b3 (by simp) ?_)
  case b2 => rw [hz2]; omega
  case b3 => unfold maxLen; omega
  intro w1 own1 hgrow1
  have own2 : w1.ownsRow w.heap.size 49 2 (.slice (some ⟨w.heap.size, 0, none⟩) 4 4) 4 (cellsV fr0) := by unfold fr0; rw [← zerosV]; exact own1
  obtain ⟨R1, -⟩ := RowC.of_own own2 rfl (own2.lt w.heap.size (by simp [Value.ownBlock])).2
  have s1 := s0.call ((Below.refl _ _).grown hgrow1 (Nat.le_refl _) (fun k h => by cases h))
  clear own1 own2 hgrow1 s0
  go_wp2_with fail
  refine (HC.out _ w.heap.size 4 s1.sent R1).mono ?_
  rintro e w2 ⟨g, cp, rfl, hR2, hb2⟩
  have s2 := (s1.call hb2).box2 30 (.int .i64 1) (.slice (some ⟨g, 0, none⟩) 4 cp)
  have hR3 := hR2.below ((Below.refl _ _).alloc (Nat.le_refl _) (.cells #[.int .i64 1, .slice (some ⟨g, 0, none⟩) 4 cp] 30))
  have q2 := s2.hold
  simp only [Holds, and_true] at q2
  clear hb2 s1 R1 HC
  go_wp2_with fail
  have s3 := s2.alloc (.cells #[.bool true, .int .i64 0, .bool false, .int .i64 0, .bool false, .int .i64 0, .bool true, .int .i64 0] 63)
  have hF := fre_row (w2.alloc (.cells #[.int .i64 1, .slice (some ⟨g, 0, none⟩) 4 cp] 30))
  simp only [World.size_alloc] at hF
  refine (HI.out _ g cp _ 4 (hR3.below ((Below.refl _ _).alloc (Nat.le_refl _) _)) hF).mono ?_
  rintro e w4 ⟨rfl, hb4⟩
  have s4 := s3.call hb4
  go_wp2_with fail
  go_ret
  exact ⟨rfl, s4.bel⟩

end Go.Proofs.YtmdbgmkbkmckfaaDoor
