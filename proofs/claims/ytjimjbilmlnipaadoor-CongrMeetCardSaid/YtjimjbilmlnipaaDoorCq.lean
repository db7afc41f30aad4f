/- CongrMeet, by what is asked of the program's functions. -/
import Derived.Test.YtjimjbilmlnipaaDoorCp
namespace Go.Proofs.YtjimjbilmlnipaaDoor
open Go.RowKit
set_option linter.unusedVariables false

/-- A call that ends has an end. -/
theorem calls_ends {P : Program} {f : FuncId} {args : Array Value} {w : World} {R : Ending → World → Prop} (h : Calls P f args w R) : ∃ e w', R e w' := by
  obtain ⟨e, w', _, h, _⟩ := h []
  exact ⟨e, w', h⟩

theorem congrMeet_by (a : Nat → Addr) (hT : SixthC a) (hM : CMeetC a) (r m r' m' : Int) (w : World) (hS : Sents w a) (r1 : (-9223372036854775808 ≤ r ∧ r ≤ 9223372036854775807) ∧ (-9223372036854775808 ≤ m ∧ m ≤ 9223372036854775807)) (r2 : (-9223372036854775808 ≤ r' ∧ r' ≤ 9223372036854775807) ∧ (-9223372036854775808 ≤ m' ∧ m' ≤ 9223372036854775807)) :
    Calls Tryd.prog 5 #[(.agg #[.int .i64 r, .int .i64 m]), (.agg #[.int .i64 r', .int .i64 m'])] w fun x w' => x = .returned (.bool true) ∧ Below w.heap.size w w' := by
  have hr := twoC_range ⟨r, m⟩ ⟨r', m'⟩
  by_cases h0 : twoC ⟨r, m⟩ ⟨r', m'⟩ = 0
  · obtain ⟨o1, o2⟩ := (twoC_ok _ _).1 h0
    obtain ⟨⟨pr, pm⟩, is, hMS⟩ : ∃ P is, MeetS ⟨r, m⟩ ⟨r', m'⟩ P is := by
      obtain ⟨_, _, ⟨P, b, _, h1, _⟩, _⟩ := calls_ends (hM r m r' m' w hS.errs r1 r2)
      exact ⟨P, b, h1 h0⟩
    refine cmeet_walk a hT r m r' m' w hS 0 pr pm is .nilIface (by omega) ?_ ?_ ?_ ?_ ?_
    · intro W; have := twoC_any r m r' m' W; rw [h0] at this; exact this
    · intro W hs
      refine (hM r m r' m' W hs.errs r1 r2).mono ?_
      rintro e w' ⟨⟨R, b, rfl, k, _⟩, hb⟩
      obtain ⟨rfl, rfl⟩ := (k h0).unique hMS
      rw [h0]; exact ⟨rfl, hb⟩
    · intro h; omega
    · intro h; omega
    · intro _; exact ⟨rfl, o1, o2, hMS⟩
  · refine cmeet_walk a hT r m r' m' w hS (twoC ⟨r, m⟩ ⟨r', m'⟩) 0 0 false (errV a (twoC ⟨r, m⟩ ⟨r', m'⟩)) (by omega) ?_ ?_ ?_ ?_ ?_
    · intro W; exact twoC_any r m r' m' W
    · intro W hs
      refine (hM r m r' m' W hs.errs r1 r2).mono ?_
      rintro e w' ⟨⟨R, b, rfl, _, k⟩, hb⟩
      obtain ⟨rfl, rfl⟩ := k h0
      exact ⟨rfl, hb⟩
    · intro hp W hs; exact isCongr_errZ _ hp (by omega) a 0 0 W hs
    · intro _; rfl
    · intro h; exact absurd h h0

end Go.Proofs.YtjimjbilmlnipaaDoor
