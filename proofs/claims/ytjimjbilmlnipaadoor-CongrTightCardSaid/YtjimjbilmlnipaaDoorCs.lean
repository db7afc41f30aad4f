/- CongrTight, by what is asked of the program's functions. -/
import Derived.Test.YtjimjbilmlnipaaDoorCr
namespace Go.Proofs.YtjimjbilmlnipaaDoor
open Go.RowKit
set_option linter.unusedVariables false

theorem TightS.unique {A : Cg} {B R R' : Iv} {b b' : Bool} (h : TightS A B R b) (k : TightS A B R' b') : R = R' ∧ b = b' := by
  have hb : b = b' := Bool.eq_iff_iff.2 (h.some.trans k.some.symm)
  subst hb
  refine ⟨?_, rfl⟩
  cases e : b
  · rw [h.none e, k.none e]
  · exact (h.least e).unique (k.least e) fun _ => Iff.rfl

theorem congrTight_by (a : Nat → Addr) (hT : SixthC a) (hM : CTightC a) (r m : Int) (d u : Bool) (lo hi : Int) (w : World) (hS : Sents w a) (r1 : (-9223372036854775808 ≤ r ∧ r ≤ 9223372036854775807) ∧ (-9223372036854775808 ≤ m ∧ m ≤ 9223372036854775807)) (r2 : (-9223372036854775808 ≤ lo ∧ lo ≤ 9223372036854775807) ∧ (-9223372036854775808 ≤ hi ∧ hi ≤ 9223372036854775807)) :
    Calls Tryd.prog 7 #[(.agg #[.int .i64 r, .int .i64 m]), (.agg #[.bool d, .bool u, .int .i64 lo, .int .i64 hi])] w fun x w' => x = .returned (.bool true) ∧ Below w.heap.size w w' := by
  have hc := cgErr_range r m
  have hi' := ivErr_range d u lo hi
  have hr : 0 ≤ cgIvErr ⟨r, m⟩ ⟨d, u, lo, hi⟩ ∧ cgIvErr ⟨r, m⟩ ⟨d, u, lo, hi⟩ ≤ 8 := by unfold cgIvErr; dsimp only; split <;> omega
  by_cases h0 : cgIvErr ⟨r, m⟩ ⟨d, u, lo, hi⟩ = 0
  · have hA : cgErr r m = 0 := by unfold cgIvErr at h0; dsimp only at h0; split at h0 <;> assumption
    have hB : ivErr d u lo hi = 0 := by unfold cgIvErr at h0; dsimp only at h0; rw [if_pos hA] at h0; exact h0
    have o1 : okC ⟨r, m⟩ := (okC_iff ⟨r, m⟩).1 hA
    have o2 : okI ⟨d, u, lo, hi⟩ := (okI_iff ⟨d, u, lo, hi⟩).1 hB
    obtain ⟨⟨pd, pu, pl, ph⟩, is, hMS⟩ : ∃ P is, TightS ⟨r, m⟩ ⟨d, u, lo, hi⟩ P is := by
      obtain ⟨_, _, _, ⟨⟨P, b, _, h1, _⟩, _⟩, _⟩ := (hM r m d u lo hi w hS.errs r1 r2) []
      exact ⟨P, b, h1 h0⟩
    refine ctight_walk a hT r m d u lo hi w hS 0 pl ph pd pu is .nilIface (by omega) ?_ ?_ ?_ ?_ ?_
    · show _ = _; rw [if_pos hA, hB]
    · intro W hs
      refine (hM r m d u lo hi W hs.errs r1 r2).mono ?_
      rintro e w' ⟨⟨R, b, rfl, k, _⟩, hb⟩
      obtain ⟨rfl, rfl⟩ := (k h0).unique hMS
      rw [h0]; exact ⟨rfl, hb⟩
    · intro h; omega
    · intro h; omega
    · intro _; exact ⟨rfl, o1, o2, hMS⟩
  · refine ctight_walk a hT r m d u lo hi w hS (cgIvErr ⟨r, m⟩ ⟨d, u, lo, hi⟩) 0 0 false false false (errV a (cgIvErr ⟨r, m⟩ ⟨d, u, lo, hi⟩)) (by omega) ?_ ?_ ?_ ?_ ?_
    · rfl
    · intro W hs
      refine (hM r m d u lo hi W hs.errs r1 r2).mono ?_
      rintro e w' ⟨⟨R, b, rfl, _, k⟩, hb⟩
      obtain ⟨rfl, rfl⟩ := k h0
      exact ⟨rfl, hb⟩
    · intro hp W hs
      refine (isSpan_err false false false false 0 0 0 0 _ hp (by omega) a W hs _ rfl).mono ?_
      rintro x w' ⟨rfl, hb⟩
      exact ⟨by simp, hb⟩
    · intro _; rfl
    · intro h; exact absurd h h0

end Go.Proofs.YtjimjbilmlnipaaDoor
