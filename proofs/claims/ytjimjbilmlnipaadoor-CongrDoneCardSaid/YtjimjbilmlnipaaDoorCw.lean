/- CongrDone, by what is asked of the program's functions. -/
import Derived.Test.YtjimjbilmlnipaaDoorCu
namespace Go.Proofs.YtjimjbilmlnipaaDoor
open Go.RowKit
set_option linter.unusedVariables false

theorem nine_at (f : Int → Int → Int) (r m r' m' : Int) : (nineL f r m r' m').getD 0 0 = f (r - m) (r' - m') := rfl

theorem add_form (r m r' m' : Int) : formC (r + r') (Int.gcd m m') = formC ((pairF (fun x y => x + y) r m r' m' 9).getD 0 0) (gcdD (pairF (fun x y => x + y) r m r' m' 9) 9) := by
  rw [pair_nine, add_nine, nine_at]
  refine formC_congr ?_
  rw [show r + r' - (r - m + (r' - m')) = m + m' by omega]
  exact Int.dvd_add (Int.gcd_dvd_left ..) (Int.gcd_dvd_right ..)
theorem sub_form (r m r' m' : Int) : formC (r - r') (Int.gcd m m') = formC ((pairF (fun x y => x - y) r m r' m' 9).getD 0 0) (gcdD (pairF (fun x y => x - y) r m r' m' 9) 9) := by
  rw [pair_nine, sub_nine, nine_at]
  refine formC_congr ?_
  rw [show r - r' - (r - m - (r' - m')) = m - m' by omega]
  exact Int.dvd_sub (Int.gcd_dvd_left ..) (Int.gcd_dvd_right ..)
theorem mul_form (r m r' m' : Int) : formC (r * r') (Int.gcd (Int.gcd (m * m') (m * r')) (r * m')) = formC ((pairF (fun x y => x * y) r m r' m' 9).getD 0 0) (gcdD (pairF (fun x y => x * y) r m r' m' 9) 9) := by
  rw [pair_nine, mul_nine, nine_at]
  refine formC_congr ?_
  have h := (gcd3_dvd (x := m * m') (y := m * r') (z := r * m')).1 (Int.dvd_refl _)
  rw [show r * r' - (r - m) * (r' - m') = r * m' + m * r' - m * m' by grind]
  exact Int.dvd_sub (Int.dvd_add h.2.2 h.2.1) h.1
theorem scale_form (n r m : Int) (hm : 0 ≤ m) : formC (n * r) ((n.natAbs : Int) * m) = formC ((scaleL n r m).getD 0 0) (gcdD (scaleL n r m) 3) := by
  have e : ((gcdD (scaleL n r m) 3 : Nat) : Int) = (n.natAbs : Int) * m := by rw [scale_three n r m hm, Int.natCast_mul, Int.toNat_of_nonneg hm]
  rw [← e]
  refine formC_congr ?_
  rw [e]
  rw [show (scaleL n r m).getD 0 0 = n * (r - m) from rfl, show n * r - n * (r - m) = n * m by grind]
  rcases Int.natAbs_eq n with h | h
  · rw [← h]; exact Int.dvd_refl _
  · have : n * m = -((n.natAbs : Int) * m) := by
      have : n * m = (-(n.natAbs : Int)) * m := by rw [← h]
      rw [this, Int.neg_mul]
    rw [this]; exact Int.dvd_neg.2 (Int.dvd_refl _)

theorem congrDone_by (a : Nat → Addr) (hT : SixthC a) (hA : CAddC a) (hB : CSubC a) (hM : CMulC a) (hN : CScaleC a) (r m r' m' n : Int) (w : World) (hS : Sents w a) (r1 : (-9223372036854775808 ≤ r ∧ r ≤ 9223372036854775807) ∧ (-9223372036854775808 ≤ m ∧ m ≤ 9223372036854775807)) (r2 : (-9223372036854775808 ≤ r' ∧ r' ≤ 9223372036854775807) ∧ (-9223372036854775808 ≤ m' ∧ m' ≤ 9223372036854775807)) (r3 : (-9223372036854775808 ≤ n ∧ n ≤ 9223372036854775807)) :
    Calls Tryd.prog 6 #[(.agg #[.int .i64 r, .int .i64 m]), (.agg #[.int .i64 r', .int .i64 m']), .int .i64 n] w fun x w' => x = .returned (.bool true) ∧ Below w.heap.size w w' := by
  obtain ⟨E, hE⟩ : ∃ E, E = twoC ⟨r, m⟩ ⟨r', m'⟩ := ⟨_, rfl⟩
  obtain ⟨F0, hF0⟩ : ∃ F, F = cgErr r m := ⟨_, rfl⟩
  obtain ⟨f, hf⟩ : ∃ f, f = farB n 1048576 := ⟨_, rfl⟩
  obtain ⟨F, hF⟩ : ∃ F, F = (if F0 = 0 then (if f = true then 2 else 0) else F0) := ⟨_, rfl⟩
  obtain ⟨⟨pr, pm⟩, hp⟩ : ∃ J, J = (if E = 0 then formC (r + r') (Int.gcd m m') else cgZ) := ⟨_, rfl⟩
  obtain ⟨⟨qr, qm⟩, hq⟩ : ∃ J, J = (if E = 0 then formC (r - r') (Int.gcd m m') else cgZ) := ⟨_, rfl⟩
  obtain ⟨⟨tr, tm⟩, ht⟩ : ∃ J, J = (if E = 0 then formC (r * r') (Int.gcd (Int.gcd (m * m') (m * r')) (r * m')) else cgZ) := ⟨_, rfl⟩
  obtain ⟨⟨sr, sm⟩, hs⟩ : ∃ J, J = (if F0 = 0 ∧ f = false then formC (n * r) ((n.natAbs : Int) * m) else cgZ) := ⟨_, rfl⟩
  have hr := twoC_range ⟨r, m⟩ ⟨r', m'⟩
  have hr0 := cgErr_range r m
  have hFr : 0 ≤ F ∧ F ≤ 8 := by
    rw [hF]; split
    · split <;> omega
    · omega
  refine cdone_walk a hT r m r' m' n w hS E F0 F pr pm qr qm tr tm sr sm f (errV a E) (errV a F) (by omega) (by omega) (by omega) ?_ ?_ ?_ ?_ ?_ ?_ ?_ hF ?_ ?_ ?_ ?_ ?_ ?_
  · intro W; rw [hE]; exact twoC_any r m r' m' W
  · intro W h
    have := hA r m r' m' W h.errs r1 r2
    rw [← hE] at this
    rw [← hp] at this
    exact this
  · intro W h
    have := hB r m r' m' W h.errs r1 r2
    rw [← hE] at this
    rw [← hq] at this
    exact this
  · intro W h
    have := hM r m r' m' W h.errs r1 r2
    rw [← hE] at this
    rw [← ht] at this
    exact this
  · intro W h
    have := hN r m n W h.errs r1 r3
    rw [← hF0, ← hf, ← hs, ← hF] at this
    exact this
  · intro W; rw [hF0]; exact cgErr_any r m W
  · intro W; rw [hf]; exact far_any n _ W (by omega) (by omega)
  · intro h0 W h
    have hz : (⟨sr, sm⟩ : Cg) = cgZ := by
      rw [hs, if_neg]
      rintro ⟨k1, k2⟩
      rw [hF, if_pos k1, k2] at h0
      simp at h0
    obtain ⟨rfl, rfl⟩ := Cg.mk.inj hz
    exact isCongr_errZ F h0 (by omega) a 0 0 W h
  · intro h0 W h
    rw [if_neg (by omega)] at hp
    obtain ⟨rfl, rfl⟩ := Cg.mk.inj hp
    exact isCongr_errZ E h0 (by omega) a 0 0 W h
  · intro h0 W h
    rw [if_neg (by omega)] at hq
    obtain ⟨rfl, rfl⟩ := Cg.mk.inj hq
    exact isCongr_errZ E h0 (by omega) a 0 0 W h
  · intro h0 W h
    rw [if_neg (by omega)] at ht
    obtain ⟨rfl, rfl⟩ := Cg.mk.inj ht
    exact isCongr_errZ E h0 (by omega) a 0 0 W h
  · intro h0
    have k1 : F0 = 0 := by
      rw [hF] at h0
      by_cases e : F0 = 0
      · exact e
      · rw [if_neg e] at h0; exact h0
    have k2 : f = false := by
      rw [hF, if_pos k1] at h0
      cases f
      · rfl
      · simp at h0
    have ok : okC ⟨r, m⟩ := (okC_iff ⟨r, m⟩).1 (by show cgErr r m = 0; rw [← hF0]; exact k1)
    refine ⟨by rw [h0]; rfl, ok, ?_, ?_⟩
    · rw [k2] at hf
      have := hf.symm
      simp [farB] at this
      omega
    · rw [hs, if_pos ⟨k1, k2⟩]
      exact scale_form n r m ok.1
  · intro h0
    have h0' := h0
    rw [h0] at hE
    obtain ⟨o1, o2⟩ := (twoC_ok _ _).1 hE.symm
    rw [if_pos h0'] at hp hq ht
    refine ⟨by rw [h0]; rfl, o1, o2, ?_, ?_, ?_⟩
    · rw [hp]; exact add_form r m r' m'
    · rw [hq]; exact sub_form r m r' m'
    · rw [ht]; exact mul_form r m r' m'

end Go.Proofs.YtjimjbilmlnipaaDoor
