/- The program's functions on two intervals do what is asked of them. -/
import Derived.Test.YtegibkjopkakhaaDoorPj
namespace Go.Proofs.YtegibkjopkakhaaDoor
open Go.RowKit

theorem sumE_le {p q p' q' : Int} (h : EndR p q) (k : EndR p' q') : sumE p p' ≤ sumE q q' := by
  obtain ⟨h1, h2, h3⟩ := h
  obtain ⟨k1, k2, k3⟩ := k
  unfold sumE
  repeat' split
  all_goals omega
theorem sum_c {p q p' q' : Int} (h : EndR p q) (k : EndR p' q') (W : World) : Calls Tryd.prog 40 #[.int .i64 p, .int .i64 p'] W fun e w' => e = .returned (.int .i64 (sumE p p')) ∧ w' = W := by
  obtain ⟨h1, h2, h3⟩ := h
  obtain ⟨k1, k2, k3⟩ := k
  exact sum_any p p' W (by omega) (by omega)
theorem sum_c' {p q p' q' : Int} (h : EndR p q) (k : EndR p' q') (W : World) : Calls Tryd.prog 40 #[.int .i64 q, .int .i64 q'] W fun e w' => e = .returned (.int .i64 (sumE q q')) ∧ w' = W := by
  obtain ⟨h1, h2, h3⟩ := h
  obtain ⟨k1, k2, k3⟩ := k
  exact sum_any q q' W (by omega) (by omega)

theorem join_is (a : Nat → Addr) : JoinC a := by
  intro d u d' u' lo hi lo' hi' w hS _ _
  by_cases hE : twoErr ⟨d, u, lo, hi⟩ ⟨d', u', lo', hi'⟩ = 0
  · obtain ⟨kA, kB⟩ := (twoErr_ok _ _).1 hE
    have eA := e_le kA
    have eB := e_le kB
    have hT := fun W h => tell_ok _ d u d' u' lo hi lo' hi' (min (eLo (⟨d, u, lo, hi⟩ : Iv)) (eLo (⟨d', u', lo', hi'⟩ : Iv))) (max (eHi (⟨d, u, lo, hi⟩ : Iv)) (eHi (⟨d', u', lo', hi'⟩ : Iv))) a W h hE join_enters (fun W => ejoin_any _ _ _ _ W) (by omega)
    rw [joined_told kA kB] at hT
    rw [hE, if_pos rfl]
    exact join_tell d u d' u' lo hi lo' hi' a w hS _ _ _ _ .nilIface hT
  · rw [if_neg hE]
    exact join_tell d u d' u' lo hi lo' hi' a w hS false false 0 0 (errV a (twoErr ⟨d, u, lo, hi⟩ ⟨d', u', lo', hi'⟩)) (fun W h => tell_err _ d u d' u' lo hi lo' hi' a W h hE)
theorem meet_is (a : Nat → Addr) : MeetC a := by
  intro d u d' u' lo hi lo' hi' w hS _ _
  by_cases hE : twoErr ⟨d, u, lo, hi⟩ ⟨d', u', lo', hi'⟩ = 0
  · obtain ⟨kA, kB⟩ := (twoErr_ok _ _).1 hE
    have b1 := eLo_r kA; have b2 := eHi_r kA; have b3 := eLo_r kB; have b4 := eHi_r kB
    have hT := fun W h => tellSome_ok _ d u d' u' lo hi lo' hi' (meL (eLo (⟨d, u, lo, hi⟩ : Iv)) (eHi (⟨d, u, lo, hi⟩ : Iv)) (eLo (⟨d', u', lo', hi'⟩ : Iv)) (eHi (⟨d', u', lo', hi'⟩ : Iv))) (meH (eLo (⟨d, u, lo, hi⟩ : Iv)) (eHi (⟨d, u, lo, hi⟩ : Iv)) (eLo (⟨d', u', lo', hi'⟩ : Iv)) (eHi (⟨d', u', lo', hi'⟩ : Iv))) a W h hE meet_enters (fun W => emeet_any _ _ _ _ W)
    have e1 : (if meH (eLo (⟨d, u, lo, hi⟩ : Iv)) (eHi (⟨d, u, lo, hi⟩ : Iv)) (eLo (⟨d', u', lo', hi'⟩ : Iv)) (eHi (⟨d', u', lo', hi'⟩ : Iv)) < meL (eLo (⟨d, u, lo, hi⟩ : Iv)) (eHi (⟨d, u, lo, hi⟩ : Iv)) (eLo (⟨d', u', lo', hi'⟩ : Iv)) (eHi (⟨d', u', lo', hi'⟩ : Iv)) then ivZ else told (meL (eLo (⟨d, u, lo, hi⟩ : Iv)) (eHi (⟨d, u, lo, hi⟩ : Iv)) (eLo (⟨d', u', lo', hi'⟩ : Iv)) (eHi (⟨d', u', lo', hi'⟩ : Iv))) (meH (eLo (⟨d, u, lo, hi⟩ : Iv)) (eHi (⟨d, u, lo, hi⟩ : Iv)) (eLo (⟨d', u', lo', hi'⟩ : Iv)) (eHi (⟨d', u', lo', hi'⟩ : Iv)))) = met ⟨d, u, lo, hi⟩ ⟨d', u', lo', hi'⟩ := by
      unfold met meL meH
      rw [metB_iff kA kB]
      by_cases o : max (eLo (⟨d, u, lo, hi⟩ : Iv)) (eLo (⟨d', u', lo', hi'⟩ : Iv)) ≤ min (eHi (⟨d, u, lo, hi⟩ : Iv)) (eHi (⟨d', u', lo', hi'⟩ : Iv))
      · rw [if_neg (by omega : ¬ min (eHi (⟨d, u, lo, hi⟩ : Iv)) (eHi (⟨d', u', lo', hi'⟩ : Iv)) < max (eLo (⟨d, u, lo, hi⟩ : Iv)) (eLo (⟨d', u', lo', hi'⟩ : Iv))), if_neg (by omega : ¬ min (eHi (⟨d, u, lo, hi⟩ : Iv)) (eHi (⟨d', u', lo', hi'⟩ : Iv)) < max (eLo (⟨d, u, lo, hi⟩ : Iv)) (eLo (⟨d', u', lo', hi'⟩ : Iv))), if_neg (by omega), decide_eq_true o, if_pos rfl, met_told kA kB]
      · rw [if_pos (by omega : min (eHi (⟨d, u, lo, hi⟩ : Iv)) (eHi (⟨d', u', lo', hi'⟩ : Iv)) < max (eLo (⟨d, u, lo, hi⟩ : Iv)) (eLo (⟨d', u', lo', hi'⟩ : Iv))), if_pos (by omega : min (eHi (⟨d, u, lo, hi⟩ : Iv)) (eHi (⟨d', u', lo', hi'⟩ : Iv)) < max (eLo (⟨d, u, lo, hi⟩ : Iv)) (eLo (⟨d', u', lo', hi'⟩ : Iv))), if_pos (by omega), decide_eq_false o]; rfl
    have e2 : decide (meL (eLo (⟨d, u, lo, hi⟩ : Iv)) (eHi (⟨d, u, lo, hi⟩ : Iv)) (eLo (⟨d', u', lo', hi'⟩ : Iv)) (eHi (⟨d', u', lo', hi'⟩ : Iv)) ≤ meH (eLo (⟨d, u, lo, hi⟩ : Iv)) (eHi (⟨d, u, lo, hi⟩ : Iv)) (eLo (⟨d', u', lo', hi'⟩ : Iv)) (eHi (⟨d', u', lo', hi'⟩ : Iv))) = metB ⟨d, u, lo, hi⟩ ⟨d', u', lo', hi'⟩ := by
      rw [metB_iff kA kB]
      unfold meL meH
      by_cases o : max (eLo (⟨d, u, lo, hi⟩ : Iv)) (eLo (⟨d', u', lo', hi'⟩ : Iv)) ≤ min (eHi (⟨d, u, lo, hi⟩ : Iv)) (eHi (⟨d', u', lo', hi'⟩ : Iv))
      · rw [if_neg (by omega), if_neg (by omega)]
      · rw [if_pos (by omega), if_pos (by omega), decide_eq_false o]; rfl
    rw [e1, e2] at hT
    rw [hE, if_pos rfl]
    exact meet_tell d u d' u' lo hi lo' hi' a w hS _ _ _ _ _ .nilIface hT
  · rw [if_neg hE, decide_eq_false hE]
    exact meet_tell d u d' u' lo hi lo' hi' a w hS false false 0 0 false (errV a (twoErr ⟨d, u, lo, hi⟩ ⟨d', u', lo', hi'⟩)) (fun W h => tellSome_err _ d u d' u' lo hi lo' hi' a W h hE)
theorem add_is (a : Nat → Addr) : AddC a := by
  intro d u d' u' lo hi lo' hi' w hS _ _
  by_cases hE : twoErr ⟨d, u, lo, hi⟩ ⟨d', u', lo', hi'⟩ = 0
  · obtain ⟨kA, kB⟩ := (twoErr_ok _ _).1 hE
    have eA := endR_of kA
    have eB := endR_of kB
    have hT := fun W h => tell_ok _ d u d' u' lo hi lo' hi' _ _ a W h hE add_enters (fun W => sums_any _ _ _ _ W (fun W => sum_c eA eB W) (fun W => sum_c' eA eB W)) (sumE_le eA eB)
    refine (add_tell d u d' u' lo hi lo' hi' a w hS _ _ _ _ .nilIface hT).mono ?_
    rintro e w' ⟨rfl, hb⟩
    exact ⟨⟨_, by rw [hE]; rfl, fun _ => (Spn.sums kA kB).least, fun h => absurd hE h⟩, hb⟩
  · (refine (add_tell d u d' u' lo hi lo' hi' a w hS false false 0 0 (errV a (twoErr ⟨d, u, lo, hi⟩ ⟨d', u', lo', hi'⟩)) (fun W h => tell_err _ d u d' u' lo hi lo' hi' a W h hE)).mono ?_)
    rintro e w' ⟨rfl, hb⟩
    exact ⟨⟨ivZ, rfl, fun h => absurd h hE, fun _ => rfl⟩, hb⟩
theorem sub_is (a : Nat → Addr) : SubC a := by
  intro d u d' u' lo hi lo' hi' w hS _ _
  by_cases hE : twoErr ⟨d, u, lo, hi⟩ ⟨d', u', lo', hi'⟩ = 0
  · obtain ⟨kA, kB⟩ := (twoErr_ok _ _).1 hE
    have eA := endR_of kA
    have eB := endR_of kB
    have hT := fun W h => tell_ok _ d u d' u' lo hi lo' hi' _ _ a W h hE sub_enters (fun W => sub1_any _ _ _ _ _ _ W eB.f.1 eB.f.2 (fun W => sums_any _ _ _ _ W (fun W => sum_c eA eB.neg W) (fun W => sum_c' eA eB.neg W))) (sumE_le eA eB.neg)
    refine (sub_tell d u d' u' lo hi lo' hi' a w hS _ _ _ _ .nilIface hT).mono ?_
    rintro e w' ⟨rfl, hb⟩
    exact ⟨⟨_, by rw [hE]; rfl, fun _ => (Spn.diffs kA kB).least, fun h => absurd hE h⟩, hb⟩
  · (refine (sub_tell d u d' u' lo hi lo' hi' a w hS false false 0 0 (errV a (twoErr ⟨d, u, lo, hi⟩ ⟨d', u', lo', hi'⟩)) (fun W h => tell_err _ d u d' u' lo hi lo' hi' a W h hE)).mono ?_)
    rintro e w' ⟨rfl, hb⟩
    exact ⟨⟨ivZ, rfl, fun h => absurd h hE, fun _ => rfl⟩, hb⟩
theorem min4_clip (x y z v : Int) : min4 (clipE x) (clipE y) (clipE z) (clipE v) = clipE (min4 x y z v) := by unfold min4; rw [min_clip, min_clip, min_clip]
theorem max4_clip (x y z v : Int) : max4 (clipE x) (clipE y) (clipE z) (clipE v) = clipE (max4 x y z v) := by unfold max4; rw [max_clip, max_clip, max_clip]
theorem mul_is (a : Nat → Addr) : MulC a := by
  intro d u d' u' lo hi lo' hi' w hS _ _
  by_cases hE : twoErr ⟨d, u, lo, hi⟩ ⟨d', u', lo', hi'⟩ = 0
  · obtain ⟨kA, kB⟩ := (twoErr_ok _ _).1 hE
    have eA := endR_of kA
    have eB := endR_of kB
    have hT := fun W h => tell_ok _ d u d' u' lo hi lo' hi' _ _ a W h hE mul_enters (fun W => products_any _ _ _ _ W eA.f.1 eA.f.2 eB.f.1 eB.f.2) (by unfold min4 max4; omega)
    rw [min4_clip, max4_clip] at hT
    refine (mul_tell d u d' u' lo hi lo' hi' a w hS _ _ _ _ .nilIface hT).mono ?_
    rintro e w' ⟨rfl, hb⟩
    exact ⟨⟨_, by rw [hE]; rfl, fun _ => (Spn.prods kA kB).clip.least, fun h => absurd hE h⟩, hb⟩
  · (refine (mul_tell d u d' u' lo hi lo' hi' a w hS false false 0 0 (errV a (twoErr ⟨d, u, lo, hi⟩ ⟨d', u', lo', hi'⟩)) (fun W h => tell_err _ d u d' u' lo hi lo' hi' a W h hE)).mono ?_)
    rintro e w' ⟨rfl, hb⟩
    exact ⟨⟨ivZ, rfl, fun h => absurd h hE, fun _ => rfl⟩, hb⟩
theorem div_is (a : Nat → Addr) : DivC a := by
  intro d u d' u' lo hi lo' hi' w hS _ _
  by_cases hE : twoErr ⟨d, u, lo, hi⟩ ⟨d', u', lo', hi'⟩ = 0
  · obtain ⟨kA, kB⟩ := (twoErr_ok _ _).1 hE
    have eA := (endR_of kA).f
    have eB := (endR_of kB).f
    have nA := (endR_of kA).neg.f
    have nB := (endR_of kB).neg.f
    have hT := fun W h => tellSome_ok _ d u d' u' lo hi lo' hi' (quL (eLo (⟨d, u, lo, hi⟩ : Iv)) (eHi (⟨d, u, lo, hi⟩ : Iv)) (eLo (⟨d', u', lo', hi'⟩ : Iv)) (eHi (⟨d', u', lo', hi'⟩ : Iv))) (quH (eLo (⟨d, u, lo, hi⟩ : Iv)) (eHi (⟨d, u, lo, hi⟩ : Iv)) (eLo (⟨d', u', lo', hi'⟩ : Iv)) (eHi (⟨d', u', lo', hi'⟩ : Iv))) a W h hE div_enters (fun W => quotients_any _ _ _ _ _ _ _ _ W eA.1 eA.2 eB.1 eB.2 (fun W => quotientsAbove_any _ _ _ _ W eA.1 eA.2 eB.1 eB.2) (fun W => quotientsAbove_any _ _ _ _ W nA.1 nA.2 nB.1 nB.2))
    refine (div_tell d u d' u' lo hi lo' hi' a w hS _ _ _ _ _ .nilIface hT).mono ?_
    rintro e w' ⟨rfl, hb⟩
    exact ⟨⟨_, _, by rw [hE]; rfl, fun _ => divS_of kA kB (Spo.quots kA kB), fun h => absurd hE h⟩, hb⟩
  · (refine (div_tell d u d' u' lo hi lo' hi' a w hS false false 0 0 false (errV a (twoErr ⟨d, u, lo, hi⟩ ⟨d', u', lo', hi'⟩)) (fun W h => tellSome_err _ d u d' u' lo hi lo' hi' a W h hE)).mono ?_)
    rintro e w' ⟨rfl, hb⟩
    exact ⟨⟨ivZ, false, rfl, fun h => absurd h hE, fun _ => ⟨rfl, rfl⟩⟩, hb⟩
theorem rem_is (a : Nat → Addr) : RemC a := by
  intro d u d' u' lo hi lo' hi' w hS _ _
  by_cases hE : twoErr ⟨d, u, lo, hi⟩ ⟨d', u', lo', hi'⟩ = 0
  · obtain ⟨kA, kB⟩ := (twoErr_ok _ _).1 hE
    have hZ : szH (eLo (⟨d', u', lo', hi'⟩ : Iv)) (eHi (⟨d', u', lo', hi'⟩ : Iv)) < szL (eLo (⟨d', u', lo', hi'⟩ : Iv)) (eHi (⟨d', u', lo', hi'⟩ : Iv)) ∨ SizR (szL (eLo (⟨d', u', lo', hi'⟩ : Iv)) (eHi (⟨d', u', lo', hi'⟩ : Iv))) (szH (eLo (⟨d', u', lo', hi'⟩ : Iv)) (eHi (⟨d', u', lo', hi'⟩ : Iv))) := by
      rcases sz_all kB with ⟨e1, e2, _⟩ | ⟨e1, _⟩
      · left; omega
      · exact .inr e1
    have hT := fun W h => tellSome_ok _ d u d' u' lo hi lo' hi' (reL (eLo (⟨d, u, lo, hi⟩ : Iv)) (eHi (⟨d, u, lo, hi⟩ : Iv)) (eLo (⟨d', u', lo', hi'⟩ : Iv)) (eHi (⟨d', u', lo', hi'⟩ : Iv))) (reH (eLo (⟨d, u, lo, hi⟩ : Iv)) (eHi (⟨d, u, lo, hi⟩ : Iv)) (eLo (⟨d', u', lo', hi'⟩ : Iv)) (eHi (⟨d', u', lo', hi'⟩ : Iv))) a W h hE rem_enters (fun W => remainders_any _ _ _ _ W (endR_of kA) (endR_of kB) hZ (fun hz => by
      have hR := ra_all (negI_ok kA) (hZ.resolve_left (by omega))
      rw [negI_lo, negI_hi] at hR
      rcases hR with ⟨r1, r2, r3⟩ | ⟨r1, r2, r3, r4, r5, r6, r7⟩ <;> omega))
    refine (rem_tell d u d' u' lo hi lo' hi' a w hS _ _ _ _ _ .nilIface hT).mono ?_
    rintro e w' ⟨rfl, hb⟩
    exact ⟨⟨_, _, by rw [hE]; rfl, fun _ => remS_of kA kB, fun h => absurd hE h⟩, hb⟩
  · (refine (rem_tell d u d' u' lo hi lo' hi' a w hS false false 0 0 false (errV a (twoErr ⟨d, u, lo, hi⟩ ⟨d', u', lo', hi'⟩)) (fun W h => tellSome_err _ d u d' u' lo hi lo' hi' a W h hE)).mono ?_)
    rintro e w' ⟨rfl, hb⟩
    exact ⟨⟨ivZ, false, rfl, fun h => absurd h hE, fun _ => ⟨rfl, rfl⟩⟩, hb⟩
end Go.Proofs.YtegibkjopkakhaaDoor
