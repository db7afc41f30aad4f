/- CongrLattice, by what is asked of the program's functions. -/
import Derived.Test.YtjimjbilmlnipaaDoorCj
import Derived.Test.YtjimjbilmlnipaaDoorCy
namespace Go.Proofs.YtjimjbilmlnipaaDoor
open Go.RowKit
set_option linter.unusedVariables false

set_option maxRecDepth 20000 in
set_option maxHeartbeats 1000000 in
theorem clat_out (a : Nat → Addr) (hT : SixthC a) (r m r' m' : Int) (w : World) (hS : ErrS w a) (E : Int) (hE : 0 < E)
    (HE : Hid (∀ W : World, Calls Tryd.prog 17 #[(.agg #[.int .i64 r, .int .i64 m]), (.agg #[.int .i64 r', .int .i64 m'])] W fun x w' => x = .returned (.int .i64 E) ∧ Below W.heap.size W w')) :
    Calls Tryd.prog 8 #[(.agg #[.int .i64 r, .int .i64 m]), (.agg #[.int .i64 r', .int .i64 m'])] w fun x w' => x = .returned (.bool true) ∧ Below w.heap.size w w' := by
  go_enter Tryd.func8, Tryd.ntmps8
  go_wp2_with fail
  have s0 := ((St.startE hS).box2 23 (.int .i64 r) (.int .i64 m)).box2 23 (.int .i64 r') (.int .i64 m')
  simp only [World.size_alloc] at s0
  refine (hT _ s0.errz).mono ?_
  (rintro x1 w1 ⟨rfl, hb⟩; have s1 := s0.call hb; have q1 := s1.hold; simp only [Holds, and_true] at q1; clear hb s0; try clear q0)
  go_wp2_with fail
  refine (HE.out _).mono ?_
  (rintro x1 w2 ⟨rfl, hb⟩; have s2 := s1.call hb; have q2 := s2.hold; simp only [Holds, and_true] at q2; clear hb s1; try clear q1)
  go_wp2_with fail
  go_ret
  exact ⟨ret_bool (by simp), s2.bel⟩

theorem calls_some {P : Program} {f : FuncId} {args : Array Value} {w : World} {R : Ending → World → Prop} (h : Calls P f args w R) : ∃ e w', R e w' := by
  obtain ⟨e, w', _, h, _⟩ := h []
  exact ⟨e, w', h⟩

theorem congrLattice_by (a : Nat → Addr) (hT : SixthC a) (hJ : CJoinC a) (hM : CMeetC a) (hW : CWithinC a) (hA : CAddC a) (hP : CMulC a) (hZ : CSubC a) (hH : CHasC a) (r m r' m' : Int) (w : World) (hS : ErrS w a) (r1 : (-9223372036854775808 ≤ r ∧ r ≤ 9223372036854775807) ∧ (-9223372036854775808 ≤ m ∧ m ≤ 9223372036854775807)) (r2 : (-9223372036854775808 ≤ r' ∧ r' ≤ 9223372036854775807) ∧ (-9223372036854775808 ≤ m' ∧ m' ≤ 9223372036854775807)) :
    Calls Tryd.prog 8 #[(.agg #[.int .i64 r, .int .i64 m]), (.agg #[.int .i64 r', .int .i64 m'])] w fun x w' => x = .returned (.bool true) ∧ Below w.heap.size w w' := by
  have hr := twoC_range ⟨r, m⟩ ⟨r', m'⟩
  by_cases h0 : twoC ⟨r, m⟩ ⟨r', m'⟩ = 0
  · obtain ⟨o1, o2⟩ := (twoC_ok _ _).1 h0
    have h0' : twoC ⟨r', m'⟩ ⟨r, m⟩ = 0 := (twoC_ok _ _).2 ⟨o2, o1⟩
    have h0a : twoC ⟨r, m⟩ ⟨r, m⟩ = 0 := (twoC_ok _ _).2 ⟨o1, o1⟩
    -- a function whose answer is in form
    have op : ∀ (F : Nat) (R M : Cg → Cg → Int), COpC F R M a → ∀ (p q p' q' : Int), okC ⟨p, q⟩ → okC ⟨p', q'⟩ → ∀ W : World, ErrS W a → Calls Tryd.prog F #[(.agg #[.int .i64 p, .int .i64 q]), (.agg #[.int .i64 p', .int .i64 q'])] W fun x w' => x = .returned (.tuple #[(formC (R ⟨p, q⟩ ⟨p', q'⟩) (M ⟨p, q⟩ ⟨p', q'⟩)).v, .nilIface]) ∧ Below W.heap.size W w' := by
      intro F R M h p q p' q' k1 k2 W hs
      have := h p q p' q' W hs (okC_r k1) (okC_r k2)
      rw [(twoC_ok _ _).2 ⟨k1, k2⟩, if_pos rfl] at this
      exact this
    have wi : ∀ (p q p' q' : Int) (b : Bool), okC ⟨p, q⟩ → okC ⟨p', q'⟩ → decide (q' ∣ q ∧ q' ∣ p - p') = b → ∀ W : World, ErrS W a → Calls Tryd.prog 18 #[(.agg #[.int .i64 p, .int .i64 q]), (.agg #[.int .i64 p', .int .i64 q'])] W fun x w' => x = .returned (.tuple #[.bool b, .nilIface]) ∧ Below W.heap.size W w' := by
      intro p q p' q' b k1 k2 hb W hs
      have := hW p q p' q' W hs (okC_r k1) (okC_r k2)
      rw [(twoC_ok _ _).2 ⟨k1, k2⟩, hb] at this
      exact this
    obtain ⟨g3, hg3⟩ : ∃ g : Nat, g = Int.gcd (Int.gcd m m') (r - r') := ⟨_, rfl⟩
    obtain ⟨⟨jr, jm⟩, hj⟩ : ∃ J, J = formC r g3 := ⟨_, rfl⟩
    obtain ⟨d1, d2, d3⟩ := gcd3_dvd.1 (show (g3 : Int) ∣ (Int.gcd (Int.gcd m m') (r - r') : Int) by rw [← hg3]; exact Int.dvd_refl _)
    have oJ : okC ⟨jr, jm⟩ := by rw [hj]; exact formC_ok _ _
    have jd : ∀ z : Int, (g3 : Int) ∣ z → jm ∣ z := fun z hz => by have := formC_dvd r g3 hz; rw [← hj] at this; exact this
    have jrest : jm ∣ r - jr := by have := formC_rest r g3; rw [← hj] at this; exact this
    obtain ⟨⟨pr, pm⟩, is, hMS⟩ : ∃ P is, MeetS ⟨r, m⟩ ⟨r', m'⟩ P is := by
      obtain ⟨_, _, ⟨P, b, _, h1, _⟩, _⟩ := calls_some (hM r m r' m' w hS r1 r2)
      exact ⟨P, b, h1 h0⟩
    have oP : is = true → okC ⟨pr, pm⟩ := by
      intro hi
      by_cases hl : Int.lcm m m' ≤ 1048576
      · exact (hMS.fit hi hl).1
      · rw [hMS.great hi (by show 1048576 < Int.lcm m m'; omega)]; exact o1
    obtain ⟨⟨sr, sm⟩, hs⟩ : ∃ S, S = formC (r + r') (Int.gcd m m') := ⟨_, rfl⟩
    obtain ⟨⟨tr, tm⟩, ht⟩ : ∃ S, S = formC (r * r') (Int.gcd (Int.gcd (m * m') (m * r')) (r * m')) := ⟨_, rfl⟩
    obtain ⟨⟨zr, zm⟩, hz⟩ : ∃ S, S = formC (r - r) (Int.gcd m m) := ⟨_, rfl⟩
    refine clat_walk a hT r m r' m' w hS jr jm pr pm sr sm tr tm zr zm is (decide (m' ∣ pm ∧ m' ∣ pr - r')) ?_ ?_ ?_ ?_ ?_ ?_ ?_ ?_ ?_ ?_ ?_ ?_ ?_ ?_
    · intro W; have := twoC_any r m r' m' W; rw [h0] at this; exact this
    · intro W hs; have := op _ _ _ hJ r m r' m' o1 o2 W hs; dsimp only at this; rw [← hg3, ← hj] at this; exact this
    · intro W hs
      refine (hM r m r' m' W hs r1 r2).mono ?_
      rintro e w' ⟨⟨R, b, rfl, k, _⟩, hb⟩
      obtain ⟨rfl, rfl⟩ := (k h0).unique hMS
      rw [h0]; exact ⟨rfl, hb⟩
    · exact wi r m jr jm true o1 oJ (decide_eq_true ⟨jd m d1, jrest⟩)
    · refine wi r' m' jr jm true o2 oJ (decide_eq_true ⟨jd m' d2, ?_⟩)
      have := Int.dvd_sub jrest (jd _ d3)
      rwa [show r - jr - (r - r') = r' - jr by omega] at this
    · intro hi
      refine wi pr pm r m true (oP hi) o1 (decide_eq_true ?_)
      by_cases hl : Int.lcm m m' ≤ 1048576
      · exact inC_sub (R := ⟨pr, pm⟩) (A := ⟨r, m⟩) fun n hn => (((hMS.fit hi hl).2 n).1 hn).1
      · obtain ⟨rfl, rfl⟩ := Cg.mk.inj (hMS.great hi (by show 1048576 < Int.lcm m m'; omega))
        exact ⟨Int.dvd_refl _, by simp⟩
    · intro hi
      exact wi pr pm r' m' _ (oP hi) o2 rfl
    · intro hi hb
      by_cases hl : Int.lcm m m' ≤ 1048576
      · have := inC_sub (R := ⟨pr, pm⟩) (A := ⟨r', m'⟩) fun n hn => (((hMS.fit hi hl).2 n).1 hn).2
        exact absurd this (of_decide_eq_false hb)
      · exact Cg.mk.inj (hMS.great hi (by show 1048576 < Int.lcm m m'; omega))
    · intro W hs'; have := op _ _ _ hA r m r' m' o1 o2 W hs'; dsimp only at this; rw [← hs] at this; exact this
    · intro W hs'; have := op _ _ _ hA r' m' r m o2 o1 W hs'; dsimp only at this; rw [Int.gcd_comm m' m, Int.add_comm r' r, ← hs] at this; exact this
    · intro W hs'; have := op _ _ _ hP r m r' m' o1 o2 W hs'; dsimp only at this; rw [← ht] at this; exact this
    · intro W hs'
      have := op _ _ _ hP r' m' r m o2 o1 W hs'
      dsimp only at this
      have e : Int.gcd (Int.gcd (m' * m) (m' * r)) (r' * m) = Int.gcd (Int.gcd (m * m') (m * r')) (r * m') := by
        apply same_dvd
        intro d
        rw [gcd3_dvd, gcd3_dvd, Int.mul_comm m' m, Int.mul_comm m' r, Int.mul_comm r' m]
        constructor
        · rintro ⟨x, y, z⟩; exact ⟨x, z, y⟩
        · rintro ⟨x, y, z⟩; exact ⟨x, z, y⟩
      rw [e, Int.mul_comm r' r, ← ht] at this
      exact this
    · intro W hs'; have := op _ _ _ hZ r m r m o1 o1 W hs'; dsimp only at this; rw [← hz] at this; exact this
    · intro W hs'
      have oZ : okC ⟨zr, zm⟩ := by rw [hz]; exact formC_ok _ _
      refine (hH zr zm 0 W hs' (okC_r oZ) (by omega)).mono ?_
      rintro e w' ⟨rfl, hb⟩
      rw [(okC_iff ⟨zr, zm⟩).2 oZ]
      refine ⟨?_, hb⟩
      have hd : zm ∣ 0 - zr := by
        have := formC_rest (r - r) (Int.gcd m m)
        rw [← hz, show r - r = 0 by omega] at this; exact this
      rw [show inCB ⟨zr, zm⟩ 0 = true from decide_eq_true hd]; rfl
  · refine clat_out a hT r m r' m' w hS (twoC ⟨r, m⟩ ⟨r', m'⟩) (by omega) ?_
    intro W; exact twoC_any r m r' m' W

end Go.Proofs.YtjimjbilmlnipaaDoor
