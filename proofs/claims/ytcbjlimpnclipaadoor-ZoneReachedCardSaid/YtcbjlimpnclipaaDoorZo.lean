/- Zones: the first error of two: the reference. -/
import Derived.Test.YtcbjlimpnclipaaDoorZn
import Derived.Test.YtcbjlimpnclipaaDoorKu
namespace Go.Proofs.YtcbjlimpnclipaaDoor
open Go.RowKit
set_option linter.unusedVariables false

def twoZ (N : Int) (l : List Ce) (M : Int) (m : List Ce) : Int := if zoErr N l = 0 then (if zoErr M m = 0 then (if N = M then 0 else 3) else zoErr M m) else zoErr N l
theorem twoZ_range (N : Int) (l : List Ce) (M : Int) (m : List Ce) : 0 ≤ twoZ N l M m ∧ twoZ N l M m ≤ 8 := by
  have h1 := zoErr_range N l
  have h2 := zoErr_range M m
  unfold twoZ
  split
  · split
    · split <;> omega
    · omega
  · omega

/-- Two slices of cells are kept. -/
def ZZ (x : Option Addr) (l : List Ce) (y : Option Addr) (m : List Ce) (W : World) : Prop := CsAt W x l ∧ CsAt W y m
theorem St.startZ {w : World} {x y : Option Addr} {l m : List Ce} (h : CsAt w x l) (k : CsAt w y m) : St w w (ZZ x l y m) [] :=
  ⟨Below.refl _ _, trivial, ⟨h, k⟩, fun _ _ q hb => ⟨h.stays q.1 hb, k.stays q.2 hb⟩⟩

set_option maxRecDepth 20000 in
set_option maxHeartbeats 2000000 in
theorem twoZones_any (N M : Int) (x y : Option Addr) (c n c' n' : Nat) (l m : List Ce) (w : World) (hN : (-9223372036854775808 ≤ N ∧ N ≤ 9223372036854775807)) (hM : (-9223372036854775808 ≤ M ∧ M ≤ 9223372036854775807)) (hA : CsAt w x l) (hB : CsAt w y m) (hl : Hid (n = l.length)) (hm : Hid (n' = m.length)) (hn : n ≤ 1000) (hn' : n' ≤ 1000) :
    Calls Tryd.prog 23 #[(.agg #[.int .i64 N, (.slice x n c)]), (.agg #[.int .i64 M, (.slice y n' c')])] w fun e w' => e = .returned (.int .i64 (twoZ N l M m)) ∧ Below w.heap.size w w' := by
  obtain ⟨e1, he1⟩ : ∃ e, e = zoErr N l := ⟨_, rfl⟩
  obtain ⟨e2, he2⟩ : ∃ e, e = zoErr M m := ⟨_, rfl⟩
  have H1 : Hid (∀ W : World, CsAt W x l → Calls Tryd.prog 10 #[(.agg #[.int .i64 N, (.slice x n c)])] W fun e w' => e = .returned (.int .i64 e1) ∧ Below W.heap.size W w') := fun W h => by rw [he1]; exact zoneError_any N x c n l W hN h hl hn
  have H2 : Hid (∀ W : World, CsAt W y m → Calls Tryd.prog 10 #[(.agg #[.int .i64 M, (.slice y n' c')])] W fun e w' => e = .returned (.int .i64 e2) ∧ Below W.heap.size W w') := fun W h => by rw [he2]; exact zoneError_any M y c' n' m W hM h hm hn'
  obtain ⟨r, hr⟩ : ∃ r, r = twoZ N l M m := ⟨_, rfl⟩
  have Hr : Hid (r = if e1 = 0 then (if e2 = 0 then (if N = M then 0 else 3) else e2) else e1) := by show _ = _; rw [hr, he1, he2]; rfl
  rw [← hr]
  clear hr he1 he2
  have s0 := ((St.startZ hA hB).box2 24 (.int .i64 N) (.slice x n c)).box2 24 (.int .i64 M) (.slice y n' c')
  simp only [World.size_alloc] at s0
  clear hA hB
  by_cases h1 : e1 = 0
  · subst h1
    by_cases h2 : e2 = 0
    · subst h2
      by_cases h3 : N = M
      · subst h3
        have e : Hid (r = 0) := by show _ = _; rw [Hr.out]; simp
        clear Hr
        go_enter Tryd.func23, Tryd.ntmps23
        go_wp2_with fail
        refine (H1.out _ s0.sent.1).mono ?_
        (rintro x1 w1 ⟨rfl, hb⟩; have s1 := s0.call hb; have q1 := s1.hold; simp only [Holds, and_true] at q1; clear hb; try clear q0)
        go_wp2_with fail
        refine (H2.out _ s1.sent.2).mono ?_
        (rintro x1 w2 ⟨rfl, hb⟩; have s2 := s1.call hb; have q2 := s2.hold; simp only [Holds, and_true] at q2; clear hb; try clear q1)
        go_wp2_with fail
        go_ret
        exact ⟨ret_int (by rw [e.out]), s2.bel⟩
      · have e : Hid (r = 3) := by show _ = _; rw [Hr.out]; simp [h3]
        have hb3 : (N != M) = true := by simp [h3]
        clear Hr
        go_enter Tryd.func23, Tryd.ntmps23
        go_wp2_with fail
        refine (H1.out _ s0.sent.1).mono ?_
        (rintro x1 w1 ⟨rfl, hb⟩; have s1 := s0.call hb; have q1 := s1.hold; simp only [Holds, and_true] at q1; clear hb; try clear q0)
        go_wp2_with fail
        refine (H2.out _ s1.sent.2).mono ?_
        (rintro x1 w2 ⟨rfl, hb⟩; have s2 := s1.call hb; have q2 := s2.hold; simp only [Holds, and_true] at q2; clear hb; try clear q1)
        go_wp2_with fail
        go_ret
        exact ⟨ret_int (by rw [e.out]), s2.bel⟩
    · have e : Hid (r = e2) := by show _ = _; rw [Hr.out]; simp [h2]
      have hb2 : (e2 == 0) = false := by simp [h2]
      clear Hr
      go_enter Tryd.func23, Tryd.ntmps23
      go_wp2_with fail
      refine (H1.out _ s0.sent.1).mono ?_
      (rintro x1 w1 ⟨rfl, hb⟩; have s1 := s0.call hb; have q1 := s1.hold; simp only [Holds, and_true] at q1; clear hb; try clear q0)
      go_wp2_with fail
      refine (H2.out _ s1.sent.2).mono ?_
      (rintro x1 w2 ⟨rfl, hb⟩; have s2 := s1.call hb; have q2 := s2.hold; simp only [Holds, and_true] at q2; clear hb; try clear q1)
      go_wp2_with fail
      go_ret
      exact ⟨ret_int (by rw [e.out]), s2.bel⟩
  · have e : Hid (r = e1) := by show _ = _; rw [Hr.out]; simp [h1]
    have hb1 : (e1 == 0) = false := by simp [h1]
    clear Hr
    go_enter Tryd.func23, Tryd.ntmps23
    go_wp2_with fail
    refine (H1.out _ s0.sent.1).mono ?_
    (rintro x1 w1 ⟨rfl, hb⟩; have s1 := s0.call hb; have q1 := s1.hold; simp only [Holds, and_true] at q1; clear hb; try clear q0)
    go_wp2_with fail
    go_ret
    exact ⟨ret_int (by rw [e.out]), s1.bel⟩

end Go.Proofs.YtcbjlimpnclipaaDoor
