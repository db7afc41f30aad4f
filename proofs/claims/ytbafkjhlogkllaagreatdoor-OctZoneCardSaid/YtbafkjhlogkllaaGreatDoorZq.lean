/- Zones: empty slices; is a zone of the program one of the reference? -/
import Derived.Test.YtbafkjhlogkllaaGreatDoorZo
import Derived.Test.YtbafkjhlogkllaaGreatDoorZl
namespace Go.Proofs.YtbafkjhlogkllaaGreatDoor
open Go.RowKit
set_option linter.unusedVariables false

/-- A slice of cells of one's own can be read. -/
theorem CsAt.of_own {w : World} {base : Nat} {e : TypeId} {v : Value} {n : Nat} {l : List Ce} (h : w.ownsRow base e 2 v n (cellsV l)) (hn : n = l.length) : ∃ x cap, v = .slice x n cap ∧ CsAt w x l := by
  have lt := h.lt
  obtain ⟨h1, h2⟩ := h
  rcases h2 with ⟨rfl, h0⟩ | ⟨g, cap, cur, rfl, hb, hh, r⟩
  · have : l = [] := List.eq_nil_of_length_eq_zero (by omega)
    exact ⟨none, 0, by rw [h0], .inl this⟩
  · refine ⟨some ⟨g, 0, none⟩, cap, rfl, .inr ⟨g, 0, rfl, ?_⟩⟩
    exact (RowC.of_own ⟨h1, .inr ⟨g, cap, cur, rfl, hb, hh, r⟩⟩ hn (lt g (by simp [Value.ownBlock])).2).1

set_option maxHeartbeats 2000000 in
theorem zoneOf_nil (Ni : Int) (x : Option Addr) (c : Nat) (w : World) :
    Calls Tryz.prog 7 #[(.agg #[.int .i64 Ni, (.slice x 0 c)])] w fun e w' => e = .returned (.agg #[.int .i64 Ni, (.slice none 0 0)]) ∧ Below w.heap.size w w' := by
  have s1 := (((St.start1' w).box2 24 (.int .i64 Ni) (.slice x 0 c)).box2 37 (.int .i64 0) (.slice none 0 0)).box2 37 (.int .i64 Ni) (.slice none 0 0)
  go_enter Tryz.func7, Tryz.ntmps7
  go_wp2_with fail
  refine wp_loop_rounds 1 ?_
  rw [rounds_succ]
  go_wp2_with fail
  refine bodyPost_ret (v := (.agg #[.int .i64 Ni, (.slice none 0 0)])) (by simp [results, Tryz.results7, go_sem, *]) rfl ⟨rfl, ?_⟩
  repeat' (first | exact s1.bel | refine Below.setCell ?_ (by first | (simp; done) | (simp; omega)) _ | refine Below.alloc ?_ (by first | (simp; done) | (simp; omega)) _ | exact Below.refl _ _)

theorem zoneOf_any (Ni : Int) (x : Option Addr) (c len : Nat) (l : List Ce) (w : World) (hA : CsAt w x l) (hl : Hid (len = l.length)) (hlen : len ≤ 1000) :
    Calls Tryz.prog 7 #[(.agg #[.int .i64 Ni, (.slice x len c)])] w fun e w' => ∃ y cap, e = .returned (.agg #[.int .i64 Ni, (.slice y len cap)]) ∧ CsAt w' y l ∧ Below w.heap.size w w' := by
  rcases hA with h | ⟨b, off, rfl, h⟩
  · subst h
    have : len = 0 := hl.out
    subst this
    exact (zoneOf_nil Ni x c w).mono fun _ _ ⟨h1, h2⟩ => ⟨none, 0, h1, .inl rfl, h2⟩
  · refine (zoneOf_row Ni b off c len l w h hl hlen).mono ?_
    rintro e w' ⟨v, rfl, own, hb⟩
    obtain ⟨y, cap, rfl, hy⟩ := CsAt.of_own own hl.out
    exact ⟨y, cap, rfl, hy, hb⟩

set_option maxHeartbeats 2000000 in
theorem same_unlike (x y : Option Addr) (n c n' c' : Nat) (w : World) (h : n ≠ n') :
    Calls Tryz.prog 30 #[.slice x n c, .slice y n' c'] w fun e w' => e = .returned (.bool false) ∧ w' = w := by
  have hb : ((n : Int) != (n' : Int)) = true := by simp; omega
  have hb' : ¬ n = n' := h
  go_enter Tryz.func30, Tryz.ntmps30
  go_wp2_with fail
  go_ret
  exact ⟨rfl, rfl⟩
set_option maxHeartbeats 2000000 in
theorem same_nil (x y : Option Addr) (c c' : Nat) (w : World) :
    Calls Tryz.prog 30 #[.slice x 0 c, .slice y 0 c'] w fun e w' => e = .returned (.bool true) ∧ w' = w := by
  go_enter Tryz.func30, Tryz.ntmps30
  go_wp2_with fail
  refine wp_loop_rounds 1 ?_
  rw [rounds_succ]
  go_wp2_with fail
  go_ret
  exact ⟨rfl, rfl⟩

theorem same_any (x y : Option Addr) (n c n' c' : Nat) (l m : List Ce) (w : World) (hA : CsAt w x l) (hB : CsAt w y m) (hl : Hid (n = l.length)) (hm : Hid (n' = m.length)) (hn : n ≤ 1000) :
    Calls Tryz.prog 30 #[.slice x n c, .slice y n' c'] w fun e w' => e = .returned (.bool (decide (l = m))) ∧ Below w.heap.size w w' := by
  by_cases h : n = n'
  · subst h
    rcases hA with h | ⟨b, off, rfl, h⟩
    · subst h
      have h0 : n = 0 := hl.out
      subst h0
      have : m = [] := List.eq_nil_of_length_eq_zero hm.out.symm
      subst this
      exact (same_nil x y c c' w).mono fun _ _ ⟨h1, h2⟩ => ⟨by rw [h1]; rfl, by rw [h2]; exact Below.refl _ _⟩
    · rcases hB with k | ⟨b', off', rfl, k⟩
      · subst k
        have h0 : n = 0 := hm.out
        subst h0
        have : l = [] := List.eq_nil_of_length_eq_zero hl.out.symm
        subst this
        exact (same_nil _ y c c' w).mono fun _ _ ⟨h1, h2⟩ => ⟨by rw [h1]; rfl, by rw [h2]; exact Below.refl _ _⟩
      · exact same_row b off c n b' off' c' l m w h k hl hm hn
  · refine (same_unlike x y n c n' c' w h).mono fun _ _ ⟨h1, h2⟩ => ⟨?_, by rw [h2]; exact Below.refl _ _⟩
    rw [h1, decide_eq_false]
    rintro rfl
    exact h (hl.out.trans hm.out.symm)

end Go.Proofs.YtbafkjhlogkllaaGreatDoor

/- Zones: is a zone of the program one of the reference; is it nothing? -/
namespace Go.Proofs.YtbafkjhlogkllaaGreatDoor
open Go.RowKit
set_option linter.unusedVariables false

theorem keepZ1 {w W : World} {x y : Option Addr} {l m : List Ce} (L : List (Nat × Nat × Value)) (h : CellsAnd W L (St w W (ZZ x l y m) L)) : CsAt W x l := h.last.sent.1
theorem keepZ2 {w W : World} {x y : Option Addr} {l m : List Ce} (L : List (Nat × Nat × Value)) (h : CellsAnd W L (St w W (ZZ x l y m) L)) : CsAt W y m := h.last.sent.2

end Go.Proofs.YtbafkjhlogkllaaGreatDoor
