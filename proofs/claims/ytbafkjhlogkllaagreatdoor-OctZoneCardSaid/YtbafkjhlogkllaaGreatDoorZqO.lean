/- Zones: empty slices; is a zone of the program one of the reference? -/
import Derived.Test.YtbafkjhlogkllaaGreatDoorZoO
import Derived.Test.YtbafkjhlogkllaaGreatDoorZlO
namespace Go.Proofs.YtbafkjhlogkllaaGreatDoor.Oc
open Go.RowKit
set_option linter.unusedVariables false

/-- A slice of cells of one's own can be read. -/
theorem CsAt.of_own {w : World} {base : Nat} {e : TypeId} {v : Value} {n : Nat} {l : List Ce} (h : w.ownsRow base e 2 v n (cellsV l)) (hn : n = l.length) : ∃ x cap, v = .slice x n cap ∧ CsAt w x l := by
  have lt := h.lt
  obtain ⟨h1, h2⟩ := h
  rcases h2 with ⟨rfl, h0⟩ | ⟨g, cap, cur, rfl, hb, hh, r⟩
  · have : l = [] := List.eq_nil_of_length_eq_zero (by omega)
    exact ⟨none, 0, by rw [h0], .inl this⟩
  · refine ⟨some ⟨g, 0, none⟩, cap, rfl, .inr ⟨g, 0, rfl, ?_⟩⟩
    exact (RowC.of_own ⟨h1, .inr ⟨g, cap, cur, rfl, hb, hh, r⟩⟩ hn (lt g (by simp [Value.ownBlock])).2).1

set_option maxHeartbeats 2000000 in
theorem zoneBack_nil (Ni : Int) (x : Option Addr) (c : Nat) (w : World) :
    Calls Tryz.prog 31 #[(.agg #[.int .i64 Ni, (.slice x 0 c)])] w fun e w' => e = .returned (.agg #[.int .i64 Ni, (.slice none 0 0)]) ∧ Below w.heap.size w w' := by
  have s1 := (((St.start1' w).box2 30 (.int .i64 Ni) (.slice x 0 c)).box2 42 (.int .i64 0) (.slice none 0 0)).box2 42 (.int .i64 Ni) (.slice none 0 0)
  go_enter Tryz.func31, Tryz.ntmps31
  go_wp2_with fail
  refine wp_loop_rounds 1 ?_
  rw [rounds_succ]
  go_wp2_with fail
  refine bodyPost_ret (v := (.agg #[.int .i64 Ni, (.slice none 0 0)])) (by simp [results, Tryz.results31, go_sem, *]) rfl ⟨rfl, ?_⟩
  repeat' (first | exact s1.bel | refine Below.setCell ?_ (by first | (simp; done) | (simp; omega)) _ | refine Below.alloc ?_ (by first | (simp; done) | (simp; omega)) _ | exact Below.refl _ _)

theorem zoneBack_any (Ni : Int) (x : Option Addr) (c len : Nat) (l : List Ce) (w : World) (hA : CsAt w x l) (hl : Hid (len = l.length)) (hlen : len ≤ 1000) :
    Calls Tryz.prog 31 #[(.agg #[.int .i64 Ni, (.slice x len c)])] w fun e w' => ∃ y cap, e = .returned (.agg #[.int .i64 Ni, (.slice y len cap)]) ∧ CsAt w' y l ∧ Below w.heap.size w w' := by
  rcases hA with h | ⟨b, off, rfl, h⟩
  · subst h
    have : len = 0 := hl.out
    subst this
    exact (zoneBack_nil Ni x c w).mono fun _ _ ⟨h1, h2⟩ => ⟨none, 0, h1, .inl rfl, h2⟩
  · refine (zoneBack_row Ni b off c len l w h hl hlen).mono ?_
    rintro e w' ⟨v, rfl, own, hb⟩
    obtain ⟨y, cap, rfl, hy⟩ := CsAt.of_own own hl.out
    exact ⟨y, cap, rfl, hy, hb⟩

set_option maxHeartbeats 2000000 in
theorem same_unlike (x y : Option Addr) (n c n' c' : Nat) (w : World) (h : n ≠ n') :
    Calls Tryz.prog 30 #[.slice x n c, .slice y n' c'] w fun e w' => e = .returned (.bool false) ∧ w' = w := by
  have hb : ((n : Int) != (n' : Int)) = true := by simp; omega
  have hb' : ¬ n = n' := h
  go_enter Tryz.func30, Tryz.ntmps30
  go_wp2_with fail
  go_ret
  exact ⟨rfl, rfl⟩
set_option maxHeartbeats 2000000 in
theorem same_nil (x y : Option Addr) (c c' : Nat) (w : World) :
    Calls Tryz.prog 30 #[.slice x 0 c, .slice y 0 c'] w fun e w' => e = .returned (.bool true) ∧ w' = w := by
  go_enter Tryz.func30, Tryz.ntmps30
  go_wp2_with fail
  refine wp_loop_rounds 1 ?_
  rw [rounds_succ]
  go_wp2_with fail
  go_ret
  exact ⟨rfl, rfl⟩

theorem same_any (x y : Option Addr) (n c n' c' : Nat) (l m : List Ce) (w : World) (hA : CsAt w x l) (hB : CsAt w y m) (hl : Hid (n = l.length)) (hm : Hid (n' = m.length)) (hn : n ≤ 1000) :
    Calls Tryz.prog 30 #[.slice x n c, .slice y n' c'] w fun e w' => e = .returned (.bool (decide (l = m))) ∧ Below w.heap.size w w' := by
  by_cases h : n = n'
  · subst h
    rcases hA with h | ⟨b, off, rfl, h⟩
    · subst h
      have h0 : n = 0 := hl.out
      subst h0
      have : m = [] := List.eq_nil_of_length_eq_zero hm.out.symm
      subst this
      exact (same_nil x y c c' w).mono fun _ _ ⟨h1, h2⟩ => ⟨by rw [h1]; rfl, by rw [h2]; exact Below.refl _ _⟩
    · rcases hB with k | ⟨b', off', rfl, k⟩
      · subst k
        have h0 : n = 0 := hm.out
        subst h0
        have : l = [] := List.eq_nil_of_length_eq_zero hl.out.symm
        subst this
        exact (same_nil _ y c c' w).mono fun _ _ ⟨h1, h2⟩ => ⟨by rw [h1]; rfl, by rw [h2]; exact Below.refl _ _⟩
      · exact same_row b off c n b' off' c' l m w h k hl hm hn
  · refine (same_unlike x y n c n' c' w h).mono fun _ _ ⟨h1, h2⟩ => ⟨?_, by rw [h2]; exact Below.refl _ _⟩
    rw [h1, decide_eq_false]
    rintro rfl
    exact h (hl.out.trans hm.out.symm)

end Go.Proofs.YtbafkjhlogkllaaGreatDoor.Oc

/- Zones: is a zone of the program one of the reference; is it nothing? -/
namespace Go.Proofs.YtbafkjhlogkllaaGreatDoor.Oc
open Go.RowKit
set_option linter.unusedVariables false

theorem keepZ1 {w W : World} {x y : Option Addr} {l m : List Ce} (L : List (Nat × Nat × Value)) (h : CellsAnd W L (St w W (ZZ x l y m) L)) : CsAt W x l := h.last.sent.1
theorem keepZ2 {w W : World} {x y : Option Addr} {l m : List Ce} (L : List (Nat × Nat × Value)) (h : CellsAnd W L (St w W (ZZ x l y m) L)) : CsAt W y m := h.last.sent.2

set_option maxRecDepth 20000 in
set_option maxHeartbeats 4000000 in
theorem isZone_any (N M : Int) (x y : Option Addr) (n c n' c' : Nat) (l m : List Ce) (w : World) (hA : CsAt w x l) (hB : CsAt w y m) (hl : Hid (n = l.length)) (hm : Hid (n' = m.length)) (hn : n ≤ 1000) :
    Calls Tryz.prog 14 #[(.agg #[.int .i64 N, (.slice x n c)]), (.agg #[.int .i64 M, (.slice y n' c')])] w fun e w' => e = .returned (.bool (decide (N = M) && decide (l = m))) ∧ Below w.heap.size w w' := by
  obtain ⟨d, hd⟩ : ∃ d, d = decide (l = m) := ⟨_, rfl⟩
  rw [← hd]
  have s0 := ((St.startZ hA hB).box2 30 (.int .i64 N) (.slice x n c)).box2 42 (.int .i64 M) (.slice y n' c')
  simp only [World.size_alloc] at s0
  have q0 := s0.hold
  simp only [Holds, and_true] at q0
  have HZ : Hid (∀ W : World, CsAt W x l → Calls Tryz.prog 31 #[(.agg #[.int .i64 N, (.slice x n c)])] W fun e w' => ∃ z cap, e = .returned (.agg #[.int .i64 N, (.slice z n cap)]) ∧ CsAt w' z l ∧ Below W.heap.size W w') := fun W h => zoneBack_any N x c n l W h hl hn
  have HS : Hid (∀ (W : World) (z : Option Addr) (cap : Nat), CsAt W z l → CsAt W y m → Calls Tryz.prog 30 #[.slice z n cap, .slice y n' c'] W fun e w' => e = .returned (.bool d) ∧ Below W.heap.size W w') := fun W z cap h k => by rw [hd]; exact same_any z y n cap n' c' l m W h k hl hm hn
  have hfd : ∀ (z : Option Addr) (cap : Nat) (W : World), (Instr.field 42 (.agg #[.int .i64 N, .slice z n cap]) 1).run Tryz.prog W = .ok (.slice z n cap) W := fun _ _ _ => by kernel_rfl
  clear hA hB hd q0
  by_cases hNM : N = M
  · subst hNM
    go_enter Tryz.func14, Tryz.ntmps14
    go_wp2_with fail
    go_region_held3 (fun w' => w'.cell? ⟨w.heap.size + 1, 0, none⟩ = some (.int .i64 N) ∧ w'.cell? ⟨w.heap.size + 1, 1, none⟩ = some (.slice y n' c') ∧ w'.cell? ⟨w.heap.size, 0, none⟩ = some (.int .i64 N) ∧ w'.cell? ⟨w.heap.size, 1, none⟩ = some (.slice x n c) ∧ St w w' (ZZ x l y m) ((w.heap.size + 1, 0, Value.int .i64 N) :: (w.heap.size + 1, 1, Value.slice y n' c') :: (w.heap.size, 0, Value.int .i64 N) :: (w.heap.size, 1, Value.slice x n c) :: [])) (first | (exact keepSt0 ((w.heap.size + 1, 0, Value.int .i64 N) :: (w.heap.size + 1, 1, Value.slice y n' c') :: (w.heap.size, 0, Value.int .i64 N) :: (w.heap.size, 1, Value.slice x n c) :: []) s0.drew) | (exact keepSt ((w.heap.size + 1, 0, Value.int .i64 N) :: (w.heap.size + 1, 1, Value.slice y n' c') :: (w.heap.size, 0, Value.int .i64 N) :: (w.heap.size, 1, Value.slice x n c) :: []) (by assumption) (by assumption)) | assumption)
      (first
        | (go_at_call 31; refine (HZ.out _ (keepZ1 (w := w) (x := x) (y := y) (l := l) (m := m) ((w.heap.size + 1, 0, Value.int .i64 N) :: (w.heap.size + 1, 1, Value.slice y n' c') :: (w.heap.size, 0, Value.int .i64 N) :: (w.heap.size, 1, Value.slice x n c) :: []) (by assumption))).mono ?_; rintro e w2 ⟨z, cap, rfl, hcz, hb2⟩; have s2 := (keepSt_st (w := w) (Z := ZZ x l y m) ((w.heap.size + 1, 0, Value.int .i64 N) :: (w.heap.size + 1, 1, Value.slice y n' c') :: (w.heap.size, 0, Value.int .i64 N) :: (w.heap.size, 1, Value.slice x n c) :: []) (by assumption)).call hb2)
        | (go_at_call 30; refine (HS.out _ z cap hcz s2.sent.2).mono ?_; rintro e w3 ⟨rfl, hb3⟩; have s3 := s2.call hb3))
    all_goals
      go_wp2_with fail
      go_ret
      exact ⟨ret_bool (by simp), s3.bel⟩
  · have hb : (N == M) = false := by simp [hNM]
    have hdd : decide (N = M) = false := decide_eq_false hNM
    rw [hdd, Bool.false_and]
    go_enter Tryz.func14, Tryz.ntmps14
    go_wp2_with fail
    go_quiet (fail)
    go_wp2_with fail
    go_ret
    exact ⟨rfl, belowN s0.bel _⟩

set_option maxHeartbeats 1000000 in
theorem noZone_any (N : Int) (x : Option Addr) (n c : Nat) (w : World) :
    Calls Tryz.prog 9 #[(.agg #[.int .i64 N, (.slice x n c)])] w fun e w' => e = .returned (.bool (decide (N = 0) && decide (n = 0))) ∧ Below w.heap.size w w' := by
  have hb : Below w.heap.size w (w.alloc (.cells #[.int .i64 N, .slice x n c] 30)) := (Below.refl _ _).alloc (Nat.le_refl _) _
  by_cases h1 : N = 0
  · subst h1
    by_cases h2 : n = 0
    · subst h2
      go_enter Tryz.func9, Tryz.ntmps9
      go_wp2_with fail
      go_ret
      exact ⟨ret_bool (by simp), hb⟩
    · have h2b : ((n : Int) == 0) = false := by simp [h2]
      go_enter Tryz.func9, Tryz.ntmps9
      go_wp2_with fail
      go_ret
      exact ⟨ret_bool (by simp [h2]), hb⟩
  · have h1b : (N == 0) = false := by simp [h1]
    go_enter Tryz.func9, Tryz.ntmps9
    go_wp2_with fail
    go_ret
    exact ⟨ret_bool (by simp [h1]), hb⟩

end Go.Proofs.YtbafkjhlogkllaaGreatDoor.Oc
