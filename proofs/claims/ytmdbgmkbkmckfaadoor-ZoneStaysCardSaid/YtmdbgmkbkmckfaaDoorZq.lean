/- Zones: is a zone of the program one of the reference; is it nothing? -/
import Derived.Test.YtmdbgmkbkmckfaaDoorZp
namespace Go.Proofs.YtmdbgmkbkmckfaaDoor
open Go.RowKit
set_option linter.unusedVariables false

theorem keepZ1 {w W : World} {x y : Option Addr} {l m : List Ce} (L : List (Nat × Nat × Value)) (h : CellsAnd W L (St w W (ZZ x l y m) L)) : CsAt W x l := h.last.sent.1
theorem keepZ2 {w W : World} {x y : Option Addr} {l m : List Ce} (L : List (Nat × Nat × Value)) (h : CellsAnd W L (St w W (ZZ x l y m) L)) : CsAt W y m := h.last.sent.2

set_option maxRecDepth 20000 in
set_option maxHeartbeats 4000000 in
theorem isZone_any (N M : Int) (x y : Option Addr) (n c n' c' : Nat) (l m : List Ce) (w : World) (hA : CsAt w x l) (hB : CsAt w y m) (hl : Hid (n = l.length)) (hm : Hid (n' = m.length)) (hn : n ≤ 1000) :
    Calls Tryd.prog 20 #[(.agg #[.int .i64 N, (.slice x n c)]), (.agg #[.int .i64 M, (.slice y n' c')])] w fun e w' => e = .returned (.bool (decide (N = M) && decide (l = m))) ∧ Below w.heap.size w w' := by
  obtain ⟨d, hd⟩ : ∃ d, d = decide (l = m) := ⟨_, rfl⟩
  rw [← hd]
  have s0 := ((St.startZ hA hB).box2 30 (.int .i64 N) (.slice x n c)).box2 24 (.int .i64 M) (.slice y n' c')
  simp only [World.size_alloc] at s0
  have q0 := s0.hold
  simp only [Holds, and_true] at q0
  have HZ : Hid (∀ W : World, CsAt W x l → Calls Tryd.prog 23 #[(.agg #[.int .i64 N, (.slice x n c)])] W fun e w' => ∃ z cap, e = .returned (.agg #[.int .i64 N, (.slice z n cap)]) ∧ CsAt w' z l ∧ Below W.heap.size W w') := fun W h => zoneBack_any N x c n l W h hl hn
  have HS : Hid (∀ (W : World) (z : Option Addr) (cap : Nat), CsAt W z l → CsAt W y m → Calls Tryd.prog 43 #[.slice z n cap, .slice y n' c'] W fun e w' => e = .returned (.bool d) ∧ Below W.heap.size W w') := fun W z cap h k => by rw [hd]; exact same_any z y n cap n' c' l m W h k hl hm hn
  have hfd : ∀ (z : Option Addr) (cap : Nat) (W : World), (Instr.field 24 (.agg #[.int .i64 N, .slice z n cap]) 1).run Tryd.prog W = .ok (.slice z n cap) W := fun _ _ _ => by kernel_rfl
  clear hA hB hd q0
  by_cases hNM : N = M
  · subst hNM
    go_enter Tryd.func20, Tryd.ntmps20
    go_wp2_with fail
    go_region_held3 (fun w' => w'.cell? ⟨w.heap.size + 1, 0, none⟩ = some (.int .i64 N) ∧ w'.cell? ⟨w.heap.size + 1, 1, none⟩ = some (.slice y n' c') ∧ w'.cell? ⟨w.heap.size, 0, none⟩ = some (.int .i64 N) ∧ w'.cell? ⟨w.heap.size, 1, none⟩ = some (.slice x n c) ∧ St w w' (ZZ x l y m) ((w.heap.size + 1, 0, Value.int .i64 N) :: (w.heap.size + 1, 1, Value.slice y n' c') :: (w.heap.size, 0, Value.int .i64 N) :: (w.heap.size, 1, Value.slice x n c) :: [])) (first | (exact keepSt0 ((w.heap.size + 1, 0, Value.int .i64 N) :: (w.heap.size + 1, 1, Value.slice y n' c') :: (w.heap.size, 0, Value.int .i64 N) :: (w.heap.size, 1, Value.slice x n c) :: []) s0.drew) | (exact keepSt ((w.heap.size + 1, 0, Value.int .i64 N) :: (w.heap.size + 1, 1, Value.slice y n' c') :: (w.heap.size, 0, Value.int .i64 N) :: (w.heap.size, 1, Value.slice x n c) :: []) (by assumption) (by assumption)) | assumption)
      (first
        | (go_at_call 23; refine (HZ.out _ (keepZ1 (w := w) (x := x) (y := y) (l := l) (m := m) ((w.heap.size + 1, 0, Value.int .i64 N) :: (w.heap.size + 1, 1, Value.slice y n' c') :: (w.heap.size, 0, Value.int .i64 N) :: (w.heap.size, 1, Value.slice x n c) :: []) (by assumption))).mono ?_; rintro e w2 ⟨z, cap, rfl, hcz, hb2⟩; have s2 := (keepSt_st (w := w) (Z := ZZ x l y m) ((w.heap.size + 1, 0, Value.int .i64 N) :: (w.heap.size + 1, 1, Value.slice y n' c') :: (w.heap.size, 0, Value.int .i64 N) :: (w.heap.size, 1, Value.slice x n c) :: []) (by assumption)).call hb2)
        | (go_at_call 43; refine (HS.out _ z cap hcz s2.sent.2).mono ?_; rintro e w3 ⟨rfl, hb3⟩; have s3 := s2.call hb3))
    all_goals
      go_wp2_with fail
      go_ret
      exact ⟨ret_bool (by simp), s3.bel⟩
  · have hb : (N == M) = false := by simp [hNM]
    have hdd : decide (N = M) = false := decide_eq_false hNM
    rw [hdd, Bool.false_and]
    go_enter Tryd.func20, Tryd.ntmps20
    go_wp2_with fail
    go_quiet (fail)
    go_wp2_with fail
    go_ret
    exact ⟨rfl, belowN s0.bel _⟩

set_option maxHeartbeats 1000000 in
theorem noZone_any (N : Int) (x : Option Addr) (n c : Nat) (w : World) :
    Calls Tryd.prog 17 #[(.agg #[.int .i64 N, (.slice x n c)])] w fun e w' => e = .returned (.bool (decide (N = 0) && decide (n = 0))) ∧ Below w.heap.size w w' := by
  have hb : Below w.heap.size w (w.alloc (.cells #[.int .i64 N, .slice x n c] 30)) := (Below.refl _ _).alloc (Nat.le_refl _) _
  by_cases h1 : N = 0
  · subst h1
    by_cases h2 : n = 0
    · subst h2
      go_enter Tryd.func17, Tryd.ntmps17
      go_wp2_with fail
      go_ret
      exact ⟨ret_bool (by simp), hb⟩
    · have h2b : ((n : Int) == 0) = false := by simp [h2]
      go_enter Tryd.func17, Tryd.ntmps17
      go_wp2_with fail
      go_ret
      exact ⟨ret_bool (by simp [h2]), hb⟩
  · have h1b : (N == 0) = false := by simp [h1]
    go_enter Tryd.func17, Tryd.ntmps17
    go_wp2_with fail
    go_ret
    exact ⟨ret_bool (by simp [h1]), hb⟩

end Go.Proofs.YtmdbgmkbkmckfaaDoor
