/- plain.Code at nil and at the bare errors of package api. -/
import Derived.Test.YtmdbgmkbkmckfaaDoorEb
namespace Go.Proofs.YtmdbgmkbkmckfaaDoor
open Go.RowKit Go.Extern.Stop Go.Stop Go.Extern

/-- The k-th error of plain.Code's list: its package-level variable. -/
def gvar : Nat → Nat
  | 0 => 3
  | 1 => 0
  | 2 => 1
  | 3 => 2
  | 4 => 4
  | 5 => 5
  | 6 => 6
  | _ => 7

/-- The errors of package api as their initialisers lay them: eight different pointers. -/
structure Sents (w : World) (a : Nat → Addr) : Prop where
  cell : ∀ k, k < 8 → w.cell? ⟨gvar k, 0, none⟩ = some (.iface 140 (.pointer (some (a k))))
  row : ∀ k, k < 8 → ∃ c t, w.heap[(a k).block]? = some (.cells c t (0, 0))
  ne : ∀ i j, i < 8 → j < 8 → i ≠ j → a i ≠ a j
  errType : w.cell? ⟨8, 0, none⟩ = some (.iface 126 (.agg #[.pointer (some ⟨9, 32, none⟩)]))

theorem Sents.below {w w' : World} {a : Nat → Addr} (h : Sents w a) (hb : Below w.heap.size w w') : Sents w' a where
  cell k hk := (hb.cell (World.block_lt_of_cell? w _ (h.cell k hk))).trans (h.cell k hk)
  row k hk := by
    obtain ⟨c, t, e⟩ := h.row k hk
    exact ⟨c, t, (hb.block _ (lt_of_block e)).trans e⟩
  ne := h.ne
  errType := (hb.cell (World.block_lt_of_cell? w _ h.errType)).trans h.errType

set_option maxHeartbeats 400000 in
theorem code_nil (w : World) :
    Calls Tryd.prog 35 #[.nilIface] w fun e w' => e = .returned (.tuple #[.int .i64 0, .int .i64 (-1)]) ∧ Below w.heap.size w w' := by
  go_enter Tryd.func35, Tryd.ntmps35
  go_wp2
  go_ret2
  exact ⟨rfl, Below.refl _ _⟩

set_option maxHeartbeats 1000000 in
theorem code_sent (k : Nat) (hk : k < 8) (a : Nat → Addr) (w : World) (hS : Sents w a) :
    Calls Tryd.prog 35 #[.iface 140 (.pointer (some (a k)))] w fun e w' => e = .returned (.tuple #[.int .i64 (k + 1), .int .i64 (-1)]) ∧ Below w.heap.size w w' := by
  obtain ⟨x, hx⟩ : ∃ x, x = a k := ⟨_, rfl⟩
  rw [← hx]
  have Hx := hide hx
  clear hx
  go_enter Tryd.func35, Tryd.ntmps35
  go_wp2_with fail
  refine (as_miss x _ _ ?_).mono ?_
  · exact (hS.below ((Below.refl _ _).alloc (Nat.le_refl _) _)).errType
  rintro e w1 ⟨rfl, hb1⟩
  have hb2 : Below w.heap.size w w1 := ((Below.refl _ _).alloc (Nat.le_refl _) _).trans (hb1.mono (by simp))
  have hS1 := hS.below hb2
  have e0 : w1.cell? ⟨3, 0, none⟩ = some (.iface 140 (.pointer (some (a 0)))) := hS1.cell 0 (by omega)
  have e1 : w1.cell? ⟨0, 0, none⟩ = some (.iface 140 (.pointer (some (a 1)))) := hS1.cell 1 (by omega)
  have e2 : w1.cell? ⟨1, 0, none⟩ = some (.iface 140 (.pointer (some (a 2)))) := hS1.cell 2 (by omega)
  have e3 : w1.cell? ⟨2, 0, none⟩ = some (.iface 140 (.pointer (some (a 3)))) := hS1.cell 3 (by omega)
  have e4 : w1.cell? ⟨4, 0, none⟩ = some (.iface 140 (.pointer (some (a 4)))) := hS1.cell 4 (by omega)
  have e5 : w1.cell? ⟨5, 0, none⟩ = some (.iface 140 (.pointer (some (a 5)))) := hS1.cell 5 (by omega)
  have e6 : w1.cell? ⟨6, 0, none⟩ = some (.iface 140 (.pointer (some (a 6)))) := hS1.cell 6 (by omega)
  have e7 : w1.cell? ⟨7, 0, none⟩ = some (.iface 140 (.pointer (some (a 7)))) := hS1.cell 7 (by omega)
  have hcell : ∀ j, j < 8 → (w1.alloc (.cells #[.iface 140 (.pointer (some (a 0))), .iface 140 (.pointer (some (a 1))), .iface 140 (.pointer (some (a 2))), .iface 140 (.pointer (some (a 3))), .iface 140 (.pointer (some (a 4))), .iface 140 (.pointer (some (a 5))), .iface 140 (.pointer (some (a 6))), .iface 140 (.pointer (some (a 7)))] 32)).cell? ⟨w1.heap.size, j, none⟩ = some (.iface 140 (.pointer (some (a j)))) := by
    intro j hj
    rw [World.cell?_alloc_at _ _ _ _ rfl]
    match j, hj with
    | 0, _ => rfl
    | 1, _ => rfl
    | 2, _ => rfl
    | 3, _ => rfl
    | 4, _ => rfl
    | 5, _ => rfl
    | 6, _ => rfl
    | 7, _ => rfl
  have hb3 : Below w.heap.size w (w1.alloc (.cells #[.iface 140 (.pointer (some (a 0))), .iface 140 (.pointer (some (a 1))), .iface 140 (.pointer (some (a 2))), .iface 140 (.pointer (some (a 3))), .iface 140 (.pointer (some (a 4))), .iface 140 (.pointer (some (a 5))), .iface 140 (.pointer (some (a 6))), .iface 140 (.pointer (some (a 7)))] 32)) := hb2.alloc hb2.size _
  have hS3 : Sents (w1.alloc (.cells #[.iface 140 (.pointer (some (a 0))), .iface 140 (.pointer (some (a 1))), .iface 140 (.pointer (some (a 2))), .iface 140 (.pointer (some (a 3))), .iface 140 (.pointer (some (a 4))), .iface 140 (.pointer (some (a 5))), .iface 140 (.pointer (some (a 6))), .iface 140 (.pointer (some (a 7)))] 32)) a := hS1.below ((Below.refl _ _).alloc (Nat.le_refl _) _)
  go_wp2_with fail
  obtain ⟨W, hW⟩ : ∃ W, W = w1.alloc (.cells #[.iface 140 (.pointer (some (a 0))), .iface 140 (.pointer (some (a 1))), .iface 140 (.pointer (some (a 2))), .iface 140 (.pointer (some (a 3))), .iface 140 (.pointer (some (a 4))), .iface 140 (.pointer (some (a 5))), .iface 140 (.pointer (some (a 6))), .iface 140 (.pointer (some (a 7)))] 32) := ⟨_, rfl⟩
  rw [← hW] at hcell hb3 hS3 ⊢
  clear hW e0 e1 e2 e3 e4 e5 e6 e7 hS1
  go_loop [3, 26] (fun at' i => ∃ j : Nat, j ≤ k ∧ i = .int .i64 j ∧ at' = .int .i64 (-1)) (fun _ i => 8 - (intOf i).toNat)
  case atStart => exact ⟨0, Nat.zero_le _, rfl, rfl⟩
  case round =>
    obtain ⟨j, hj, rfl, rfl⟩ := hrel
    have hj8 : j < 8 := by omega
    obtain ⟨y, hy⟩ : ∃ y, y = a j := ⟨_, rfl⟩
    have hcj := hcell j hj8
    rw [← hy] at hcj
    have Hy := hide hy
    have Hcell := hide hcell
    clear hy hcell
    by_cases hjk : j = k
    · have Hjk := hide hjk
      have hxy : x = y := by rw [Hx.out, Hy.out, hjk]
      clear hjk
      rw [hxy]
      go_wp2_with fail
      refine (is_same y _).mono ?_
      rintro e w2 ⟨rfl, rfl⟩
      go_wp2_with fail
      go_ret2
      exact ⟨by rw [← Hjk.out]; simp, hb3⟩
    · have hne : x ≠ y := by rw [Hx.out, Hy.out]; exact hS3.ne k j hk hj8 (fun h => hjk h.symm)
      obtain ⟨c1, t1, r1⟩ := hS3.row k hk
      obtain ⟨c2, t2, r2⟩ := hS3.row j hj8
      rw [← Hx.out] at r1
      rw [← Hy.out] at r2
      have R1 := hide r1
      have R2 := hide r2
      clear r1 r2
      go_wp2_with fail
      refine (is_other x y c1 c2 t1 t2 _ hne R1.out R2.out).mono ?_
      rintro e w2 ⟨rfl, rfl⟩
      go_wp2_with fail
      go_round
      case rel => exact ⟨j + 1, by omega, by go_num, rfl⟩
      case measure => simp [intOf]; omega

/-- coded at nil. -/
theorem coded_nil (c : Int) (w : World) :
    Calls Tryd.prog 13 #[.nilIface, .int .i64 c] w fun e w' => e = .returned (.bool (decide (0 = c))) ∧ Below w.heap.size w w' := by
  by_cases h : 0 = c
  · subst h
    go_enter Tryd.func13, Tryd.ntmps13
    go_wp2_with (go_at_call 35; refine (code_nil _).mono ?_; rintro e w1 ⟨rfl, hb1⟩)
    go_ret
    exact ⟨rfl, hb1⟩
  · have hd : (0 == c) = false := by simp [h]
    have Hd := hide h
    clear h
    go_enter Tryd.func13, Tryd.ntmps13
    go_wp2_with (go_at_call 35; refine (code_nil _).mono ?_; rintro e w1 ⟨rfl, hb1⟩)
    go_ret
    exact ⟨by simp [Hd.out], hb1⟩

/-- coded at the k-th bare error. -/
theorem coded_sent (k : Nat) (hk : k < 8) (c : Int) (a : Nat → Addr) (x : Addr) (Hx : Hid (x = a k)) (w : World) (hS : Sents w a) :
    Calls Tryd.prog 13 #[.iface 140 (.pointer (some x)), .int .i64 c] w fun e w' => e = .returned (.bool (decide ((k : Int) + 1 = c))) ∧ Below w.heap.size w w' := by
  by_cases h : (k : Int) + 1 = c
  · have hd : ((k : Int) + 1 == c) = true := by simp [h]
    have Hd := hide h
    clear h
    go_enter Tryd.func13, Tryd.ntmps13
    go_wp2_with fail
    rw [Hx.out]
    refine (code_sent k hk a _ hS).mono ?_
    rintro e w1 ⟨rfl, hb1⟩
    go_wp2_with fail
    go_ret
    exact ⟨by simp [Hd.out], hb1⟩
  · have hd : ((k : Int) + 1 == c) = false := by simp [h]
    have Hd := hide h
    clear h
    go_enter Tryd.func13, Tryd.ntmps13
    go_wp2_with fail
    rw [Hx.out]
    refine (code_sent k hk a _ hS).mono ?_
    rintro e w1 ⟨rfl, hb1⟩
    go_wp2_with fail
    go_ret
    exact ⟨by simp [Hd.out], hb1⟩

end Go.Proofs.YtmdbgmkbkmckfaaDoor
