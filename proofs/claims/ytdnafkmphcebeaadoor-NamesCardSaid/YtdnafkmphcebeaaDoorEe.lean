/- plain.Code at a *api.Fault, and at another error; what package api's errors read as. -/
import Derived.Test.YtdnafkmphcebeaaDoorEd
namespace Go.Proofs.YtdnafkmphcebeaaDoor
open Go.RowKit Go.Extern.Stop Go.Stop Go.Extern

set_option maxHeartbeats 1000000 in
theorem code_fault (k : Nat) (hk : k < 8) (a : Nat → Addr) (pb : Nat) (w : World) (hS : Sents w a) (h0 : w.cell? ⟨pb, 0, none⟩ = some (.int .i64 7)) (h1 : w.cell? ⟨pb, 1, none⟩ = some (.iface 48 (.pointer (some (a k))))) :
    Calls Tryd.prog 7 #[.iface 30 (.pointer (some ⟨pb, 0, none⟩))] w fun e w' => e = .returned (.tuple #[.int .i64 (k + 1), .int .i64 7]) ∧ Below w.heap.size w w' := by
  obtain ⟨x, hx⟩ : ∃ x, x = a k := ⟨_, rfl⟩
  rw [← hx] at h1
  have Hx := hide hx
  clear hx
  have hpl : pb < w.heap.size := World.block_lt_of_cell? w _ h0
  go_enter Tryd.func7, Tryd.ntmps7
  go_wp2_with fail
  refine (as_hit ⟨pb, 0, none⟩ ⟨w.heap.size, 0, none⟩ (.pointer none) _ (by simp) (by simp) ?_).mono ?_
  · exact (hS.below ((Below.refl _ _).alloc (Nat.le_refl _) _)).errType
  rintro e w9 ⟨rfl, w8, hb8, rfl⟩
  have hs8 := hb8.size
  simp at hs8
  have hf : (w8.setCell ⟨w.heap.size, 0, none⟩ (.pointer (some ⟨pb, 0, none⟩))).cell? ⟨w.heap.size, 0, none⟩ = some (.pointer (some ⟨pb, 0, none⟩)) := World.cell?_setCell_same' _ _ _ (by rw [hb8.cell (by simp)]; simp)
  have hb2 : Below w.heap.size w (w8.setCell ⟨w.heap.size, 0, none⟩ (.pointer (some ⟨pb, 0, none⟩))) := (((Below.refl _ _).alloc (Nat.le_refl _) _).trans (hb8.mono (by simp))).setCell (Nat.le_refl _) _
  have g0 := (hb2.cell (p := ⟨pb, 0, none⟩) hpl).trans h0
  have g1 := (hb2.cell (p := ⟨pb, 1, none⟩) hpl).trans h1
  obtain ⟨w1, hw1⟩ : ∃ w1, w1 = w8.setCell ⟨w.heap.size, 0, none⟩ (.pointer (some ⟨pb, 0, none⟩)) := ⟨_, rfl⟩
  rw [← hw1] at hf hb2 g0 g1 ⊢
  clear hw1 hb8 hs8
  have hS1 := hS.below hb2
  have e0 : w1.cell? ⟨0, 0, none⟩ = some (.iface 48 (.pointer (some (a 0)))) := hS1.cell 0 (by omega)
  have e1 : w1.cell? ⟨1, 0, none⟩ = some (.iface 48 (.pointer (some (a 1)))) := hS1.cell 1 (by omega)
  have e2 : w1.cell? ⟨2, 0, none⟩ = some (.iface 48 (.pointer (some (a 2)))) := hS1.cell 2 (by omega)
  have e3 : w1.cell? ⟨3, 0, none⟩ = some (.iface 48 (.pointer (some (a 3)))) := hS1.cell 3 (by omega)
  have e4 : w1.cell? ⟨4, 0, none⟩ = some (.iface 48 (.pointer (some (a 4)))) := hS1.cell 4 (by omega)
  have e5 : w1.cell? ⟨5, 0, none⟩ = some (.iface 48 (.pointer (some (a 5)))) := hS1.cell 5 (by omega)
  have e6 : w1.cell? ⟨6, 0, none⟩ = some (.iface 48 (.pointer (some (a 6)))) := hS1.cell 6 (by omega)
  have e7 : w1.cell? ⟨7, 0, none⟩ = some (.iface 48 (.pointer (some (a 7)))) := hS1.cell 7 (by omega)
  have hcell : ∀ j, j < 8 → (w1.alloc (.cells #[.iface 48 (.pointer (some (a 0))), .iface 48 (.pointer (some (a 1))), .iface 48 (.pointer (some (a 2))), .iface 48 (.pointer (some (a 3))), .iface 48 (.pointer (some (a 4))), .iface 48 (.pointer (some (a 5))), .iface 48 (.pointer (some (a 6))), .iface 48 (.pointer (some (a 7)))] 25)).cell? ⟨w1.heap.size, j, none⟩ = some (.iface 48 (.pointer (some (a j)))) := by
    intro j hj
    rw [World.cell?_alloc_at _ _ _ _ rfl]
    match j, hj with
    | 0, _ => rfl
    | 1, _ => rfl
    | 2, _ => rfl
    | 3, _ => rfl
    | 4, _ => rfl
    | 5, _ => rfl
    | 6, _ => rfl
    | 7, _ => rfl
  have q1 : ∀ o : Obj, (w1.alloc o).cell? ⟨pb, 1, none⟩ = some (.iface 48 (.pointer (some x))) := fun o => by
    rw [World.cell?_alloc_lt _ _ ⟨pb, 1, none⟩ (Nat.lt_of_lt_of_le hpl hb2.size)]; exact g1
  have hb3 : Below w.heap.size w (w1.alloc (.cells #[.iface 48 (.pointer (some (a 0))), .iface 48 (.pointer (some (a 1))), .iface 48 (.pointer (some (a 2))), .iface 48 (.pointer (some (a 3))), .iface 48 (.pointer (some (a 4))), .iface 48 (.pointer (some (a 5))), .iface 48 (.pointer (some (a 6))), .iface 48 (.pointer (some (a 7)))] 25)) := hb2.alloc hb2.size _
  have hS3 : Sents (w1.alloc (.cells #[.iface 48 (.pointer (some (a 0))), .iface 48 (.pointer (some (a 1))), .iface 48 (.pointer (some (a 2))), .iface 48 (.pointer (some (a 3))), .iface 48 (.pointer (some (a 4))), .iface 48 (.pointer (some (a 5))), .iface 48 (.pointer (some (a 6))), .iface 48 (.pointer (some (a 7)))] 25)) a := hS1.below ((Below.refl _ _).alloc (Nat.le_refl _) _)
  go_wp2_with fail
  obtain ⟨W, hW⟩ : ∃ W, W = w1.alloc (.cells #[.iface 48 (.pointer (some (a 0))), .iface 48 (.pointer (some (a 1))), .iface 48 (.pointer (some (a 2))), .iface 48 (.pointer (some (a 3))), .iface 48 (.pointer (some (a 4))), .iface 48 (.pointer (some (a 5))), .iface 48 (.pointer (some (a 6))), .iface 48 (.pointer (some (a 7)))] 25) := ⟨_, rfl⟩
  have q2 := q1 (.cells #[.iface 48 (.pointer (some (a 0))), .iface 48 (.pointer (some (a 1))), .iface 48 (.pointer (some (a 2))), .iface 48 (.pointer (some (a 3))), .iface 48 (.pointer (some (a 4))), .iface 48 (.pointer (some (a 5))), .iface 48 (.pointer (some (a 6))), .iface 48 (.pointer (some (a 7)))] 25)
  rw [← hW] at hcell hb3 hS3 q2 ⊢
  clear hW q1 e0 e1 e2 e3 e4 e5 e6 e7 hS1
  go_loop [3, 26] (fun at' i => ∃ j : Nat, j ≤ k ∧ i = .int .i64 j ∧ at' = .int .i64 7) (fun _ i => 8 - (intOf i).toNat)
  case atStart => exact ⟨0, Nat.zero_le _, rfl, rfl⟩
  case round =>
    obtain ⟨j, hj, rfl, rfl⟩ := hrel
    have hj8 : j < 8 := by omega
    obtain ⟨y, hy⟩ : ∃ y, y = a j := ⟨_, rfl⟩
    have hcj := hcell j hj8
    rw [← hy] at hcj
    have Hy := hide hy
    have Hcell := hide hcell
    clear hy hcell
    by_cases hjk : j = k
    · have Hjk := hide hjk
      have hxy : x = y := by rw [Hx.out, Hy.out, hjk]
      clear hjk
      rw [hxy] at q2
      go_wp2_with fail
      refine (is_fault_same pb 0 y _ q2).mono ?_
      rintro e w2 ⟨rfl, rfl⟩
      go_wp2_with fail
      go_ret2
      exact ⟨by rw [← Hjk.out]; simp, hb3⟩
    · have hne : x ≠ y := by rw [Hx.out, Hy.out]; exact hS3.ne k j hk hj8 (fun h => hjk h.symm)
      obtain ⟨c1, t1, r1⟩ := hS3.row k hk
      obtain ⟨c2, t2, r2⟩ := hS3.row j hj8
      rw [← Hx.out] at r1
      rw [← Hy.out] at r2
      have R1 := hide r1
      have R2 := hide r2
      clear r1 r2
      go_wp2_with fail
      refine (is_fault_other pb 0 y x c1 c2 t1 t2 _ q2 hne R1.out R2.out).mono ?_
      rintro e w2 ⟨rfl, rfl⟩
      go_wp2_with fail
      go_round
      case rel => exact ⟨j + 1, by omega, by go_num, rfl⟩
      case measure => simp [intOf]; omega

set_option maxHeartbeats 1000000 in
theorem code_new (x : Addr) (a : Nat → Addr) (w : World) (hS : Sents w a) (hxa : ∀ j, j < 8 → x ≠ a j) (hxr : ∃ c t, w.heap[x.block]? = some (.cells c t (0, 0))) :
    Calls Tryd.prog 7 #[.iface 48 (.pointer (some x))] w fun e w' => e = .returned (.tuple #[.int .i64 (-1), .int .i64 (-1)]) ∧ Below w.heap.size w w' := by
  have Hxa := hide hxa
  clear hxa
  go_enter Tryd.func7, Tryd.ntmps7
  go_wp2_with fail
  refine (as_miss x _ _ ?_).mono ?_
  · exact (hS.below ((Below.refl _ _).alloc (Nat.le_refl _) _)).errType
  rintro e w1 ⟨rfl, hb1⟩
  have hb2 : Below w.heap.size w w1 := ((Below.refl _ _).alloc (Nat.le_refl _) _).trans (hb1.mono (by simp))
  have hS1 := hS.below hb2
  have e0 : w1.cell? ⟨0, 0, none⟩ = some (.iface 48 (.pointer (some (a 0)))) := hS1.cell 0 (by omega)
  have e1 : w1.cell? ⟨1, 0, none⟩ = some (.iface 48 (.pointer (some (a 1)))) := hS1.cell 1 (by omega)
  have e2 : w1.cell? ⟨2, 0, none⟩ = some (.iface 48 (.pointer (some (a 2)))) := hS1.cell 2 (by omega)
  have e3 : w1.cell? ⟨3, 0, none⟩ = some (.iface 48 (.pointer (some (a 3)))) := hS1.cell 3 (by omega)
  have e4 : w1.cell? ⟨4, 0, none⟩ = some (.iface 48 (.pointer (some (a 4)))) := hS1.cell 4 (by omega)
  have e5 : w1.cell? ⟨5, 0, none⟩ = some (.iface 48 (.pointer (some (a 5)))) := hS1.cell 5 (by omega)
  have e6 : w1.cell? ⟨6, 0, none⟩ = some (.iface 48 (.pointer (some (a 6)))) := hS1.cell 6 (by omega)
  have e7 : w1.cell? ⟨7, 0, none⟩ = some (.iface 48 (.pointer (some (a 7)))) := hS1.cell 7 (by omega)
  have hcell : ∀ j, j < 8 → (w1.alloc (.cells #[.iface 48 (.pointer (some (a 0))), .iface 48 (.pointer (some (a 1))), .iface 48 (.pointer (some (a 2))), .iface 48 (.pointer (some (a 3))), .iface 48 (.pointer (some (a 4))), .iface 48 (.pointer (some (a 5))), .iface 48 (.pointer (some (a 6))), .iface 48 (.pointer (some (a 7)))] 25)).cell? ⟨w1.heap.size, j, none⟩ = some (.iface 48 (.pointer (some (a j)))) := by
    intro j hj
    rw [World.cell?_alloc_at _ _ _ _ rfl]
    match j, hj with
    | 0, _ => rfl
    | 1, _ => rfl
    | 2, _ => rfl
    | 3, _ => rfl
    | 4, _ => rfl
    | 5, _ => rfl
    | 6, _ => rfl
    | 7, _ => rfl
  have hb3 : Below w.heap.size w (w1.alloc (.cells #[.iface 48 (.pointer (some (a 0))), .iface 48 (.pointer (some (a 1))), .iface 48 (.pointer (some (a 2))), .iface 48 (.pointer (some (a 3))), .iface 48 (.pointer (some (a 4))), .iface 48 (.pointer (some (a 5))), .iface 48 (.pointer (some (a 6))), .iface 48 (.pointer (some (a 7)))] 25)) := hb2.alloc hb2.size _
  have hS3 : Sents (w1.alloc (.cells #[.iface 48 (.pointer (some (a 0))), .iface 48 (.pointer (some (a 1))), .iface 48 (.pointer (some (a 2))), .iface 48 (.pointer (some (a 3))), .iface 48 (.pointer (some (a 4))), .iface 48 (.pointer (some (a 5))), .iface 48 (.pointer (some (a 6))), .iface 48 (.pointer (some (a 7)))] 25)) a := hS1.below ((Below.refl _ _).alloc (Nat.le_refl _) _)
  go_wp2_with fail
  obtain ⟨W, hW⟩ : ∃ W, W = w1.alloc (.cells #[.iface 48 (.pointer (some (a 0))), .iface 48 (.pointer (some (a 1))), .iface 48 (.pointer (some (a 2))), .iface 48 (.pointer (some (a 3))), .iface 48 (.pointer (some (a 4))), .iface 48 (.pointer (some (a 5))), .iface 48 (.pointer (some (a 6))), .iface 48 (.pointer (some (a 7)))] 25) := ⟨_, rfl⟩
  have hxr3 : ∃ c t, W.heap[x.block]? = some (.cells c t (0, 0)) := by
    obtain ⟨c, t, e⟩ := hxr
    rw [hW]
    exact ⟨c, t, (hb3.block _ (lt_of_block e)).trans e⟩
  clear hxr
  rw [← hW] at hcell hb3 hS3 ⊢
  clear hW e0 e1 e2 e3 e4 e5 e6 e7 hS1
  go_loop [3, 26] (fun at' i => ∃ j : Nat, j ≤ 8 ∧ i = .int .i64 j ∧ at' = .int .i64 (-1)) (fun _ i => 8 - (intOf i).toNat)
  case atStart => exact ⟨0, Nat.zero_le _, rfl, rfl⟩
  case round =>
    obtain ⟨j, hj, rfl, rfl⟩ := hrel
    by_cases hj8 : j < 8
    · obtain ⟨y, hy⟩ : ∃ y, y = a j := ⟨_, rfl⟩
      have hcj := hcell j hj8
      rw [← hy] at hcj
      have Hy := hide hy
      have Hcell := hide hcell
      clear hy hcell
      have hne : x ≠ y := by rw [Hy.out]; exact Hxa.out j hj8
      obtain ⟨c1, t1, r1⟩ := hxr3
      obtain ⟨c2, t2, r2⟩ := hS3.row j hj8
      rw [← Hy.out] at r2
      have R1 := hide r1
      have R2 := hide r2
      clear r1 r2
      go_wp2_with fail
      refine (is_other x y c1 c2 t1 t2 _ hne R1.out R2.out).mono ?_
      rintro e w2 ⟨rfl, rfl⟩
      go_wp2_with fail
      go_round
      case rel => exact ⟨j + 1, by omega, by go_num, rfl⟩
      case measure => simp [intOf]; omega
    · have hcell' := hide hcell
      clear hcell
      go_wp2_with fail
      go_ret2
      exact ⟨rfl, hb3⟩

set_option maxHeartbeats 400000 in
theorem error_text (b o : Nat) (s : ByteArray) (w : World) (h : w.cell? ⟨b, o, none⟩ = some (.string s)) :
    Calls Tryd.prog 102 #[.pointer (some ⟨b, o, none⟩)] w fun e w' => e = .returned (.string s) ∧ w' = w := by
  go_enter Tryd.func102, Tryd.ntmps102
  go_wp2
  go_ret
  exact ⟨rfl, rfl⟩

set_option maxHeartbeats 400000 in
theorem errors_new (s : ByteArray) (w : World) :
    Calls Tryd.prog 9 #[.string s] w fun e w' => e = .returned (.iface 48 (.pointer (some ⟨w.heap.size, 0, none⟩))) ∧ w' = w.alloc (.cells #[.string s] 50) := by
  go_enter Tryd.func9, Tryd.ntmps9
  go_wp2
  go_ret
  exact ⟨rfl, rfl⟩

end Go.Proofs.YtdnafkmphcebeaaDoor
