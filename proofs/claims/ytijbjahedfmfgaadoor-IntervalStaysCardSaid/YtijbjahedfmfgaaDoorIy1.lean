/- Intervals widened: the reference, walked: 1. -/
import Derived.Test.YtijbjahedfmfgaaDoorIy
namespace Go.Proofs.YtijbjahedfmfgaaDoor
open Go.RowKit
set_option linter.unusedVariables false

set_option maxRecDepth 20000 in
set_option maxHeartbeats 4000000 in
theorem widened_11 (d' u' : Bool) (lo hi lo' hi' : Int) (x : Option Addr) (n c : Nat) (l : List Int) (w : World) (hA : IntsAt w x l) (hl : Hid (n = l.length)) (hn : n ≤ 1000000)   :
    Calls Tryd.prog 35 #[(.agg #[.bool true, .bool true, .int .i64 lo, .int .i64 hi]), (.agg #[.bool d', .bool u', .int .i64 lo', .int .i64 hi']), .slice x n c] w fun e w' => WidPost ⟨true, true, lo, hi⟩ ⟨d', u', lo', hi'⟩ l e ∧ Below w.heap.size w w' := by
  go_enter Tryd.func35, Tryd.ntmps35
  go_wp2_with fail
  have sr := ((((St.startI hA).box4 23 (.bool true) (.bool true) (.int .i64 lo) (.int .i64 hi)).box4 23 (.bool d') (.bool u') (.int .i64 lo') (.int .i64 hi')).box4 23 (.bool false) (.bool false) (.int .i64 0) (.int .i64 0)).box4 23 (.bool true) (.bool true) (.int .i64 lo) (.int .i64 hi)
  simp only [World.size_alloc] at sr
  refine bodyPost_ret (v := (.agg #[.bool true, .bool true, .int .i64 lo, .int .i64 hi])) (by simp [results, Tryd.results35, go_sem, *]) rfl ⟨⟨⟨true, true, lo, hi⟩, rfl, ?_⟩, ?_⟩
  · exact ⟨(by unfold WidLo; simp), (by unfold WidHi; simp)⟩
  · (repeat' (first | exact Below.refl _ _ | exact sr.bel | refine Below.setCell ?_ (by first | (simp; done) | (simp; omega)) _ | refine Below.alloc ?_ (by first | (simp; done) | (simp; omega)) _ | refine Below.drew ?_))

set_option maxRecDepth 20000 in
set_option maxHeartbeats 4000000 in
theorem widened_12 (d' : Bool) (lo hi lo' hi' : Int) (x : Option Addr) (n c : Nat) (l : List Int) (w : World) (hA : IntsAt w x l) (hl : Hid (n = l.length)) (hn : n ≤ 1000000)   :
    Calls Tryd.prog 35 #[(.agg #[.bool true, .bool false, .int .i64 lo, .int .i64 hi]), (.agg #[.bool d', .bool true, .int .i64 lo', .int .i64 hi']), .slice x n c] w fun e w' => WidPost ⟨true, false, lo, hi⟩ ⟨d', true, lo', hi'⟩ l e ∧ Below w.heap.size w w' := by
  go_enter Tryd.func35, Tryd.ntmps35
  go_wp2_with fail
  have sr := ((((St.startI hA).box4 23 (.bool true) (.bool false) (.int .i64 lo) (.int .i64 hi)).box4 23 (.bool d') (.bool true) (.int .i64 lo') (.int .i64 hi')).box4 23 (.bool false) (.bool false) (.int .i64 0) (.int .i64 0)).box4 23 (.bool true) (.bool true) (.int .i64 lo) (.int .i64 0)
  simp only [World.size_alloc] at sr
  refine wp_loop_rounds 1 ?_
  rw [rounds_succ]
  go_wp2_with fail
  all_goals
    refine bodyPost_ret (v := (.agg #[.bool true, .bool true, .int .i64 lo, .int .i64 0])) (by simp [results, Tryd.results35, go_sem, *]) rfl ⟨⟨⟨true, true, lo, 0⟩, rfl, ?_⟩, ?_⟩
    · exact ⟨(by unfold WidLo; simp), (by unfold WidHi; simp)⟩
    · (repeat' (first | exact Below.refl _ _ | exact sr.bel | refine Below.setCell ?_ (by first | (simp; done) | (simp; omega)) _ | refine Below.alloc ?_ (by first | (simp; done) | (simp; omega)) _ | refine Below.drew ?_))

set_option maxRecDepth 20000 in
set_option maxHeartbeats 4000000 in
theorem widened_13 (d' : Bool) (lo hi lo' hi' : Int) (x : Option Addr) (n c : Nat) (l : List Int) (w : World) (hA : IntsAt w x l) (hl : Hid (n = l.length)) (hn : n ≤ 1000000)  (hgt : hi < hi') :
    Calls Tryd.prog 35 #[(.agg #[.bool true, .bool false, .int .i64 lo, .int .i64 hi]), (.agg #[.bool d', .bool false, .int .i64 lo', .int .i64 hi']), .slice x n c] w fun e w' => WidPost ⟨true, false, lo, hi⟩ ⟨d', false, lo', hi'⟩ l e ∧ Below w.heap.size w w' := by
  go_enter Tryd.func35, Tryd.ntmps35
  go_wp2_with fail
  have sr := ((((St.startI hA).box4 23 (.bool true) (.bool false) (.int .i64 lo) (.int .i64 hi)).box4 23 (.bool d') (.bool false) (.int .i64 lo') (.int .i64 hi')).box4 23 (.bool false) (.bool false) (.int .i64 0) (.int .i64 0)).box4 23 (.bool true) (.bool true) (.int .i64 lo) (.int .i64 0)
  simp only [World.size_alloc] at sr
  have sz : St w _ (IZ x l) ((w.heap.size + 3, 0, Value.bool true) :: (w.heap.size + 3, 1, Value.bool true) :: (w.heap.size + 3, 2, Value.int .i64 lo) :: (w.heap.size + 3, 3, Value.int .i64 0) :: (w.heap.size + 2, 0, Value.bool false) :: (w.heap.size + 2, 1, Value.bool false) :: (w.heap.size + 2, 2, Value.int .i64 0) :: (w.heap.size + 2, 3, Value.int .i64 0) :: (w.heap.size + 1, 0, Value.bool d') :: (w.heap.size + 1, 1, Value.bool false) :: (w.heap.size + 1, 2, Value.int .i64 lo') :: (w.heap.size + 1, 3, Value.int .i64 hi') :: (w.heap.size, 0, Value.bool true) :: (w.heap.size, 1, Value.bool false) :: (w.heap.size, 2, Value.int .i64 lo) :: (w.heap.size, 3, Value.int .i64 hi) :: []) := sr
  clear sr
  go_loopw [9] (fun i wr => ∃ (k : Nat) (uk : Bool) (hk : Int), k ≤ n ∧ i = .int .i64 k ∧ HiStop (l.take k) hi' uk hk ∧ St w wr (IZ x l) ((w.heap.size + 3, 0, Value.bool true) :: (w.heap.size + 3, 1, Value.bool uk) :: (w.heap.size + 3, 2, Value.int .i64 lo) :: (w.heap.size + 3, 3, Value.int .i64 hk) :: (w.heap.size + 2, 0, Value.bool false) :: (w.heap.size + 2, 1, Value.bool false) :: (w.heap.size + 2, 2, Value.int .i64 0) :: (w.heap.size + 2, 3, Value.int .i64 0) :: (w.heap.size + 1, 0, Value.bool d') :: (w.heap.size + 1, 1, Value.bool false) :: (w.heap.size + 1, 2, Value.int .i64 lo') :: (w.heap.size + 1, 3, Value.int .i64 hi') :: (w.heap.size, 0, Value.bool true) :: (w.heap.size, 1, Value.bool false) :: (w.heap.size, 2, Value.int .i64 lo) :: (w.heap.size, 3, Value.int .i64 hi) :: [])) (fun i _ => n - (intOf i).toNat)
  case atStart => exact ⟨0, true, 0, by omega, rfl, .inl ⟨rfl, rfl, by simp⟩, sz⟩
  case round =>
    obtain ⟨k, uk, hk, hkn, rfl, hst, sr⟩ := hrel
    have HST := hide hst
    have qr := sr.hold
    simp only [Holds, and_true] at qr
    clear hst sz
    by_cases hlt2 : k < n
    · have hkl : k < l.length := by rw [← hl.out]; exact hlt2
      obtain ⟨y, hy⟩ : ∃ y, y = l.getD k 0 := ⟨_, rfl⟩
      have hx : ∃ b off, x = some ⟨b, off, none⟩ ∧ b < w.heap.size ∧ wr.cell? ⟨b, off + k, none⟩ = some (.int .i64 y) := by
        rcases hA with h | ⟨b, off, h1, h2, _⟩
        · rw [h] at hkl; simp at hkl
        · rcases sr.ints with h | ⟨b2, off2, k1, _, k3⟩
          · rw [h] at hkl; simp at hkl
          · obtain ⟨rfl, rfl⟩ : b = b2 ∧ off = off2 := by rw [h1] at k1; simpa using k1
            exact ⟨b, off, h1, h2, by rw [hy]; exact k3 k hkl⟩
      obtain ⟨b, off, rfl, hbl, hcy⟩ := hx
      have hbne : b ≠ w.heap.size + 1 + 1 + 1 := by omega
      have hbne2 : w.heap.size + 1 + 1 + 1 ≠ b := by omega
      have nx := HiStop.next hkl HST.out y hy
      have N1 := hide nx.1
      have N2 := hide nx.2
      clear nx hy
      have hkn' : (k : Int) < (n : Int) := by omega
      obtain ⟨e1, c1⟩ : ∃ e1, decide (hi' ≤ y) = e1 := ⟨_, rfl⟩
      obtain ⟨e2, c2⟩ : ∃ e2, decide (y < hk) = e2 := ⟨_, rfl⟩
      cases uk <;> cases e1 <;> cases e2
      all_goals
        go_wp2_with fail
        go_region
        all_goals go_wp2_with fail
        first
          | go_roundw
          | (go_region
             all_goals go_wp2_with fail
             go_roundw)
        case rel => first | exact ⟨k + 1, _, _, by omega, by go_num, N2.out (by simp at c1 c2 ⊢; omega), sr.drew⟩ | exact ⟨k + 1, false, y, by omega, by go_num, N1.out (by simp at c1 c2 ⊢; omega), ((sr.set1 ([(w.heap.size + 3, 0, Value.bool true)]) _ (by omega) (by simp [ApartC]) (by simp [ApartC]) (.bool false)).set1 ([(w.heap.size + 3, 0, Value.bool true), (w.heap.size + 3, 1, Value.bool false), (w.heap.size + 3, 2, Value.int .i64 lo)]) _ (by omega) (by simp [ApartC]) (by simp [ApartC]) (.int .i64 y)).drew⟩
        case measure => simp [intOf]; omega
    · have hke : l.take k = l := List.take_of_length_le (by rw [← hl.out]; omega)
      have hE2 : HiStop l hi' uk hk := by have := HST.out; rwa [hke] at this
      have hkn' : ¬ (k : Int) < (n : Int) := by omega
      go_wp2_with fail
      refine bodyPost_ret (v := (.agg #[.bool true, .bool uk, .int .i64 lo, .int .i64 hk])) (by simp [results, Tryd.results35, go_sem, *]) rfl ⟨⟨⟨true, uk, lo, hk⟩, rfl, ?_⟩, ?_⟩
      · exact ⟨(by unfold WidLo; simp), (by unfold WidHi; simp [hgt]; exact hE2)⟩
      · (repeat' (first | exact Below.refl _ _ | exact sr.bel | refine Below.setCell ?_ (by first | (simp; done) | (simp; omega)) _ | refine Below.alloc ?_ (by first | (simp; done) | (simp; omega)) _ | refine Below.drew ?_))

set_option maxRecDepth 20000 in
set_option maxHeartbeats 4000000 in
theorem widened_14 (d' : Bool) (lo hi lo' hi' : Int) (x : Option Addr) (n c : Nat) (l : List Int) (w : World) (hA : IntsAt w x l) (hl : Hid (n = l.length)) (hn : n ≤ 1000000)  (hgt : ¬ hi < hi') :
    Calls Tryd.prog 35 #[(.agg #[.bool true, .bool false, .int .i64 lo, .int .i64 hi]), (.agg #[.bool d', .bool false, .int .i64 lo', .int .i64 hi']), .slice x n c] w fun e w' => WidPost ⟨true, false, lo, hi⟩ ⟨d', false, lo', hi'⟩ l e ∧ Below w.heap.size w w' := by
  go_enter Tryd.func35, Tryd.ntmps35
  go_wp2_with fail
  have sr := ((((St.startI hA).box4 23 (.bool true) (.bool false) (.int .i64 lo) (.int .i64 hi)).box4 23 (.bool d') (.bool false) (.int .i64 lo') (.int .i64 hi')).box4 23 (.bool false) (.bool false) (.int .i64 0) (.int .i64 0)).box4 23 (.bool true) (.bool false) (.int .i64 lo) (.int .i64 hi)
  simp only [World.size_alloc] at sr
  refine bodyPost_ret (v := (.agg #[.bool true, .bool false, .int .i64 lo, .int .i64 hi])) (by simp [results, Tryd.results35, go_sem, *]) rfl ⟨⟨⟨true, false, lo, hi⟩, rfl, ?_⟩, ?_⟩
  · exact ⟨(by unfold WidLo; simp), (by unfold WidHi; rw [if_neg (by simp; omega)]; exact ⟨rfl, rfl⟩)⟩
  · (repeat' (first | exact Below.refl _ _ | exact sr.bel | refine Below.setCell ?_ (by first | (simp; done) | (simp; omega)) _ | refine Below.alloc ?_ (by first | (simp; done) | (simp; omega)) _ | refine Below.drew ?_))

end Go.Proofs.YtijbjahedfmfgaaDoor
