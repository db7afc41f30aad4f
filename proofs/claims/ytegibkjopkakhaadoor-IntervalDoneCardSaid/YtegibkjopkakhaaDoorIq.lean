/- The least interval of a list of numbers: the reference. -/
import Derived.Test.YtegibkjopkakhaaDoorKu
import Derived.Test.YtegibkjopkakhaaDoorIu
import Derived.Deep.DeepCutAuto
import Derived.Deep.CutBlock
import Derived.Deep.LoopGhost
namespace Go.Proofs.YtegibkjopkakhaaDoor
open Go.RowKit
set_option linter.unusedVariables false

def IsSpan (l : List Int) (R : Iv) (b : Bool) : Prop := (l = [] ∧ b = false ∧ R = ivZ) ∨ (l ≠ [] ∧ b = true ∧ R.d = false ∧ R.u = false ∧ R.lo ∈ l ∧ R.hi ∈ l ∧ ∀ n ∈ l, R.lo ≤ n ∧ n ≤ R.hi)
def SpanPost (l : List Int) (e : Ending) : Prop := ∃ (R : Iv) (b : Bool), e = .returned (.tuple #[R.v, .bool b]) ∧ IsSpan l R b

/-- The least and the greatest of so many, and of the first. -/
def Ends (l : List Int) (k : Nat) (mn mx : Int) : Prop := mn ∈ l ∧ mx ∈ l ∧ mn ≤ mx ∧ ∀ n ∈ l.take k, mn ≤ n ∧ n ≤ mx

theorem Ends.next {l : List Int} {k : Nat} {mn mx y : Int} (h : Ends l k mn mx) (hk : k < l.length) (hy : y = l.getD k 0) : Ends l (k + 1) (if y < mn then y else mn) (if mx < y then y else mx) := by
  obtain ⟨h1, h2, h4, h3⟩ := h
  have hyl : y ∈ l := by rw [hy]; rw [show l.getD k 0 = l[k] by simp [hk]]; exact List.getElem_mem hk
  have e : l.take (k + 1) = l.take k ++ [y] := by rw [hy, List.take_succ_eq_append_getElem hk]; simp [hk]
  refine ⟨by split <;> assumption, by split <;> assumption, by split <;> split <;> omega, ?_⟩
  intro n hn
  rw [e] at hn
  rcases List.mem_append.1 hn with hn | hn
  · have := h3 n hn
    constructor <;> split <;> omega
  · simp at hn; subst hn
    constructor <;> split <;> omega

set_option maxRecDepth 20000 in
set_option maxHeartbeats 4000000 in
theorem span_none (x : Option Addr) (c : Nat) (w : World) :
    Calls Tryd.prog 16 #[.slice x 0 c] w fun e w' => SpanPost [] e ∧ Below w.heap.size w w' := by
  go_enter Tryd.func16, Tryd.ntmps16
  go_wp2_with fail
  refine bodyPost_ret (v := .tuple #[(.agg #[.bool false, .bool false, .int .i64 0, .int .i64 0]), .bool false]) (by simp [results, Tryd.results16, go_sem, *]) rfl ⟨⟨ivZ, false, rfl, .inl ⟨rfl, rfl, rfl⟩⟩, ?_⟩
  exact (Below.refl _ _).alloc (Nat.le_refl _) _

set_option maxRecDepth 20000 in
set_option maxHeartbeats 4000000 in
theorem span_some (b off n c : Nat) (l : List Int) (w : World) (hA : IntsAt w (some ⟨b, off, none⟩) l) (hl : Hid (n = l.length)) (hn : n ≤ 1000000) (h0 : 0 < n) :
    Calls Tryd.prog 16 #[.slice (some ⟨b, off, none⟩) n c] w fun e w' => SpanPost l e ∧ Below w.heap.size w w' := by
  obtain ⟨y0, hy0⟩ : ∃ y, y = l.getD 0 0 := ⟨_, rfl⟩
  obtain ⟨b', off', e, hc0⟩ := hA.get 0 (by rw [← hl.out]; exact h0) y0 hy0
  obtain ⟨rfl, rfl⟩ : b = b' ∧ off = off' := by simpa using e
  have hb : b < w.heap.size := World.block_lt_of_cell? w _ hc0
  simp only [Nat.add_zero] at hc0
  have hE0 : Hid (Ends l 0 y0 y0) := by
    have : y0 ∈ l := by rw [hy0, show l.getD 0 0 = l[0]'(by rw [← hl.out]; exact h0) by simp [show 0 < l.length by rw [← hl.out]; exact h0]]; exact List.getElem_mem _
    exact ⟨this, this, Int.le_refl _, by simp⟩
  have h0' : (0 : Int) < (n : Int) := by omega
  have h00 : ¬ (n : Int) = 0 := by omega
  clear e hy0
  go_enter Tryd.func16, Tryd.ntmps16
  go_upto_region 3 with fail
  go_cut [4] (fun s4 wx => s4 = .pointer (some ⟨w.heap.size + 1, 0, none⟩) ∧ St w wx (IZ (some ⟨b, off, none⟩) l) ((w.heap.size + 1, 0, Value.bool false) :: (w.heap.size + 1, 1, Value.bool false) :: (w.heap.size + 1, 2, Value.int .i64 y0) :: (w.heap.size + 1, 3, Value.int .i64 y0) :: (w.heap.size, 0, Value.bool false) :: (w.heap.size, 1, Value.bool false) :: (w.heap.size, 2, Value.int .i64 0) :: (w.heap.size, 3, Value.int .i64 0) :: []))
  case first =>
    have s0 := ((St.startI hA).box4 23 (.bool false) (.bool false) (.int .i64 0) (.int .i64 0)).box4 23 (.bool false) (.bool false) (.int .i64 y0) (.int .i64 y0)
    simp only [World.size_alloc] at s0
    go_region
    all_goals
      go_wp2_with fail
      go_meet
      case rel => exact ⟨rfl, by first | exact s0.drew | exact s0⟩
  case rest =>
  obtain ⟨rfl, s0⟩ := hcut
  clear hc0
  go_wp2_with fail
  go_loopg [5] n (fun g i wr => ∃ (k : Nat) (mn mx : Int), k + g = n ∧ i = .int .i64 k ∧ Hid (Ends l k mn mx) ∧ St w wr (IZ (some ⟨b, off, none⟩) l) ((w.heap.size + 1, 0, Value.bool false) :: (w.heap.size + 1, 1, Value.bool false) :: (w.heap.size + 1, 2, Value.int .i64 mn) :: (w.heap.size + 1, 3, Value.int .i64 mx) :: (w.heap.size, 0, Value.bool false) :: (w.heap.size, 1, Value.bool false) :: (w.heap.size, 2, Value.int .i64 0) :: (w.heap.size, 3, Value.int .i64 0) :: []))
  case atStart => exact ⟨0, y0, y0, by omega, rfl, hE0, s0⟩
  case round =>
    clear s0
    obtain ⟨k, mn, mx, hkg, rfl, hEn, s1⟩ := hrel
    have q1 := s1.hold
    simp only [Holds, and_true] at q1
    by_cases hlt : k < n
    · have hkn' : (k : Int) < (n : Int) := by omega
      have hkl : k < l.length := by rw [← hl.out]; exact hlt
      obtain ⟨y, hy⟩ : ∃ y, y = l.getD k 0 := ⟨_, rfl⟩
      obtain ⟨b', off', e, hcy⟩ := s1.ints.get k hkl y hy
      obtain ⟨rfl, rfl⟩ : b = b' ∧ off = off' := by simpa using e
      have hnx := hEn.out.next hkl hy
      have Hnx := hide hnx
      have hne : ¬ b = w.heap.size + 1 := by omega
      have hne' : ¬ w.heap.size + 1 = b := by omega
      have hmm := hEn.out.2.2.1
      have hap : Apart (w.heap.size + 1) ((w.heap.size, 0, Value.bool false) :: (w.heap.size, 1, Value.bool false) :: (w.heap.size, 2, Value.int .i64 0) :: (w.heap.size, 3, Value.int .i64 0) :: []) := ⟨by simp, by simp, by simp, by simp, trivial⟩
      clear hnx hy e hEn
      by_cases h1 : y < mn <;> by_cases h2 : mx < y
      · exfalso; omega
      all_goals
        have hnx := Hnx.out
        simp only [h1, h2, if_true, if_false] at hnx
        have Hnx := hide hnx
        clear hnx
        go_wp2_with fail
        go_region
        all_goals go_wp2_with fail
        go_region
        all_goals go_wp2_with fail
        go_roundg (n - (k + 1))
        case measure => omega
        case rel => first
          | exact ⟨k + 1, _, _, by omega, by go_num, Hnx, s1.drew.drew⟩
          | exact ⟨k + 1, _, _, by omega, by go_num, Hnx, (s1.put2 (by omega) hap _).drew.drew⟩
          | exact ⟨k + 1, _, _, by omega, by go_num, Hnx, (s1.put3 (by omega) hap _).drew.drew⟩
    · have hkn' : ¬ (k : Int) < (n : Int) := by omega
      have hke : l.take k = l := List.take_of_length_le (by rw [← hl.out]; omega)
      have hEn' : mn ∈ l ∧ mx ∈ l ∧ ∀ n ∈ l, mn ≤ n ∧ n ≤ mx := by have := hEn.out; rw [Ends, hke] at this; exact ⟨this.1, this.2.1, this.2.2.2⟩
      have HEn := hide hEn'
      clear hEn hEn' hke
      go_wp2_with fail
      refine bodyPost_ret (v := .tuple #[(.agg #[.bool false, .bool false, .int .i64 mn, .int .i64 mx]), .bool true]) (by simp [results, Tryd.results16, go_sem, *]) rfl ⟨⟨⟨false, false, mn, mx⟩, true, rfl, .inr ⟨?_, rfl, rfl, rfl, HEn.out⟩⟩, ?_⟩
      · intro e; have := HEn.out.1; rw [e] at this; cases this
      · iterate 4 refine Below.setCell ?_ (by first | (simp; done) | (simp; omega)) _
        exact s1.bel

theorem span_any (x : Option Addr) (n c : Nat) (l : List Int) (w : World) (hA : IntsAt w x l) (hl : Hid (n = l.length)) (hn : n ≤ 1000000) :
    Calls Tryd.prog 16 #[.slice x n c] w fun e w' => SpanPost l e ∧ Below w.heap.size w w' := by
  rcases hA with rfl | ⟨b, off, rfl, h1, h2⟩
  · have := hl.out
    simp at this
    subst this
    exact span_none x c w
  · rcases Nat.eq_zero_or_pos n with h0 | h0
    · have hl0 : l = [] := by have := hl.out; rw [h0] at this; exact List.length_eq_zero_iff.1 this.symm
      subst hl0 h0
      exact span_none _ c w
    · exact span_some b off n c l w (.inr ⟨b, off, rfl, h1, h2⟩) hl hn h0

end Go.Proofs.YtegibkjopkakhaaDoor
