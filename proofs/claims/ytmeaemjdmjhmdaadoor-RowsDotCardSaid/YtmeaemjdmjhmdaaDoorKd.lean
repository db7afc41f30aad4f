/- Rows made of ints, and ints of rows. -/
import Derived.Test.YtmeaemjdmjhmdaaDoorKc
namespace Go.Proofs.YtmeaemjdmjhmdaaDoor
open Go.RowKit

/-- The cells of a row of numbers that an int holds. -/
def rowCells (l : List Int) : List Value := l.flatMap fun z => [.int .i64 z, .slice none 0 0]

theorem rowCells_length (l : List Int) : (rowCells l).length = l.length * 2 := by
  induction l with
  | nil => rfl
  | cons x l ih => simp only [rowCells, List.flatMap_cons, List.length_append, List.length_cons, List.length_nil] at *; omega

theorem rowCells_get (l : List Int) (i : Nat) (h : i < l.length) : (rowCells l)[i * 2]? = some (.int .i64 (l.getD i 0)) ∧ (rowCells l)[i * 2 + 1]? = some (.slice none 0 0) := by
  induction l generalizing i with
  | nil => simp at h
  | cons x l ih =>
    cases i with
    | zero => simp [rowCells]
    | succ i =>
      have := ih i (by simpa using h)
      have e : rowCells (x :: l) = [Value.int .i64 x, .slice none 0 0] ++ rowCells l := by simp [rowCells]
      rw [e, List.getElem?_append_right (by simp; omega), List.getElem?_append_right (by simp; omega)]
      have e1 : (i + 1) * 2 - ([Value.int .i64 x, Value.slice none 0 0] : List Value).length = i * 2 := by simp; omega
      have e2 : (i + 1) * 2 + 1 - ([Value.int .i64 x, Value.slice none 0 0] : List Value).length = i * 2 + 1 := by simp; omega
      rw [e1, e2]
      simpa using this

theorem rowCells_set (l : List Int) (i : Nat) (h : i < l.length) (z : Int) : ((rowCells l).set (i * 2) (.int .i64 z)).set (i * 2 + 1) (.slice none 0 0) = rowCells (l.set i z) := by
  induction l generalizing i with
  | nil => simp at h
  | cons x l ih =>
    cases i with
    | zero => simp [rowCells]
    | succ i =>
      have := ih i (by simpa using h)
      have e : ∀ y, ∀ m : List Int, rowCells (y :: m) = Value.int .i64 y :: .slice none 0 0 :: rowCells m := fun y m => by simp [rowCells]
      rw [List.set_cons_succ, e, e]
      have e1 : (i + 1) * 2 = i * 2 + 1 + 1 := by omega
      rw [e1, List.set_cons_succ, List.set_cons_succ, List.set_cons_succ, List.set_cons_succ, this]

theorem madeCells_two (A B : Value) (m j : Nat) (hj : j < m) : (madeCells #[A, B] m).toList[j]? = some (if j % 2 = 0 then A else B) := by
  rcases Nat.mod_two_eq_zero_or_one j with h | h <;> simp [madeCells, hj, h]

theorem rowCells_zeros (n : Nat) : (madeCells #[.int .i64 0, .slice none 0 0] (n * 2)).toList = rowCells (List.replicate n 0) := by
  apply List.ext_getElem?
  intro j
  by_cases hj : j < n * 2
  · rw [madeCells_two _ _ _ _ hj]
    have h1 := rowCells_get (List.replicate n 0) (j / 2) (by simp; omega)
    have hz : (List.replicate n (0 : Int)).getD (j / 2) 0 = 0 := by simp [show j / 2 < n by omega]
    rw [hz] at h1
    rcases Nat.mod_two_eq_zero_or_one j with h | h
    · rw [if_pos h, show j = j / 2 * 2 by omega, h1.1]
    · rw [if_neg (by omega)]
      have e : j = j / 2 * 2 + 1 := by omega
      rw [e, h1.2]
  · rw [List.getElem?_eq_none (by simp [size_madeCells]; omega), List.getElem?_eq_none (by rw [rowCells_length]; simp; omega)]

theorem NearRow_of_owns {w : World} {base e g n cap : Nat} {l : List Int} (h : w.ownsRow base e 2 (.slice (some ⟨g, 0, none⟩) n cap) n (rowCells l)) (hn : n = l.length) : NearRow w g l := by
  refine ⟨(h.lt g rfl).2, fun i hi => ?_⟩
  have hg := rowCells_get l i hi
  exact ⟨(h.cellAt (i * 2) (by omega)).trans hg.1, (h.cellAt (i * 2 + 1) (by omega)).trans hg.2⟩

theorem Tryd.info36 : (Tryd.prog.info? 36).map (fun i => (i.zero, i.size, i.bytes)) = some (some (.agg #[.int .i64 0, .slice none 0 0]), 2, 32) := by kernel_rfl

/-- Both cells of one number stored. -/
theorem owns_store {W : World} {base e g n : Nat} {m : List Int} (h : W.ownsRow base e 2 (.slice (some ⟨g, 0, none⟩) n n) n (rowCells m)) (hm : m.length = n) (k : Nat) (hk : k < n) (z : Int) :
    ((W.setCell ⟨g, k * 2, none⟩ (.int .i64 z)).setCell ⟨g, k * 2 + 1, none⟩ (.slice none 0 0)).ownsRow base e 2 (.slice (some ⟨g, 0, none⟩) n n) n (rowCells (m.set k z)) := by
  have h1 := (h.stored (k * 2) (.int .i64 z)).1
  have h2 := (h1.stored (k * 2 + 1) (.slice none 0 0)).1
  rwa [rowCells_set m k (by omega) z] at h2

theorem owns_cells {W : World} {base e g n : Nat} {m : List Int} (h : W.ownsRow base e 2 (.slice (some ⟨g, 0, none⟩) n n) n (rowCells m)) (hm : m.length = n) (k : Nat) (hk : k < n) :
    W.cell? ⟨g, k * 2, none⟩ = some (.int .i64 (m.getD k 0)) ∧ W.cell? ⟨g, k * 2 + 1, none⟩ = some (.slice none 0 0) ∧ W.frozen? ⟨g, k * 2, none⟩ = false ∧ W.frozen? ⟨g, k * 2 + 1, none⟩ = false := by
  have hg := rowCells_get m k (by omega)
  exact ⟨(h.cellAt (k * 2) (by omega)).trans hg.1, (h.cellAt (k * 2 + 1) (by omega)).trans hg.2, h.frozenAt _, h.frozenAt _⟩

set_option maxHeartbeats 400000 in
theorem from_any (n : Int) (w : World) :
    Calls Tryd.prog 20 #[.int .i64 n] w fun e w' => e = .returned (.agg #[.int .i64 n, .slice none 0 0]) ∧ Below w.heap.size w w' := by
  go_enter Tryd.func20, Tryd.ntmps20
  go_wp2
  exact bodyPost_ret (v := .agg #[.int .i64 n, .slice none 0 0]) (by simp [results, Tryd.results20, go_sem]) rfl ⟨rfl, (Below.refl _ _).alloc (Nat.le_refl _) _⟩

theorem getD_set_take (l m : List Int) (k : Nat) (hk : k < l.length) (hm : m.length = l.length) (h : m.take k = l.take k) : (m.set k (l.getD k 0)).take (k + 1) = l.take (k + 1) := by
  rw [take_succ_getD l k hk, take_succ_getD _ k (by simp; omega), List.take_set_of_le (by omega), h]
  simp [hm, hk]

set_option maxHeartbeats 1000000 in
theorem rowOf_some (b off c : Nat) (l : List Int) (w : World) (hb : b < w.heap.size) (hc : ∀ i, i < l.length → w.cell? ⟨b, off + i, none⟩ = some (.int .i64 (l.getD i 0))) (hn : l.length ≤ 4398046511104) :
    Calls Tryd.prog 12 #[.slice (some ⟨b, off, none⟩) l.length c] w fun e w' => ∃ g, e = .returned (.slice (some ⟨g, 0, none⟩) l.length l.length) ∧ w.heap.size ≤ g ∧ NearRow w' g l ∧ Below w.heap.size w w' := by
  obtain ⟨n, hnl⟩ : ∃ n, n = l.length := ⟨_, rfl⟩
  rw [← hnl] at hn ⊢
  have Hn := hide hnl
  clear hnl
  obtain ⟨i0, hi, hz0, hz1, hz2⟩ := info_parts Tryd.info36
  go_enter Tryd.func12, Tryd.ntmps12
  go_wp2_with (at_make; refine wpList_make_full _ rfl _ _ 38 rfl w.heap.size 36 i0 (.agg #[.int .i64 0, .slice none 0 0]) 2 Tryd.underlying38 hi hz0 hz1 _ _ _ _ n rfl rfl rfl rfl ?b2 ?b3 (Nat.le_refl _) ?_)
  case b2 => rw [hz2]; omega
  case b3 => unfold maxLen; omega
  intro w0 hown0 hgrow0
  have hown1 : w0.ownsRow w.heap.size 36 2 (.slice (some ⟨w.heap.size, 0, none⟩) n n) n (rowCells (List.replicate n 0)) := by rw [← rowCells_zeros]; exact hown0
  clear hown0
  go_wp2_with fail
  go_loopw [11] (fun i wr => ∃ (k : Nat) (m : List Int), k ≤ n ∧ i = .int .i64 k ∧ m.length = n ∧ m.take k = l.take k ∧ wr.ownsRow w.heap.size 36 2 (.slice (some ⟨w.heap.size, 0, none⟩) n n) n (rowCells m) ∧ Below w.heap.size w wr) (fun i _ => n - (intOf i).toNat)
  case atStart => exact ⟨0, List.replicate n 0, Nat.zero_le _, rfl, by simp, by simp, hown1, (Below.refl _ _).grown hgrow0 (Nat.le_refl _) (fun _ h => by cases h)⟩
  case round =>
    obtain ⟨k, m, hk, rfl, hm, htk, hown, hbel⟩ := hrel
    have HM := hide hm
    have HT := hide htk
    clear hm htk
    by_cases hlt : k < n
    · have hkl : k < l.length := by rw [← Hn.out]; exact hlt
      obtain ⟨x, hxe⟩ : ∃ x, x = l.getD k 0 := ⟨_, rfl⟩
      have hcx : wr.cell? ⟨b, off + k, none⟩ = some (.int .i64 x) := by rw [hxe, hbel.cell (p := ⟨b, off + k, none⟩) hb]; exact hc k hkl
      have Hx := hide hxe
      clear hxe
      go_wp2_with fail
      refine (from_any x _).mono ?_
      rintro e w1 ⟨rfl, hb1⟩
      have hown2 := owns_below hown hb1
      obtain ⟨c1, c2, c3, c4⟩ := owns_cells hown2 HM.out k hlt
      have hown3 := owns_store hown2 HM.out k hlt x
      have hbel3 := ((hbel.trans (hb1.mono hbel.size)).setCell (p := ⟨w.heap.size, k * 2, none⟩) (Nat.le_refl _) (.int .i64 x)).setCell (p := ⟨w.heap.size, k * 2 + 1, none⟩) (Nat.le_refl _) (.slice none 0 0)
      clear hown hown2
      go_wp2_with fail
      go_roundw
      case rel => exact ⟨k + 1, m.set k x, by omega, by go_num, by rw [List.length_set]; exact HM.out, by rw [Hx.out]; exact getD_set_take l m k hkl (by rw [HM.out, Hn.out]) HT.out, hown3, hbel3⟩
      case measure => simp [intOf]; omega
    · go_wp2_with fail
      go_ret
      have hke : m = l := by
        have h := HT.out
        rw [List.take_of_length_le (by rw [HM.out]; omega), List.take_of_length_le (by rw [← Hn.out]; omega)] at h
        exact h
      exact ⟨w.heap.size, rfl, Nat.le_refl _, NearRow_of_owns (hke ▸ hown) Hn.out, hbel⟩

end Go.Proofs.YtmeaemjdmjhmdaaDoor
