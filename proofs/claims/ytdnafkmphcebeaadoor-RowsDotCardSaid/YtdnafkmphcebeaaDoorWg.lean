/- Two rows of ints multiplied, number by number; their sum of products. -/
import Derived.Test.YtdnafkmphcebeaaDoorWf
namespace Go.Proofs.YtdnafkmphcebeaaDoor
open Go.RowKit

theorem keepW_call {W w1 : World} {b1 b2 g k : Nat} {x y : Int} (hb : Below W.heap.size W w1) (h : W.cell? ⟨b1, k * 2, none⟩ = some (.int .i64 x) ∧ W.cell? ⟨b1, k * 2 + 1, none⟩ = some (.slice none 0 0) ∧ W.cell? ⟨b2, k * 2, none⟩ = some (.int .i64 y) ∧ W.cell? ⟨b2, k * 2 + 1, none⟩ = some (.slice none 0 0) ∧ W.cell? ⟨g, k * 2, none⟩ = some (cellOf W g (k * 2)) ∧ W.cell? ⟨g, k * 2 + 1, none⟩ = some (cellOf W g (k * 2 + 1)) ∧ W.frozen? ⟨g, k * 2, none⟩ = false ∧ W.frozen? ⟨g, k * 2 + 1, none⟩ = false ∧ b1 < g ∧ b2 < g ∧ g < W.heap.size) :
    w1.cell? ⟨b1, k * 2, none⟩ = some (.int .i64 x) ∧ w1.cell? ⟨b1, k * 2 + 1, none⟩ = some (.slice none 0 0) ∧ w1.cell? ⟨b2, k * 2, none⟩ = some (.int .i64 y) ∧ w1.cell? ⟨b2, k * 2 + 1, none⟩ = some (.slice none 0 0) ∧ w1.cell? ⟨g, k * 2, none⟩ = some (cellOf w1 g (k * 2)) ∧ w1.cell? ⟨g, k * 2 + 1, none⟩ = some (cellOf w1 g (k * 2 + 1)) ∧ w1.frozen? ⟨g, k * 2, none⟩ = false ∧ w1.frozen? ⟨g, k * 2 + 1, none⟩ = false ∧ b1 < g ∧ b2 < g ∧ g < w1.heap.size := by
  obtain ⟨h1, h2, h3, h4, h5, h6, h7, h8, h9, h10, h11⟩ := h
  have hs := hb.size
  refine ⟨(hb.cell (by dsimp only; omega)).trans h1, (hb.cell (by dsimp only; omega)).trans h2, (hb.cell (by dsimp only; omega)).trans h3, (hb.cell (by dsimp only; omega)).trans h4, cellOf_some ?_, cellOf_some ?_, (hb.frozen (by dsimp only; omega)).trans h7, (hb.frozen (by dsimp only; omega)).trans h8, h9, h10, by omega⟩
  · rw [hb.cell (by dsimp only; omega), h5]; rfl
  · rw [hb.cell (by dsimp only; omega), h6]; rfl

theorem keepW_set {W : World} {b1 b2 g k o : Nat} {x y : Int} {v : Value} (h : W.cell? ⟨b1, k * 2, none⟩ = some (.int .i64 x) ∧ W.cell? ⟨b1, k * 2 + 1, none⟩ = some (.slice none 0 0) ∧ W.cell? ⟨b2, k * 2, none⟩ = some (.int .i64 y) ∧ W.cell? ⟨b2, k * 2 + 1, none⟩ = some (.slice none 0 0) ∧ W.cell? ⟨g, k * 2, none⟩ = some (cellOf W g (k * 2)) ∧ W.cell? ⟨g, k * 2 + 1, none⟩ = some (cellOf W g (k * 2 + 1)) ∧ W.frozen? ⟨g, k * 2, none⟩ = false ∧ W.frozen? ⟨g, k * 2 + 1, none⟩ = false ∧ b1 < g ∧ b2 < g ∧ g < W.heap.size) :
    (W.setCell ⟨g, o, none⟩ v).cell? ⟨b1, k * 2, none⟩ = some (.int .i64 x) ∧ (W.setCell ⟨g, o, none⟩ v).cell? ⟨b1, k * 2 + 1, none⟩ = some (.slice none 0 0) ∧ (W.setCell ⟨g, o, none⟩ v).cell? ⟨b2, k * 2, none⟩ = some (.int .i64 y) ∧ (W.setCell ⟨g, o, none⟩ v).cell? ⟨b2, k * 2 + 1, none⟩ = some (.slice none 0 0) ∧ (W.setCell ⟨g, o, none⟩ v).cell? ⟨g, k * 2, none⟩ = some (cellOf (W.setCell ⟨g, o, none⟩ v) g (k * 2)) ∧ (W.setCell ⟨g, o, none⟩ v).cell? ⟨g, k * 2 + 1, none⟩ = some (cellOf (W.setCell ⟨g, o, none⟩ v) g (k * 2 + 1)) ∧ (W.setCell ⟨g, o, none⟩ v).frozen? ⟨g, k * 2, none⟩ = false ∧ (W.setCell ⟨g, o, none⟩ v).frozen? ⟨g, k * 2 + 1, none⟩ = false ∧ b1 < g ∧ b2 < g ∧ g < (W.setCell ⟨g, o, none⟩ v).heap.size := by
  obtain ⟨h1, h2, h3, h4, h5, h6, h7, h8, h9, h10, h11⟩ := h
  have e : ∀ b o', b < g → (W.setCell ⟨g, o, none⟩ v).cell? ⟨b, o', none⟩ = W.cell? ⟨b, o', none⟩ := fun b o' hlt => World.cell?_of_block (Below.heap_setCell W ⟨g, o, none⟩ v b (by dsimp only; omega))
  refine ⟨(e _ _ h9).trans h1, (e _ _ h9).trans h2, (e _ _ h10).trans h3, (e _ _ h10).trans h4, cellOf_some ?_, cellOf_some ?_, by rw [frozen?_setCell']; exact h7, by rw [frozen?_setCell']; exact h8, h9, h10, by simpa [World.setCell] using h11⟩
  · obtain ⟨v', hv'⟩ := cell?_setCell_some (p := ⟨g, o, none⟩) (x := v) h5; rw [hv']; rfl
  · obtain ⟨v', hv'⟩ := cell?_setCell_some (p := ⟨g, o, none⟩) (x := v) h6; rw [hv']; rfl

/-- The products of two rows. -/
def prodL (l m : List Int) : List Int := List.zipWith (· * ·) l m

theorem prodL_length (l m : List Int) (h : l.length = m.length) : (prodL l m).length = l.length := by simp [prodL, h]

theorem prodL_get (l m : List Int) (h : l.length = m.length) (k : Nat) (hk : k < l.length) : (prodL l m).getD k 0 = l.getD k 0 * m.getD k 0 := by
  have hm : k < m.length := by omega
  simp [prodL, List.getElem?_zipWith, hk, hm]

set_option maxHeartbeats 2000000 in
theorem withTimes_near (b1 c1 b2 c2 : Nat) (l m : List Int) (n : Nat) (w : World) (hr1 : NearRow w b1 l) (hr2 : NearRow w b2 m) (hl : Hid (n = l.length)) (hm : Hid (n = m.length)) (hn : n ≤ 1073741824)
    (hbd1 : ∀ x ∈ l, -2147483648 ≤ x ∧ x ≤ 2147483648) (hbd2 : ∀ x ∈ m, -2147483648 ≤ x ∧ x ≤ 2147483648) :
    Calls Tryd.prog 37 #[.slice (some ⟨b1, 0, none⟩) n c1, .slice (some ⟨b2, 0, none⟩) n c2, .func (.func 38) #[] #[]] w fun e w' => ∃ g, e = .returned (.slice (some ⟨g, 0, none⟩) n n) ∧ w.heap.size ≤ g ∧ NearRow w' g (prodL l m) ∧ Below w.heap.size w w' := by
  have Hb1 := hide hbd1
  have Hb2 := hide hbd2
  clear hbd1 hbd2
  obtain ⟨i0, hi, hz0, hz1, hz2⟩ := info_parts Tryd.info55
  go_enter Tryd.func37, Tryd.ntmps37
  go_wp2_with (at_make; refine wpList_make_full _ rfl _ _ 57 rfl w.heap.size 55 i0 (.agg #[.int .i64 0, .slice none 0 0]) 2 Tryd.underlying57 hi hz0 hz1 _ _ _ _ n rfl rfl rfl rfl ?b2 ?b3 (Nat.le_refl _) ?_)
  case b2 => rw [hz2]; omega
  case b3 => unfold maxLen; omega
  intro w0 hown0 hgrow0
  have hown1 : w0.ownsRow w.heap.size 55 2 (.slice (some ⟨w.heap.size, 0, none⟩) n n) n (rowCells (List.replicate n 0)) := by rw [← rowCells_zeros]; exact hown0
  clear hown0
  go_wp2_with fail
  go_loopw [17] (fun i wr => ∃ (k : Nat) (t : List Int), k ≤ n ∧ i = .int .i64 k ∧ t.length = n ∧ t.take k = (prodL l m).take k ∧ wr.ownsRow w.heap.size 55 2 (.slice (some ⟨w.heap.size, 0, none⟩) n n) n (rowCells t) ∧ Below w.heap.size w wr) (fun i _ => n - (intOf i).toNat)
  case atStart => exact ⟨0, List.replicate n 0, Nat.zero_le _, rfl, by simp, by simp, hown1, (Below.refl _ _).grown hgrow0 (Nat.le_refl _) (fun _ h => by cases h)⟩
  case round =>
    obtain ⟨k, t, hk, rfl, ht, htk, hown, hbel⟩ := hrel
    have HT := hide ht
    have HK := hide htk
    clear ht htk
    by_cases hlt : k < n
    · have hkl : k < l.length := by rw [← hl.out]; exact hlt
      have hkm : k < m.length := by rw [← hm.out]; exact hlt
      obtain ⟨x, hxe⟩ : ∃ x, x = l.getD k 0 := ⟨_, rfl⟩
      obtain ⟨y, hye⟩ : ∃ y, y = m.getD k 0 := ⟨_, rfl⟩
      have hc0 : wr.cell? ⟨b1, k * 2, none⟩ = some (.int .i64 x) := by rw [hxe, hbel.cell (p := ⟨b1, k * 2, none⟩) hr1.1]; exact (hr1.2 k hkl).1
      have hc1 : wr.cell? ⟨b1, k * 2 + 1, none⟩ = some (.slice none 0 0) := by rw [hbel.cell (p := ⟨b1, k * 2 + 1, none⟩) hr1.1]; exact (hr1.2 k hkl).2
      have hd0 : wr.cell? ⟨b2, k * 2, none⟩ = some (.int .i64 y) := by rw [hye, hbel.cell (p := ⟨b2, k * 2, none⟩) hr2.1]; exact (hr2.2 k hkm).1
      have hd1 : wr.cell? ⟨b2, k * 2 + 1, none⟩ = some (.slice none 0 0) := by rw [hbel.cell (p := ⟨b2, k * 2 + 1, none⟩) hr2.1]; exact (hr2.2 k hkm).2
      have hx := Hb1.out x (by rw [hxe]; simp [hkl])
      have hy := Hb2.out y (by rw [hye]; simp [hkm])
      have hpr : Hid ((x.natAbs : Int) * (y.natAbs : Int) ≤ 9223372036854775807) := by
        unfold Hid
        have h := Int.mul_le_mul (show (x.natAbs : Int) ≤ 2147483648 by omega) (show (y.natAbs : Int) ≤ 2147483648 by omega) (by omega) (by omega)
        omega
      have Hx := hide hxe
      have Hy := hide hye
      obtain ⟨o1, o2, o3, o4⟩ := owns_cells hown HT.out k hlt
      have hgl : w.heap.size < wr.heap.size := (hown.lt _ rfl).2
      have hS0 := hide (show wr.cell? ⟨b1, k * 2, none⟩ = some (.int .i64 x) ∧ wr.cell? ⟨b1, k * 2 + 1, none⟩ = some (.slice none 0 0) ∧ wr.cell? ⟨b2, k * 2, none⟩ = some (.int .i64 y) ∧ wr.cell? ⟨b2, k * 2 + 1, none⟩ = some (.slice none 0 0) ∧ wr.cell? ⟨w.heap.size, k * 2, none⟩ = some (cellOf wr w.heap.size (k * 2)) ∧ wr.cell? ⟨w.heap.size, k * 2 + 1, none⟩ = some (cellOf wr w.heap.size (k * 2 + 1)) ∧ wr.frozen? ⟨w.heap.size, k * 2, none⟩ = false ∧ wr.frozen? ⟨w.heap.size, k * 2 + 1, none⟩ = false ∧ b1 < w.heap.size ∧ b2 < w.heap.size ∧ w.heap.size < wr.heap.size from ⟨hc0, hc1, hd0, hd1, cellOf_some (by rw [o1]; rfl), cellOf_some (by rw [o2]; rfl), o3, o4, hr1.1, hr2.1, hgl⟩)
      have hkn : (k : Int) < (n : Int) := by omega
      have hbel0 := hbel
      clear hxe hye
      have HOWN := hide hown
      clear hown o1 o2 o3 o4
      go_wp2_with fail
      go_region_held3 (fun w' => w'.cell? ⟨b1, k * 2, none⟩ = some (.int .i64 x) ∧ w'.cell? ⟨b1, k * 2 + 1, none⟩ = some (.slice none 0 0) ∧ w'.cell? ⟨b2, k * 2, none⟩ = some (.int .i64 y) ∧ w'.cell? ⟨b2, k * 2 + 1, none⟩ = some (.slice none 0 0) ∧ w'.cell? ⟨w.heap.size, k * 2, none⟩ = some (cellOf w' w.heap.size (k * 2)) ∧ w'.cell? ⟨w.heap.size, k * 2 + 1, none⟩ = some (cellOf w' w.heap.size (k * 2 + 1)) ∧ w'.frozen? ⟨w.heap.size, k * 2, none⟩ = false ∧ w'.frozen? ⟨w.heap.size, k * 2 + 1, none⟩ = false ∧ b1 < w.heap.size ∧ b2 < w.heap.size ∧ w.heap.size < w'.heap.size) (first | (exact keepW_call (by assumption) (by assumption)) | (exact keepW_set (keepW_set (by assumption))) | (exact keepW_set (by assumption)) | (exact keepW_call ((Below.refl _ _).drew) (unhide hS0)))
        (first
          | (go_at_call 38; refine (timesN_small x y _ (by omega) (by omega) (by omega) (by omega) hpr.out).mono ?_; rintro e w2 ⟨rfl, hb2⟩))
      have hown2 := owns_below (HOWN.out.drew) hb2
      have hown3 := owns_store hown2 HT.out k hlt (x * y)
      have hbel3 := (((hbel.drew).trans (hb2.mono hbel.size)).setCell (p := ⟨w.heap.size, k * 2, none⟩) (Nat.le_refl _) (.int .i64 (x * y))).setCell (p := ⟨w.heap.size, k * 2 + 1, none⟩) (Nat.le_refl _) (.slice none 0 0)
      go_wp2_with fail
      go_roundw
      case rel => exact ⟨k + 1, t.set k (x * y), by omega, by go_num, by rw [List.length_set]; exact HT.out, by rw [Hx.out, Hy.out, ← prodL_get l m (by rw [← hl.out, ← hm.out]) k hkl]; exact getD_set_take (prodL l m) t k (by rw [prodL_length l m (by rw [← hl.out, ← hm.out])]; exact hkl) (by rw [HT.out, prodL_length l m (by rw [← hl.out, ← hm.out])]; exact hl.out) HK.out, hown3, hbel3⟩
      case measure => simp [intOf]; omega
    · go_wp2_with fail
      go_ret
      have hpl : (prodL l m).length = n := by rw [prodL_length l m (by rw [← hl.out, ← hm.out])]; exact hl.out.symm
      have hke : t = prodL l m := by
        have h := HK.out
        rw [List.take_of_length_le (by rw [HT.out]; omega), List.take_of_length_le (by rw [hpl]; omega)] at h
        exact h
      exact ⟨w.heap.size, rfl, Nat.le_refl _, NearRow_of_owns (hke ▸ hown) hpl.symm, hbel⟩

end Go.Proofs.YtdnafkmphcebeaaDoor
