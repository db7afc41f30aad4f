/- Two rows of numbers of any size put together, number by number. -/
import Derived.Test.YtdnafkmphcebeaaDoorWl
namespace Go.Proofs.YtdnafkmphcebeaaDoor
open Go.RowKit

theorem keepV_call {w W w1 : World} {b1 b2 k : Nat} {v1 v2 v3 v4 : Value} (hb : Below W.heap.size W w1) (h : W.cell? ⟨b1, k * 2, none⟩ = some v1 ∧ W.cell? ⟨b1, k * 2 + 1, none⟩ = some v2 ∧ W.cell? ⟨b2, k * 2, none⟩ = some v3 ∧ W.cell? ⟨b2, k * 2 + 1, none⟩ = some v4 ∧ W.cell? ⟨w.heap.size, k * 2, none⟩ = some (cellOf W w.heap.size (k * 2)) ∧ W.cell? ⟨w.heap.size, k * 2 + 1, none⟩ = some (cellOf W w.heap.size (k * 2 + 1)) ∧ W.frozen? ⟨w.heap.size, k * 2, none⟩ = false ∧ W.frozen? ⟨w.heap.size, k * 2 + 1, none⟩ = false ∧ b1 < w.heap.size ∧ b2 < w.heap.size ∧ w.heap.size < W.heap.size ∧ Below w.heap.size w W) : w1.cell? ⟨b1, k * 2, none⟩ = some v1 ∧ w1.cell? ⟨b1, k * 2 + 1, none⟩ = some v2 ∧ w1.cell? ⟨b2, k * 2, none⟩ = some v3 ∧ w1.cell? ⟨b2, k * 2 + 1, none⟩ = some v4 ∧ w1.cell? ⟨w.heap.size, k * 2, none⟩ = some (cellOf w1 w.heap.size (k * 2)) ∧ w1.cell? ⟨w.heap.size, k * 2 + 1, none⟩ = some (cellOf w1 w.heap.size (k * 2 + 1)) ∧ w1.frozen? ⟨w.heap.size, k * 2, none⟩ = false ∧ w1.frozen? ⟨w.heap.size, k * 2 + 1, none⟩ = false ∧ b1 < w.heap.size ∧ b2 < w.heap.size ∧ w.heap.size < w1.heap.size ∧ Below w.heap.size w w1 := by
  obtain ⟨h1, h2, h3, h4, h5, h6, h7, h8, h9, h10, h11, h12⟩ := h
  have hs := hb.size
  refine ⟨(hb.cell (by dsimp only; omega)).trans h1, (hb.cell (by dsimp only; omega)).trans h2, (hb.cell (by dsimp only; omega)).trans h3, (hb.cell (by dsimp only; omega)).trans h4, cellOf_some ?_, cellOf_some ?_, (hb.frozen (by dsimp only; omega)).trans h7, (hb.frozen (by dsimp only; omega)).trans h8, h9, h10, by omega, h12.trans (hb.mono h12.size)⟩
  · rw [hb.cell (by dsimp only; omega), h5]; rfl
  · rw [hb.cell (by dsimp only; omega), h6]; rfl

theorem keepV_set {w W w1 : World} {b1 b2 k o : Nat} {v1 v2 v3 v4 v : Value} (e1 : w1 = W.setCell ⟨w.heap.size, o, none⟩ v) (h : W.cell? ⟨b1, k * 2, none⟩ = some v1 ∧ W.cell? ⟨b1, k * 2 + 1, none⟩ = some v2 ∧ W.cell? ⟨b2, k * 2, none⟩ = some v3 ∧ W.cell? ⟨b2, k * 2 + 1, none⟩ = some v4 ∧ W.cell? ⟨w.heap.size, k * 2, none⟩ = some (cellOf W w.heap.size (k * 2)) ∧ W.cell? ⟨w.heap.size, k * 2 + 1, none⟩ = some (cellOf W w.heap.size (k * 2 + 1)) ∧ W.frozen? ⟨w.heap.size, k * 2, none⟩ = false ∧ W.frozen? ⟨w.heap.size, k * 2 + 1, none⟩ = false ∧ b1 < w.heap.size ∧ b2 < w.heap.size ∧ w.heap.size < W.heap.size ∧ Below w.heap.size w W) : w1.cell? ⟨b1, k * 2, none⟩ = some v1 ∧ w1.cell? ⟨b1, k * 2 + 1, none⟩ = some v2 ∧ w1.cell? ⟨b2, k * 2, none⟩ = some v3 ∧ w1.cell? ⟨b2, k * 2 + 1, none⟩ = some v4 ∧ w1.cell? ⟨w.heap.size, k * 2, none⟩ = some (cellOf w1 w.heap.size (k * 2)) ∧ w1.cell? ⟨w.heap.size, k * 2 + 1, none⟩ = some (cellOf w1 w.heap.size (k * 2 + 1)) ∧ w1.frozen? ⟨w.heap.size, k * 2, none⟩ = false ∧ w1.frozen? ⟨w.heap.size, k * 2 + 1, none⟩ = false ∧ b1 < w.heap.size ∧ b2 < w.heap.size ∧ w.heap.size < w1.heap.size ∧ Below w.heap.size w w1 := by
  subst e1
  obtain ⟨h1, h2, h3, h4, h5, h6, h7, h8, h9, h10, h11, h12⟩ := h
  have e : ∀ b o', b < w.heap.size → (W.setCell ⟨w.heap.size, o, none⟩ v).cell? ⟨b, o', none⟩ = W.cell? ⟨b, o', none⟩ := fun b o' hlt => World.cell?_of_block (Below.heap_setCell W ⟨w.heap.size, o, none⟩ v b (by dsimp only; omega))
  refine ⟨(e _ _ h9).trans h1, (e _ _ h9).trans h2, (e _ _ h10).trans h3, (e _ _ h10).trans h4, cellOf_some ?_, cellOf_some ?_, by rw [frozen?_setCell']; exact h7, by rw [frozen?_setCell']; exact h8, h9, h10, by simpa [World.setCell] using h11, h12.setCell (Nat.le_refl _) v⟩
  · obtain ⟨v', hv'⟩ := cell?_setCell_some (p := ⟨w.heap.size, o, none⟩) (x := v) h5; rw [hv']; rfl
  · obtain ⟨v', hv'⟩ := cell?_setCell_some (p := ⟨w.heap.size, o, none⟩) (x := v) h6; rw [hv']; rfl

/-- What a function on two numbers answers. -/
def Maps2 (f : Nat) (caps : Array Value) (w : World) (l m : List Int) (F : Int → Int → Int) : Prop :=
  ∀ (W : World) (r : Rep) (z : Int) (s : Rep) (y : Int), Below w.heap.size w W → z ∈ l → y ∈ m → NumR W r z → NumR W s y → Calls Tryd.prog f (#[.agg #[.int .i64 r.p, .slice r.a r.n r.c], .agg #[.int .i64 s.p, .slice s.a s.n s.c]] ++ caps) W fun e w' => ∃ q : Rep, e = .returned (.agg #[.int .i64 q.p, .slice q.a q.n q.c]) ∧ NumR w' q (F z y) ∧ Below W.heap.size W w'

theorem zipF_get (F : Int → Int → Int) (l m : List Int) (k : Nat) (hk : k < l.length) (hm : k < m.length) : (List.zipWith F l m).getD k 0 = F (l.getD k 0) (m.getD k 0) := by
  simp [List.getElem?_zipWith, hk, hm]

set_option maxHeartbeats 2000000 in
set_option maxRecDepth 20000 in
/-- Two rows put together. -/
theorem with_any (f : Nat) (caps : Array Value) (F : Int → Int → Int) (b1 c1 b2 c2 n : Nat) (l m : List Int) (w : World) (hr1 : Hid (NumsAt w b1 l)) (hr2 : Hid (NumsAt w b2 m)) (hl : Hid (n = l.length)) (hm : Hid (n = m.length)) (hn : n ≤ 1073741824) (hE : Hid (Enters f)) (hf : Hid (Maps2 f caps w l m F)) :
    Calls Tryd.prog 37 #[.slice (some ⟨b1, 0, none⟩) n c1, .slice (some ⟨b2, 0, none⟩) n c2, .func (.func f) #[] caps] w fun e w' => ∃ g, e = .returned (.slice (some ⟨g, 0, none⟩) n n) ∧ w.heap.size ≤ g ∧ NumsAt w' g (List.zipWith F l m) ∧ Below w.heap.size w w' := by
  have hE' : ∀ (args : Array Value) (W : World), (callFunc f args).run Tryd.prog W = .ok (.enter f args) W := hE.out
  obtain ⟨i0, hi, hz0, hz1, hz2⟩ := info_parts Tryd.info55
  go_enter Tryd.func37, Tryd.ntmps37
  go_wp2_with (at_make; refine wpList_make_full _ rfl _ _ 57 rfl w.heap.size 55 i0 (.agg #[.int .i64 0, .slice none 0 0]) 2 Tryd.underlying57 hi hz0 hz1 _ _ _ _ n rfl rfl rfl rfl ?b2 ?b3 (Nat.le_refl _) ?_)
  case b2 => rw [hz2]; omega
  case b3 => unfold maxLen; omega
  intro w0 hown0 hgrow0
  have hown1 : w0.ownsRow w.heap.size 55 2 (.slice (some ⟨w.heap.size, 0, none⟩) n n) n (repCells (List.replicate n rep0)) := by rw [← repCells_zeros]; exact hown0
  clear hown0
  go_wp2_with fail
  go_loopw [17] (fun i wr => ∃ (k : Nat) (t : List Rep), k ≤ n ∧ i = .int .i64 k ∧ t.length = n ∧ wr.ownsRow w.heap.size 55 2 (.slice (some ⟨w.heap.size, 0, none⟩) n n) n (repCells t) ∧ Hid (∀ j, j < k → NumR wr (t.getD j rep0) (F (l.getD j 0) (m.getD j 0))) ∧ Below w.heap.size w wr) (fun i _ => n - (intOf i).toNat)
  case atStart => exact ⟨0, List.replicate n rep0, Nat.zero_le _, rfl, by simp, hown1, fun j hj => by omega, (Below.refl _ _).grown hgrow0 (Nat.le_refl _) (fun _ h => by cases h)⟩
  case round =>
    obtain ⟨k, t, hk, rfl, ht, hown, HO, hbel⟩ := hrel
    have HT := hide ht
    clear ht
    by_cases hlt : k < n
    · have hkl : k < l.length := by rw [← hl.out]; exact hlt
      have hkm : k < m.length := by rw [← hm.out]; exact hlt
      obtain ⟨r, q0, q1, q2⟩ := hr1.out.2 k hkl
      obtain ⟨s, p0, p1, p2⟩ := hr2.out.2 k hkm
      obtain ⟨o1, o2, o3, o4⟩ := ownsR_cells hown HT.out k hlt
      have hgl : w.heap.size < wr.heap.size := (hown.lt _ rfl).2
      have hS0 := hide (show (fun w' => w'.cell? ⟨b1, k * 2, none⟩ = some (.int .i64 r.p) ∧ w'.cell? ⟨b1, k * 2 + 1, none⟩ = some (.slice r.a r.n r.c) ∧ w'.cell? ⟨b2, k * 2, none⟩ = some (.int .i64 s.p) ∧ w'.cell? ⟨b2, k * 2 + 1, none⟩ = some (.slice s.a s.n s.c) ∧ w'.cell? ⟨w.heap.size, k * 2, none⟩ = some (cellOf w' w.heap.size (k * 2)) ∧ w'.cell? ⟨w.heap.size, k * 2 + 1, none⟩ = some (cellOf w' w.heap.size (k * 2 + 1)) ∧ w'.frozen? ⟨w.heap.size, k * 2, none⟩ = false ∧ w'.frozen? ⟨w.heap.size, k * 2 + 1, none⟩ = false ∧ b1 < w.heap.size ∧ b2 < w.heap.size ∧ w.heap.size < w'.heap.size ∧ Below w.heap.size w w') wr from ⟨(hbel.cell (p := ⟨b1, k * 2, none⟩) hr1.out.1).trans q0, (hbel.cell (p := ⟨b1, k * 2 + 1, none⟩) hr1.out.1).trans q1, (hbel.cell (p := ⟨b2, k * 2, none⟩) hr2.out.1).trans p0, (hbel.cell (p := ⟨b2, k * 2 + 1, none⟩) hr2.out.1).trans p1, cellOf_some (by rw [o1]; rfl), cellOf_some (by rw [o2]; rfl), o3, o4, hr1.out.1, hr2.out.1, hgl, hbel⟩)
      have hq := hide q2
      have hp := hide p2
      have hm1 : Hid (l.getD k 0 ∈ l) := by unfold Hid; simp [hkl]
      have hm2 : Hid (m.getD k 0 ∈ m) := by unfold Hid; simp [hkm]
      clear q2 p2
      have hkn : (k : Int) < (n : Int) := by omega
      have HOWN := hide hown
      have HB := hide hbel
      clear hown o1 o2 o3 o4
      go_wp2_with fail
      go_region_held3 (fun w' => w'.cell? ⟨b1, k * 2, none⟩ = some (.int .i64 r.p) ∧ w'.cell? ⟨b1, k * 2 + 1, none⟩ = some (.slice r.a r.n r.c) ∧ w'.cell? ⟨b2, k * 2, none⟩ = some (.int .i64 s.p) ∧ w'.cell? ⟨b2, k * 2 + 1, none⟩ = some (.slice s.a s.n s.c) ∧ w'.cell? ⟨w.heap.size, k * 2, none⟩ = some (cellOf w' w.heap.size (k * 2)) ∧ w'.cell? ⟨w.heap.size, k * 2 + 1, none⟩ = some (cellOf w' w.heap.size (k * 2 + 1)) ∧ w'.frozen? ⟨w.heap.size, k * 2, none⟩ = false ∧ w'.frozen? ⟨w.heap.size, k * 2 + 1, none⟩ = false ∧ b1 < w.heap.size ∧ b2 < w.heap.size ∧ w.heap.size < w'.heap.size ∧ Below w.heap.size w w') (first | (exact keepV_call (by assumption) (by assumption)) | (exact keepV_set rfl (keepV_set rfl (by assumption))) | (exact keepV_set rfl (by assumption)) | (exact keepV_call ((Below.refl _ _).drew) (unhide hS0)))
        (first | (refine (hf.out _ r _ s _ (HB.out.drew) hm1.out hm2.out (hq.out.below (HB.out.drew)) (hp.out.below (HB.out.drew))).mono ?_; rintro e w2 ⟨q, rfl, hN, hb2⟩))
      have hown2 := owns_below (HOWN.out.drew) hb2
      have hown3 := ownsR_store hown2 HT.out k hlt q
      have hO2 := nums_below (nums_below HO.out ((Below.refl wr.heap.size wr).drew)) hb2
      have hO3 := hide (nums_step hown2 HT.out k hlt q (fun j => F (l.getD j 0) (m.getD j 0)) hO2 hN)
      have hbel3 := (((hbel.drew).trans (hb2.mono hbel.size)).setCell (p := ⟨w.heap.size, k * 2, none⟩) (Nat.le_refl _) (.int .i64 q.p)).setCell (p := ⟨w.heap.size, k * 2 + 1, none⟩) (Nat.le_refl _) (.slice q.a q.n q.c)
      clear hO2 hN
      go_wp2_with fail
      go_roundw
      case rel => exact ⟨k + 1, t.set k q, by omega, by go_num, by rw [List.length_set]; exact HT.out, hown3, hO3, hbel3⟩
      case measure => simp [intOf]; omega
    · go_wp2_with fail
      go_ret
      have hkn : k = n := by omega
      exact ⟨w.heap.size, rfl, Nat.le_refl _, NumsAt_of_owns hown HT.out (by rw [List.length_zipWith, ← hl.out, ← hm.out]; simp) (fun j hj => by
        have h := HO.out j (by omega)
        rw [zipF_get F l m j (by rw [← hl.out]; omega) (by rw [← hm.out]; omega)]; exact h), hbel⟩

end Go.Proofs.YtdnafkmphcebeaaDoor
