/- Rows of numbers of any size told as ints; x times a number and y times another one. -/
import Derived.Test.YtdnafkmphcebeaaDoorWt
import Derived.Test.YtdnafkmphcebeaaDoorWm
namespace Go.Proofs.YtdnafkmphcebeaaDoor
open Go.RowKit

set_option maxHeartbeats 1000000 in
set_option maxRecDepth 20000 in
/-- A row told as ints, if an int holds each number. -/
theorem intsN_any (b c n : Nat) (l : List Int) (w : World) (hr : Hid (NumsAt w b l)) (hl : Hid (n = l.length)) (hn : n ≤ 1073741824) :
    Calls Tryd.prog 29 #[.slice (some ⟨b, 0, none⟩) n c] w fun e w' => ∃ (a : Option Addr) (m d : Nat) (ok : Bool), e = .returned (.tuple #[.slice a m d, .bool ok]) ∧ ((ok = true ∧ m = n ∧ (∀ x ∈ l, Fit x) ∧ IntsAt w' a l) ∨ (ok = false ∧ a = none ∧ m = 0 ∧ d = 0 ∧ ¬ ∀ x ∈ l, Fit x)) ∧ Below w.heap.size w w' := by
  obtain ⟨i0, hi, hz0, hz1, hz2⟩ := info_parts Tryd.info3
  go_enter Tryd.func29, Tryd.ntmps29
  go_wp2_with (at_make; refine wpList_make_full _ rfl _ _ 22 rfl w.heap.size 3 i0 (.int .i64 0) 1 Tryd.underlying22 hi hz0 hz1 _ _ _ _ n rfl rfl rfl rfl ?b2 ?b3 (Nat.le_refl _) ?_)
  case b2 => rw [hz2]; omega
  case b3 => unfold maxLen; omega
  intro w0 hown0 hgrow0
  have hown1 : w0.ownsRow w.heap.size 3 1 (.slice (some ⟨w.heap.size, 0, none⟩) n n) n ((List.replicate n (0 : Int)).map (Value.int .i64)) := by rw [← madeCells_ints]; exact hown0
  clear hown0
  go_wp2_with fail
  go_loopw [14] (fun i wr => ∃ (k : Nat) (m : List Int), k ≤ n ∧ i = .int .i64 k ∧ m.length = n ∧ m.take k = l.take k ∧ Hid (∀ j, j < k → Fit (l.getD j 0)) ∧ wr.ownsRow w.heap.size 3 1 (.slice (some ⟨w.heap.size, 0, none⟩) n n) n (m.map (Value.int .i64)) ∧ Below w.heap.size w wr) (fun i _ => n - (intOf i).toNat)
  case atStart => exact ⟨0, List.replicate n 0, Nat.zero_le _, rfl, by simp, by simp, fun j hj => by omega, hown1, (Below.refl _ _).grown hgrow0 (Nat.le_refl _) (fun _ h => by cases h)⟩
  case round =>
    obtain ⟨k, m, hk, rfl, hm, htk, HF, hown, hbel⟩ := hrel
    have HM := hide hm
    have HT := hide htk
    clear hm htk
    by_cases hlt : k < n
    · have hkl : k < l.length := by rw [← hl.out]; exact hlt
      obtain ⟨x, hxe⟩ : ∃ x, x = l.getD k 0 := ⟨_, rfl⟩
      obtain ⟨r, q0, q1, q2⟩ := hr.out.2 k hkl
      rw [← hxe] at q2
      by_cases hfx : Fit x
      · have hre := q2.near hfx
        subst hre
        have hc0 : wr.cell? ⟨b, k * 2, none⟩ = some (.int .i64 x) := (hbel.cell (p := ⟨b, k * 2, none⟩) hr.out.1).trans q0
        have hc1 : wr.cell? ⟨b, k * 2 + 1, none⟩ = some (.slice none 0 0) := (hbel.cell (p := ⟨b, k * 2 + 1, none⟩) hr.out.1).trans q1
        have Hx := hide hxe
        have HX := hide hfx
        clear hxe q0 q1 q2 hfx
        go_wp2_with fail
        refine (int_near x _).mono ?_
        rintro e w1 ⟨rfl, hb1⟩
        have hown2 := owns_below (hown.alloc _) hb1
        have hbel2 := (hbel.alloc hbel.size _).trans (hb1.mono (by have := hbel.size; simp; omega))
        have hc2 : w1.cell? ⟨w.heap.size, k, none⟩ = some (.int .i64 (m.getD k 0)) := by rw [hown2.cellAt k (by omega)]; simp [show k < m.length by rw [HM.out]; exact hlt]
        have hf2 := hown2.frozenAt k
        have hown3 := (hown2.stored k (.int .i64 x)).1
        rw [← List.map_set] at hown3
        have hbel3 := hbel2.setCell (p := ⟨w.heap.size, k, none⟩) (Nat.le_refl _) (.int .i64 x)
        clear hown hown2
        go_wp2_with fail
        go_roundw
        case rel => exact ⟨k + 1, m.set k x, by omega, by go_num, by rw [List.length_set]; exact HM.out, by rw [Hx.out]; exact getD_set_take l m k hkl (by rw [HM.out, ← hl.out]) HT.out, fun j hj => by
          by_cases e : j = k
          · rw [e, ← Hx.out]; exact HX.out
          · exact HF.out j (by omega), hown3, hbel3⟩
        case measure => simp [intOf]; omega
      · have hc0 : wr.cell? ⟨b, k * 2, none⟩ = some (.int .i64 r.p) := (hbel.cell (p := ⟨b, k * 2, none⟩) hr.out.1).trans q0
        have hc1 : wr.cell? ⟨b, k * 2 + 1, none⟩ = some (.slice r.a r.n r.c) := (hbel.cell (p := ⟨b, k * 2 + 1, none⟩) hr.out.1).trans q1
        have hrn := q2.far hfx
        have hno : Hid (¬ ∀ x ∈ l, Fit x) := fun h => hfx (by rw [hxe]; exact h _ (by simp [hkl]))
        clear hxe q0 q1 q2 hfx
        go_wp2_with fail
        refine (int_far r.p r.a r.n r.c _ hrn).mono ?_
        rintro e w1 ⟨rfl, hb1⟩
        have hbel2 := (hbel.alloc hbel.size _).trans (hb1.mono (by have := hbel.size; simp; omega))
        go_wp2_with fail
        go_ret2
        exact ⟨none, 0, 0, false, rfl, .inr ⟨rfl, rfl, rfl, rfl, hno.out⟩, hbel2⟩
    · go_wp2_with fail
      go_ret2
      have hke : m = l := by
        have h := HT.out
        rw [List.take_of_length_le (by rw [HM.out]; omega), List.take_of_length_le (by rw [← hl.out]; omega)] at h
        exact h
      refine ⟨some ⟨w.heap.size, 0, none⟩, n, n, true, rfl, .inl ⟨rfl, rfl, fun x hx => ?_, IntsAt_of_owns (hke ▸ hown) hl.out⟩, hbel⟩
      obtain ⟨j, hj, rfl⟩ := List.getElem_of_mem hx
      have h := HF.out j (by have := hl.out; omega)
      simpa [hj] using h

theorem keepY {w W w1 : World} {v1 v2 v3 v4 u1 u2 u3 u4 : Value} {X Y : Nat} (hb : Below W.heap.size W w1) (h : W.cell? ⟨X, 0, none⟩ = some (u1) ∧ W.cell? ⟨X, 1, none⟩ = some (u2) ∧ W.cell? ⟨Y, 0, none⟩ = some (u3) ∧ W.cell? ⟨Y, 1, none⟩ = some (u4) ∧ X < w.heap.size ∧ Y < w.heap.size ∧ W.cell? ⟨w.heap.size, 0, none⟩ = some (v1) ∧ W.cell? ⟨w.heap.size, 1, none⟩ = some (v2) ∧ W.cell? ⟨w.heap.size + 1, 0, none⟩ = some (v3) ∧ W.cell? ⟨w.heap.size + 1, 1, none⟩ = some (v4) ∧ W.cell? ⟨w.heap.size + 1 + 1, 0, none⟩ = some (.int .i64 (boxI W (w.heap.size + 1 + 1))) ∧ W.cell? ⟨w.heap.size + 1 + 1, 1, none⟩ = some (.slice (boxA W (w.heap.size + 1 + 1)) (boxN W (w.heap.size + 1 + 1)) (boxC W (w.heap.size + 1 + 1))) ∧ W.frozen? ⟨w.heap.size + 1 + 1, 0, none⟩ = false ∧ W.frozen? ⟨w.heap.size + 1 + 1, 1, none⟩ = false ∧ w.heap.size + 1 + 1 < W.heap.size ∧ Below w.heap.size w W) : w1.cell? ⟨X, 0, none⟩ = some (u1) ∧ w1.cell? ⟨X, 1, none⟩ = some (u2) ∧ w1.cell? ⟨Y, 0, none⟩ = some (u3) ∧ w1.cell? ⟨Y, 1, none⟩ = some (u4) ∧ X < w.heap.size ∧ Y < w.heap.size ∧ w1.cell? ⟨w.heap.size, 0, none⟩ = some (v1) ∧ w1.cell? ⟨w.heap.size, 1, none⟩ = some (v2) ∧ w1.cell? ⟨w.heap.size + 1, 0, none⟩ = some (v3) ∧ w1.cell? ⟨w.heap.size + 1, 1, none⟩ = some (v4) ∧ w1.cell? ⟨w.heap.size + 1 + 1, 0, none⟩ = some (.int .i64 (boxI w1 (w.heap.size + 1 + 1))) ∧ w1.cell? ⟨w.heap.size + 1 + 1, 1, none⟩ = some (.slice (boxA w1 (w.heap.size + 1 + 1)) (boxN w1 (w.heap.size + 1 + 1)) (boxC w1 (w.heap.size + 1 + 1))) ∧ w1.frozen? ⟨w.heap.size + 1 + 1, 0, none⟩ = false ∧ w1.frozen? ⟨w.heap.size + 1 + 1, 1, none⟩ = false ∧ w.heap.size + 1 + 1 < w1.heap.size ∧ Below w.heap.size w w1 := by
  obtain ⟨h1, h2, h3, h4, h5, h6, h7⟩ := h
  have hs := h7.2.2.2.2.2.2.2.2.1
  exact ⟨(hb.cell (by dsimp only; omega)).trans h1, (hb.cell (by dsimp only; omega)).trans h2, (hb.cell (by dsimp only; omega)).trans h3, (hb.cell (by dsimp only; omega)).trans h4, h5, h6, keepR hb h7⟩

theorem keepY_set {w W w1 : World} {v1 v2 v3 v4 u1 u2 u3 u4 : Value} {X Y : Nat} {x : Int} {b : Option Addr} {m d : Nat} (h : W.cell? ⟨X, 0, none⟩ = some (u1) ∧ W.cell? ⟨X, 1, none⟩ = some (u2) ∧ W.cell? ⟨Y, 0, none⟩ = some (u3) ∧ W.cell? ⟨Y, 1, none⟩ = some (u4) ∧ X < w.heap.size ∧ Y < w.heap.size ∧ W.cell? ⟨w.heap.size, 0, none⟩ = some (v1) ∧ W.cell? ⟨w.heap.size, 1, none⟩ = some (v2) ∧ W.cell? ⟨w.heap.size + 1, 0, none⟩ = some (v3) ∧ W.cell? ⟨w.heap.size + 1, 1, none⟩ = some (v4) ∧ W.cell? ⟨w.heap.size + 1 + 1, 0, none⟩ = some (.int .i64 (boxI W (w.heap.size + 1 + 1))) ∧ W.cell? ⟨w.heap.size + 1 + 1, 1, none⟩ = some (.slice (boxA W (w.heap.size + 1 + 1)) (boxN W (w.heap.size + 1 + 1)) (boxC W (w.heap.size + 1 + 1))) ∧ W.frozen? ⟨w.heap.size + 1 + 1, 0, none⟩ = false ∧ W.frozen? ⟨w.heap.size + 1 + 1, 1, none⟩ = false ∧ w.heap.size + 1 + 1 < W.heap.size ∧ Below w.heap.size w W) (e : w1 = (W.setCell ⟨w.heap.size + 1 + 1, 0, none⟩ (.int .i64 x)).setCell ⟨w.heap.size + 1 + 1, 1, none⟩ (.slice b m d) := by rfl) : w1.cell? ⟨X, 0, none⟩ = some (u1) ∧ w1.cell? ⟨X, 1, none⟩ = some (u2) ∧ w1.cell? ⟨Y, 0, none⟩ = some (u3) ∧ w1.cell? ⟨Y, 1, none⟩ = some (u4) ∧ X < w.heap.size ∧ Y < w.heap.size ∧ w1.cell? ⟨w.heap.size, 0, none⟩ = some (v1) ∧ w1.cell? ⟨w.heap.size, 1, none⟩ = some (v2) ∧ w1.cell? ⟨w.heap.size + 1, 0, none⟩ = some (v3) ∧ w1.cell? ⟨w.heap.size + 1, 1, none⟩ = some (v4) ∧ w1.cell? ⟨w.heap.size + 1 + 1, 0, none⟩ = some (.int .i64 (boxI w1 (w.heap.size + 1 + 1))) ∧ w1.cell? ⟨w.heap.size + 1 + 1, 1, none⟩ = some (.slice (boxA w1 (w.heap.size + 1 + 1)) (boxN w1 (w.heap.size + 1 + 1)) (boxC w1 (w.heap.size + 1 + 1))) ∧ w1.frozen? ⟨w.heap.size + 1 + 1, 0, none⟩ = false ∧ w1.frozen? ⟨w.heap.size + 1 + 1, 1, none⟩ = false ∧ w.heap.size + 1 + 1 < w1.heap.size ∧ Below w.heap.size w w1 := by
  obtain ⟨h1, h2, h3, h4, h5, h6, h7⟩ := h
  have e0 : ∀ b' o', b' < w.heap.size → w1.cell? ⟨b', o', none⟩ = W.cell? ⟨b', o', none⟩ := by
    intro b' o' hlt
    subst e
    rw [World.cell?_setCell_other (h := by intro h; cases h; omega), World.cell?_setCell_other (h := by intro h; cases h; omega)]
  exact ⟨(e0 _ _ h5).trans h1, (e0 _ _ h5).trans h2, (e0 _ _ h6).trans h3, (e0 _ _ h6).trans h4, h5, h6, keepR_set h7 e⟩

theorem keepY_bel {w W : World} {v1 v2 v3 v4 u1 u2 u3 u4 : Value} {X Y : Nat} (h : W.cell? ⟨X, 0, none⟩ = some (u1) ∧ W.cell? ⟨X, 1, none⟩ = some (u2) ∧ W.cell? ⟨Y, 0, none⟩ = some (u3) ∧ W.cell? ⟨Y, 1, none⟩ = some (u4) ∧ X < w.heap.size ∧ Y < w.heap.size ∧ W.cell? ⟨w.heap.size, 0, none⟩ = some (v1) ∧ W.cell? ⟨w.heap.size, 1, none⟩ = some (v2) ∧ W.cell? ⟨w.heap.size + 1, 0, none⟩ = some (v3) ∧ W.cell? ⟨w.heap.size + 1, 1, none⟩ = some (v4) ∧ W.cell? ⟨w.heap.size + 1 + 1, 0, none⟩ = some (.int .i64 (boxI W (w.heap.size + 1 + 1))) ∧ W.cell? ⟨w.heap.size + 1 + 1, 1, none⟩ = some (.slice (boxA W (w.heap.size + 1 + 1)) (boxN W (w.heap.size + 1 + 1)) (boxC W (w.heap.size + 1 + 1))) ∧ W.frozen? ⟨w.heap.size + 1 + 1, 0, none⟩ = false ∧ W.frozen? ⟨w.heap.size + 1 + 1, 1, none⟩ = false ∧ w.heap.size + 1 + 1 < W.heap.size ∧ Below w.heap.size w W) : Below w.heap.size w W := keepR_bel h.2.2.2.2.2.2

set_option maxHeartbeats 4000000 in
set_option maxRecDepth 20000 in
/-- x times a number and y times another one. -/
theorem sum1_any (PT PS : Int → Prop) (hT : Hid (Two 38 PT PT (fun a b => a * b))) (hS : Hid (Two 39 PS PS (fun a b => a + b))) (r s x y : Rep) (a b i j : Int) (X Y : Nat) (w : World) (hX : X < w.heap.size) (hY : Y < w.heap.size)
    (hx0 : w.cell? ⟨X, 0, none⟩ = some (.int .i64 x.p)) (hx1 : w.cell? ⟨X, 1, none⟩ = some (.slice x.a x.n x.c)) (hy0 : w.cell? ⟨Y, 0, none⟩ = some (.int .i64 y.p)) (hy1 : w.cell? ⟨Y, 1, none⟩ = some (.slice y.a y.n y.c))
    (pa : Hid (PT a)) (pb : Hid (PT b)) (pi : Hid (PT i)) (pj : Hid (PT j)) (p1 : Hid (PS (a * i))) (p2 : Hid (PS (b * j))) (na : Hid (NumR w r a)) (nb : Hid (NumR w s b)) (ni : Hid (NumR w x i)) (nj : Hid (NumR w y j)) :
    Calls Tryd.prog 43 #[.agg #[.int .i64 r.p, .slice r.a r.n r.c], .agg #[.int .i64 s.p, .slice s.a s.n s.c], .pointer (some ⟨X, 0, none⟩), .pointer (some ⟨Y, 0, none⟩)] w fun e w' => ∃ q : Rep, e = .returned (.agg #[.int .i64 q.p, .slice q.a q.n q.c]) ∧ NumR w' q (a * i + b * j) ∧ Below w.heap.size w w' := by
  have hpX : ∀ o', (((w.alloc (.cells #[.int .i64 r.p, .slice r.a r.n r.c] 55)).alloc (.cells #[.int .i64 s.p, .slice s.a s.n s.c] 55)).alloc (.cells #[.int .i64 0, .slice none 0 0] 55)).cell? ⟨X, o', none⟩ = w.cell? ⟨X, o', none⟩ := fun o' => by
    rw [World.cell?_alloc_past _ _ _ (by simp; omega), World.cell?_alloc_past _ _ _ (by simp; omega), World.cell?_alloc_past _ _ _ (by simpa using hX)]
  have hpY : ∀ o', (((w.alloc (.cells #[.int .i64 r.p, .slice r.a r.n r.c] 55)).alloc (.cells #[.int .i64 s.p, .slice s.a s.n s.c] 55)).alloc (.cells #[.int .i64 0, .slice none 0 0] 55)).cell? ⟨Y, o', none⟩ = w.cell? ⟨Y, o', none⟩ := fun o' => by
    rw [World.cell?_alloc_past _ _ _ (by simp; omega), World.cell?_alloc_past _ _ _ (by simp; omega), World.cell?_alloc_past _ _ _ (by simpa using hY)]
  have hS0 : (fun w' => w'.cell? ⟨X, 0, none⟩ = some (.int .i64 x.p) ∧ w'.cell? ⟨X, 1, none⟩ = some (.slice x.a x.n x.c) ∧ w'.cell? ⟨Y, 0, none⟩ = some (.int .i64 y.p) ∧ w'.cell? ⟨Y, 1, none⟩ = some (.slice y.a y.n y.c) ∧ X < w.heap.size ∧ Y < w.heap.size ∧ w'.cell? ⟨w.heap.size, 0, none⟩ = some (.int .i64 r.p) ∧ w'.cell? ⟨w.heap.size, 1, none⟩ = some (.slice r.a r.n r.c) ∧ w'.cell? ⟨w.heap.size + 1, 0, none⟩ = some (.int .i64 s.p) ∧ w'.cell? ⟨w.heap.size + 1, 1, none⟩ = some (.slice s.a s.n s.c) ∧ w'.cell? ⟨w.heap.size + 1 + 1, 0, none⟩ = some (.int .i64 (boxI w' (w.heap.size + 1 + 1))) ∧ w'.cell? ⟨w.heap.size + 1 + 1, 1, none⟩ = some (.slice (boxA w' (w.heap.size + 1 + 1)) (boxN w' (w.heap.size + 1 + 1)) (boxC w' (w.heap.size + 1 + 1))) ∧ w'.frozen? ⟨w.heap.size + 1 + 1, 0, none⟩ = false ∧ w'.frozen? ⟨w.heap.size + 1 + 1, 1, none⟩ = false ∧ w.heap.size + 1 + 1 < w'.heap.size ∧ Below w.heap.size w w') (((w.alloc (.cells #[.int .i64 r.p, .slice r.a r.n r.c] 55)).alloc (.cells #[.int .i64 s.p, .slice s.a s.n s.c] 55)).alloc (.cells #[.int .i64 0, .slice none 0 0] 55)) := ⟨(hpX 0).trans hx0, (hpX 1).trans hx1, (hpY 0).trans hy0, (hpY 1).trans hy1, hX, hY, by simp [go_sem], by simp [go_sem], by simp [go_sem], by simp [go_sem], box_int (z := 0) (by simp [go_sem]), box_slice (a := none) (n := 0) (c := 0) (by simp [go_sem]), by simp [go_sem], by simp [go_sem], by simp, (((Below.refl _ _).alloc (Nat.le_refl _) _).alloc (by simp) _).alloc (by simp; omega) _⟩
  clear hpX hpY
  go_enter Tryd.func43, Tryd.ntmps43
  go_wp2_with fail
  go_region_held3 (fun w' => w'.cell? ⟨X, 0, none⟩ = some (.int .i64 x.p) ∧ w'.cell? ⟨X, 1, none⟩ = some (.slice x.a x.n x.c) ∧ w'.cell? ⟨Y, 0, none⟩ = some (.int .i64 y.p) ∧ w'.cell? ⟨Y, 1, none⟩ = some (.slice y.a y.n y.c) ∧ X < w.heap.size ∧ Y < w.heap.size ∧ w'.cell? ⟨w.heap.size, 0, none⟩ = some (.int .i64 r.p) ∧ w'.cell? ⟨w.heap.size, 1, none⟩ = some (.slice r.a r.n r.c) ∧ w'.cell? ⟨w.heap.size + 1, 0, none⟩ = some (.int .i64 s.p) ∧ w'.cell? ⟨w.heap.size + 1, 1, none⟩ = some (.slice s.a s.n s.c) ∧ w'.cell? ⟨w.heap.size + 1 + 1, 0, none⟩ = some (.int .i64 (boxI w' (w.heap.size + 1 + 1))) ∧ w'.cell? ⟨w.heap.size + 1 + 1, 1, none⟩ = some (.slice (boxA w' (w.heap.size + 1 + 1)) (boxN w' (w.heap.size + 1 + 1)) (boxC w' (w.heap.size + 1 + 1))) ∧ w'.frozen? ⟨w.heap.size + 1 + 1, 0, none⟩ = false ∧ w'.frozen? ⟨w.heap.size + 1 + 1, 1, none⟩ = false ∧ w.heap.size + 1 + 1 < w'.heap.size ∧ Below w.heap.size w w') (first | (exact keepY (by assumption) (by assumption)) | (exact keepY (Below.refl _ _).drew (by assumption)) | (exact keepY_set (by assumption)))
    (first
      | (go_at_call_of 38 (Value.agg #[Value.int IntKind.i64 r.p, Value.slice r.a r.n r.c]); refine (hT.out _ r a x i pa.out pi.out (na.out.below (keepY_bel (by assumption))) (ni.out.below (keepY_bel (by assumption)))).mono ?_; rintro e w1 ⟨t1, rfl, N1, b1⟩)
      | (go_at_call_of 38 (Value.agg #[Value.int IntKind.i64 s.p, Value.slice s.a s.n s.c]); refine (hT.out _ s b y j pb.out pj.out (nb.out.below (keepY_bel (by assumption))) (nj.out.below (keepY_bel (by assumption)))).mono ?_; rintro e w2 ⟨t2, rfl, N2, b2⟩; have N3 := N1.below b2)
      | (go_at_call 39; refine (hS.out _ t1 _ t2 _ p1.out p2.out N3 N2).mono ?_; rintro e w3 ⟨q, rfl, N4, b3⟩; have hS9 := keepY b3 (by assumption)))
  have hN9 := hide (NumP_store N4 hS9.2.2.2.2.2.2.2.2.2.2.1 hS9.2.2.2.2.2.2.2.2.2.2.2.1 q.p (.slice q.a q.n q.c))
  have hS8 := keepY_set (x := q.p) (b := q.a) (m := q.n) (d := q.c) hS9
  have g0 := hS9.2.2.2.2.2.2.2.2.2.2.1
  have g1 := hS9.2.2.2.2.2.2.2.2.2.2.2.1
  clear N1 N2 N3 N4
  go_wp2_with fail
  exact bodyPost_ret (v := .agg #[.int .i64 q.p, .slice q.a q.n q.c]) (by simp [results, Tryd.results43, go_sem, g0, g1]) rfl ⟨q, rfl, hN9.out, keepY_bel hS8⟩

set_option maxHeartbeats 1000000 in
set_option maxRecDepth 20000 in
/-- The sum of x times a row and y times another one. -/
theorem rowSum_any (PT PS : Int → Prop) (hT : Hid (Two 38 PT PT (fun a b => a * b))) (hS : Hid (Two 39 PS PS (fun a b => a + b))) (b1 c1 b2 c2 n : Nat) (l m : List Int) (x y : Rep) (i j : Int) (w : World) (hr1 : Hid (NumsAt w b1 l)) (hr2 : Hid (NumsAt w b2 m)) (hl : Hid (n = l.length)) (hm : Hid (n = m.length)) (hn : n ≤ 1073741824)
    (ni : Hid (NumR w x i)) (nj : Hid (NumR w y j)) (pl : Hid (∀ a ∈ l, PT a ∧ PS (a * i))) (pm : Hid (∀ a ∈ m, PT a ∧ PS (a * j))) (pi : Hid (PT i)) (pj : Hid (PT j)) :
    Calls Tryd.prog 26 #[.slice (some ⟨b1, 0, none⟩) n c1, .agg #[.int .i64 x.p, .slice x.a x.n x.c], .slice (some ⟨b2, 0, none⟩) n c2, .agg #[.int .i64 y.p, .slice y.a y.n y.c]] w fun e w' => ∃ g, e = .returned (.slice (some ⟨g, 0, none⟩) n n) ∧ w.heap.size ≤ g ∧ NumsAt w' g (List.zipWith (fun a b => a * i + b * j) l m) ∧ Below w.heap.size w w' := by
  have hB0 : Hid (Below w.heap.size w ((w.alloc (.cells #[.int .i64 x.p, .slice x.a x.n x.c] 55)).alloc (.cells #[.int .i64 y.p, .slice y.a y.n y.c] 55))) := ((Below.refl _ _).alloc (Nat.le_refl _) _).alloc (by simp) _
  go_enter Tryd.func26, Tryd.ntmps26
  go_wp2_with fail
  refine (with_any 43 #[.pointer (some ⟨w.heap.size, 0, none⟩), .pointer (some ⟨w.heap.size + 1, 0, none⟩)] (fun a b => a * i + b * j) b1 c1 b2 c2 n l m _ (hide (hr1.out.below hB0.out)) (hide (hr2.out.below hB0.out)) hl hm hn (enters_of Tryd.func43 (by kernel_rfl) rfl) ?_).mono ?_
  · intro W r z s u hB hz hu hR hS'
    exact sum1_any PT PS hT hS r s x y z u i j w.heap.size (w.heap.size + 1) W (Nat.lt_of_lt_of_le (by simp; omega) hB.size) (Nat.lt_of_lt_of_le (by simp) hB.size) ((hB.cell (by simp; omega)).trans (by simp)) ((hB.cell (by simp; omega)).trans (by simp)) ((hB.cell (by simp)).trans (by simp)) ((hB.cell (by simp)).trans (by simp)) (pl.out z hz).1 (pm.out u hu).1 pi pj (pl.out z hz).2 (pm.out u hu).2 hR hS' ((ni.out.below hB0.out).below hB) ((nj.out.below hB0.out).below hB)
  rintro e w2 ⟨g, rfl, hg, hrow, hb2⟩
  have HR := hide hrow
  clear hrow
  go_wp2_with fail
  go_ret
  have hs := hB0.out.size
  exact ⟨g, rfl, by omega, HR.out, hB0.out.trans (hb2.mono hs)⟩

end Go.Proofs.YtdnafkmphcebeaaDoor
