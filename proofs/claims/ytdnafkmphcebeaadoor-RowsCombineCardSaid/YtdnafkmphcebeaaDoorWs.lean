/- The greatest divisor of numbers of any size, given what limbs.over answers. -/
import Derived.Test.YtdnafkmphcebeaaDoorWr
namespace Go.Proofs.YtdnafkmphcebeaaDoor
open Go.RowKit

theorem keepX {w W w1 : World} {v1 v2 v3 v4 : Value} {bx ox bz oz : Nat} {x0 y0 : Int} (hb : Below W.heap.size W w1) (h : W.cell? ⟨bx, ox, none⟩ = some (.int .u64 x0) ∧ W.cell? ⟨bz, oz, none⟩ = some (.int .u64 y0) ∧ W.cell? ⟨w.heap.size, 0, none⟩ = some (v1) ∧ W.cell? ⟨w.heap.size, 1, none⟩ = some (v2) ∧ W.cell? ⟨w.heap.size + 1, 0, none⟩ = some (v3) ∧ W.cell? ⟨w.heap.size + 1, 1, none⟩ = some (v4) ∧ W.cell? ⟨w.heap.size + 1 + 1, 0, none⟩ = some (.int .i64 (boxI W (w.heap.size + 1 + 1))) ∧ W.cell? ⟨w.heap.size + 1 + 1, 1, none⟩ = some (.slice (boxA W (w.heap.size + 1 + 1)) (boxN W (w.heap.size + 1 + 1)) (boxC W (w.heap.size + 1 + 1))) ∧ W.frozen? ⟨w.heap.size + 1 + 1, 0, none⟩ = false ∧ W.frozen? ⟨w.heap.size + 1 + 1, 1, none⟩ = false ∧ w.heap.size + 1 + 1 < W.heap.size ∧ Below w.heap.size w W) : w1.cell? ⟨bx, ox, none⟩ = some (.int .u64 x0) ∧ w1.cell? ⟨bz, oz, none⟩ = some (.int .u64 y0) ∧ w1.cell? ⟨w.heap.size, 0, none⟩ = some (v1) ∧ w1.cell? ⟨w.heap.size, 1, none⟩ = some (v2) ∧ w1.cell? ⟨w.heap.size + 1, 0, none⟩ = some (v3) ∧ w1.cell? ⟨w.heap.size + 1, 1, none⟩ = some (v4) ∧ w1.cell? ⟨w.heap.size + 1 + 1, 0, none⟩ = some (.int .i64 (boxI w1 (w.heap.size + 1 + 1))) ∧ w1.cell? ⟨w.heap.size + 1 + 1, 1, none⟩ = some (.slice (boxA w1 (w.heap.size + 1 + 1)) (boxN w1 (w.heap.size + 1 + 1)) (boxC w1 (w.heap.size + 1 + 1))) ∧ w1.frozen? ⟨w.heap.size + 1 + 1, 0, none⟩ = false ∧ w1.frozen? ⟨w.heap.size + 1 + 1, 1, none⟩ = false ∧ w.heap.size + 1 + 1 < w1.heap.size ∧ Below w.heap.size w w1 := by
  obtain ⟨h1, h2, h3⟩ := h
  exact ⟨(hb.cell (World.block_lt_of_cell? W _ h1)).trans h1, (hb.cell (World.block_lt_of_cell? W _ h2)).trans h2, keepR hb h3⟩

theorem cell_kept {W : World} {r o b off : Nat} {u v : Value} {z : Int} (h : W.cell? ⟨b, off, none⟩ = some (.int .u64 z)) (hu : W.cell? ⟨r, o, none⟩ = some u) (hno : ∀ x, u ≠ .int .u64 x) : (W.setCell ⟨r, o, none⟩ v).cell? ⟨b, off, none⟩ = some (.int .u64 z) := by
  have hne : (⟨r, o, none⟩ : Addr) ≠ ⟨b, off, none⟩ := by
    intro e
    rw [e, h] at hu
    exact hno _ (Option.some.inj hu).symm
  rw [World.cell?_setCell_other (h := hne)]
  exact h

theorem keepX_set {w W w1 : World} {v1 v2 v3 v4 : Value} {bx ox bz oz : Nat} {x0 y0 : Int} {x : Int} {b : Option Addr} {m d : Nat} (h : W.cell? ⟨bx, ox, none⟩ = some (.int .u64 x0) ∧ W.cell? ⟨bz, oz, none⟩ = some (.int .u64 y0) ∧ W.cell? ⟨w.heap.size, 0, none⟩ = some (v1) ∧ W.cell? ⟨w.heap.size, 1, none⟩ = some (v2) ∧ W.cell? ⟨w.heap.size + 1, 0, none⟩ = some (v3) ∧ W.cell? ⟨w.heap.size + 1, 1, none⟩ = some (v4) ∧ W.cell? ⟨w.heap.size + 1 + 1, 0, none⟩ = some (.int .i64 (boxI W (w.heap.size + 1 + 1))) ∧ W.cell? ⟨w.heap.size + 1 + 1, 1, none⟩ = some (.slice (boxA W (w.heap.size + 1 + 1)) (boxN W (w.heap.size + 1 + 1)) (boxC W (w.heap.size + 1 + 1))) ∧ W.frozen? ⟨w.heap.size + 1 + 1, 0, none⟩ = false ∧ W.frozen? ⟨w.heap.size + 1 + 1, 1, none⟩ = false ∧ w.heap.size + 1 + 1 < W.heap.size ∧ Below w.heap.size w W) (e : w1 = (W.setCell ⟨w.heap.size + 1 + 1, 0, none⟩ (.int .i64 x)).setCell ⟨w.heap.size + 1 + 1, 1, none⟩ (.slice b m d) := by rfl) : w1.cell? ⟨bx, ox, none⟩ = some (.int .u64 x0) ∧ w1.cell? ⟨bz, oz, none⟩ = some (.int .u64 y0) ∧ w1.cell? ⟨w.heap.size, 0, none⟩ = some (v1) ∧ w1.cell? ⟨w.heap.size, 1, none⟩ = some (v2) ∧ w1.cell? ⟨w.heap.size + 1, 0, none⟩ = some (v3) ∧ w1.cell? ⟨w.heap.size + 1, 1, none⟩ = some (v4) ∧ w1.cell? ⟨w.heap.size + 1 + 1, 0, none⟩ = some (.int .i64 (boxI w1 (w.heap.size + 1 + 1))) ∧ w1.cell? ⟨w.heap.size + 1 + 1, 1, none⟩ = some (.slice (boxA w1 (w.heap.size + 1 + 1)) (boxN w1 (w.heap.size + 1 + 1)) (boxC w1 (w.heap.size + 1 + 1))) ∧ w1.frozen? ⟨w.heap.size + 1 + 1, 0, none⟩ = false ∧ w1.frozen? ⟨w.heap.size + 1 + 1, 1, none⟩ = false ∧ w.heap.size + 1 + 1 < w1.heap.size ∧ Below w.heap.size w w1 := by
  obtain ⟨h1, h2, h3⟩ := h
  have k : ∀ b' o', (W.cell? ⟨b', o', none⟩ = some (.int .u64 x0) → w1.cell? ⟨b', o', none⟩ = some (.int .u64 x0)) ∧ (W.cell? ⟨b', o', none⟩ = some (.int .u64 y0) → w1.cell? ⟨b', o', none⟩ = some (.int .u64 y0)) := by
    intro b' o'
    have g0 := h3.2.2.2.2.1
    have g1 := h3.2.2.2.2.2.1
    have g1' : (W.setCell ⟨w.heap.size + 1 + 1, 0, none⟩ (.int .i64 x)).cell? ⟨w.heap.size + 1 + 1, 1, none⟩ = some (.slice (boxA W (w.heap.size + 1 + 1)) (boxN W (w.heap.size + 1 + 1)) (boxC W (w.heap.size + 1 + 1))) := by
      rw [World.cell?_setCell_other (h := by simp)]; exact g1
    subst e
    exact ⟨fun h => cell_kept (cell_kept h g0 (by simp)) g1' (by simp), fun h => cell_kept (cell_kept h g0 (by simp)) g1' (by simp)⟩
  exact ⟨(k bx ox).1 h1, (k bz oz).2 h2, keepR_set h3 e⟩

/-- The limbs of a slice. -/
def readL (w : World) : Value → List Int
  | .slice (some a) n _ => (List.range n).map fun i => match w.cell? ⟨a.block, a.off + i, none⟩ with | some (.int .u64 z) => z | _ => 0
  | _ => []

theorem readL_of {w : World} {a : Option Addr} {l : List Int} {c : Nat} (h : LimbsAt w a l) : readL w (.slice a l.length c) = l := by
  rcases h with rfl | ⟨b, off, rfl, hb, hc⟩
  · cases a <;> simp [readL]
  · simp only [readL]
    apply List.ext_getElem
    · simp
    · intro i h1 h2
      simp only [List.getElem_map, List.getElem_range, hc i h2]
      simp [h2]

/-- Two sizes on the way to their greatest divisor. -/
def Pair (B : Nat) (G : Nat) (w : World) (xa : Option Addr) (xk : Nat) (xl : List Int) (ya : Option Addr) (yk : Nat) (yl : List Int) : Prop :=
  LimbsAt w xa xl ∧ xk = xl.length ∧ Limb xl ∧ Tr xl ∧ LimbsAt w ya yl ∧ yk = yl.length ∧ Limb yl ∧ Tr yl ∧ xl.length ≤ B ∧ yl.length ≤ B ∧ Int.gcd (lv xl) (lv yl) = G ∧ lv yl ≤ lv xl

theorem Pair.below {B G : Nat} {w w' : World} {xa : Option Addr} {xk : Nat} {xl : List Int} {ya : Option Addr} {yk : Nat} {yl : List Int} (h : Pair B G w xa xk xl ya yk yl) (hb : Below w.heap.size w w') : Pair B G w' xa xk xl ya yk yl :=
  ⟨h.1.below hb, h.2.1, h.2.2.1, h.2.2.2.1, h.2.2.2.2.1.below hb, h.2.2.2.2.2⟩

/-- A round: the lower size, and the rest of the greater one. -/
theorem Pair.step {B G : Nat} {w w' : World} {xa : Option Addr} {xk : Nat} {xl : List Int} {ya : Option Addr} {yk : Nat} {yl : List Int} (h : Pair B G w xa xk xl ya yk yl) (hb : Below w.heap.size w w') {x : Option Addr} {k : Nat} {q : List Int} {y : Option Addr} {j : Nat} {r : List Int} (hQ : IsQuot w' x k q y j r (lv xl) (lv yl)) :
    Pair B G w' ya yk yl y j r ∧ lv r < lv yl := by
  obtain ⟨h1, h2, h3, h4, h5, h6, h7, h8, h9, h10, h11, h12⟩ := h
  obtain ⟨_, _, _, _, g5, g6, g7, g8, g9, g10⟩ := hQ
  have px := lv_nonneg h3
  have py := lv_nonneg h7
  have pr := lv_nonneg g7
  have ex : ((lv xl).natAbs : Int) = lv xl := by omega
  have ey : ((lv yl).natAbs : Int) = lv yl := by omega
  rw [ex, ey] at g9
  rw [ey] at g10
  refine ⟨⟨h5.below hb, h6, h7, h8, g5, g6, g7, g8, h10, Nat.le_trans (len_le_of_lv h7 g7 g8 (by omega)) h10, ?_, by omega⟩, g10⟩
  rw [← h11, g9, Int.gcd_comm (lv q * lv yl + lv r), Int.mul_comm, Int.add_comm, Int.gcd_add_mul_left_right]

theorem len_of_pw {B : Nat} {ls : List Int} (hl : Limb ls) (ht : Tr ls) (h : lv ls < pw B) : ls.length ≤ B := by
  by_cases hn : ls = []
  · subst hn; simp
  · have h1 := lv_ge hl hn ht
    rcases Nat.lt_or_ge B ls.length with h2 | h2
    · have h3 := pw_mono (show B ≤ ls.length - 1 by omega)
      omega
    · exact h2

theorem lv_zero_nil {l : List Int} (ll : Limb l) (lt : Tr l) (h : lv l = 0) : l = [] := by
  by_cases hn : l = []
  · exact hn
  · have h1 := lv_ge ll hn lt
    have h2 := pw_pos (l.length - 1)
    omega

set_option maxHeartbeats 4000000 in
set_option maxRecDepth 20000 in
theorem divisorN_far (B : Nat) (hB : B ≤ 1000) (hOv : Hid (OverL (fun l m => l.length ≤ B ∧ m.length ≤ B))) (p : Int) (a : Option Addr) (n c : Nat) (za : Int) (q : Int) (a' : Option Addr) (n' c' : Nat) (zb : Int) (w : World) (hNa : Hid (NumP w p a n c za)) (hNb : Hid (NumP w q a' n' c' zb)) (hfar : ¬ (n = 0 ∧ n' = 0)) (ha : Hid ((za.natAbs : Int) < pw B)) (hb : Hid ((zb.natAbs : Int) < pw B)) :
    Calls Tryd.prog 62 #[(Value.agg #[Value.int IntKind.i64 p, Value.slice a n c]), (Value.agg #[Value.int IntKind.i64 q, Value.slice a' n' c'])] w fun e w' => ∃ r x k d, e = .returned (.agg #[.int .i64 r, .slice x k d]) ∧ NumP w' r x k d (Int.gcd za zb) ∧ Below w.heap.size w w' := by
  have hS0 : (fun w' => w'.cell? ⟨w.heap.size, 0, none⟩ = some (.int .i64 p) ∧ w'.cell? ⟨w.heap.size, 1, none⟩ = some (.slice a n c) ∧ w'.cell? ⟨w.heap.size + 1, 0, none⟩ = some (.int .i64 q) ∧ w'.cell? ⟨w.heap.size + 1, 1, none⟩ = some (.slice a' n' c') ∧ w'.cell? ⟨w.heap.size + 1 + 1, 0, none⟩ = some (.int .i64 (boxI w' (w.heap.size + 1 + 1))) ∧ w'.cell? ⟨w.heap.size + 1 + 1, 1, none⟩ = some (.slice (boxA w' (w.heap.size + 1 + 1)) (boxN w' (w.heap.size + 1 + 1)) (boxC w' (w.heap.size + 1 + 1))) ∧ w'.frozen? ⟨w.heap.size + 1 + 1, 0, none⟩ = false ∧ w'.frozen? ⟨w.heap.size + 1 + 1, 1, none⟩ = false ∧ w.heap.size + 1 + 1 < w'.heap.size ∧ Below w.heap.size w w') (((w.alloc (.cells #[.int .i64 p, .slice a n c] 55)).alloc (.cells #[.int .i64 q, .slice a' n' c'] 55)).alloc (.cells #[.int .i64 0, .slice none 0 0] 55)) := ⟨by simp [go_sem], by simp [go_sem], by simp [go_sem], by simp [go_sem], box_int (z := 0) (by simp [go_sem]), box_slice (a := none) (n := 0) (c := 0) (by simp [go_sem]), by simp [go_sem], by simp [go_sem], by simp, (((Below.refl _ _).alloc (Nat.le_refl _) _).alloc (by simp) _).alloc (by simp; omega) _⟩
  obtain ⟨G, hG⟩ : ∃ G, G = Int.gcd za zb := ⟨_, rfl⟩
  have HG := hide hG
  rw [← hG]
  clear hG
  obtain ⟨ba, hba⟩ : ∃ ba, ba = decide (n = 0) := ⟨_, rfl⟩
  obtain ⟨bb, hbb⟩ : ∃ bb, bb = decide (n' = 0) := ⟨_, rfl⟩
  have hfar' : ¬ (ba = true ∧ bb = true) := by rw [hba, hbb]; simpa using hfar
  have Hba := hide hba
  have Hbb := hide hbb
  have hcs : ba = false ∨ ba = true ∧ bb = false := by
    cases ba
    · exact .inl rfl
    · cases bb
      · exact .inr ⟨rfl, rfl⟩
      · exact absurd ⟨rfl, rfl⟩ hfar'
  clear hba hbb hfar hfar'
  rcases hcs with rfl | ⟨rfl, rfl⟩
  all_goals
    go_enter Tryd.func62, Tryd.ntmps62
    go_wp2_with (first
      | (go_at_call_of 40 (Value.agg #[Value.int IntKind.i64 p, Value.slice a n c]); refine (isNear_as p a n c _ Hba _).mono ?_; rintro e w3 ⟨rfl, hb3⟩; have hS3 := keepR hb3 (by assumption))
      | (go_at_call_of 40 (Value.agg #[Value.int IntKind.i64 q, Value.slice a' n' c']); refine (isNear_as q a' n' c' _ Hbb _).mono ?_; rintro e w3 ⟨rfl, hb3⟩; have hS4 := keepR hb3 (by assumption)))
    go_region_held3 (fun w' => w'.cell? ⟨w.heap.size, 0, none⟩ = some (.int .i64 p) ∧ w'.cell? ⟨w.heap.size, 1, none⟩ = some (.slice a n c) ∧ w'.cell? ⟨w.heap.size + 1, 0, none⟩ = some (.int .i64 q) ∧ w'.cell? ⟨w.heap.size + 1, 1, none⟩ = some (.slice a' n' c') ∧ w'.cell? ⟨w.heap.size + 1 + 1, 0, none⟩ = some (.int .i64 (boxI w' (w.heap.size + 1 + 1))) ∧ w'.cell? ⟨w.heap.size + 1 + 1, 1, none⟩ = some (.slice (boxA w' (w.heap.size + 1 + 1)) (boxN w' (w.heap.size + 1 + 1)) (boxC w' (w.heap.size + 1 + 1))) ∧ w'.frozen? ⟨w.heap.size + 1 + 1, 0, none⟩ = false ∧ w'.frozen? ⟨w.heap.size + 1 + 1, 1, none⟩ = false ∧ w.heap.size + 1 + 1 < w'.heap.size ∧ Below w.heap.size w w') (first | (exact keepR (by assumption) (by assumption)) | (exact keepR (Below.refl _ _).drew (by assumption)) | (exact keepR_set (by assumption)))
      (first
        | (go_at_call_of 53 (Value.agg #[Value.int IntKind.i64 p, Value.slice a n c]); refine (size_as p a n c za _ (hNa.out.below (keepR_bel (by assumption)))).mono ?_; rintro e w4 ⟨x1, k1, q1, l1, rfl, hZ1, hb4⟩)
        | (go_at_call_of 53 (Value.agg #[Value.int IntKind.i64 q, Value.slice a' n' c']); refine (size_as q a' n' c' zb _ (hNb.out.below (keepR_bel (by assumption)))).mono ?_; rintro e w5 ⟨x2, k2, q2, l2, rfl, hZ2, hb5⟩; have hZ3 := hide (hZ1.out.below hb5); have hS5 := keepR hb5 (by assumption)))
    obtain ⟨y1, y2, y3, y4, y5⟩ := hZ3.out
    obtain ⟨z1, z2, z3, z4, z5⟩ := hZ2.out
    have m1 : l1.length ≤ B := len_of_pw y3 y4 (by rw [y5]; exact ha.out)
    have m2 : l2.length ≤ B := len_of_pw z3 z4 (by rw [z5]; exact hb.out)
    have hg12 : Int.gcd (lv l1) (lv l2) = G := by rw [HG.out, y5, z5]; rfl
    have hk : Hid (k1 = l1.length) := y2
    have hk' : Hid (k2 = l2.length) := z2
    have HP := hide (show ∀ W, Below w5.heap.size w5 W → (lv l2 ≤ lv l1 → Pair B G W x1 k1 l1 x2 k2 l2) ∧ (lv l1 ≤ lv l2 → Pair B G W x2 k2 l2 x1 k1 l1) from fun W hW => ⟨fun h => ⟨y1.below hW, y2, y3, y4, z1.below hW, z2, z3, z4, m1, m2, hg12, h⟩, fun h => ⟨z1.below hW, z2, z3, z4, y1.below hW, y2, y3, y4, m2, m1, by rw [Int.gcd_comm]; exact hg12, h⟩⟩)
    have hk1b : k1 ≤ 1000 := by rw [y2]; omega
    clear hZ1 hZ2 hZ3 hb4 hb5 y5 z5 m1 m2 hg12 y2 z2 hb3
    go_wp2_with fail
    refine (compare_any x1 x2 k1 q1 k2 q2 l1 l2 _ y1 z1 hk hk' y3 z3 y4 z4 (by omega)).mono ?_
    rintro e w6 ⟨rfl, hb6⟩
    have hS6 := keepR hb6 hS5
    clear y1 z1 y3 y4 z3 z4 hk1b
    rcases Int.lt_or_le (lv l1) (lv l2) with hlt | hle
    all_goals
      first
        | (have hs : sgn3 (lv l1) (lv l2) = -1 := sgn3_lt hlt
           have HQ := hide ((HP.out w6 hb6).2 (by omega))
           clear hlt HP hk hk'
           rw [hs]
           go_wp2_with fail)
        | (have hs : ¬ sgn3 (lv l1) (lv l2) < 0 := by unfold sgn3; rw [if_neg (by omega)]; split <;> omega
           have HQ := hide ((HP.out w6 hb6).1 hle)
           clear hle HP hk hk'
           go_wp2_with fail)
      go_loopw [5, 6] (fun u v wr => ∃ (xa : Option Addr) (xk xc : Nat) (xl : List Int) (ya : Option Addr) (yk yc : Nat) (yl : List Int), u = .slice xa xk xc ∧ v = .slice ya yk yc ∧ Hid (Pair B G wr xa xk xl ya yk yl) ∧ (fun w' => w'.cell? ⟨w.heap.size, 0, none⟩ = some (.int .i64 p) ∧ w'.cell? ⟨w.heap.size, 1, none⟩ = some (.slice a n c) ∧ w'.cell? ⟨w.heap.size + 1, 0, none⟩ = some (.int .i64 q) ∧ w'.cell? ⟨w.heap.size + 1, 1, none⟩ = some (.slice a' n' c') ∧ w'.cell? ⟨w.heap.size + 1 + 1, 0, none⟩ = some (.int .i64 (boxI w' (w.heap.size + 1 + 1))) ∧ w'.cell? ⟨w.heap.size + 1 + 1, 1, none⟩ = some (.slice (boxA w' (w.heap.size + 1 + 1)) (boxN w' (w.heap.size + 1 + 1)) (boxC w' (w.heap.size + 1 + 1))) ∧ w'.frozen? ⟨w.heap.size + 1 + 1, 0, none⟩ = false ∧ w'.frozen? ⟨w.heap.size + 1 + 1, 1, none⟩ = false ∧ w.heap.size + 1 + 1 < w'.heap.size ∧ Below w.heap.size w w') wr) (fun _ v wr => (lv (readL wr v)).toNat)
      case atStart => exact ⟨_, _, _, _, _, _, _, _, rfl, rfl, HQ, hS6⟩
      case round =>
        obtain ⟨xa, xk, xc, xl, ya, yk, yc, yl, rfl, rfl, hP, hS⟩ := hrel
        clear hS0 hS3 hS5 hS6 HQ
        obtain ⟨h1, h2, h3, h4, h5, h6, h7, h8, h9, h10, h11, h12⟩ := hP.out
        by_cases hy : yk = 0
        · have hyn : yl = [] := List.eq_nil_of_length_eq_zero (by omega)
          have hGx : Hid ((1 : Int) * lv xl = (G : Int)) := by
            have := lv_nonneg h3
            unfold Hid; rw [← h11, hyn]; simp [lv]; omega
          have hL := hide h1
          have hK := hide h2
          subst hy
          clear h1 h2 h5 h6 h7 h8 h9 h10 h11 h12 hyn
          by_cases hx : 1 < xk
          · go_wp2_with fail
            refine (fromSize_any 1 xa xk xc xl _ hL.out hK.out h3 h4 (.inl rfl)).mono ?_
            rintro e w7 ⟨r, x, k, d, rfl, hN, hb7⟩
            rw [hGx.out] at hN
            have hS7 := keepR hb7 hS
            have hN9 := hide (NumP_store hN hS7.2.2.2.2.1 hS7.2.2.2.2.2.1 r (.slice x k d))
            have hS9 := keepR_set (x := r) (b := x) (m := k) (d := d) hS7
            have g0 := hS7.2.2.2.2.1
            have g1 := hS7.2.2.2.2.2.1
            have gf := hS7.2.2.2.2.2.2.1
            have gf1 := hS7.2.2.2.2.2.2.2.1
            clear hN
            go_wp2_with fail
            exact bodyPost_ret (v := .agg #[.int .i64 r, .slice x k d]) (by simp [results, Tryd.results62, go_sem, g0, g1]) rfl ⟨r, x, k, d, rfl, hN9.out, keepR_bel hS9⟩
          · go_wp2_with fail
            refine (fromSize_any 1 xa xk xc xl _ hL.out hK.out h3 h4 (.inl rfl)).mono ?_
            rintro e w7 ⟨r, x, k, d, rfl, hN, hb7⟩
            rw [hGx.out] at hN
            have hS7 := keepR hb7 hS
            have hN9 := hide (NumP_store hN hS7.2.2.2.2.1 hS7.2.2.2.2.2.1 r (.slice x k d))
            have hS9 := keepR_set (x := r) (b := x) (m := k) (d := d) hS7
            have g0 := hS7.2.2.2.2.1
            have g1 := hS7.2.2.2.2.2.1
            have gf := hS7.2.2.2.2.2.2.1
            have gf1 := hS7.2.2.2.2.2.2.2.1
            clear hN
            go_wp2_with fail
            exact bodyPost_ret (v := .agg #[.int .i64 r, .slice x k d]) (by simp [results, Tryd.results62, go_sem, g0, g1]) rfl ⟨r, x, k, d, rfl, hN9.out, keepR_bel hS9⟩
        · have hyl : yl ≠ [] := fun h => hy (by rw [h6, h]; rfl)
          have py : 0 < lv yl := by have := lv_ge h7 hyl h8; have := pw_pos (yl.length - 1); omega
          by_cases hx : 1 < xk
          · have hyk : 0 < yk := by omega
            have hpx : lv xl < pw B := Int.lt_of_lt_of_le (lv_lt h3) (pw_mono h9)
            have hpy : lv yl < pw B := Int.lt_of_lt_of_le (lv_lt h7) (pw_mono h10)
            have px := lv_nonneg h3
            have HX : Hid (IsSize wr xa xk xl (lv xl)) := ⟨h1, h2, h3, h4, by omega⟩
            have HY : Hid (IsSize wr ya yk yl (lv yl)) := ⟨h5, h6, h7, h8, by omega⟩
            have HPl : Hid (∀ l m, Limb l → Limb m → Tr l → Tr m → lv l = ((lv xl).natAbs : Int) → lv m = ((lv yl).natAbs : Int) → l.length ≤ B ∧ m.length ≤ B) := fun l m ll lm tl tm e1 e2 => ⟨len_of_pw ll tl (by omega), len_of_pw lm tm (by omega)⟩
            have hne : lv yl ≠ 0 := by omega
            have HM : Hid (readL wr (.slice ya yk yc) = yl) := by unfold Hid; rw [h6]; exact readL_of h5
            clear h1 h2 h3 h4 h5 h6 h7 h8 h9 h10 h11 h12 hyl hpx hpy px hy
            go_wp2_with fail
            refine (over_as _ hOv xa ya xk xc yk yc xl yl (lv xl) (lv yl) _ HX HY hne HPl).mono ?_
            rintro e w7 ⟨x3, k3, q3, l3, x4, k4, q4, l4, rfl, hQ, hb7⟩
            have hst := hide (hP.out.step hb7 hQ.out)
            have hS7 := keepR hb7 hS
            have hM2 : Hid (readL w7 (.slice x4 k4 q4) = l4) := by unfold Hid; rw [hQ.out.2.2.2.2.2.1]; exact readL_of hQ.out.2.2.2.2.1
            clear hQ HX HY HPl
            go_wp2_with fail
            go_roundw
            case rel => exact ⟨_, _, _, _, _, _, _, _, rfl, rfl, hst.out.1, hS7⟩
            case measure =>
              rw [HM.out, hM2.out]
              have := hst.out.2
              omega
          · have px : 0 < lv xl := by omega
            obtain ⟨x0, hx0, p1, p2⟩ := lv_one h3 h4 (by omega) px
            have hyk : yl.length ≤ xl.length := len_le_of_lv h3 h7 h8 h12
            obtain ⟨y0, hy0, p3, p4⟩ := lv_one h7 h8 (by omega) py
            subst hx0 hy0
            simp at h2 h6
            subst h2 h6
            rcases h1 with h | ⟨bx, ox, rfl, hbx, hcx⟩
            · cases h
            rcases h5 with h | ⟨bz, oz, rfl, hbz, hcz⟩
            · cases h
            have hcx0 : wr.cell? ⟨bx, ox, none⟩ = some (.int .u64 x0) := by simpa using hcx 0 (by simp)
            have hcz0 : wr.cell? ⟨bz, oz, none⟩ = some (.int .u64 y0) := by simpa using hcz 0 (by simp)
            have HX0 := hide (show (fun w' => w'.cell? ⟨bx, ox, none⟩ = some (.int .u64 x0) ∧ w'.cell? ⟨bz, oz, none⟩ = some (.int .u64 y0) ∧ w'.cell? ⟨w.heap.size, 0, none⟩ = some (.int .i64 p) ∧ w'.cell? ⟨w.heap.size, 1, none⟩ = some (.slice a n c) ∧ w'.cell? ⟨w.heap.size + 1, 0, none⟩ = some (.int .i64 q) ∧ w'.cell? ⟨w.heap.size + 1, 1, none⟩ = some (.slice a' n' c') ∧ w'.cell? ⟨w.heap.size + 1 + 1, 0, none⟩ = some (.int .i64 (boxI w' (w.heap.size + 1 + 1))) ∧ w'.cell? ⟨w.heap.size + 1 + 1, 1, none⟩ = some (.slice (boxA w' (w.heap.size + 1 + 1)) (boxN w' (w.heap.size + 1 + 1)) (boxC w' (w.heap.size + 1 + 1))) ∧ w'.frozen? ⟨w.heap.size + 1 + 1, 0, none⟩ = false ∧ w'.frozen? ⟨w.heap.size + 1 + 1, 1, none⟩ = false ∧ w.heap.size + 1 + 1 < w'.heap.size ∧ Below w.heap.size w w') wr from ⟨hcx0, hcz0, hS⟩)
            obtain ⟨gi, hgi⟩ : ∃ gi : Int, gi = (Int.gcd x0 y0 : Int) := ⟨_, rfl⟩
            have hGi : Hid ((1 : Int) * gi = (G : Int)) := by
              unfold Hid; rw [hgi, ← h11]; simp [lv]
            have hg0 : Hid (0 ≤ gi ∧ gi < 18446744073709551616) := by
              have := gcd_lim x0 y0 18446744073709551616 (by omega) (by omega)
              unfold Hid; omega
            have Hgi := hide hgi
            have P2 := hide p2
            have P4 := hide p4
            clear hgi h3 h4 h7 h8 h9 h10 h11 h12 hcx hcz p2 p4 hS hP hyl hyk px py hx hy
            go_wp2_with fail
            go_region_held3 (fun w' => w'.cell? ⟨bx, ox, none⟩ = some (.int .u64 x0) ∧ w'.cell? ⟨bz, oz, none⟩ = some (.int .u64 y0) ∧ w'.cell? ⟨w.heap.size, 0, none⟩ = some (.int .i64 p) ∧ w'.cell? ⟨w.heap.size, 1, none⟩ = some (.slice a n c) ∧ w'.cell? ⟨w.heap.size + 1, 0, none⟩ = some (.int .i64 q) ∧ w'.cell? ⟨w.heap.size + 1, 1, none⟩ = some (.slice a' n' c') ∧ w'.cell? ⟨w.heap.size + 1 + 1, 0, none⟩ = some (.int .i64 (boxI w' (w.heap.size + 1 + 1))) ∧ w'.cell? ⟨w.heap.size + 1 + 1, 1, none⟩ = some (.slice (boxA w' (w.heap.size + 1 + 1)) (boxN w' (w.heap.size + 1 + 1)) (boxC w' (w.heap.size + 1 + 1))) ∧ w'.frozen? ⟨w.heap.size + 1 + 1, 0, none⟩ = false ∧ w'.frozen? ⟨w.heap.size + 1 + 1, 1, none⟩ = false ∧ w.heap.size + 1 + 1 < w'.heap.size ∧ Below w.heap.size w w') (first | (exact keepX (by assumption) (by assumption)) | (exact keepX (Below.refl _ _).drew (by assumption)) | (exact keepX (Below.refl _ _).drew (unhide HX0)) | (exact keepX_set (by assumption)))
              (first
                | (go_at_call 70; refine (limbDivisor_as _ _ gi Hgi _ (by omega) P2.out (by omega) P4.out).mono ?_; rintro e w7 ⟨rfl, hb7⟩; have hSl := keepX hb7 (by assumption))
                | (go_at_call 57; refine (fromLimb_any _ _ _ hg0.out.1 hg0.out.2 (.inl rfl)).mono ?_; rintro e w8 ⟨r, x, k, f, rfl, hN, hb8⟩; have hS8 := keepX hb8 (by assumption)))
            rw [hGi.out] at hN
            have hN9 := hide (NumP_store hN hS8.2.2.2.2.2.2.1 hS8.2.2.2.2.2.2.2.1 r (.slice x k f))
            have hS9 := keepR_set (x := r) (b := x) (m := k) (d := f) hS8.2.2
            have g0 := hS8.2.2.2.2.2.2.1
            have g1 := hS8.2.2.2.2.2.2.2.1
            clear hN
            go_wp2_with fail
            exact bodyPost_ret (v := .agg #[.int .i64 r, .slice x k f]) (by simp [results, Tryd.results62, go_sem, g0, g1]) rfl ⟨r, x, k, f, rfl, hN9.out, keepR_bel hS9⟩

end Go.Proofs.YtdnafkmphcebeaaDoor
