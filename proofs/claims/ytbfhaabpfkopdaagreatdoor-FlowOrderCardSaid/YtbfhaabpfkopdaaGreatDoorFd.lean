/- Graphs: a list of numbers turned round (slices.Reverse). -/
import Derived.Test.YtbfhaabpfkopdaaGreatDoorFb
import Derived.Deep.AppendLies
namespace Go.Proofs.YtbfhaabpfkopdaaGreatDoor
open Go.RowKit
set_option linter.unusedVariables false

/-- Numbers in a block, that may be stored into. -/
structure NumAt (W : World) (g n : Nat) (f : Nat → Int) : Prop where
  lt : g < W.heap.size
  cell : ∀ i, i < n → W.cell? ⟨g, i, none⟩ = some (.int .i64 (f i))
  fr : ∀ j, W.frozen? ⟨g, j, none⟩ = false
theorem NumAt.set {W : World} {g n : Nat} {f : Nat → Int} (h : NumAt W g n f) {i : Nat} (hi : i < n) (v : Int) : NumAt (W.setCell ⟨g, i, none⟩ (.int .i64 v)) g n (fun j => if j = i then v else f j) := by
  refine ⟨by simpa [World.setCell] using h.lt, fun j hj => ?_, fun j => ?_⟩
  · by_cases e : j = i
    · subst e
      rw [if_pos rfl]
      exact World.cell?_setCell_same W _ _ (h.cell j hj)
    · rw [if_neg e, World.cell?_setCell_other W _ _ _ (fun k => e (by cases k; rfl))]
      exact h.cell j hj
  · simpa using h.fr j
/-- The first k and the last k are turned. -/
def revK (f : Nat → Int) (n k : Nat) : Nat → Int := fun j => if j < k ∨ n ≤ j + k then f (n - 1 - j) else f j
theorem revK_step (f : Nat → Int) (n k : Nat) (h : 2 * k + 1 < n) : (fun j => if j = n - 1 - k then revK f n k k else (fun j => if j = k then revK f n k (n - 1 - k) else revK f n k j) j) = revK f n (k + 1) := by
  funext j
  unfold revK
  by_cases h1 : j = n - 1 - k
  · rw [if_pos h1, if_neg (by omega), if_pos (by omega)]
    congr 1
    omega
  · rw [if_neg h1]
    show (if j = k then _ else _) = _
    by_cases h2 : j = k
    · rw [if_pos h2, if_neg (by omega), if_pos (by omega)]
      congr 1
      omega
    · rw [if_neg h2]
      by_cases h3 : j < k ∨ n ≤ j + k
      · rw [if_pos h3, if_pos (by omega)]
      · rw [if_neg h3, if_neg (by omega)]
theorem NumAt.bel {W W' : World} {g n : Nat} {f : Nat → Int} (h : NumAt W g n f) (hb : Below W.heap.size W W') : NumAt W' g n f := ⟨Nat.lt_of_lt_of_le h.lt hb.size, fun i hi => (hb.cell h.lt).trans (h.cell i hi), fun j => (hb.frozen h.lt).trans (h.fr j)⟩
theorem NumAt.congr {W : World} {g n : Nat} {f f' : Nat → Int} (h : NumAt W g n f) (e : ∀ i, i < n → f i = f' i) : NumAt W g n f' := ⟨h.lt, fun i hi => by rw [← e i hi]; exact h.cell i hi, h.fr⟩
set_option maxRecDepth 20000 in
set_option maxHeartbeats 4000000 in
theorem reverse_any (g c n : Nat) (f : Nat → Int) (w : World) (h : NumAt w g n f) (hn : n ≤ 1000) :
    Calls Tryz.prog 62 #[.slice (some ⟨g, 0, none⟩) n c] w fun e w' => e = .returned (.tuple #[]) ∧ Gr g w w' ∧ NumAt w' g n (fun j => f (n - 1 - j)) := by
  go_enter Tryz.func62, Tryz.ntmps62
  go_wp2_with fail
  go_loopg [2, 3] n (fun gh iv jv wx => ∃ k : Nat, gh + k = n ∧ iv = .int .i64 k ∧ jv = .int .i64 ((n : Int) - 1 - k) ∧ Gr g w wx ∧ NumAt wx g n (revK f n k) ∧ 2 * k ≤ n + 1)
  case atStart => exact ⟨0, by omega, rfl, by simp, Gr.refl _ _, h.congr (fun i hi => by unfold revK; rw [if_neg (by omega)]), by omega⟩
  case round =>
    obtain ⟨k, hkg, rfl, rfl, hG, N, hk2⟩ := hrel
    by_cases hk : 2 * k + 1 < n
    · have hk' : (k : Int) < (n : Int) - 1 - k := by omega
      obtain ⟨m, hm⟩ : ∃ m : Nat, (n : Int) - 1 - k = (m : Int) := ⟨n - 1 - k, by omega⟩
      have hmn : m < n := by omega
      have hkn : k < n := by omega
      have ck := N.cell k hkn
      have cm := N.cell m hmn
      have fk := N.fr k
      have fm := N.fr m
      have hmk : m = n - 1 - k := by omega
      rw [hm] at hk' ⊢
      have Hm := hide hm
      have N2 := (N.set hkn (revK f n k m)).set hmn (revK f n k k)
      have e2 := revK_step f n k hk
      rw [← hmk] at e2
      rw [e2] at N2
      have hG2 := (hG.set k (.int .i64 (revK f n k m))).set m (.int .i64 (revK f n k k))
      have ck2 := (N.set hkn (revK f n k m)).cell m hmn
      have fm2 := (N.set hkn (revK f n k m)).fr m
      obtain ⟨zk, hzk⟩ : ∃ z, z = revK f n k k := ⟨_, rfl⟩
      obtain ⟨zm, hzm⟩ : ∃ z, z = revK f n k m := ⟨_, rfl⟩
      rw [← hzk, ← hzm] at N2 hG2
      rw [← hzk] at ck
      rw [← hzm] at cm ck2 fm2
      have hkm : k ≠ m := by omega
      rw [if_neg (Ne.symm hkm)] at ck2
      clear hzk hzm e2 hmk hm N
      go_upto_region 3 with fail
      go_region
      have hbd := (Below.refl ((wr.setCell ⟨g, k, none⟩ (.int .i64 zm)).setCell ⟨g, m, none⟩ (.int .i64 zk)).heap.size ((wr.setCell ⟨g, k, none⟩ (.int .i64 zm)).setCell ⟨g, m, none⟩ (.int .i64 zk))).drew
      have N3 := N2.bel hbd
      have hG3 := hG2.below hbd
      obtain ⟨W2, hW2⟩ : ∃ X, X = ((wr.setCell ⟨g, k, none⟩ (.int .i64 zm)).setCell ⟨g, m, none⟩ (.int .i64 zk)).drew := ⟨_, rfl⟩
      rw [← hW2] at N3 hG3 ⊢
      clear hW2 hbd N2 hG2 ck2 fm2
      go_wp2_with fail
      go_roundg (n - (k + 1))
      case measure => omega
      case rel => exact ⟨k + 1, by omega, by go_num, by have := Hm.out; congr 1; omega, hG3, N3, by omega⟩
    · have hk' : ¬ (k : Int) < (n : Int) - 1 - k := by omega
      go_wp2_with fail
      go_end0
      refine ⟨rfl, hG, N.congr (fun i hi => ?_)⟩
      unfold revK
      by_cases hi2 : i < k ∨ n ≤ i + k
      · rw [if_pos hi2]
      · rw [if_neg hi2]
        congr 1
        omega
end Go.Proofs.YtbfhaabpfkopdaaGreatDoor

/- Graphs: points, as they are come to: what is kept (flow.Order's closure). -/
namespace Go.Proofs.YtbfhaabpfkopdaaGreatDoor
open Go.RowKit
set_option linter.unusedVariables false

theorem owns_blk {W W' : World} {base e size n : Nat} {v : Value} {xs : List Value} (h : W.ownsRow base e size v n xs) (hb : ∀ g, base ≤ g → g < W.heap.size → W'.heap[g]? = W.heap[g]?) : W'.ownsRow base e size v n xs := by
  refine ⟨h.1, ?_⟩
  rcases h.2 with h | ⟨g, cap, cur, h1, h2, h3, h4⟩
  · exact .inl h
  · refine .inr ⟨g, cap, cur, h1, h2, ?_, h4⟩
    rw [hb g h2 (Array.getElem?_eq_some_iff.1 h3).1]
    exact h3
/-- Where the boxes lie. -/
structure Vl (w0 : World) (gb mb vb tb rb M0 : Nat) : Prop where
  r1 : rb ≠ gb
  r2 : rb ≠ mb
  r3 : rb ≠ vb
  r4 : rb ≠ tb
  t1 : tb ≠ gb
  t2 : tb ≠ mb
  t3 : tb ≠ vb
  lr : rb < M0
  lt : tb < M0
  gr : w0.heap.size ≤ rb
  gt : w0.heap.size ≤ tb
  l1 : gb < M0
  l2 : mb < M0
  l3 : vb < M0
  m0 : w0.heap.size ≤ M0
/-- The boxes of a visit: what is seen, what is told. -/
structure Vs (w0 : World) (gb mb vb tb rb M0 n : Nat) (gc : List Value) (W : World) (seen : List Bool) (told : List Int) (tv : Value) : Prop where
  bel : Below w0.heap.size w0 W
  G : BoxN W gb gc
  Mb : BoxN W mb [.slice (some ⟨rb, 0, none⟩) n n]
  V : BoxN W vb [.func (.func 61) #[] #[.pointer (some ⟨mb, 0, none⟩), .pointer (some ⟨gb, 0, none⟩), .pointer (some ⟨vb, 0, none⟩), .pointer (some ⟨tb, 0, none⟩)]]
  T : BoxN W tb [tv]
  R : BoxN W rb (seen.map Value.bool)
  own : W.ownsRow M0 3 1 tv told.length (told.map (Value.int .i64))
  mM : M0 ≤ W.heap.size
section
variable {w0 : World} {gb mb vb tb rb M0 n : Nat} {gc : List Value} {W : World} {seen : List Bool} {told : List Int} {tv : Value}
theorem Vs.below (h : Vs w0 gb mb vb tb rb M0 n gc W seen told tv) {W' : World} (hb : Below W.heap.size W W') : Vs w0 gb mb vb tb rb M0 n gc W' seen told tv :=
  ⟨h.bel.trans (hb.mono h.bel.size), h.G.bel hb, h.Mb.bel hb, h.V.bel hb, h.T.bel hb, h.R.bel hb, owns_below h.own hb, Nat.le_trans h.mM hb.size⟩
theorem Vs.setR (h : Vs w0 gb mb vb tb rb M0 n gc W seen told tv) (L : Vl w0 gb mb vb tb rb M0) {i : Nat} (hi : i < seen.length) : Vs w0 gb mb vb tb rb M0 n gc (W.setCell ⟨rb, i, none⟩ (.bool true)) (seen.set i true) told tv := by
  have hR := h.R.put i (by simpa using hi) (.bool true)
  rw [← List.map_set] at hR
  exact ⟨h.bel.setCell (p := ⟨rb, i, none⟩) L.gr _, h.G.other (q := ⟨rb, i, none⟩) L.r1 _, h.Mb.other (q := ⟨rb, i, none⟩) L.r2 _, h.V.other (q := ⟨rb, i, none⟩) L.r3 _, h.T.other (q := ⟨rb, i, none⟩) L.r4 _, hR, owns_blk h.own (fun g h1 h2 => Below.heap_setCell W ⟨rb, i, none⟩ _ g (fun e => by have e : g = rb := e; have := L.lr; omega)), by simpa [World.setCell] using h.mM⟩
/-- One more is told. -/
theorem Vs.tell (h : Vs w0 gb mb vb tb rb M0 n gc W seen told tv) (L : Vl w0 gb mb vb tb rb M0) {W' : World} {v' : Value} {z : Int} (hg : W.grownBy W' tv.ownBlock) (ho : W'.ownsRow M0 3 1 v' (told.length + 1) (told.map (Value.int .i64) ++ [.int .i64 z])) : Vs w0 gb mb vb tb rb M0 n gc (W'.setCell ⟨tb, 0, none⟩ v') seen (told ++ [z]) v' := by
  have hob : ∀ g, tv.ownBlock = some g → M0 ≤ g := by
    intro g e
    rcases h.own.2 with ⟨h1, _⟩ | ⟨g', cap, cur, h1, h2, _⟩
    · rw [h1] at e; cases e
    · rw [h1] at e; cases e; exact h2
  have far : ∀ b, b < M0 → tv.ownBlock ≠ some b := fun b hb e => by have := hob b e; omega
  have B1 := h.bel.grown hg h.bel.size (fun k e => by have := hob k e; have := L.m0; omega)
  have ho2 : W'.ownsRow M0 3 1 v' (told ++ [z]).length ((told ++ [z]).map (Value.int .i64)) := by
    rw [List.map_append, List.length_append]
    exact ho
  refine ⟨B1.setCell (p := ⟨tb, 0, none⟩) L.gt _, (h.G.far hg (far _ L.l1)).other (q := ⟨tb, 0, none⟩) L.t1 _, (h.Mb.far hg (far _ L.l2)).other (q := ⟨tb, 0, none⟩) L.t2 _, (h.V.far hg (far _ L.l3)).other (q := ⟨tb, 0, none⟩) L.t3 _, (h.T.far hg (far _ L.lt)).put 0 (by simp) v', (h.R.far hg (far _ L.lr)).other (q := ⟨tb, 0, none⟩) L.r4.symm _, owns_blk ho2 (fun g h1 h2 => Below.heap_setCell W' ⟨tb, 0, none⟩ _ g (fun e => by have e : g = tb := e; have := L.lt; omega)), ?_⟩
  have := h.mM
  have := hg.size
  simp [World.setCell]
  omega
end
end Go.Proofs.YtbfhaabpfkopdaaGreatDoor
