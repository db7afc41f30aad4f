/- The sum of products of two rows of ints: a number of any size. -/
import Derived.Test.YtdnafkmphcebeaaDoorWg
namespace Go.Proofs.YtdnafkmphcebeaaDoor
open Go.RowKit

/-- The boxes of the walk: the result's, and that of the sum so far. -/
def SInv (w W : World) (p : Int) (a : Option Addr) (n c : Nat) (z : Int) : Prop :=
  W.cell? ⟨w.heap.size + 1, 0, none⟩ = some (.int .i64 p) ∧ W.cell? ⟨w.heap.size + 1, 1, none⟩ = some (.slice a n c) ∧
  W.cell? ⟨w.heap.size, 0, none⟩ = some (.int .i64 0) ∧ W.cell? ⟨w.heap.size, 1, none⟩ = some (.slice none 0 0) ∧ (∀ o, W.frozen? ⟨w.heap.size, o, none⟩ = false) ∧ (∀ o, W.frozen? ⟨w.heap.size + 1, o, none⟩ = false) ∧
  w.heap.size + 1 < W.heap.size ∧ Below w.heap.size w W ∧ NumP W p a n c z

theorem SInv.call {w W w1 : World} {p : Int} {a : Option Addr} {n c : Nat} {z : Int} (h : SInv w W p a n c z) (hb : Below W.heap.size W w1) : SInv w w1 p a n c z := by
  obtain ⟨h1, h2, h3, h4, h5, h6, h7, h8, h9⟩ := h
  have hs := hb.size
  exact ⟨(hb.cell (by dsimp only; omega)).trans h1, (hb.cell (by dsimp only; omega)).trans h2, (hb.cell (by dsimp only; omega)).trans h3, (hb.cell (by dsimp only; omega)).trans h4, fun o => (hb.frozen (by dsimp only; omega)).trans (h5 o), fun o => (hb.frozen (by dsimp only; omega)).trans (h6 o), by omega, h8.trans (hb.mono (by omega)), h9.below hb⟩

theorem SInv.store {w W : World} {p : Int} {a : Option Addr} {n c : Nat} {z : Int} (h : SInv w W p a n c z) {q : Int} {b : Option Addr} {m k : Nat} {y : Int} (hN : NumP W q b m k y) :
    SInv w ((W.setCell ⟨w.heap.size + 1, 0, none⟩ (.int .i64 q)).setCell ⟨w.heap.size + 1, 1, none⟩ (.slice b m k)) q b m k y := by
  obtain ⟨h1, h2, h3, h4, h5, h6, h7, h8, h9⟩ := h
  exact ⟨by simp [go_sem, h1], by simp [go_sem, h2], by simp [go_sem, h3], by simp [go_sem, h4], fun o => by simp [h5], fun o => by simp [h6], by simpa [World.setCell] using h7, (h8.setCell (by dsimp only; omega) _).setCell (by dsimp only; omega) _, NumP_store hN h1 h2 q _⟩

theorem NearRow.set {w : World} {b : Nat} {l : List Int} (h : NearRow w b l) {r o : Nat} {v : Value} (hne : r ≠ b) : NearRow (w.setCell ⟨r, o, none⟩ v) b l := by
  have e : ∀ o', (w.setCell ⟨r, o, none⟩ v).cell? ⟨b, o', none⟩ = w.cell? ⟨b, o', none⟩ := fun o' => World.cell?_of_block (Below.heap_setCell w ⟨r, o, none⟩ v b (by dsimp only; omega))
  exact ⟨by simpa [World.setCell] using h.1, fun i hi => ⟨(e _).trans (h.2 i hi).1, (e _).trans (h.2 i hi).2⟩⟩

theorem sum_bound (l : List Int) (h : ∀ x ∈ l, -4611686018427387904 ≤ x ∧ x ≤ 4611686018427387904) : -(4611686018427387904 * (l.length : Int)) ≤ l.sum ∧ l.sum ≤ 4611686018427387904 * (l.length : Int) := by
  induction l with
  | nil => simp
  | cons x l ih =>
    have h1 := ih (fun y hy => h y (by simp [hy]))
    have h2 := h x (by simp)
    simp only [List.sum_cons, List.length_cons]
    omega

theorem sum_take_succ (l : List Int) (k : Nat) (hk : k < l.length) : (l.take (k + 1)).sum = (l.take k).sum + l.getD k 0 := by
  rw [take_succ_getD l k hk, List.sum_append]; simp

theorem pw_1000 : 340282366920938463463374607431768211456 ≤ pw 1000 := by
  have h := pw_mono (show 2 ≤ 1000 by omega)
  have h2 : pw 2 = 340282366920938463463374607431768211456 := rfl
  omega

theorem sm_of_sum (l : List Int) (h : ∀ x ∈ l, -4611686018427387904 ≤ x ∧ x ≤ 4611686018427387904) (hn : l.length ≤ 1073741824) : Sm l.sum := by
  have h1 := sum_bound l h
  have h2 := pw_1000
  exact ⟨by omega, by omega⟩

set_option maxHeartbeats 2000000 in
theorem rowDot_near (b1 c1 b2 c2 : Nat) (l m : List Int) (n : Nat) (w : World) (hr1 : NearRow w b1 l) (hr2 : NearRow w b2 m) (hl : Hid (n = l.length)) (hm : Hid (n = m.length)) (hn : n ≤ 1073741824)
    (hbd1 : ∀ x ∈ l, -2147483648 ≤ x ∧ x ≤ 2147483648) (hbd2 : ∀ x ∈ m, -2147483648 ≤ x ∧ x ≤ 2147483648) (hbp : Hid (∀ x ∈ prodL l m, -4611686018427387904 ≤ x ∧ x ≤ 4611686018427387904)) :
    Calls Tryd.prog 22 #[.slice (some ⟨b1, 0, none⟩) n c1, .slice (some ⟨b2, 0, none⟩) n c2] w fun e w' => ∃ p a k c, e = .returned (.agg #[.int .i64 p, .slice a k c]) ∧ NumP w' p a k c (prodL l m).sum ∧ Below w.heap.size w w' := by
  have Hb1 := hide hbd1
  have Hb2 := hide hbd2
  clear hbd1 hbd2
  have hpl : Hid ((prodL l m).length = n) := by unfold Hid; rw [prodL_length l m (by rw [← hl.out, ← hm.out])]; exact hl.out.symm
  go_enter Tryd.func22, Tryd.ntmps22
  go_wp2_with fail
  refine (withTimes_near b1 c1 b2 c2 l m n _ (hr1.below (((Below.refl _ _).alloc (Nat.le_refl _) _).alloc (by simp) _)) (hr2.below (((Below.refl _ _).alloc (Nat.le_refl _) _).alloc (by simp) _)) hl hm hn Hb1.out Hb2.out).mono ?_
  rintro e w1 ⟨g, rfl, hg, hrow, hb1⟩
  have hI0 : SInv w w1 0 none 0 0 0 := by
    refine SInv.call (W := (w.alloc (.cells #[.int .i64 0, .slice none 0 0] 55)).alloc (.cells #[.int .i64 0, .slice none 0 0] 55)) ⟨by simp, by simp, by simp, by simp, by simp, by simp, by simp, ((Below.refl _ _).alloc (Nat.le_refl _) _).alloc (by simp) _, NumP_near _ (by omega) (by omega)⟩ hb1
  clear hb1
  go_wp2_with fail
  go_loopw [12] (fun i wr => ∃ (k : Nat) (p : Int) (a : Option Addr) (d c : Nat), k ≤ n ∧ i = .int .i64 k ∧ SInv w wr p a d c ((prodL l m).take k).sum ∧ NearRow wr g (prodL l m)) (fun i _ => n - (intOf i).toNat)
  case atStart => exact ⟨0, 0, none, 0, 0, Nat.zero_le _, rfl, by simpa using hI0, hrow⟩
  case round =>
    obtain ⟨k, p, a, d, c, hk, rfl, hI, hrw⟩ := hrel
    simp at hg
    by_cases hlt : k < n
    · have hkl : k < (prodL l m).length := by rw [hpl.out]; exact hlt
      obtain ⟨x, hxe⟩ : ∃ x, x = (prodL l m).getD k 0 := ⟨_, rfl⟩
      obtain ⟨z, hze⟩ : ∃ z, z = ((prodL l m).take k).sum := ⟨_, rfl⟩
      have hc0 : wr.cell? ⟨g, k * 2, none⟩ = some (.int .i64 x) := by rw [hxe]; exact (hrw.2 k hkl).1
      have hc1 : wr.cell? ⟨g, k * 2 + 1, none⟩ = some (.slice none 0 0) := (hrw.2 k hkl).2
      have hgl := hrw.1
      have hxb := hbp.out x (by rw [hxe]; simp [hkl])
      have hsx : Sm x := by have := pw_1000; exact ⟨by omega, by omega⟩
      have hsz : Sm z := by rw [hze]; exact sm_of_sum _ (fun y hy => hbp.out y (List.mem_of_mem_take hy)) (by simp; omega)
      have hnx : Hid (z + x = ((prodL l m).take (k + 1)).sum) := by unfold Hid; rw [hze, hxe, sum_take_succ _ k hkl]
      rw [← hze] at hI
      have HR := hide hrw
      clear hxe hze hrw
      obtain ⟨e1, e2, e3, e4, e5, e6, e7, e8, e9⟩ := hI
      have hI' := hide (show SInv w wr p a d c z from ⟨e1, e2, e3, e4, e5, e6, e7, e8, e9⟩)
      have HN := hide e9
      clear e9
      go_wp2_with fail
      refine (plusN_any p a d c z x none 0 0 x _ (HN.out.below ((Below.refl _ _).alloc (Nat.le_refl _) _)) (NumP_near _ (by omega) (by omega)) hsz hsx).mono ?_
      rintro e w2 ⟨r, b, u, v, rfl, hN2, hb2⟩
      have hI2 := (hI'.out.call ((Below.refl _ _).alloc (Nat.le_refl _) _)).call hb2
      have hI3 := hI2.store hN2
      have hR2 := (HR.out.below ((Below.refl _ _).alloc (Nat.le_refl _) _)).below hb2
      have hR3 := (hR2.set (r := w.heap.size + 1) (o := 0) (v := .int .i64 r) (by omega)).set (r := w.heap.size + 1) (o := 1) (v := .slice b u v) (by omega)
      have HI3 := hide hI3
      have HR3 := hide hR3
      obtain ⟨f1, f2, f3, f4, f5, f6, f7, f8, f9⟩ := hI2
      clear e1 e2 e3 e4 e5 e6 e7 e8 f3 f4 f5 f9 hI3 hR3 hR2 hN2
      go_wp2_with fail
      go_roundw
      case rel => exact ⟨k + 1, r, b, u, v, by omega, by go_num, by rw [← hnx.out]; exact HI3.out, HR3.out⟩
      case measure => simp [intOf]; omega
    · have hke : (prodL l m).take k = prodL l m := List.take_of_length_le (by rw [hpl.out]; omega)
      rw [hke] at hI
      have HI := hide hI
      obtain ⟨e1, e2, e3, e4, e5, e6, e7, e8, e9⟩ := hI
      have HN := hide e9
      clear e9 hke
      go_wp2_with fail
      exact bodyPost_ret (v := .agg #[.int .i64 p, .slice a d c]) (by simp [results, Tryd.results22, go_sem, e3, e4]) rfl ⟨p, a, d, c, rfl, NumP_store HN.out e3 e4 p _, (e8.setCell (by dsimp only; omega) _).setCell (by dsimp only; omega) _⟩

end Go.Proofs.YtdnafkmphcebeaaDoor
