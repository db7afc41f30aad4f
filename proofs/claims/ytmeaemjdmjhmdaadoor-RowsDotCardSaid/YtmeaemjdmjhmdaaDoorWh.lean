/- The sum of products of two rows of ints: a number of any size. -/
import Derived.Test.YtmeaemjdmjhmdaaDoorWf
import Derived.Test.YtmeaemjdmjhmdaaDoorWz
namespace Go.Proofs.YtmeaemjdmjhmdaaDoor
open Go.RowKit

/-- The products of two rows. -/
def prodL (l m : List Int) : List Int := List.zipWith (· * ·) l m

theorem prodL_length (l m : List Int) (h : l.length = m.length) : (prodL l m).length = l.length := by simp [prodL, h]

theorem prodL_get (l m : List Int) (h : l.length = m.length) (k : Nat) (hk : k < l.length) : (prodL l m).getD k 0 = l.getD k 0 * m.getD k 0 := by
  have hm : k < m.length := by omega
  simp [prodL, List.getElem?_zipWith, hk, hm]

theorem keepDi {W w1 : World} {b1 b2 g k : Nat} {x y : Int} (hb : Below W.heap.size W w1) (h : (W.cell? ⟨b1, k * 2, none⟩ = some (.int .i64 x) ∧ W.cell? ⟨b1, k * 2 + 1, none⟩ = some (.slice none 0 0) ∧ W.cell? ⟨b2, k * 2, none⟩ = some (.int .i64 y) ∧ W.cell? ⟨b2, k * 2 + 1, none⟩ = some (.slice none 0 0) ∧ b1 < g ∧ b2 < g ∧ g < W.heap.size)) : (w1.cell? ⟨b1, k * 2, none⟩ = some (.int .i64 x) ∧ w1.cell? ⟨b1, k * 2 + 1, none⟩ = some (.slice none 0 0) ∧ w1.cell? ⟨b2, k * 2, none⟩ = some (.int .i64 y) ∧ w1.cell? ⟨b2, k * 2 + 1, none⟩ = some (.slice none 0 0) ∧ b1 < g ∧ b2 < g ∧ g < w1.heap.size) := by
  obtain ⟨h1, h2, h3, h4, h5, h6, h7⟩ := h
  have hs := hb.size
  exact ⟨(hb.cell (by dsimp only; omega)).trans h1, (hb.cell (by dsimp only; omega)).trans h2, (hb.cell (by dsimp only; omega)).trans h3, (hb.cell (by dsimp only; omega)).trans h4, h5, h6, by omega⟩

theorem keepDs {W : World} {b1 b2 g k o : Nat} {x y : Int} {v : Value} (h : (W.cell? ⟨b1, k * 2, none⟩ = some (.int .i64 x) ∧ W.cell? ⟨b1, k * 2 + 1, none⟩ = some (.slice none 0 0) ∧ W.cell? ⟨b2, k * 2, none⟩ = some (.int .i64 y) ∧ W.cell? ⟨b2, k * 2 + 1, none⟩ = some (.slice none 0 0) ∧ b1 < g ∧ b2 < g ∧ g < W.heap.size)) : ((W.setCell ⟨g, o, none⟩ v).cell? ⟨b1, k * 2, none⟩ = some (.int .i64 x) ∧ (W.setCell ⟨g, o, none⟩ v).cell? ⟨b1, k * 2 + 1, none⟩ = some (.slice none 0 0) ∧ (W.setCell ⟨g, o, none⟩ v).cell? ⟨b2, k * 2, none⟩ = some (.int .i64 y) ∧ (W.setCell ⟨g, o, none⟩ v).cell? ⟨b2, k * 2 + 1, none⟩ = some (.slice none 0 0) ∧ b1 < g ∧ b2 < g ∧ g < (W.setCell ⟨g, o, none⟩ v).heap.size) := by
  obtain ⟨h1, h2, h3, h4, h5, h6, h7⟩ := h
  have e : ∀ b o', b < g → (W.setCell ⟨g, o, none⟩ v).cell? ⟨b, o', none⟩ = W.cell? ⟨b, o', none⟩ := fun b o' hlt => World.cell?_of_block (Below.heap_setCell W ⟨g, o, none⟩ v b (by dsimp only; omega))
  exact ⟨(e _ _ h5).trans h1, (e _ _ h5).trans h2, (e _ _ h6).trans h3, (e _ _ h6).trans h4, h5, h6, by simpa [World.setCell] using h7⟩

theorem sgn3_zero_iff (x : Int) : sgn3 x 0 = 0 ↔ x = 0 := by
  unfold sgn3; split <;> (try split) <;> omega

/-- The boxes of the walk: the result's, and that of the sum so far. -/
def SInv (w W : World) (p : Int) (a : Option Addr) (n c : Nat) (z : Int) : Prop :=
  W.cell? ⟨w.heap.size + 1, 0, none⟩ = some (.int .i64 p) ∧ W.cell? ⟨w.heap.size + 1, 1, none⟩ = some (.slice a n c) ∧
  W.cell? ⟨w.heap.size, 0, none⟩ = some (.int .i64 0) ∧ W.cell? ⟨w.heap.size, 1, none⟩ = some (.slice none 0 0) ∧ (∀ o, W.frozen? ⟨w.heap.size, o, none⟩ = false) ∧ (∀ o, W.frozen? ⟨w.heap.size + 1, o, none⟩ = false) ∧
  w.heap.size + 1 < W.heap.size ∧ Below w.heap.size w W ∧ NumP W p a n c z

theorem SInv.call {w W w1 : World} {p : Int} {a : Option Addr} {n c : Nat} {z : Int} (h : SInv w W p a n c z) (hb : Below W.heap.size W w1) : SInv w w1 p a n c z := by
  obtain ⟨h1, h2, h3, h4, h5, h6, h7, h8, h9⟩ := h
  have hs := hb.size
  exact ⟨(hb.cell (by dsimp only; omega)).trans h1, (hb.cell (by dsimp only; omega)).trans h2, (hb.cell (by dsimp only; omega)).trans h3, (hb.cell (by dsimp only; omega)).trans h4, fun o => (hb.frozen (by dsimp only; omega)).trans (h5 o), fun o => (hb.frozen (by dsimp only; omega)).trans (h6 o), by omega, h8.trans (hb.mono (by omega)), h9.below hb⟩

theorem SInv.store {w W : World} {p : Int} {a : Option Addr} {n c : Nat} {z : Int} (h : SInv w W p a n c z) {q : Int} {b : Option Addr} {m k : Nat} {y : Int} (hN : NumP W q b m k y) :
    SInv w ((W.setCell ⟨w.heap.size + 1, 0, none⟩ (.int .i64 q)).setCell ⟨w.heap.size + 1, 1, none⟩ (.slice b m k)) q b m k y := by
  obtain ⟨h1, h2, h3, h4, h5, h6, h7, h8, h9⟩ := h
  exact ⟨by simp [go_sem, h1], by simp [go_sem, h2], by simp [go_sem, h3], by simp [go_sem, h4], fun o => by simp [h5], fun o => by simp [h6], by simpa [World.setCell] using h7, (h8.setCell (by dsimp only; omega) _).setCell (by dsimp only; omega) _, NumP_store hN h1 h2 q _⟩

theorem NearRow.set {w : World} {b : Nat} {l : List Int} (h : NearRow w b l) {r o : Nat} {v : Value} (hne : r ≠ b) : NearRow (w.setCell ⟨r, o, none⟩ v) b l := by
  have e : ∀ o', (w.setCell ⟨r, o, none⟩ v).cell? ⟨b, o', none⟩ = w.cell? ⟨b, o', none⟩ := fun o' => World.cell?_of_block (Below.heap_setCell w ⟨r, o, none⟩ v b (by dsimp only; omega))
  exact ⟨by simpa [World.setCell] using h.1, fun i hi => ⟨(e _).trans (h.2 i hi).1, (e _).trans (h.2 i hi).2⟩⟩

theorem sum_bound (l : List Int) (h : ∀ x ∈ l, -4611686018427387904 ≤ x ∧ x ≤ 4611686018427387904) : -(4611686018427387904 * (l.length : Int)) ≤ l.sum ∧ l.sum ≤ 4611686018427387904 * (l.length : Int) := by
  induction l with
  | nil => simp
  | cons x l ih =>
    have h1 := ih (fun y hy => h y (by simp [hy]))
    have h2 := h x (by simp)
    simp only [List.sum_cons, List.length_cons]
    omega

theorem sum_take_succ (l : List Int) (k : Nat) (hk : k < l.length) : (l.take (k + 1)).sum = (l.take k).sum + l.getD k 0 := by
  rw [take_succ_getD l k hk, List.sum_append]; simp

theorem pw_1000 : 340282366920938463463374607431768211456 ≤ pw 1000 := by
  have h := pw_mono (show 2 ≤ 1000 by omega)
  have h2 : pw 2 = 340282366920938463463374607431768211456 := rfl
  omega

theorem sm_of_sum (l : List Int) (h : ∀ x ∈ l, -4611686018427387904 ≤ x ∧ x ≤ 4611686018427387904) (hn : l.length ≤ 1073741824) : Sm l.sum := by
  have h1 := sum_bound l h
  have h2 := pw_1000
  exact ⟨by omega, by omega⟩

set_option maxHeartbeats 4000000 in
theorem rowDot_near (b1 c1 b2 c2 : Nat) (l m : List Int) (n : Nat) (w : World) (hr1 : NearRow w b1 l) (hr2 : NearRow w b2 m) (hl : Hid (n = l.length)) (hm : Hid (n = m.length)) (hn : n ≤ 1073741824)
    (hbd1 : ∀ x ∈ l, -2147483648 ≤ x ∧ x ≤ 2147483648) (hbd2 : ∀ x ∈ m, -2147483648 ≤ x ∧ x ≤ 2147483648) (hbp : Hid (∀ x ∈ prodL l m, -4611686018427387904 ≤ x ∧ x ≤ 4611686018427387904)) :
    Calls Tryd.prog 13 #[.slice (some ⟨b1, 0, none⟩) n c1, .slice (some ⟨b2, 0, none⟩) n c2] w fun e w' => ∃ p a k c, e = .returned (.agg #[.int .i64 p, .slice a k c]) ∧ NumP w' p a k c (prodL l m).sum ∧ Below w.heap.size w w' := by
  have Hb1 := hide hbd1
  have Hb2 := hide hbd2
  clear hbd1 hbd2
  have hpl : Hid ((prodL l m).length = n) := by unfold Hid; rw [prodL_length l m (by rw [← hl.out, ← hm.out])]; exact hl.out.symm
  go_enter Tryd.func13, Tryd.ntmps13
  go_wp2_with fail
  have hI0 : SInv w ((w.alloc (.cells #[.int .i64 0, .slice none 0 0] 36)).alloc (.cells #[.int .i64 0, .slice none 0 0] 36)) 0 none 0 0 0 := ⟨by simp, by simp, by simp, by simp, by simp, by simp, by simp, ((Below.refl _ _).alloc (Nat.le_refl _) _).alloc (by simp) _, NumP_near _ (by omega) (by omega)⟩
  go_loopw [12] (fun i wr => ∃ (k : Nat) (p : Int) (a : Option Addr) (d c : Nat), k ≤ n ∧ i = .int .i64 k ∧ SInv w wr p a d c ((prodL l m).take k).sum) (fun i _ => n - (intOf i).toNat)
  case atStart => exact ⟨0, 0, none, 0, 0, Nat.zero_le _, rfl, by simpa using hI0⟩
  case round =>
    obtain ⟨k, p, a, d, c, hk, rfl, hI⟩ := hrel
    by_cases hlt : k < n
    · have hkl : k < l.length := by rw [← hl.out]; exact hlt
      have hkm : k < m.length := by rw [← hm.out]; exact hlt
      have hkp : k < (prodL l m).length := by rw [hpl.out]; exact hlt
      obtain ⟨x, hxe⟩ : ∃ x, x = l.getD k 0 := ⟨_, rfl⟩
      obtain ⟨y, hye⟩ : ∃ y, y = m.getD k 0 := ⟨_, rfl⟩
      obtain ⟨z, hze⟩ : ∃ z, z = ((prodL l m).take k).sum := ⟨_, rfl⟩
      obtain ⟨g, hge⟩ : ∃ g, g = w.heap.size + 1 := ⟨_, rfl⟩
      have hbel := hI.2.2.2.2.2.2.2.1
      have hgl := hI.2.2.2.2.2.2.1
      have hD : Hid (wr.cell? ⟨b1, k * 2, none⟩ = some (.int .i64 x) ∧ wr.cell? ⟨b1, k * 2 + 1, none⟩ = some (.slice none 0 0) ∧ wr.cell? ⟨b2, k * 2, none⟩ = some (.int .i64 y) ∧ wr.cell? ⟨b2, k * 2 + 1, none⟩ = some (.slice none 0 0) ∧ b1 < g ∧ b2 < g ∧ g < wr.heap.size) := ⟨by rw [hxe, hbel.cell (p := ⟨b1, k * 2, none⟩) hr1.1]; exact (hr1.2 k hkl).1, by rw [hbel.cell (p := ⟨b1, k * 2 + 1, none⟩) hr1.1]; exact (hr1.2 k hkl).2, by rw [hye, hbel.cell (p := ⟨b2, k * 2, none⟩) hr2.1]; exact (hr2.2 k hkm).1, by rw [hbel.cell (p := ⟨b2, k * 2 + 1, none⟩) hr2.1]; exact (hr2.2 k hkm).2, by have := hr1.1; omega, by have := hr2.1; omega, by omega⟩
      have hx := Hb1.out x (by rw [hxe]; simp [hkl])
      have hy := Hb2.out y (by rw [hye]; simp [hkm])
      have hpr : Hid ((x.natAbs : Int) * (y.natAbs : Int) ≤ 9223372036854775807) := by
        unfold Hid
        have h := Int.mul_le_mul (show (x.natAbs : Int) ≤ 2147483648 by omega) (show (y.natAbs : Int) ≤ 2147483648 by omega) (by omega) (by omega)
        omega
      have hpx : (prodL l m).getD k 0 = x * y := by rw [hxe, hye]; exact prodL_get l m (by rw [← hl.out, ← hm.out]) k hkl
      have hxb := hbp.out (x * y) (by rw [← hpx]; simp [hkp])
      have hsx : Sm (x * y) := by have := pw_1000; exact ⟨by omega, by omega⟩
      have hsz : Sm z := by rw [hze]; exact sm_of_sum _ (fun y hy => hbp.out y (List.mem_of_mem_take hy)) (by simp; omega)
      have hnx : Hid (z + x * y = ((prodL l m).take (k + 1)).sum) := by unfold Hid; rw [hze, ← hpx, sum_take_succ _ k hkp]
      rw [← hze] at hI
      have HPB : Hid (-9223372036854775808 ≤ x * y ∧ x * y ≤ 9223372036854775807) := by unfold Hid; omega
      have HSX := hide hsx
      have HSZ := hide hsz
      have HI := hide hI
      clear hxe hye hze hxb hsx hsz hI hpx hbel hgl
      have hxb := hx
      have hyb := hy
      have HX : Hid (-9223372036854775808 ≤ x ∧ x ≤ 9223372036854775807 ∧ -9223372036854775808 ≤ y ∧ y ≤ 9223372036854775807) := by unfold Hid; omega
      clear hx hy hxb hyb
      obtain ⟨sx, hsx⟩ : ∃ s, sgn3 x 0 = s := ⟨_, rfl⟩
      obtain ⟨sy, hsy⟩ : ∃ s, sgn3 y 0 = s := ⟨_, rfl⟩
      have hx0 := sgn3_zero_iff x
      have hy0 := sgn3_zero_iff y
      rw [hsx] at hx0
      rw [hsy] at hy0
      have HX0 := hide hx0
      have HY0 := hide hy0
      clear hx0 hy0
      obtain ⟨d1, d2, d3, d4, d5, d6, d7⟩ := hD.out
      go_wp2_with fail
      refine (sign_any x _ _).mono ?_
      rintro e w1 ⟨rfl, hb1⟩
      rw [hsx]
      have HI1 := hide (HI.out.call hb1)
      have HD1 := hide (keepDi hb1 hD.out)
      clear d1 d2 d3 d4 d5 d6 d7 hb1
      obtain ⟨d1, d2, d3, d4, d5, d6, d7⟩ := HD1.out
      by_cases hxz : sx = 0
      · subst hxz
        have hz : z + x * y = z := by rw [HX0.out.mp rfl]; simp
        go_wp2_with fail
        go_roundw
        case rel => exact ⟨k + 1, p, a, d, c, by omega, by go_num, by rw [← hnx.out, hz]; exact HI1.out⟩
        case measure => simp [intOf]; omega
      · have hxn : (sx != 0) = true := by simp [hxz]
        go_wp2_with fail
        refine (sign_any y _ _).mono ?_
        rintro e w2 ⟨rfl, hb2⟩
        rw [hsy]
        have HI2 := hide (HI1.out.call hb2)
        have HD2 := hide (keepDi hb2 HD1.out)
        clear d1 d2 d3 d4 d5 d6 d7 hb2
        obtain ⟨d1, d2, d3, d4, d5, d6, d7⟩ := HD2.out
        by_cases hyz : sy = 0
        · subst hyz
          have hz : z + x * y = z := by rw [HY0.out.mp rfl]; simp
          go_wp2_with fail
          go_roundw
          case rel => exact ⟨k + 1, p, a, d, c, by omega, by go_num, by rw [← hnx.out, hz]; exact HI2.out⟩
          case measure => simp [intOf]; omega
        · have hyn : (sy != 0) = true := by simp [hyz]
          have HI3 := hide (HI2.out.call ((Below.refl _ _).drew))
          have HD3 := hide (keepDi ((Below.refl _ _).drew) HD2.out)
          go_wp2_with fail
          refine wp_region_any (by kernel_rfl) (wpTilR_any (S := fun w' => (w'.cell? ⟨b1, k * 2, none⟩ = some (.int .i64 x) ∧ w'.cell? ⟨b1, k * 2 + 1, none⟩ = some (.slice none 0 0) ∧ w'.cell? ⟨b2, k * 2, none⟩ = some (.int .i64 y) ∧ w'.cell? ⟨b2, k * 2 + 1, none⟩ = some (.slice none 0 0) ∧ w'.cell? ⟨w.heap.size + 1, 0, none⟩ = some (.int .i64 p) ∧ w'.cell? ⟨w.heap.size + 1, 1, none⟩ = some (.slice a d c))) (E := 11) _ _ _ _ ?_)
          obtain ⟨wd, hwd⟩ : ∃ X, X = w2.drew := ⟨_, rfl⟩
          change wpTilR _ _ _ _ _ _ _ _ _ w2.drew
          rw [← hwd] at HI3 HD3 ⊢
          clear hwd d1 d2 d3 d4 d5 d6 d7
          have hS9 : (wd.cell? ⟨b1, k * 2, none⟩ = some (.int .i64 x) ∧ wd.cell? ⟨b1, k * 2 + 1, none⟩ = some (.slice none 0 0) ∧ wd.cell? ⟨b2, k * 2, none⟩ = some (.int .i64 y) ∧ wd.cell? ⟨b2, k * 2 + 1, none⟩ = some (.slice none 0 0) ∧ wd.cell? ⟨w.heap.size + 1, 0, none⟩ = some (.int .i64 p) ∧ wd.cell? ⟨w.heap.size + 1, 1, none⟩ = some (.slice a d c)) := ⟨HD3.out.1, HD3.out.2.1, HD3.out.2.2.1, HD3.out.2.2.2.1, HI3.out.1, HI3.out.2.1⟩
          (refine tkR 0 (v := ?_) ?_ hS9 ?_; rotate_left 1; (intro w' hSw; (try dsimp only at hSw); go_simp; (try rw [if_pos (by omega)])); (try rfl); (try dsimp only [Act.put]))
          (refine tkR 1 (v := ?_) ?_ hS9 ?_; rotate_left 1; (intro w' hSw; (try dsimp only at hSw); go_simp; (try rw [if_pos (by omega)])); (try rfl); (try dsimp only [Act.put]))
          (refine tkR 2 (v := ?_) ?_ hS9 ?_; rotate_left 1; (intro w' hSw; (try dsimp only at hSw); go_simp; (try rw [if_pos (by omega)])); (try rfl); (try dsimp only [Act.put]))
          (refine tkR 3 (v := ?_) ?_ hS9 ?_; rotate_left 1; (intro w' hSw; (try dsimp only at hSw); go_simp; (try rw [if_pos (by omega)])); (try rfl); (try dsimp only [Act.put]))
          (refine tkR 4 (v := ?_) ?_ hS9 ?_; rotate_left 1; (intro w' hSw; (try dsimp only at hSw); go_simp; (try rw [if_pos (by omega)])); (try rfl); (try dsimp only [Act.put]))
          (refine tkR 5 (v := ?_) ?_ hS9 ?_; rotate_left 1; (intro w' hSw; (try dsimp only at hSw); go_simp; (try rw [if_pos (by omega)])); (try rfl); (try dsimp only [Act.put]))
          (refine tkR 6 (v := ?_) ?_ hS9 ?_; rotate_left 1; (intro w' hSw; (try dsimp only at hSw); go_simp; (try rw [if_pos (by omega)])); (try rfl); (try dsimp only [Act.put]))
          (refine tkR 7 (v := ?_) ?_ hS9 ?_; rotate_left 1; (intro w' hSw; (try dsimp only at hSw); go_simp; (try rw [if_pos (by omega)])); (try rfl); (try dsimp only [Act.put]))
          (refine tkR 8 (v := ?_) ?_ hS9 ?_; rotate_left 1; (intro w' hSw; (try dsimp only at hSw); go_simp; (try rw [if_pos (by omega)])); (try rfl); (try dsimp only [Act.put]))
          refine wpTilR_one (k := 9) (by kernel_rfl) ?_
          unfold wpOp
          go_simp
          refine Or.inl ((timesN_small x y _ HX.out.1 HX.out.2.1 HX.out.2.2.1 HX.out.2.2.2 hpr.out).mono ?_)
          rintro e4' w4 ⟨rfl, hb4⟩
          have HI4 := hide (HI3.out.call hb4)
          have HD4 := hide (keepDi hb4 HD3.out)
          have hS9 : (w4.cell? ⟨b1, k * 2, none⟩ = some (.int .i64 x) ∧ w4.cell? ⟨b1, k * 2 + 1, none⟩ = some (.slice none 0 0) ∧ w4.cell? ⟨b2, k * 2, none⟩ = some (.int .i64 y) ∧ w4.cell? ⟨b2, k * 2 + 1, none⟩ = some (.slice none 0 0) ∧ w4.cell? ⟨w.heap.size + 1, 0, none⟩ = some (.int .i64 p) ∧ w4.cell? ⟨w.heap.size + 1, 1, none⟩ = some (.slice a d c)) := ⟨HD4.out.1, HD4.out.2.1, HD4.out.2.2.1, HD4.out.2.2.2.1, HI4.out.1, HI4.out.2.1⟩
          refine ⟨hS9, ?_⟩
          refine wpTilR_one (k := 10) (by kernel_rfl) ?_
          unfold wpOp
          go_simp
          refine Or.inl ((plusN_any p a d c z (x * y) none 0 0 (x * y) _ HI4.out.2.2.2.2.2.2.2.2 (NumP_near _ HPB.out.1 HPB.out.2) HSZ.out HSX.out).mono ?_)
          rintro e5' w5 ⟨r, b, u, v, rfl, hN5, hb5⟩
          have HI5 := hide (HI4.out.call hb5)
          have HD5 := hide (keepDi hb5 HD4.out)
          have hS9 : (w5.cell? ⟨b1, k * 2, none⟩ = some (.int .i64 x) ∧ w5.cell? ⟨b1, k * 2 + 1, none⟩ = some (.slice none 0 0) ∧ w5.cell? ⟨b2, k * 2, none⟩ = some (.int .i64 y) ∧ w5.cell? ⟨b2, k * 2 + 1, none⟩ = some (.slice none 0 0) ∧ w5.cell? ⟨w.heap.size + 1, 0, none⟩ = some (.int .i64 p) ∧ w5.cell? ⟨w.heap.size + 1, 1, none⟩ = some (.slice a d c)) := ⟨HD5.out.1, HD5.out.2.1, HD5.out.2.2.1, HD5.out.2.2.2.1, HI5.out.1, HI5.out.2.1⟩
          refine ⟨hS9, ?_⟩
          refine wpTilR_one (k := 11) (by kernel_rfl) ?_
          have q1 := HI5.out.1
          have q2 := HI5.out.2.1
          have q3 := HI5.out.2.2.2.2.2.1 0
          have q4 := HI5.out.2.2.2.2.2.1 1
          unfold wpOp
          go_simp
          refine Or.inl ⟨by kernel_rfl, ?_⟩
          have HN5 := hide (HI5.out.store hN5)
          clear hS9 q1 q2 q3 q4 hN5
          go_wp2_with fail
          go_roundw
          case rel => exact ⟨k + 1, r, b, u, v, by omega, by go_num, by rw [← hnx.out]; exact HN5.out⟩
          case measure => simp [intOf]; omega
    · have hke : (prodL l m).take k = prodL l m := List.take_of_length_le (by rw [hpl.out]; omega)
      rw [hke] at hI
      have HI := hide hI
      obtain ⟨e1, e2, e3, e4, e5, e6, e7, e8, e9⟩ := hI
      have HN := hide e9
      clear e9 hke
      go_wp2_with fail
      exact bodyPost_ret (v := .agg #[.int .i64 p, .slice a d c]) (by simp [results, Tryd.results13, go_sem, e3, e4]) rfl ⟨p, a, d, c, rfl, NumP_store HN.out e3 e4 p _, (e8.setCell (by dsimp only; omega) _).setCell (by dsimp only; omega) _⟩

end Go.Proofs.YtmeaemjdmjhmdaaDoor
