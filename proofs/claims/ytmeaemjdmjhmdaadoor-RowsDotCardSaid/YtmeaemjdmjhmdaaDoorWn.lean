/- Rows of numbers of any size: their divisor, a row divided by it, told as ints: given what Divisor and Over answer. -/
import Derived.Test.YtmeaemjdmjhmdaaDoorWl
import Derived.Test.YtmeaemjdmjhmdaaDoorKf
namespace Go.Proofs.YtmeaemjdmjhmdaaDoor
open Go.RowKit

set_option maxHeartbeats 400000 in
theorem above_far (p m : Int) (a : Option Addr) (n c : Nat) (w : World) (hn : 0 < n) :
    Calls Tryd.prog 14 #[.agg #[.int .i64 p, .slice a n c], .int .i64 m] w fun e w' => e = .returned (.bool true) ∧ Below w.heap.size w w' := by
  go_enter Tryd.func14, Tryd.ntmps14
  go_wp2_with (go_at_call 24; refine (isNear_no _ _ _ _ _ hn).mono ?_; rintro e w1 ⟨rfl, hb1⟩)
  go_ret
  exact ⟨rfl, ((Below.refl _ _).alloc (Nat.le_refl _) _).trans (hb1.mono (by simp))⟩

/-- Is a number above a bound in size? -/
theorem aboveN_any (p : Int) (a : Option Addr) (n c : Nat) (z m : Int) (w : World) (h : NumP w p a n c z) (hm : 0 ≤ m) (hm2 : m ≤ 9223372036854775807) :
    Calls Tryd.prog 14 #[.agg #[.int .i64 p, .slice a n c], .int .i64 m] w fun e w' => e = .returned (.bool (decide (m < z ∨ z < -m))) ∧ Below w.heap.size w w' := by
  rcases h with ⟨rfl, rfl, rfl, rfl, _, _⟩ | ⟨ls, _, _, h0, _, _, _, _, hf⟩
  · exact above_near p m w hm hm2
  · refine (above_far p m a n c w h0).mono ?_
    rintro e w' ⟨rfl, hb⟩
    have e : decide (m < z ∨ z < -m) = true := by simp; omega
    exact ⟨by rw [e], hb⟩

theorem aboveN_as (p : Int) (a : Option Addr) (n c : Nat) (z m : Int) (bo : Bool) (hbo : Hid (bo = decide (m < z ∨ z < -m))) (w : World) (h : NumP w p a n c z) (hm : 0 ≤ m) (hm2 : m ≤ 9223372036854775807) :
    Calls Tryd.prog 14 #[.agg #[.int .i64 p, .slice a n c], .int .i64 m] w fun e w' => e = .returned (.bool bo) ∧ Below w.heap.size w w' := by
  rw [hbo.out]; exact aboveN_any p a n c z m w h hm hm2

/-- What a function of two numbers answers, where P holds of both. -/
def Two (f : Nat) (P Q : Int → Prop) (F : Int → Int → Int) : Prop :=
  ∀ (W : World) (r : Rep) (x : Int) (s : Rep) (y : Int), P x → Q y → NumR W r x → NumR W s y → Calls Tryd.prog f #[.agg #[.int .i64 r.p, .slice r.a r.n r.c], .agg #[.int .i64 s.p, .slice s.a s.n s.c]] W fun e w' => ∃ q : Rep, e = .returned (.agg #[.int .i64 q.p, .slice q.a q.n q.c]) ∧ NumR w' q (F x y) ∧ Below W.heap.size W w'

/-- The boxes of a walk: the result's, and that of the number so far. -/
def TInv (w W : World) (r : Rep) (z : Int) : Prop :=
  W.cell? ⟨w.heap.size + 1, 0, none⟩ = some (.int .i64 r.p) ∧ W.cell? ⟨w.heap.size + 1, 1, none⟩ = some (.slice r.a r.n r.c) ∧
  W.cell? ⟨w.heap.size, 0, none⟩ = some (.int .i64 0) ∧ W.cell? ⟨w.heap.size, 1, none⟩ = some (.slice none 0 0) ∧ (∀ o, W.frozen? ⟨w.heap.size, o, none⟩ = false) ∧ (∀ o, W.frozen? ⟨w.heap.size + 1, o, none⟩ = false) ∧
  w.heap.size + 1 < W.heap.size ∧ Below w.heap.size w W ∧ Hid (NumR W r z)

theorem TInv.call {w W w1 : World} {r : Rep} {z : Int} (h : TInv w W r z) (hb : Below W.heap.size W w1) : TInv w w1 r z := by
  obtain ⟨h1, h2, h3, h4, h5, h6, h7, h8, h9⟩ := h
  have hs := hb.size
  exact ⟨(hb.cell (by dsimp only; omega)).trans h1, (hb.cell (by dsimp only; omega)).trans h2, (hb.cell (by dsimp only; omega)).trans h3, (hb.cell (by dsimp only; omega)).trans h4, fun o => (hb.frozen (by dsimp only; omega)).trans (h5 o), fun o => (hb.frozen (by dsimp only; omega)).trans (h6 o), by omega, h8.trans (hb.mono (by omega)), NumR.below h9 hb⟩

theorem TInv.store {w W : World} {r : Rep} {z : Int} (h : TInv w W r z) {q : Rep} {y : Int} (hN : NumR W q y) :
    TInv w ((W.setCell ⟨w.heap.size + 1, 0, none⟩ (.int .i64 q.p)).setCell ⟨w.heap.size + 1, 1, none⟩ (.slice q.a q.n q.c)) q y := by
  obtain ⟨h1, h2, h3, h4, h5, h6, h7, h8, h9⟩ := h
  exact ⟨by simp [go_sem, h1], by simp [go_sem, h2], by simp [go_sem, h3], by simp [go_sem, h4], fun o => by simp [h5], fun o => by simp [h6], by simpa [World.setCell] using h7, (h8.setCell (by dsimp only; omega) _).setCell (by dsimp only; omega) _, NumP_store hN h1 h2 q.p _⟩

theorem gcdL_P (P : Int → Prop) (P0 : P 0) (Pg : ∀ x y, P x → P y → P (Int.gcd x y)) (l : List Int) (h : ∀ x ∈ l, P x) : P (gcdL l) := by
  suffices H : ∀ (m : List Int) (g : Int), P g → (∀ x ∈ m, P x) → P (m.foldl (fun g x => (Int.gcd g x : Int)) g) from H l 0 P0 h
  intro m
  induction m with
  | nil => intro g hg _; exact hg
  | cons x m ih => intro g hg hm; exact ih _ (Pg g x hg (hm x (by simp))) (fun y hy => hm y (by simp [hy]))

theorem sgn3_of_sign {p z : Int} (h : sgn3 p 0 = z.sign) (h0 : 0 ≤ z) : sgn3 p 0 = if z = 0 then 0 else 1 := by
  rw [h]; split
  · rename_i e; subst e; rfl
  · rw [Int.sign_eq_one_of_pos (by omega)]

set_option maxHeartbeats 1000000 in
set_option maxRecDepth 20000 in
theorem rowDivisor_any (P : Int → Prop) (P0 : P 0) (Pg : ∀ x y, P x → P y → P (Int.gcd x y)) (hD : Hid (Two 49 P P (fun x y => (Int.gcd x y : Int)))) (b c n : Nat) (l : List Int) (w : World) (hr : Hid (NumsAt w b l)) (hP : Hid (∀ x ∈ l, P x)) (hl : Hid (n = l.length)) (hn : n ≤ 4611686018427387903) :
    Calls Tryd.prog 27 #[.slice (some ⟨b, 0, none⟩) n c] w fun e w' => ∃ q : Rep, e = .returned (.agg #[.int .i64 q.p, .slice q.a q.n q.c]) ∧ NumR w' q (gcdL l) ∧ Below w.heap.size w w' := by
  have HPg := hide Pg
  clear Pg
  go_enter Tryd.func27, Tryd.ntmps27
  go_wp2_with fail
  go_loopw [8] (fun i wr => ∃ (k : Nat) (r : Rep), k ≤ n ∧ i = .int .i64 k ∧ TInv w wr r (gcdL (l.take k))) (fun i _ => n - (intOf i).toNat)
  case atStart => exact ⟨0, rep0, Nat.zero_le _, rfl, by simp [rep0], by simp [rep0], by simp, by simp, by simp, by simp, by simp, ((Below.refl _ _).alloc (Nat.le_refl _) _).alloc (by simp) _, show NumP _ 0 none 0 0 0 from NumP_near _ (by omega) (by omega)⟩
  case round =>
    obtain ⟨k, r, hk, rfl, hI⟩ := hrel
    by_cases hlt : k < n
    · have hkl : k < l.length := by rw [← hl.out]; exact hlt
      obtain ⟨x, hxe⟩ : ∃ x, x = l.getD k 0 := ⟨_, rfl⟩
      obtain ⟨g, hge⟩ : ∃ g, g = gcdL (l.take k) := ⟨_, rfl⟩
      obtain ⟨s, q0, q1, q2⟩ := hr.out.2 k hkl
      have hbel := hI.2.2.2.2.2.2.2.1
      have hc0 : wr.cell? ⟨b, k * 2, none⟩ = some (.int .i64 s.p) := (hbel.cell (p := ⟨b, k * 2, none⟩) hr.out.1).trans q0
      have hc1 : wr.cell? ⟨b, k * 2 + 1, none⟩ = some (.slice s.a s.n s.c) := (hbel.cell (p := ⟨b, k * 2 + 1, none⟩) hr.out.1).trans q1
      have hbr : b < wr.heap.size := Nat.lt_of_lt_of_le hr.out.1 hbel.size
      rw [← hxe] at q2
      have hs := hide (q2.below hbel)
      have hPx : Hid (P x) := by unfold Hid; rw [hxe]; exact hP.out _ (by simp [hkl])
      have hPg : Hid (P g) := by unfold Hid; rw [hge]; exact gcdL_P P P0 HPg.out _ (fun y hy => hP.out y (List.mem_of_mem_take hy))
      obtain ⟨g', hge'⟩ : ∃ g', g' = (Int.gcd g x : Int) := ⟨_, rfl⟩
      have HG : Hid (g' = gcdL (l.take (k + 1))) := by rw [hge', hge, hxe, take_succ_getD l k hkl, gcdL_snoc]; exact rfl
      have Hg' := hide hge'
      rw [← hge] at hI
      clear hxe hge hge' q0 q1 q2
      have HI := hide hI
      obtain ⟨e1, e2, e3, e4, e5, e6, e7, e8, e9⟩ := hI
      go_wp2_with fail
      refine (hD.out _ r g s x hPg.out hPx.out (e9.out.below ((Below.refl _ _).alloc (Nat.le_refl _) _)) (hs.out.below ((Below.refl _ _).alloc (Nat.le_refl _) _))).mono ?_
      rintro e w1 ⟨q, rfl, hN, hb1⟩
      replace hN : NumR w1 q g' := by rw [Hg'.out]; exact hN
      have hI1 := (HI.out.call ((Below.refl _ _).alloc (Nat.le_refl _) _)).call hb1
      have hI2 := hI1.store hN
      clear e1 e2 e3 e4 e5 e6 e7 e8 e9 hc0 hc1 hN
      obtain ⟨e1, e2, e3, e4, e5, e6, e7, e8, e9⟩ := hI1
      have HI2 := hide hI2
      clear hI2
      go_wp2_with fail
      refine (sign_any q.p _ _).mono ?_
      rintro e w2 ⟨rfl, hb2⟩
      have hI3 := HI2.out.call hb2
      have HI3 := hide hI3
      clear e1 e2 e3 e4 e5 e6 e7 e8 e9
      obtain ⟨e1, e2, e3, e4, e5, e6, e7, e8, e9⟩ := hI3
      have hg'0 : 0 ≤ g' := by rw [HG.out]; exact gcdL_nonneg _
      have hsg := sgn3_of_sign (NumP.sign e9.out) hg'0
      rcases (show g' = 0 ∨ g' = 1 ∨ 1 < g' by omega) with h0 | h0 | h0
      · rw [if_pos h0] at hsg
        clear h0
        go_wp2_with fail
        go_roundw
        case rel => exact ⟨k + 1, q, by omega, by go_num, by rw [← HG.out]; exact HI3.out⟩
        case measure => simp [intOf]; omega
      · rw [if_neg (by omega)] at hsg
        have ha : Hid (false = decide ((1 : Int) < g' ∨ g' < -1)) := by unfold Hid; rw [h0]; rfl
        have hgl : Hid (gcdL l = g') := by unfold Hid; rw [h0]; exact gcdL_one l (k + 1) (by rw [← HG.out]; exact h0)
        clear h0
        go_wp2_with fail
        refine (aboveN_as q.p q.a q.n q.c g' 1 false ha _ e9.out (by omega) (by omega)).mono ?_
        rintro e w3 ⟨rfl, hb3⟩
        have hI4 := HI3.out.call hb3
        clear e1 e2 e3 e4 e5 e6 e7 e8 e9
        obtain ⟨e1, e2, e3, e4, e5, e6, e7, e8, e9⟩ := hI4
        go_wp2_with fail
        rw [unhide hgl]
        exact bodyPost_ret (v := .agg #[.int .i64 q.p, .slice q.a q.n q.c]) (by simp [results, Tryd.results27, go_sem, e3, e4]) rfl ⟨q, rfl, NumP_store e9.out e3 e4 q.p _, (e8.setCell (by dsimp only; omega) _).setCell (by dsimp only; omega) _⟩
      · rw [if_neg (by omega)] at hsg
        have ha : Hid (true = decide ((1 : Int) < g' ∨ g' < -1)) := by unfold Hid; simp [h0]
        clear h0
        go_wp2_with fail
        refine (aboveN_as q.p q.a q.n q.c g' 1 true ha _ e9.out (by omega) (by omega)).mono ?_
        rintro e w3 ⟨rfl, hb3⟩
        have hI4 := hide (HI3.out.call hb3)
        clear e1 e2 e3 e4 e5 e6 e7 e8 e9
        go_wp2_with fail
        go_roundw
        case rel => exact ⟨k + 1, q, by omega, by go_num, by rw [← HG.out]; exact hI4.out⟩
        case measure => simp [intOf]; omega
    · have hke : l.take k = l := List.take_of_length_le (by rw [← hl.out]; omega)
      rw [hke] at hI
      clear hke
      obtain ⟨e1, e2, e3, e4, e5, e6, e7, e8, e9⟩ := hI
      go_wp2_with fail
      exact bodyPost_ret (v := .agg #[.int .i64 r.p, .slice r.a r.n r.c]) (by simp [results, Tryd.results27, go_sem, e3, e4]) rfl ⟨r, rfl, NumP_store e9.out e3 e4 r.p _, (e8.setCell (by dsimp only; omega) _).setCell (by dsimp only; omega) _⟩

set_option maxHeartbeats 400000 in
set_option maxRecDepth 20000 in
theorem normal1_any (P Q : Int → Prop) (hO : Hid (Two 30 P Q (fun x y => x.tdiv y))) (r d : Rep) (z y : Int) (D : Nat) (w : World) (hD : D < w.heap.size) (hd0 : w.cell? ⟨D, 0, none⟩ = some (.int .i64 d.p)) (hd1 : w.cell? ⟨D, 1, none⟩ = some (.slice d.a d.n d.c)) (hP : P z) (hQ : Q y) (hz : Hid (NumR w r z)) (hy : Hid (NumR w d y)) :
    Calls Tryd.prog 29 #[.agg #[.int .i64 r.p, .slice r.a r.n r.c], .pointer (some ⟨D, 0, none⟩)] w fun e w' => ∃ q : Rep, e = .returned (.agg #[.int .i64 q.p, .slice q.a q.n q.c]) ∧ NumR w' q (z.tdiv y) ∧ Below w.heap.size w w' := by
  go_enter Tryd.func29, Tryd.ntmps29
  go_wp2_with fail
  refine (hO.out _ r z d y hP hQ (hz.out.below (((Below.refl _ _).alloc (Nat.le_refl _) _).alloc (by simp) _)) (hy.out.below (((Below.refl _ _).alloc (Nat.le_refl _) _).alloc (by simp) _))).mono ?_
  rintro e w1 ⟨q, rfl, hN, hb1⟩
  have hr0 : w1.cell? ⟨w.heap.size + 1, 0, none⟩ = some (.int .i64 0) := (hb1.cell (by simp)).trans (by simp)
  have hr1 : w1.cell? ⟨w.heap.size + 1, 1, none⟩ = some (.slice none 0 0) := (hb1.cell (by simp)).trans (by simp)
  have hf0 : ∀ o, w1.frozen? ⟨w.heap.size + 1, o, none⟩ = false := fun o => (hb1.frozen (by simp)).trans (by simp)
  have hbel : Below w.heap.size w w1 := (((Below.refl _ _).alloc (Nat.le_refl _) _).alloc (by simp) _).trans (hb1.mono (by simp; omega))
  have HN := hide hN
  clear hN
  go_wp2_with fail
  exact bodyPost_ret (v := .agg #[.int .i64 q.p, .slice q.a q.n q.c]) (by simp [results, Tryd.results29, go_sem, hr0, hr1]) rfl ⟨q, rfl, NumP_store HN.out hr0 hr1 q.p _, (hbel.setCell (by dsimp only; omega) _).setCell (by dsimp only; omega) _⟩

set_option maxHeartbeats 1000000 in
set_option maxRecDepth 20000 in
theorem rowNormal_any (P : Int → Prop) (P0 : P 0) (Pg : ∀ x y, P x → P y → P (Int.gcd x y)) (hD : Hid (Two 49 P P (fun x y => (Int.gcd x y : Int)))) (hO : Hid (Two 30 P P (fun x y => x.tdiv y))) (b c n : Nat) (l : List Int) (w : World) (hr : Hid (NumsAt w b l)) (hP : Hid (∀ x ∈ l, P x)) (hl : Hid (n = l.length)) (hn : n ≤ 1073741824) :
    Calls Tryd.prog 17 #[.slice (some ⟨b, 0, none⟩) n c] w fun e w' => ∃ g, e = .returned (.slice (some ⟨g, 0, none⟩) n n) ∧ w.heap.size ≤ g ∧ NumsAt w' g (l.map (·.tdiv (gcdL l))) ∧ Below w.heap.size w w' := by
  have hPd := hide (gcdL_P P P0 Pg l hP.out)
  have HPg := hide Pg
  clear Pg
  go_enter Tryd.func17, Tryd.ntmps17
  go_wp2_with fail
  refine (rowDivisor_any P P0 HPg.out hD b c n l _ hr hP hl (by omega)).mono ?_
  rintro e w1 ⟨d, rfl, hN, hb1⟩
  have HN := hide hN
  clear hN
  go_wp2_with fail
  refine (each_any 29 #[.pointer (some ⟨w1.heap.size, 0, none⟩)] (·.tdiv (gcdL l)) b c n l _ (hide ((hr.out.below hb1).below ((Below.refl w1.heap.size w1).alloc (Nat.le_refl _) _))) hl hn (enters_of Tryd.func29 (by kernel_rfl) rfl) ?_).mono ?_
  · intro W r z hB hz hR
    refine normal1_any P P hO r d z (gcdL l) w1.heap.size W (Nat.lt_of_lt_of_le (by simp) hB.size) ((hB.cell (by simp)).trans (by simp)) ((hB.cell (by simp)).trans (by simp)) (hP.out z hz) hPd.out hR ((HN.out.below ((Below.refl w1.heap.size w1).alloc (Nat.le_refl _) _)).below hB)
  rintro e w2 ⟨g, rfl, hg, hrow, hb2⟩
  have HR := hide hrow
  clear hrow
  go_wp2_with fail
  go_ret
  have hs := hb1.size
  exact ⟨g, rfl, by simp at hg; omega, HR.out, hb1.trans (((Below.refl _ _).alloc hs _).trans (hb2.mono (by simp; omega)))⟩

end Go.Proofs.YtmeaemjdmjhmdaaDoor
