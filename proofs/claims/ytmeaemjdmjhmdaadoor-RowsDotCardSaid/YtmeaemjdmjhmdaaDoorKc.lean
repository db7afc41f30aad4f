/- Rows of numbers that an int holds: their divisor, each number put through a closure, a row divided by its divisor. -/
import Derived.Test.YtmeaemjdmjhmdaaDoorKb
namespace Go.Proofs.YtmeaemjdmjhmdaaDoor
open Go.RowKit

/-- A row, made by the call itself: block b holds the numbers l, each an int. -/
def NearRow (w : World) (b : Nat) (l : List Int) : Prop :=
  b < w.heap.size ∧ ∀ i, i < l.length → w.cell? ⟨b, i * 2, none⟩ = some (.int .i64 (l.getD i 0)) ∧ w.cell? ⟨b, i * 2 + 1, none⟩ = some (.slice none 0 0)

theorem NearRow.below {w w' : World} {b : Nat} {l : List Int} (h : NearRow w b l) (hb : Below w.heap.size w w') : NearRow w' b l :=
  ⟨Nat.lt_of_lt_of_le h.1 hb.size, fun i hi => ⟨(hb.cell (p := ⟨b, i * 2, none⟩) h.1).trans (h.2 i hi).1, (hb.cell (p := ⟨b, i * 2 + 1, none⟩) h.1).trans (h.2 i hi).2⟩⟩

def gcdL (l : List Int) : Int := l.foldl (fun g x => (Int.gcd g x : Int)) 0

theorem gcdL_snoc (l : List Int) (x : Int) : gcdL (l ++ [x]) = Int.gcd (gcdL l) x := by simp [gcdL]

def Fits (l : List Int) : Prop := ∀ x ∈ l, -9223372036854775808 < x ∧ x ≤ 9223372036854775807

theorem take_succ_getD (l : List Int) (k : Nat) (h : k < l.length) : l.take (k + 1) = l.take k ++ [l.getD k 0] := by
  rw [List.take_succ_eq_append_getElem h]; simp [h]

theorem gcdL_nonneg (l : List Int) : 0 ≤ gcdL l := by
  rcases List.eq_nil_or_concat l with rfl | ⟨l', x, rfl⟩
  · simp [gcdL]
  · rw [List.concat_eq_append, gcdL_snoc]; omega

set_option maxHeartbeats 400000 in
theorem above_near (z m : Int) (w : World) (hm : 0 ≤ m) (hm2 : m ≤ 9223372036854775807) :
    Calls Tryd.prog 14 #[.agg #[.int .i64 z, .slice none 0 0], .int .i64 m] w fun e w' => e = .returned (.bool (decide (m < z ∨ z < -m))) ∧ Below w.heap.size w w' := by
  go_enter Tryd.func14, Tryd.ntmps14
  go_wp2_with (go_at_call 24; refine (isNear_yes _ _).mono ?_; rintro e w1 ⟨rfl, hb1⟩; have hcz : w1.cell? ⟨w.heap.size, 0, none⟩ = some (.int .i64 z) := (hb1.cell (by simp)).trans (by simp))
  all_goals
    go_ret
    exact ⟨by simp, ((Below.refl _ _).alloc (Nat.le_refl _) _).trans (hb1.mono (by simp))⟩

theorem above_as (z m : Int) (bo : Bool) (hbo : Hid (bo = decide (m < z ∨ z < -m))) (w : World) (hm : 0 ≤ m) (hm2 : m ≤ 9223372036854775807) :
    Calls Tryd.prog 14 #[.agg #[.int .i64 z, .slice none 0 0], .int .i64 m] w fun e w' => e = .returned (.bool bo) ∧ Below w.heap.size w w' := by
  rw [hbo.out]; exact above_near z m w hm hm2

theorem gcdL_app_one (a l : List Int) (h : gcdL a = 1) : gcdL (a ++ l) = 1 := by
  induction l generalizing a with
  | nil => simpa using h
  | cons x l ih =>
    have : a ++ x :: l = (a ++ [x]) ++ l := by simp
    rw [this]; apply ih; rw [gcdL_snoc, h]; simp

theorem gcdL_one (l : List Int) (k : Nat) (h : gcdL (l.take k) = 1) : gcdL l = 1 := by
  rw [← List.take_append_drop k l]; exact gcdL_app_one _ _ h

theorem gcdF_bd (l : List Int) (g : Int) (h0 : 0 ≤ g) (h1 : g ≤ 9223372036854775807) (hf : Fits l) : l.foldl (fun g x => (Int.gcd g x : Int)) g ≤ 9223372036854775807 := by
  induction l generalizing g with
  | nil => simpa using h1
  | cons x l ih =>
    have hx := hf x (by simp)
    exact ih _ (by dsimp only; omega) (gcd_bd g x (by omega) (by omega) (by omega) (by omega)) (fun y hy => hf y (by simp [hy]))

theorem gcdL_bd (l : List Int) (hf : Fits l) : gcdL l ≤ 9223372036854775807 := gcdF_bd l 0 (by omega) (by omega) hf

theorem Fits.take {l : List Int} (h : Fits l) (k : Nat) : Fits (l.take k) := fun x hx => h x (List.mem_of_mem_take hx)

theorem Fits.get {l : List Int} (h : Fits l) {k : Nat} (hk : k < l.length) : -9223372036854775808 < l.getD k 0 ∧ l.getD k 0 ≤ 9223372036854775807 :=
  h _ (by simp [hk])

/-- The boxes of the divisor's walk: the result's, and that of the divisor so far. -/
def DInv (w W : World) (d : Int) : Prop :=
  W.cell? ⟨w.heap.size + 1, 0, none⟩ = some (.int .i64 d) ∧ W.cell? ⟨w.heap.size + 1, 1, none⟩ = some (.slice none 0 0) ∧
  W.cell? ⟨w.heap.size, 0, none⟩ = some (.int .i64 0) ∧ W.cell? ⟨w.heap.size, 1, none⟩ = some (.slice none 0 0) ∧ (∀ o, W.frozen? ⟨w.heap.size, o, none⟩ = false) ∧ (∀ o, W.frozen? ⟨w.heap.size + 1, o, none⟩ = false) ∧
  w.heap.size + 1 < W.heap.size ∧ Below w.heap.size w W

theorem DInv.call {w W w1 : World} {d : Int} (h : DInv w W d) (hb : Below W.heap.size W w1) : DInv w w1 d := by
  obtain ⟨h1, h2, h3, h4, h5, h6, h7, h8⟩ := h
  have hs := hb.size
  refine ⟨(hb.cell (by dsimp only; omega)).trans h1, (hb.cell (by dsimp only; omega)).trans h2, (hb.cell (by dsimp only; omega)).trans h3, (hb.cell (by dsimp only; omega)).trans h4, fun o => (hb.frozen (by dsimp only; omega)).trans (h5 o), fun o => (hb.frozen (by dsimp only; omega)).trans (h6 o), by omega, h8.trans (hb.mono (by omega))⟩

theorem DInv.alloc {w W : World} {d : Int} (h : DInv w W d) (o : Obj) : DInv w (W.alloc o) d :=
  h.call ((Below.refl _ _).alloc (Nat.le_refl _) _)

theorem DInv.store {w W : World} {d : Int} (h : DInv w W d) (g : Int) : DInv w ((W.setCell ⟨w.heap.size + 1, 0, none⟩ (.int .i64 g)).setCell ⟨w.heap.size + 1, 1, none⟩ (.slice none 0 0)) g := by
  obtain ⟨h1, h2, h3, h4, h5, h6, h7, h8⟩ := h
  refine ⟨by simp [go_sem, h1], by simp [go_sem, h2], by simp [go_sem, h3], by simp [go_sem, h4], fun o => by simp [h5], fun o => by simp [h6], by simpa [World.setCell] using h7, (h8.setCell (by dsimp only; omega) _).setCell (by dsimp only; omega) _⟩

set_option maxHeartbeats 1000000 in
theorem rowDivisor_near (b c : Nat) (l : List Int) (w : World) (hr : NearRow w b l) (hf : Fits l) (hn : l.length ≤ 4611686018427387903) :
    Calls Tryd.prog 27 #[.slice (some ⟨b, 0, none⟩) l.length c] w fun e w' => e = .returned (.agg #[.int .i64 (gcdL l), .slice none 0 0]) ∧ Below w.heap.size w w' := by
  obtain ⟨n, hnl⟩ : ∃ n, n = l.length := ⟨_, rfl⟩
  rw [← hnl] at hn ⊢
  have Hn := hide hnl
  clear hnl
  go_enter Tryd.func27, Tryd.ntmps27
  go_wp2_with fail
  go_loopw [8] (fun i wr => ∃ k : Nat, k ≤ n ∧ i = .int .i64 k ∧ wr.cell? ⟨w.heap.size + 1, 0, none⟩ = some (.int .i64 (gcdL (l.take k))) ∧ wr.cell? ⟨w.heap.size + 1, 1, none⟩ = some (.slice none 0 0) ∧
      wr.cell? ⟨w.heap.size, 0, none⟩ = some (.int .i64 0) ∧ wr.cell? ⟨w.heap.size, 1, none⟩ = some (.slice none 0 0) ∧ (∀ o, wr.frozen? ⟨w.heap.size, o, none⟩ = false) ∧ (∀ o, wr.frozen? ⟨w.heap.size + 1, o, none⟩ = false) ∧
      w.heap.size + 1 < wr.heap.size ∧ Below w.heap.size w wr) (fun i _ => n - (intOf i).toNat)
  case atStart => exact ⟨0, Nat.zero_le _, rfl, by simp [gcdL], by simp, by simp, by simp, by simp, by simp, by simp, ((Below.refl _ _).alloc (Nat.le_refl _) _).alloc (by simp) _⟩
  case round =>
    obtain ⟨k, hk, rfl, hd0, hd1, hr0, hr1, hfr, hfd, hsz, hbel⟩ := hrel
    by_cases hlt : k < n
    · have hkl : k < l.length := by rw [← Hn.out]; exact hlt
      have hx := hf.get hkl
      obtain ⟨x, hxe⟩ : ∃ x, x = l.getD k 0 := ⟨_, rfl⟩
      obtain ⟨g, hge⟩ : ∃ g, g = gcdL (l.take k) := ⟨_, rfl⟩
      have hc0 : wr.cell? ⟨b, k * 2, none⟩ = some (.int .i64 x) := by rw [hxe, hbel.cell (p := ⟨b, k * 2, none⟩) hr.1]; exact (hr.2 k hkl).1
      have hc1 : wr.cell? ⟨b, k * 2 + 1, none⟩ = some (.slice none 0 0) := by rw [hbel.cell (p := ⟨b, k * 2 + 1, none⟩) hr.1]; exact (hr.2 k hkl).2
      have hbr : b < wr.heap.size := Nat.lt_of_lt_of_le hr.1 hbel.size
      rw [← hge] at hd0
      rw [← hxe] at hx
      have hg0 : 0 ≤ g := by rw [hge]; exact gcdL_nonneg _
      have hg1 : g ≤ 9223372036854775807 := by rw [hge]; exact gcdL_bd _ (hf.take k)
      have Hx := hide hxe
      have Hg := hide hge
      obtain ⟨g', hge'⟩ : ∃ g', g' = (Int.gcd g x : Int) := ⟨_, rfl⟩
      have Hg' := hide hge'
      have HG : Hid (g' = gcdL (l.take (k + 1))) := by rw [Hg'.out, Hg.out, Hx.out, take_succ_getD l k hkl, gcdL_snoc]; exact rfl
      clear hxe hge hge'
      have hI : DInv w wr g := ⟨hd0, hd1, hr0, hr1, hfr, hfd, hsz, hbel⟩
      go_wp2_with fail
      refine (divisor_as g x g' Hg' _ (by omega) (by omega) (by omega) (by omega)).mono ?_
      rintro e w1 ⟨rfl, hb1⟩
      have hI1 := (hI.alloc _).call hb1
      obtain ⟨e1, e2, e3, e4, e5, e6, e7, e8⟩ := hI1
      clear hd0 hd1 hr0 hr1 hfr hfd
      have hI2 := DInv.store ⟨e1, e2, e3, e4, e5, e6, e7, e8⟩ g'
      go_wp2_with fail
      refine (sign_any g' _ _).mono ?_
      rintro e w2 ⟨rfl, hb2⟩
      have hI3 := hI2.call hb2
      clear hI2 hI e1 e2 e3 e4 e5 e6 e7 e8
      obtain ⟨e1, e2, e3, e4, e5, e6, e7, e8⟩ := hI3
      have hg'0 : 0 ≤ g' := by rw [HG.out]; exact gcdL_nonneg _
      have hg'1 : g' ≤ 9223372036854775807 := by rw [HG.out]; exact gcdL_bd _ (hf.take _)
      rcases (show g' = 0 ∨ g' = 1 ∨ 1 < g' by omega) with h0 | h0 | h0
      · have hs : sgn3 g' 0 = 0 := by rw [h0]; rfl
        clear h0
        go_wp2_with fail
        go_roundw
        case rel => exact ⟨k + 1, by omega, by go_num, by rw [← HG.out]; exact e1, e2, e3, e4, e5, e6, e7, e8⟩
        case measure => simp [intOf]; omega
      · have hs : sgn3 g' 0 = 1 := by rw [h0]; rfl
        have ha : Hid (false = decide ((1 : Int) < g' ∨ g' < -1)) := by unfold Hid; rw [h0]; rfl
        have hgl : Hid (gcdL l = g') := by unfold Hid; rw [h0]; exact gcdL_one l (k + 1) (by rw [← HG.out]; exact h0)
        clear h0
        go_wp2_with fail
        refine (above_as g' 1 false ha _ (by omega) (by omega)).mono ?_
        rintro e w3 ⟨rfl, hb3⟩
        have hI4 := DInv.call ⟨e1, e2, e3, e4, e5, e6, e7, e8⟩ hb3
        clear e1 e2 e3 e4 e5 e6 e7 e8
        obtain ⟨e1, e2, e3, e4, e5, e6, e7, e8⟩ := hI4
        go_wp2_with fail
        rw [unhide hgl]
        exact bodyPost_ret (v := .agg #[.int .i64 g', .slice none 0 0]) (by simp [results, Tryd.results27, go_sem, e3, e4]) rfl ⟨rfl, (e8.setCell (by dsimp only; omega) _).setCell (by dsimp only; omega) _⟩
      · have hs : sgn3 g' 0 = 1 := by unfold sgn3; rw [if_neg (by omega), if_pos (by omega)]
        have ha : Hid (true = decide ((1 : Int) < g' ∨ g' < -1)) := by unfold Hid; simp [h0]
        go_wp2_with fail
        refine (above_as g' 1 true ha _ (by omega) (by omega)).mono ?_
        rintro e w3 ⟨rfl, hb3⟩
        have hI4 := DInv.call ⟨e1, e2, e3, e4, e5, e6, e7, e8⟩ hb3
        clear e1 e2 e3 e4 e5 e6 e7 e8
        obtain ⟨e1, e2, e3, e4, e5, e6, e7, e8⟩ := hI4
        go_wp2_with fail
        go_roundw
        case rel => exact ⟨k + 1, by omega, by go_num, by rw [← HG.out]; exact e1, e2, e3, e4, e5, e6, e7, e8⟩
        case measure => simp [intOf]; omega
    · have hke : l.take k = l := List.take_of_length_le (by rw [← Hn.out]; omega)
      rw [hke] at hd0
      go_wp2_with fail
      exact bodyPost_ret (v := .agg #[.int .i64 (gcdL l), .slice none 0 0]) (by simp [results, Tryd.results27, go_sem, hr0, hr1]) rfl ⟨rfl, (hbel.setCell (by dsimp only; omega) _).setCell (by dsimp only; omega) _⟩

end Go.Proofs.YtmeaemjdmjhmdaaDoor
