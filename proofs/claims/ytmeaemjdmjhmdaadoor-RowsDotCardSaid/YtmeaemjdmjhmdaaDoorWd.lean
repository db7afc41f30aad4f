/- Numbers of any size in memory: made of limbs, and their sizes. -/
import Derived.Test.YtmeaemjdmjhmdaaDoorWc
namespace Go.Proofs.YtmeaemjdmjhmdaaDoor
open Go.RowKit

/-- The number z, as package wide keeps it: an int, or a sign and limbs. -/
def NumP (w : World) (p : Int) (a : Option Addr) (n c : Nat) (z : Int) : Prop :=
  (n = 0 ∧ a = none ∧ c = 0 ∧ p = z ∧ -9223372036854775808 ≤ z ∧ z ≤ 9223372036854775807) ∨
  ∃ ls, LimbsAt w a ls ∧ n = ls.length ∧ 0 < n ∧ Limb ls ∧ Tr ls ∧ (p = 1 ∨ p = -1) ∧ z = p * lv ls ∧ (z < -9223372036854775808 ∨ 9223372036854775807 < z)

theorem NumP.below {w w' : World} {p : Int} {a : Option Addr} {n c : Nat} {z : Int} (h : NumP w p a n c z) (hb : Below w.heap.size w w') : NumP w' p a n c z := by
  rcases h with h | ⟨ls, h1, h2⟩
  · exact .inl h
  · exact .inr ⟨ls, h1.below hb, h2⟩

theorem NumP_near (w : World) {z : Int} (h1 : -9223372036854775808 ≤ z) (h2 : z ≤ 9223372036854775807) : NumP w z none 0 0 z := .inl ⟨rfl, rfl, rfl, rfl, h1, h2⟩

/-- Numbers that the program comes to are far below this. -/
def Sm (z : Int) : Prop := -pw 1000 < z ∧ z < pw 1000

theorem len_of_small {ls : List Int} (hl : Limb ls) (ht : Tr ls) (h : lv ls < pw 1000) : ls.length ≤ 1000 := by
  by_cases hn : ls = []
  · subst hn; simp
  · have h1 := lv_ge hl hn ht
    rcases Nat.lt_or_ge 1000 ls.length with h2 | h2
    · have h3 := pw_mono (show 1000 ≤ ls.length - 1 by omega)
      omega
    · exact h2

set_option maxHeartbeats 400000 in
theorem fromLimb_least (w : World) :
    Calls Tryd.prog 42 #[.int .i64 (-1), .int .u64 9223372036854775808] w fun e w' => e = .returned (.agg #[.int .i64 (-9223372036854775808), .slice none 0 0]) ∧ Below w.heap.size w w' := by
  go_enter Tryd.func42, Tryd.ntmps42
  go_wp2
  exact bodyPost_ret (v := .agg #[.int .i64 (-9223372036854775808), .slice none 0 0]) (by simp [results, Tryd.results42, go_sem]) rfl ⟨rfl, (Below.refl _ _).alloc (Nat.le_refl _) _⟩

set_option maxHeartbeats 400000 in
theorem fromLimb_far (s n : Int) (w : World) (h1 : 9223372036854775807 < n) (h2 : n < 18446744073709551616) (hs : s = 1 ∨ s = -1) (hne : s = -1 → n ≠ 9223372036854775808) :
    Calls Tryd.prog 42 #[.int .i64 s, .int .u64 n] w fun e w' => ∃ g, e = .returned (.agg #[.int .i64 s, .slice (some ⟨g, 0, none⟩) 1 1]) ∧ LimbsAt w' (some ⟨g, 0, none⟩) [n] ∧ Below w.heap.size w w' := by
  have hLim : ∀ W : World, LimbsAt (W.alloc (.cells #[.int .u64 n] 68)) (some ⟨W.heap.size, 0, none⟩) [n] := fun W =>
    .inr ⟨W.heap.size, 0, rfl, by simp, fun i hi => by match i, hi with | 0, _ => simp⟩
  have hle : ¬ n ≤ 9223372036854775807 := by omega
  have H2 := hide hne
  clear hne
  rcases hs with rfl | rfl
  · go_enter Tryd.func42, Tryd.ntmps42
    go_wp2
    exact bodyPost_ret (v := .agg #[.int .i64 1, .slice (some ⟨w.heap.size + 1, 0, none⟩) 1 1]) (by simp [results, Tryd.results42, go_sem]) rfl ⟨w.heap.size + 1, rfl, by have h := hLim (w.alloc (.cells #[.int .i64 1, .slice (some ⟨w.heap.size + 1, 0, none⟩) 1 1] 36)); rw [World.size_alloc] at h; exact h, ((Below.refl _ _).alloc (Nat.le_refl _) _).alloc (by simp) _⟩
  · have hb : (n == 9223372036854775808) = false := by simp; exact H2.out rfl
    go_enter Tryd.func42, Tryd.ntmps42
    go_wp2
    exact bodyPost_ret (v := .agg #[.int .i64 (-1), .slice (some ⟨w.heap.size + 1, 0, none⟩) 1 1]) (by simp [results, Tryd.results42, go_sem]) rfl ⟨w.heap.size + 1, rfl, by have h := hLim (w.alloc (.cells #[.int .i64 (-1), .slice (some ⟨w.heap.size + 1, 0, none⟩) 1 1] 36)); rw [World.size_alloc] at h; exact h, ((Below.refl _ _).alloc (Nat.le_refl _) _).alloc (by simp) _⟩

/-- A store into a box of a number (its two cells no limbs) turns no number. -/
theorem LimbsAt_store {w : World} {a : Option Addr} {l : List Int} (h : LimbsAt w a l) {r o : Nat} {u v : Value} (hu : w.cell? ⟨r, o, none⟩ = some u) (hno : ∀ x, u ≠ .int .u64 x) : LimbsAt (w.setCell ⟨r, o, none⟩ v) a l := by
  rcases h with h | ⟨b, off, h1, h2, h3⟩
  · exact .inl h
  · refine .inr ⟨b, off, h1, by simpa [World.setCell] using h2, fun i hi => ?_⟩
    have hne : (⟨r, o, none⟩ : Addr) ≠ ⟨b, off + i, none⟩ := by
      intro e
      rw [e, h3 i hi] at hu
      exact hno _ (Option.some.inj hu).symm
    rw [World.cell?_setCell_other (h := hne)]
    exact h3 i hi

theorem NumP_set {w : World} {p : Int} {a : Option Addr} {n c : Nat} {z : Int} (h : NumP w p a n c z) {r o : Nat} {u v : Value} (hu : w.cell? ⟨r, o, none⟩ = some u) (hno : ∀ x, u ≠ .int .u64 x) : NumP (w.setCell ⟨r, o, none⟩ v) p a n c z := by
  rcases h with h | ⟨ls, h1, h2⟩
  · exact .inl h
  · exact .inr ⟨ls, LimbsAt_store h1 hu hno, h2⟩

theorem NumP_store {w : World} {p : Int} {a : Option Addr} {n c : Nat} {z : Int} (h : NumP w p a n c z) {r : Nat} {x : Int} {d : Option Addr} {m k : Nat} (h0 : w.cell? ⟨r, 0, none⟩ = some (.int .i64 x)) (h1 : w.cell? ⟨r, 1, none⟩ = some (.slice d m k)) (q : Int) (v : Value) :
    NumP ((w.setCell ⟨r, 0, none⟩ (.int .i64 q)).setCell ⟨r, 1, none⟩ v) p a n c z := by
  refine NumP_set (NumP_set h h0 (by simp)) (u := .slice d m k) ?_ (by simp)
  rw [World.cell?_setCell_other (h := by simp)]; exact h1

/-- A sign, and a size of one limb. -/
theorem fromLimb_any (s n : Int) (w : World) (h1 : 0 ≤ n) (h2 : n < 18446744073709551616) (hs : s = 1 ∨ s = -1 ∨ (s = 0 ∧ n = 0)) :
    Calls Tryd.prog 42 #[.int .i64 s, .int .u64 n] w fun e w' => ∃ p a k c, e = .returned (.agg #[.int .i64 p, .slice a k c]) ∧ NumP w' p a k c (s * n) ∧ Below w.heap.size w w' := by
  rcases Int.lt_or_le 9223372036854775807 n with h | h
  · by_cases hm : s = -1 ∧ n = 9223372036854775808
    · obtain ⟨rfl, rfl⟩ := hm
      refine (fromLimb_least w).mono ?_
      rintro e w' ⟨rfl, hb⟩
      exact ⟨_, _, _, _, rfl, NumP_near _ (by omega) (by omega), hb⟩
    · have hs' : s = 1 ∨ s = -1 := by omega
      refine (fromLimb_far s n w h h2 hs' (fun a b => hm ⟨a, b⟩)).mono ?_
      rintro e w' ⟨g, rfl, hL, hb⟩
      refine ⟨_, _, _, _, rfl, .inr ⟨[n], hL, rfl, by omega, fun x hx => ?_, .inr (by simp; omega), hs', by simp [lv], ?_⟩, hb⟩
      · simp at hx; omega
      · rcases hs' with rfl | rfl <;> omega
  · refine (fromLimb_near s n w h1 h (by omega) (by omega)).mono ?_
    rintro e w' ⟨rfl, hb⟩
    have : s = 1 ∨ s = -1 ∨ s = 0 := by omega
    exact ⟨_, _, _, _, rfl, NumP_near _ (by rcases this with rfl | rfl | rfl <;> omega) (by rcases this with rfl | rfl | rfl <;> omega), hb⟩

set_option maxHeartbeats 400000 in
theorem isNear_no (p : Int) (a : Option Addr) (n c : Nat) (w : World) (hn : 0 < n) :
    Calls Tryd.prog 24 #[.agg #[.int .i64 p, .slice a n c]] w fun e w' => e = .returned (.bool false) ∧ Below w.heap.size w w' := by
  have hz : ((n : Int) == 0) = false := by simp; omega
  go_enter Tryd.func24, Tryd.ntmps24
  go_wp2
  go_ret
  exact ⟨rfl, (Below.refl _ _).alloc (Nat.le_refl _) _⟩

set_option maxHeartbeats 400000 in
theorem size_near (z : Int) (w : World) (h1 : -9223372036854775808 ≤ z) (h2 : z ≤ 9223372036854775807) :
    Calls Tryd.prog 34 #[.agg #[.int .i64 z, .slice none 0 0]] w fun e w' => ∃ a n c ls, e = .returned (.slice a n c) ∧ LimbsAt w' a ls ∧ n = ls.length ∧ Limb ls ∧ Tr ls ∧ lv ls = z.natAbs ∧ Below w.heap.size w w' := by
  obtain ⟨m, hm⟩ : ∃ m : Int, m = (z.natAbs : Int) := ⟨_, rfl⟩
  have Hm := hide hm
  have hm0 : 0 ≤ m := by omega
  have hm1 : Hid (m < 18446744073709551616) := by unfold Hid; omega
  clear hm
  go_enter Tryd.func34, Tryd.ntmps34
  go_wp2_with fail
  refine (isNear_yes _ _).mono ?_
  rintro e w1 ⟨rfl, hb1⟩
  have hcz : w1.cell? ⟨w.heap.size, 0, none⟩ = some (.int .i64 z) := (hb1.cell (by simp)).trans (by simp)
  have hb2 : Below w.heap.size w w1 := ((Below.refl _ _).alloc (Nat.le_refl _) _).trans (hb1.mono (by simp))
  go_wp2_with fail
  refine (nearSize_as z m Hm _ h1 h2).mono ?_
  rintro e w2 ⟨rfl, rfl⟩
  go_wp2_with fail
  refine (trim_any (some ⟨w2.heap.size, 0, none⟩) 1 1 [m] _ (by unfold Hid; rfl) (.inr ⟨w2.heap.size, 0, rfl, by simp, fun i hi => by match i, hi with | 0, _ => simp⟩) (by omega) (by omega)).mono ?_
  rintro e w3 ⟨k, rfl, ⟨hk1, hk2, hk3⟩, hb3⟩
  go_wp2_with fail
  go_ret
  have hL : LimbsAt (w2.alloc (.cells #[.int .u64 m] 68)) (some ⟨w2.heap.size, 0, none⟩) [m] := .inr ⟨w2.heap.size, 0, rfl, by simp, fun i hi => by match i, hi with | 0, _ => simp⟩
  have lm : Limb [m] := fun x hx => by simp at hx; have := hm1.out; omega
  refine ⟨_, k, _, [m].take k, rfl, (hL.below hb3).take k hk1, by rw [List.length_take, Nat.min_eq_left hk1], lm.take k, hk3, ?_, (hb2.alloc hb2.size _).trans (hb3.mono (by have := hb2.size; simp; omega))⟩
  rw [hk2, ← Hm.out]; simp [lv]

set_option maxHeartbeats 400000 in
theorem size_far (p : Int) (a : Option Addr) (n c : Nat) (w : World) (hn : 0 < n) :
    Calls Tryd.prog 34 #[.agg #[.int .i64 p, .slice a n c]] w fun e w' => e = .returned (.slice a n c) ∧ Below w.heap.size w w' := by
  go_enter Tryd.func34, Tryd.ntmps34
  go_wp2_with fail
  refine (isNear_no _ _ _ _ _ hn).mono ?_
  rintro e w1 ⟨rfl, hb1⟩
  have hcz : w1.cell? ⟨w.heap.size, 1, none⟩ = some (.slice a n c) := (hb1.cell (by simp)).trans (by simp)
  have hb2 : Below w.heap.size w w1 := ((Below.refl _ _).alloc (Nat.le_refl _) _).trans (hb1.mono (by simp))
  go_wp2_with fail
  go_ret
  exact ⟨rfl, hb2⟩

theorem natAbs_of_sign {p x z : Int} (hp : p = 1 ∨ p = -1) (hx : 0 ≤ x) (hz : z = p * x) : x = z.natAbs := by
  rcases hp with rfl | rfl <;> omega

/-- The size of a number, as limbs. -/
theorem size_any (p : Int) (a : Option Addr) (n c : Nat) (z : Int) (w : World) (h : NumP w p a n c z) :
    Calls Tryd.prog 34 #[.agg #[.int .i64 p, .slice a n c]] w fun e w' => ∃ a' n' c' ls, e = .returned (.slice a' n' c') ∧ LimbsAt w' a' ls ∧ n' = ls.length ∧ Limb ls ∧ Tr ls ∧ lv ls = z.natAbs ∧ Below w.heap.size w w' := by
  rcases h with ⟨rfl, rfl, rfl, rfl, h1, h2⟩ | ⟨ls, hA, hn, h0, ll, lt, hp, hz, _⟩
  · exact size_near p w h1 h2
  · refine (size_far p a n c w h0).mono ?_
    rintro e w' ⟨rfl, hb⟩
    exact ⟨_, _, _, ls, rfl, hA.below hb, hn, ll, lt, natAbs_of_sign hp (lv_nonneg ll) hz, hb⟩

set_option maxHeartbeats 400000 in
theorem fromSize_none (s : Int) (a : Option Addr) (c : Nat) (w : World) :
    Calls Tryd.prog 35 #[.int .i64 s, .slice a 0 c] w fun e w' => e = .returned (.agg #[.int .i64 0, .slice none 0 0]) ∧ Below w.heap.size w w' := by
  go_enter Tryd.func35, Tryd.ntmps35
  go_wp2
  exact bodyPost_ret (v := .agg #[.int .i64 0, .slice none 0 0]) (by simp [results, Tryd.results35, go_sem]) rfl ⟨rfl, (Below.refl _ _).alloc (Nat.le_refl _) _⟩

set_option maxHeartbeats 400000 in
theorem fromSize_one (s : Int) (b off c : Nat) (x : Int) (w : World) (hb : b < w.heap.size) (hc : w.cell? ⟨b, off, none⟩ = some (.int .u64 x)) (h1 : 0 ≤ x) (h2 : Hid (x < 18446744073709551616)) (hs : Hid (s = 1 ∨ s = -1 ∨ (s = 0 ∧ x = 0))) :
    Calls Tryd.prog 35 #[.int .i64 s, .slice (some ⟨b, off, none⟩) 1 c] w fun e w' => ∃ p a k c, e = .returned (.agg #[.int .i64 p, .slice a k c]) ∧ NumP w' p a k c (s * x) ∧ Below w.heap.size w w' := by
  have hc' : ∀ o : Obj, (w.alloc o).cell? ⟨b, off, none⟩ = some (.int .u64 x) := fun o => by rw [World.cell?_alloc_past _ _ _ hb]; exact hc
  go_enter Tryd.func35, Tryd.ntmps35
  go_wp2_with fail
  refine (fromLimb_any s x _ h1 h2.out hs.out).mono ?_
  rintro e w1 ⟨p, a, k, c', rfl, hN, hb1⟩
  have hr0 : w1.cell? ⟨w.heap.size, 0, none⟩ = some (.int .i64 0) := (hb1.cell (by simp)).trans (by simp)
  have hr1 : w1.cell? ⟨w.heap.size, 1, none⟩ = some (.slice none 0 0) := (hb1.cell (by simp)).trans (by simp)
  have hf0 : ∀ o, w1.frozen? ⟨w.heap.size, o, none⟩ = false := fun o => (hb1.frozen (by simp)).trans (by simp)
  have hbel : Below w.heap.size w w1 := ((Below.refl _ _).alloc (Nat.le_refl _) _).trans (hb1.mono (by simp))
  go_wp2_with fail
  have hN2 := NumP_store hN hr0 hr1 p (.slice a k c')
  exact bodyPost_ret (v := .agg #[.int .i64 p, .slice a k c']) (by simp [results, Tryd.results35, go_sem, hr0, hr1]) rfl ⟨p, a, k, c', rfl, hN2, (hbel.setCell (by dsimp only; omega) _).setCell (by dsimp only; omega) _⟩

set_option maxHeartbeats 400000 in
theorem fromSize_many (s : Int) (a : Option Addr) (n c : Nat) (ls : List Int) (w : World) (hA : LimbsAt w a ls) (h2 : 2 ≤ n) :
    Calls Tryd.prog 35 #[.int .i64 s, .slice a n c] w fun e w' => e = .returned (.agg #[.int .i64 s, .slice a n c]) ∧ LimbsAt w' a ls ∧ Below w.heap.size w w' := by
  have h0 : ((n : Int) == 0) = false := by simp; omega
  have h1 : ((n : Int) == 1) = false := by simp; omega
  have hL := hA.below ((Below.refl w.heap.size w).alloc (Nat.le_refl _) (.cells #[.int .i64 s, .slice a n c] 36))
  go_enter Tryd.func35, Tryd.ntmps35
  go_wp2
  exact bodyPost_ret (v := .agg #[.int .i64 s, .slice a n c]) (by simp [results, Tryd.results35, go_sem]) rfl ⟨rfl, hL, (Below.refl _ _).alloc (Nat.le_refl _) _⟩

/-- A number out of its sign and its size. -/
theorem fromSize_any (s : Int) (a : Option Addr) (n c : Nat) (ls : List Int) (w : World) (hA : LimbsAt w a ls) (hn : n = ls.length) (ll : Limb ls) (lt : Tr ls) (hs : s = 1 ∨ s = -1 ∨ (s = 0 ∧ ls = [])) :
    Calls Tryd.prog 35 #[.int .i64 s, .slice a n c] w fun e w' => ∃ p a' k c', e = .returned (.agg #[.int .i64 p, .slice a' k c']) ∧ NumP w' p a' k c' (s * lv ls) ∧ Below w.heap.size w w' := by
  match ls, hn, hA, ll, lt, hs with
  | [], hn, _, _, _, _ =>
    subst hn
    refine (fromSize_none s a c w).mono ?_
    rintro e w' ⟨rfl, hb⟩
    exact ⟨_, _, _, _, rfl, by simp only [lv, Int.mul_zero]; exact NumP_near _ (by omega) (by omega), hb⟩
  | [x], hn, hA, ll, _, hs =>
    subst hn
    rcases hA with h | ⟨b, off, rfl, hb, hc⟩
    · cases h
    · have hx := ll x (by simp)
      have h := fromSize_one s b off c x w hb (by simpa using hc 0 (by simp)) hx.1 hx.2 (by rcases hs with h | h | h; exact .inl h; exact .inr (.inl h); cases h.2)
      simpa [lv] using h
  | x :: y :: r, hn, hA, ll, lt, hs =>
    have h2 : 2 ≤ n := by rw [hn]; simp
    have hs' : s = 1 ∨ s = -1 := by rcases hs with h | h | h; exact .inl h; exact .inr h; cases h.2
    refine (fromSize_many s a n c (x :: y :: r) w hA h2).mono ?_
    rintro e w' ⟨rfl, hL, hb⟩
    have hg := lv_ge ll (by simp) lt
    have hp := pw_mono (show 1 ≤ (x :: y :: r).length - 1 by simp)
    have h1 : pw 1 = 18446744073709551616 := rfl
    refine ⟨_, _, _, _, rfl, .inr ⟨_, hL, hn, by omega, ll, lt, hs', rfl, ?_⟩, hb⟩
    rcases hs' with rfl | rfl <;> omega

end Go.Proofs.YtmeaemjdmjhmdaaDoor
