/- The walk of 'rayconelaw1.RowsCombine'. -/
import Derived.Test.YtdnafkmphcebeaaDoorTa
namespace Go.Proofs.YtdnafkmphcebeaaDoor
open Go.RowKit

set_option maxHeartbeats 1000000 in
theorem rowsCombine_long (x y : Option Addr) (c c' n n' : Nat) (i j : Int) (w : World) (h : 400 < n ∨ 400 < n') (hn : n ≤ 9223372036854775807) (hn' : n' ≤ 9223372036854775807) :
    Calls Tryd.prog 5 #[.slice x n c, .int .i64 i, .slice y n' c', .int .i64 j] w fun e w' => e = .returned (.bool true) ∧ Below w.heap.size w w' := by
  by_cases h1 : 400 < n
  · have hd : (400 : Int) < (n : Int) := by omega
    go_enter Tryd.func5, Tryd.ntmps5
    go_wp2_with (go_at_call 10; refine (halves_true _).mono ?_; rintro e w1 ⟨rfl, hb1⟩)
    go_ret
    exact ⟨rfl, hb1⟩
  · have hd : decide ((400 : Int) < (n : Int)) = false := decide_eq_false (by omega)
    have hd2 : (400 : Int) < (n' : Int) := by omega
    go_enter Tryd.func5, Tryd.ntmps5
    go_wp2_with (go_at_call 10; refine (halves_true _).mono ?_; rintro e w1 ⟨rfl, hb1⟩)
    go_ret
    exact ⟨rfl, hb1⟩

set_option maxHeartbeats 2000000 in
theorem rowsCombine_shape (x y : Option Addr) (c c' n n' : Nat) (i j : Int) (l m : List Int) (a : Nat → Addr) (w : World) (hS : Sents w a) (hA : IntsAt w x l) (hB : IntsAt w y m) (hl : Hid (n = l.length)) (hm : Hid (n' = m.length)) (hn : n ≤ 400) (hn' : n' ≤ 400) (h : l.length ≠ m.length) :
    Calls Tryd.prog 5 #[.slice x n c, .int .i64 i, .slice y n' c', .int .i64 j] w fun e w' => e = .returned (.bool true) ∧ Below w.heap.size w w' := by
  have hd : decide ((400 : Int) < (n : Int)) = false := decide_eq_false (by omega)
  have hd2 : decide ((400 : Int) < (n' : Int)) = false := decide_eq_false (by omega)
  have hne : ((n : Int) != (n' : Int)) = true := by rw [bne_iff_ne, hl.out, hm.out]; omega
  have hp : Hid (pairErr a l m = .iface 48 (.pointer (some (a 2)))) := by unfold Hid pairErr; rw [if_pos h]
  clear h
  go_enter Tryd.func5, Tryd.ntmps5
  go_wp2_with (go_at_call 10; refine (halves_true _).mono ?_; rintro e w1 ⟨rfl, hb1⟩)
  refine (intsCopy_as x n c l _ (hA.below hb1) hl (by omega)).mono ?_
  rintro e w2 ⟨x2, c2, rfl, hA2, hb2⟩
  have hbw2 := hb1.trans (hb2.mono hb1.size)
  go_wp2_with fail
  refine (intsCopy_as y n' c' m _ (hB.below hbw2) hm (by omega)).mono ?_
  rintro e w3 ⟨y3, c3, rfl, hB3, hb3⟩
  have hbw3 := hbw2.trans (hb3.mono hbw2.size)
  go_wp2_with fail
  refine (combine_bad x2 y3 c2 c3 l m n n' i j a (a 2) _ (hS.below hbw3) (hA2.below hb3) hB3 hl hm (by omega) (by omega) hp).mono ?_
  rintro e w4 ⟨rfl, hb4⟩
  have hbw4 := hbw3.trans (hb4.mono hbw3.size)
  go_wp2_with fail
  refine (coded_sent_yes 2 (by omega) 3 (by omega) a _ (hS.below hbw4)).mono ?_
  rintro e w5 ⟨rfl, hb5⟩
  go_wp2_with fail
  go_ret
  exact ⟨rfl, hbw4.trans (hb5.mono hbw4.size)⟩

set_option maxHeartbeats 4000000 in
theorem rowsCombine_great (x y : Option Addr) (c c' n : Nat) (i j : Int) (l m : List Int) (a : Nat → Addr) (w : World) (hS : Sents w a) (hA : IntsAt w x l) (hB : IntsAt w y m) (hl : Hid (n = l.length)) (hm : Hid (n = m.length)) (hn : n ≤ 400) (b1 : Bool) (h1 : Hid (largeB l = b1)) (b2 : Bool) (h2 : Hid (largeB m = b2)) (b3 : Bool) (h3 : Hid (largeB [i, j] = b3)) (h : (b1 || b2 || b3) = true) :
    Calls Tryd.prog 5 #[.slice x n c, .int .i64 i, .slice y n c', .int .i64 j] w fun e w' => e = .returned (.bool true) ∧ Below w.heap.size w w' := by
  have hd : decide ((400 : Int) < (n : Int)) = false := decide_eq_false (by omega)
  have hC : Hid (∀ (x2 y3 : Option Addr) (c2 c3 : Nat) (W : World), Below w.heap.size w W → IntsAt W x2 l → IntsAt W y3 m → Calls Tryd.prog 14 #[.slice x2 n c2, .int .i64 i, .slice y3 n c3, .int .i64 j] W fun e w' => e = .returned (.tuple #[.slice none 0 0, .iface 48 (.pointer (some (a 1)))]) ∧ Below W.heap.size W w') := by
    intro x2 y3 c2 c3 W hW hx hy
    by_cases h12 : (b1 || b2) = true
    · exact combine_bad x2 y3 c2 c3 l m n n i j a (a 1) W (hS.below hW) hx hy hl hm (by omega) (by omega) (by unfold Hid pairErr; rw [if_neg (by rw [← hl.out, ← hm.out]; simp), h1.out, h2.out, if_pos h12])
    · have h3' : b3 = true := by cases b1 <;> cases b2 <;> simp_all
      exact combine_great x2 y3 c2 c3 l m n i j a W (hS.below hW) hx hy hl hm (by omega) (by unfold Hid pairErr; rw [if_neg (by rw [← hl.out, ← hm.out]; simp), h1.out, h2.out, if_neg h12]) (by unfold Hid; rw [h3.out, h3'])
  have hcs : b1 = true ∨ (b1 = false ∧ b2 = true) ∨ (b1 = false ∧ b2 = false ∧ b3 = true) := by cases b1 <;> cases b2 <;> cases b3 <;> simp_all
  clear h
  rcases hcs with rfl | ⟨rfl, rfl⟩ | ⟨rfl, rfl, rfl⟩
  all_goals
    go_enter Tryd.func5, Tryd.ntmps5
    go_wp2_with (go_at_call 10; refine (halves_true _).mono ?_; rintro e w1 ⟨rfl, hb1⟩)
    refine (intsCopy_as x n c l _ (hA.below hb1) hl (by omega)).mono ?_
    rintro e w2 ⟨x2, c2, rfl, hA2, hb2⟩
    have hbw2 := hb1.trans (hb2.mono hb1.size)
    go_wp2_with fail
    refine (intsCopy_as y n c' m _ (hB.below hbw2) hm (by omega)).mono ?_
    rintro e w3 ⟨y3, c3, rfl, hB3, hb3⟩
    have hbw3 := hbw2.trans (hb3.mono hbw2.size)
    go_wp2_with fail
    refine (hC.out x2 y3 c2 c3 _ hbw3 (hA2.below hb3) hB3).mono ?_
    rintro e w4 ⟨rfl, hb4⟩
    have hbw4 := hbw3.trans (hb4.mono hbw3.size)
    clear hb1 hb2 hb3 hb4 hbw2 hbw3
    go_wp2_with fail
    refine (large_as x n c l _ _ (hA.below hbw4) hl h1 (by omega)).mono ?_
    rintro e w5 ⟨rfl, hb5⟩
    have hbw5 := hbw4.trans (hb5.mono hbw4.size)
    go_wp2_with fail
  · refine (coded_sent_yes 1 (by omega) 2 (by omega) a _ (hS.below hbw5)).mono ?_
    rintro e w7 ⟨rfl, hb7⟩
    go_wp2_with fail
    go_ret
    exact ⟨rfl, hbw5.trans (hb7.mono hbw5.size)⟩
  · refine (large_as y n c' m true _ (hB.below hbw5) hm h2 (by omega)).mono ?_
    rintro e w6 ⟨rfl, hb6⟩
    have hbw6 := hbw5.trans (hb6.mono hbw5.size)
    go_wp2_with fail
    refine (coded_sent_yes 1 (by omega) 2 (by omega) a _ (hS.below hbw6)).mono ?_
    rintro e w7 ⟨rfl, hb7⟩
    go_wp2_with fail
    go_ret
    exact ⟨rfl, hbw6.trans (hb7.mono hbw6.size)⟩
  · refine (large_as y n c' m false _ (hB.below hbw5) hm h2 (by omega)).mono ?_
    rintro e w6 ⟨rfl, hb6⟩
    have hbw6 := hbw5.trans (hb6.mono hbw5.size)
    go_wp2_with fail
    refine (large_as _ 2 2 [i, j] true _ (pair_at w6 i j) (by unfold Hid; rfl) h3 (by omega)).mono ?_
    rintro e w7 ⟨rfl, hb7⟩
    have hbw7 := (hbw6.alloc hbw6.size (.cells #[.int .i64 i, .int .i64 j] 3)).trans (hb7.mono (by have := hbw6.size; simp; omega))
    go_wp2_with fail
    refine (coded_sent_yes 1 (by omega) 2 (by omega) a _ (hS.below hbw7)).mono ?_
    rintro e w8 ⟨rfl, hb8⟩
    go_wp2_with fail
    go_ret
    exact ⟨rfl, hbw7.trans (hb8.mono hbw7.size)⟩

theorem normL_fit (l : List Int) (h : ∀ z ∈ l, -1800 ≤ z ∧ z ≤ 1800) : ∀ z ∈ normL l, Fit z := by
  intro z hz
  obtain ⟨y, hy, rfl⟩ := List.mem_map.1 hz
  have h1 := h y hy
  have h2 : (y.tdiv (gcdL l)).natAbs ≤ y.natAbs := by rw [Int.natAbs_tdiv]; exact Nat.div_le_self _ _
  unfold Fit; omega

set_option maxHeartbeats 4000000 in
theorem rowsCombine_good (x y : Option Addr) (c c' n : Nat) (i j : Int) (l m : List Int) (a : Nat → Addr) (w : World) (hS : Sents w a) (hA : IntsAt w x l) (hB : IntsAt w y m) (hl : Hid (n = l.length)) (hm : Hid (n = m.length)) (hn : n ≤ 400) (h1 : Hid (largeB l = false)) (h2 : Hid (largeB m = false)) (h3 : Hid (largeB [i, j] = false)) :
    Calls Tryd.prog 5 #[.slice x n c, .int .i64 i, .slice y n c', .int .i64 j] w fun e w' => e = .returned (.bool true) ∧ Below w.heap.size w w' := by
  have hd : decide ((400 : Int) < (n : Int)) = false := decide_eq_false (by omega)
  have hp : Hid (pairErr a l m = .nilIface) := by unfold Hid pairErr; rw [if_neg (by rw [← hl.out, ← hm.out]; simp), h1.out, h2.out]; rfl
  obtain ⟨t1, ht1⟩ : ∃ t, tameB l = t := ⟨_, rfl⟩
  obtain ⟨t2, ht2⟩ : ∃ t, tameB m = t := ⟨_, rfl⟩
  obtain ⟨t3, ht3⟩ : ∃ t, tameB [i, j] = t := ⟨_, rfl⟩
  have HT1 := hide ht1
  have HT2 := hide ht2
  have HT3 := hide ht3
  have hcs : t1 = false ∨ (t1 = true ∧ t2 = false) ∨ (t1 = true ∧ t2 = true ∧ t3 = false) ∨ (t1 = true ∧ t2 = true ∧ t3 = true) := by cases t1 <;> cases t2 <;> cases t3 <;> simp
  clear ht1 ht2 ht3
  rcases hcs with rfl | ⟨rfl, rfl⟩ | ⟨rfl, rfl, rfl⟩ | ⟨rfl, rfl, rfl⟩
  all_goals
    go_enter Tryd.func5, Tryd.ntmps5
    go_wp2_with (go_at_call 10; refine (halves_true _).mono ?_; rintro e w1 ⟨rfl, hb1⟩)
    refine (intsCopy_as x n c l _ (hA.below hb1) hl (by omega)).mono ?_
    rintro e w2 ⟨x2, c2, rfl, hA2, hb2⟩
    have hbw2 := hb1.trans (hb2.mono hb1.size)
    go_wp2_with fail
    refine (intsCopy_as y n c' m _ (hB.below hbw2) hm (by omega)).mono ?_
    rintro e w3 ⟨y3, c3, rfl, hB3, hb3⟩
    have hbw3 := hbw2.trans (hb3.mono hbw2.size)
    go_wp2_with fail
    refine (combine_good x2 y3 c2 c3 l m n i j a _ (hS.below hbw3) (hA2.below hb3) hB3 hl hm (by omega) hp h1 h2 h3).mono ?_
    rintro e w4 ⟨x4, k4, d4, rfl, hR, hb4⟩
    have HR := hide hR
    have hbw4 := hbw3.trans (hb4.mono hbw3.size)
    clear hb1 hb2 hb3 hb4 hbw2 hbw3 hR
    go_wp2_with fail
    refine (large_as x n c l false _ (hA.below hbw4) hl h1 (by omega)).mono ?_
    rintro e w5 ⟨rfl, hb5⟩
    have hbw5 := hbw4.trans (hb5.mono hbw4.size)
    go_wp2_with fail
    refine (large_as y n c' m false _ (hB.below hbw5) hm h2 (by omega)).mono ?_
    rintro e w6 ⟨rfl, hb6⟩
    have hbw6 := hbw5.trans (hb6.mono hbw5.size)
    go_wp2_with fail
    refine (large_as _ 2 2 [i, j] false _ (pair_at w6 i j) (by unfold Hid; rfl) h3 (by omega)).mono ?_
    rintro e w7 ⟨rfl, hb7⟩
    have hb47 : Below w4.heap.size w4 w7 := ((hb5.trans (hb6.mono hb5.size)).alloc (by have := hb5.size; have := hb6.size; omega) (.cells #[.int .i64 i, .int .i64 j] 3)).trans (hb7.mono (by have := hb5.size; have := hb6.size; simp; omega))
    have hbw7 := hbw4.trans (hb47.mono hbw4.size)
    clear hb5 hb6 hb7 hbw5 hbw6
    go_wp2_with fail
    refine (tame_as x n c l _ _ (hA.below hbw7) hl HT1 (by omega)).mono ?_
    rintro e w8 ⟨rfl, hb8⟩
    have hbw8 := hbw7.trans (hb8.mono hbw7.size)
    go_wp2_with fail
  · go_ret
    exact ⟨rfl, hbw8⟩
  · refine (tame_as y n c' m _ _ (hB.below hbw8) hm HT2 (by omega)).mono ?_
    rintro e w9 ⟨rfl, hb9⟩
    go_wp2_with fail
    go_ret
    exact ⟨rfl, hbw8.trans (hb9.mono hbw8.size)⟩
  · refine (tame_as y n c' m _ _ (hB.below hbw8) hm HT2 (by omega)).mono ?_
    rintro e w9 ⟨rfl, hb9⟩
    have hbw9 := hbw8.trans (hb9.mono hbw8.size)
    go_wp2_with fail
    refine (tame_as _ 2 2 [i, j] _ _ (pair_at w9 i j) (by unfold Hid; rfl) HT3 (by omega)).mono ?_
    rintro e w10 ⟨rfl, hb10⟩
    go_wp2_with fail
    go_ret
    exact ⟨rfl, (hbw9.alloc hbw9.size (.cells #[.int .i64 i, .int .i64 j] 3)).trans (hb10.mono (by have := hbw9.size; simp; omega))⟩
  · refine (tame_as y n c' m _ _ (hB.below hbw8) hm HT2 (by omega)).mono ?_
    rintro e w9 ⟨rfl, hb9⟩
    have hbw9 := hbw8.trans (hb9.mono hbw8.size)
    go_wp2_with fail
    refine (tame_as _ 2 2 [i, j] _ _ (pair_at w9 i j) (by unfold Hid; rfl) HT3 (by omega)).mono ?_
    rintro e w10 ⟨rfl, hb10⟩
    have hb410 : Below w4.heap.size w4 w10 := (((hb47.trans (hb8.mono hb47.size)).trans (hb9.mono (by have := hb47.size; have := hb8.size; omega))).alloc (by have := hb47.size; have := hb8.size; have := hb9.size; omega) (.cells #[.int .i64 i, .int .i64 j] 3)).trans (hb10.mono (by have := hb47.size; have := hb8.size; have := hb9.size; simp; omega))
    have hbw10 := hbw4.trans (hb410.mono hbw4.size)
    have T1 := hide (tameB_true HT1.out)
    have T2 := hide (tameB_true HT2.out)
    have T3 := tameB_true HT3.out
    have Ti := hide (T3 i (by simp))
    have Tj := hide (T3 j (by simp))
    have hfit := normL_fit _ (mixL_small l m i j T1.out T2.out Ti.out Tj.out)
    obtain ⟨hk4, hI4⟩ := HR.out hfit
    have HI4 := hide (hI4.below hb410)
    subst hk4
    clear T3 hfit hI4 hb47 hb8 hb9 hb10 hbw7 hbw8 hbw9 hb410 HR
    go_wp2_with fail
    refine (mixOf_any x y c c' k4 l m i j _ (hA.below hbw10) (hB.below hbw10) hl hm (by omega) T1 T2 Ti Tj).mono ?_
    rintro e w11 ⟨a11, c11, rfl, hI11, hb11⟩
    have hbw11 := hbw10.trans (hb11.mono hbw10.size)
    have HI5 := hide (HI4.out.below hb11)
    have HI11 := hide hI11
    have hlen : Hid (k4 = (normL (mixL l m i j)).length) := by unfold Hid normL mixL; rw [List.length_map, List.length_zipWith, ← hl.out, ← hm.out]; simp
    clear hI11 HI4
    go_wp2_with fail
    refine (sameInts_any _ _ k4 _ k4 _ _ _ _ HI5.out HI11.out hlen.out hlen.out (by omega)).mono ?_
    rintro e w12 ⟨rfl, hb12⟩
    go_wp2_with fail
    go_ret
    exact ⟨by simp, hbw11.trans (hb12.mono hbw11.size)⟩

theorem rowsCombine_true (x y : Option Addr) (c c' n n' : Nat) (i j : Int) (l m : List Int) (a : Nat → Addr) (w : World) (hS : Sents w a) (hA : IntsAt w x l) (hB : IntsAt w y m) (hl : n = l.length) (hm : n' = m.length) (hn : n ≤ 9223372036854775807) (hn' : n' ≤ 9223372036854775807) :
    Calls Tryd.prog 5 #[.slice x n c, .int .i64 i, .slice y n' c', .int .i64 j] w fun e w' => e = .returned (.bool true) ∧ Below w.heap.size w w' := by
  by_cases h4 : 400 < n ∨ 400 < n'
  · exact rowsCombine_long x y c c' n n' i j w h4 hn hn'
  · by_cases h : l.length = m.length
    · have hnn : n' = n := by omega
      subst hnn
      by_cases hg : (largeB l || largeB m || largeB [i, j]) = true
      · exact rowsCombine_great x y c c' n' i j l m a w hS hA hB hl hm (by omega) _ rfl _ rfl _ rfl hg
      · simp only [Bool.not_eq_true, Bool.or_eq_false_iff] at hg
        exact rowsCombine_good x y c c' n' i j l m a w hS hA hB hl hm (by omega) hg.1.1 hg.1.2 hg.2
    · exact rowsCombine_shape x y c c' n n' i j l m a w hS hA hB hl hm (by omega) (by omega) h

end Go.Proofs.YtdnafkmphcebeaaDoor
