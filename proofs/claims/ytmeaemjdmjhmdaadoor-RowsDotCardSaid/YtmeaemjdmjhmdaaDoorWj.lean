/- The walk of 'rayconelaw1.RowsDot'. -/
import Derived.Test.YtmeaemjdmjhmdaaDoorWi
namespace Go.Proofs.YtmeaemjdmjhmdaaDoor
open Go.RowKit

set_option maxHeartbeats 1000000 in
theorem rowsDot_long (x y : Option Addr) (c c' n n' : Nat) (w : World) (h : 400 < n ∨ 400 < n') (hn : n ≤ 9223372036854775807) (hn' : n' ≤ 9223372036854775807) :
    Calls Tryd.prog 3 #[.slice x n c, .slice y n' c'] w fun e w' => e = .returned (.bool true) ∧ Below w.heap.size w w' := by
  by_cases h1 : 400 < n
  · have hd : (400 : Int) < (n : Int) := by omega
    go_enter Tryd.func3, Tryd.ntmps3
    go_wp2_with (go_at_call 4; refine (halves_true _).mono ?_; rintro e w1 ⟨rfl, hb1⟩)
    go_ret
    exact ⟨rfl, hb1⟩
  · have hd : decide ((400 : Int) < (n : Int)) = false := decide_eq_false (by omega)
    have hd2 : (400 : Int) < (n' : Int) := by omega
    go_enter Tryd.func3, Tryd.ntmps3
    go_wp2_with (go_at_call 4; refine (halves_true _).mono ?_; rintro e w1 ⟨rfl, hb1⟩)
    go_ret
    exact ⟨rfl, hb1⟩

set_option maxHeartbeats 2000000 in
theorem rowsDot_shape (x y : Option Addr) (c c' n n' : Nat) (l m : List Int) (a : Nat → Addr) (w : World) (hS : Sents w a) (hA : IntsAt w x l) (hB : IntsAt w y m) (hl : Hid (n = l.length)) (hm : Hid (n' = m.length)) (hn : n ≤ 400) (hn' : n' ≤ 400) (h : l.length ≠ m.length) :
    Calls Tryd.prog 3 #[.slice x n c, .slice y n' c'] w fun e w' => e = .returned (.bool true) ∧ Below w.heap.size w w' := by
  have hd : decide ((400 : Int) < (n : Int)) = false := decide_eq_false (by omega)
  have hd2 : decide ((400 : Int) < (n' : Int)) = false := decide_eq_false (by omega)
  have hne : ((n : Int) != (n' : Int)) = true := by rw [bne_iff_ne, hl.out, hm.out]; omega
  have hp : Hid (pairErr a l m = .iface 118 (.pointer (some (a 2)))) := by unfold Hid pairErr; rw [if_pos h]
  clear h
  go_enter Tryd.func3, Tryd.ntmps3
  go_wp2_with (go_at_call 4; refine (halves_true _).mono ?_; rintro e w1 ⟨rfl, hb1⟩)
  refine (intsCopy_as x n c l _ (hA.below hb1) hl (by omega)).mono ?_
  rintro e w2 ⟨x2, c2, rfl, hA2, hb2⟩
  have hbw2 := hb1.trans (hb2.mono hb1.size)
  go_wp2_with fail
  refine (intsCopy_as y n' c' m _ (hB.below hbw2) hm (by omega)).mono ?_
  rintro e w3 ⟨y3, c3, rfl, hB3, hb3⟩
  have hbw3 := hbw2.trans (hb3.mono hbw2.size)
  go_wp2_with fail
  refine (dot_bad x2 y3 c2 c3 l m n n' a (a 2) _ (hS.below hbw3) (hA2.below hb3) hB3 hl hm (by omega) (by omega) hp).mono ?_
  rintro e w4 ⟨rfl, hb4⟩
  have hbw4 := hbw3.trans (hb4.mono hbw3.size)
  go_wp2_with fail
  refine (coded_sent_yes 2 (by omega) 3 (by omega) a _ (hS.below hbw4)).mono ?_
  rintro e w5 ⟨rfl, hb5⟩
  go_wp2_with fail
  go_ret
  exact ⟨rfl, hbw4.trans (hb5.mono hbw4.size)⟩

set_option maxHeartbeats 2000000 in
theorem rowsDot_great (x y : Option Addr) (c c' n : Nat) (l m : List Int) (a : Nat → Addr) (w : World) (hS : Sents w a) (hA : IntsAt w x l) (hB : IntsAt w y m) (hl : Hid (n = l.length)) (hm : Hid (n = m.length)) (hn : n ≤ 400) (b1 : Bool) (h1 : Hid (largeB l = b1)) (b2 : Bool) (h2 : Hid (largeB m = b2)) (h : (b1 || b2) = true) :
    Calls Tryd.prog 3 #[.slice x n c, .slice y n c'] w fun e w' => e = .returned (.bool true) ∧ Below w.heap.size w w' := by
  have hd : decide ((400 : Int) < (n : Int)) = false := decide_eq_false (by omega)
  have hp : Hid (pairErr a l m = .iface 118 (.pointer (some (a 1)))) := by unfold Hid pairErr; rw [if_neg (by rw [← hl.out, ← hm.out]; simp), h1.out, h2.out, if_pos h]
  cases b1 with
  | true =>
    clear h
    go_enter Tryd.func3, Tryd.ntmps3
    go_wp2_with (go_at_call 4; refine (halves_true _).mono ?_; rintro e w1 ⟨rfl, hb1⟩)
    refine (intsCopy_as x n c l _ (hA.below hb1) hl (by omega)).mono ?_
    rintro e w2 ⟨x2, c2, rfl, hA2, hb2⟩
    have hbw2 := hb1.trans (hb2.mono hb1.size)
    go_wp2_with fail
    refine (intsCopy_as y n c' m _ (hB.below hbw2) hm (by omega)).mono ?_
    rintro e w3 ⟨y3, c3, rfl, hB3, hb3⟩
    have hbw3 := hbw2.trans (hb3.mono hbw2.size)
    go_wp2_with fail
    refine (dot_bad x2 y3 c2 c3 l m n n a (a 1) _ (hS.below hbw3) (hA2.below hb3) hB3 hl hm (by omega) (by omega) hp).mono ?_
    rintro e w4 ⟨rfl, hb4⟩
    have hbw4 := hbw3.trans (hb4.mono hbw3.size)
    clear hb1 hb2 hb3 hb4 hbw2 hbw3
    go_wp2_with fail
    refine (large_as x n c l true _ (hA.below hbw4) hl h1 (by omega)).mono ?_
    rintro e w5 ⟨rfl, hb5⟩
    have hbw5 := hbw4.trans (hb5.mono hbw4.size)
    go_wp2_with fail
    refine (coded_sent_yes 1 (by omega) 2 (by omega) a _ (hS.below hbw5)).mono ?_
    rintro e w7 ⟨rfl, hb7⟩
    go_wp2_with fail
    go_ret
    exact ⟨rfl, hbw5.trans (hb7.mono hbw5.size)⟩
  | false =>
    have h3 : b2 = true := by simpa using h
    subst h3
    clear h
    go_enter Tryd.func3, Tryd.ntmps3
    go_wp2_with (go_at_call 4; refine (halves_true _).mono ?_; rintro e w1 ⟨rfl, hb1⟩)
    refine (intsCopy_as x n c l _ (hA.below hb1) hl (by omega)).mono ?_
    rintro e w2 ⟨x2, c2, rfl, hA2, hb2⟩
    have hbw2 := hb1.trans (hb2.mono hb1.size)
    go_wp2_with fail
    refine (intsCopy_as y n c' m _ (hB.below hbw2) hm (by omega)).mono ?_
    rintro e w3 ⟨y3, c3, rfl, hB3, hb3⟩
    have hbw3 := hbw2.trans (hb3.mono hbw2.size)
    go_wp2_with fail
    refine (dot_bad x2 y3 c2 c3 l m n n a (a 1) _ (hS.below hbw3) (hA2.below hb3) hB3 hl hm (by omega) (by omega) hp).mono ?_
    rintro e w4 ⟨rfl, hb4⟩
    have hbw4 := hbw3.trans (hb4.mono hbw3.size)
    clear hb1 hb2 hb3 hb4 hbw2 hbw3
    go_wp2_with fail
    refine (large_as x n c l false _ (hA.below hbw4) hl h1 (by omega)).mono ?_
    rintro e w5 ⟨rfl, hb5⟩
    have hbw5 := hbw4.trans (hb5.mono hbw4.size)
    go_wp2_with fail
    refine (large_as y n c' m true _ (hB.below hbw5) hm h2 (by omega)).mono ?_
    rintro e w6 ⟨rfl, hb6⟩
    have hbw6 := hbw5.trans (hb6.mono hbw5.size)
    go_wp2_with fail
    refine (coded_sent_yes 1 (by omega) 2 (by omega) a _ (hS.below hbw6)).mono ?_
    rintro e w7 ⟨rfl, hb7⟩
    go_wp2_with fail
    go_ret
    exact ⟨rfl, hbw6.trans (hb7.mono hbw6.size)⟩

set_option maxHeartbeats 4000000 in
theorem rowsDot_good (b off c b' off' c' n : Nat) (l m : List Int) (a : Nat → Addr) (w : World) (hS : Sents w a) (hb : b < w.heap.size) (hc : ∀ i, i < l.length → w.cell? ⟨b, off + i, none⟩ = some (.int .i64 (l.getD i 0))) (hb' : b' < w.heap.size) (hc' : ∀ i, i < m.length → w.cell? ⟨b', off' + i, none⟩ = some (.int .i64 (m.getD i 0))) (hl : Hid (n = l.length)) (hm : Hid (n = m.length)) (hn : n ≤ 400) (h1 : Hid (largeB l = false)) (h2 : Hid (largeB m = false)) :
    Calls Tryd.prog 3 #[.slice (some ⟨b, off, none⟩) n c, .slice (some ⟨b', off', none⟩) n c'] w fun e w' => e = .returned (.bool true) ∧ Below w.heap.size w w' := by
  have hd : decide ((400 : Int) < (n : Int)) = false := decide_eq_false (by omega)
  have hp : Hid (pairErr a l m = .nilIface) := by unfold Hid pairErr; rw [if_neg (by rw [← hl.out, ← hm.out]; simp), h1.out, h2.out]; rfl
  have HP := hide (prod_bd l m (largeB_false h1.out) (largeB_false h2.out))
  have hpl : Hid ((prodL l m).length = n) := by unfold Hid; rw [prodL_length l m (by rw [← hl.out, ← hm.out])]; exact hl.out.symm
  obtain ⟨z, hz0⟩ : ∃ z, z = (prodL l m).sum := ⟨_, rfl⟩
  have hz := hide hz0
  clear hz0
  have hA : IntsAt w (some ⟨b, off, none⟩) l := .inr ⟨b, off, rfl, hb, hc⟩
  have hB : IntsAt w (some ⟨b', off', none⟩) m := .inr ⟨b', off', rfl, hb', hc'⟩
  by_cases hbg : 4611686018427387904 < z ∨ z < -4611686018427387904
  · have hbig : Hid (true = decide (4611686018427387904 < z ∨ z < -4611686018427387904)) := by unfold Hid; simp [hbg]
    clear hbg
    go_enter Tryd.func3, Tryd.ntmps3
    go_wp2_with (go_at_call 4; refine (halves_true _).mono ?_; rintro e w1 ⟨rfl, hb1⟩)
    refine (intsCopy_as (some ⟨b, off, none⟩) n c l _ (hA.below hb1) hl (by omega)).mono ?_
    rintro e w2 ⟨x2, c2, rfl, hA2, hb2⟩
    have hbw2 := hb1.trans (hb2.mono hb1.size)
    go_wp2_with fail
    refine (intsCopy_as (some ⟨b', off', none⟩) n c' m _ (hB.below hbw2) hm (by omega)).mono ?_
    rintro e w3 ⟨y3, c3, rfl, hB3, hb3⟩
    have hbw3 := hbw2.trans (hb3.mono hbw2.size)
    go_wp2_with fail
    refine (dot_good x2 y3 c2 c3 l m n a _ (hS.below hbw3) (hA2.below hb3) hB3 hl hm (by omega) hp h1 h2 z hz true hbig).mono ?_
    rintro e w4 ⟨rfl, hb4⟩
    rw [if_pos rfl]
    have hbw4 := hbw3.trans (hb4.mono hbw3.size)
    clear hb1 hb2 hb3 hb4 hbw2 hbw3
    go_wp2_with fail
    refine (large_as (some ⟨b, off, none⟩) n c l false _ (hA.below hbw4) hl h1 (by omega)).mono ?_
    rintro e w5 ⟨rfl, hb5⟩
    have hbw5 := hbw4.trans (hb5.mono hbw4.size)
    go_wp2_with fail
    refine (large_as (some ⟨b', off', none⟩) n c' m false _ (hB.below hbw5) hm h2 (by omega)).mono ?_
    rintro e w6 ⟨rfl, hb6⟩
    have hbw6 := hbw5.trans (hb6.mono hbw5.size)
    clear hb5 hb6 hbw4 hbw5
    go_wp2_with fail
    go_loopw [8, 9] (fun sv i wr => ∃ k : Nat, k ≤ n ∧ i = .int .i64 k ∧ sv = .int .i64 ((prodL l m).take k).sum ∧ -3458764513820540928 ≤ ((prodL l m).take k).sum ∧ ((prodL l m).take k).sum ≤ 3458764513820540928 ∧ Below w.heap.size w wr) (fun _ i _ => n - (intOf i).toNat)
    case atStart => exact ⟨0, Nat.zero_le _, rfl, by simp, by simp, by simp, hbw6⟩
    case round =>
      obtain ⟨k, hk, rfl, rfl, hs1, hs2, hbel⟩ := hrel
      by_cases hlt : k < n
      · have hkl : k < l.length := by rw [← hl.out]; exact hlt
        have hkm : k < m.length := by rw [← hm.out]; exact hlt
        have hkp : k < (prodL l m).length := by rw [hpl.out]; exact hlt
        obtain ⟨s, hse⟩ : ∃ s, s = ((prodL l m).take k).sum := ⟨_, rfl⟩
        rw [← hse] at hs1 hs2 ⊢
        obtain ⟨u, hue⟩ : ∃ u, u = l.getD k 0 := ⟨_, rfl⟩
        obtain ⟨v, hve⟩ : ∃ v, v = m.getD k 0 := ⟨_, rfl⟩
        obtain ⟨q, hqe⟩ : ∃ q, q = u * v := ⟨_, rfl⟩
        have hcu : wr.cell? ⟨b, off + k, none⟩ = some (.int .i64 u) := by rw [hue, hbel.cell (p := ⟨b, off + k, none⟩) hb]; exact hc k hkl
        have hcv : wr.cell? ⟨b', off' + k, none⟩ = some (.int .i64 v) := by rw [hve, hbel.cell (p := ⟨b', off' + k, none⟩) hb']; exact hc' k hkm
        have hqp : q = (prodL l m).getD k 0 := by rw [hqe, hue, hve, prodL_get l m (by rw [← hl.out, ← hm.out]) k hkl]
        have hqb := HP.out q (by rw [hqp]; simp [hkp])
        have hwq : IntKind.i64.wrap (u * v) = q := by rw [← hqe]; exact wrap_small q (by omega) (by omega)
        have hwq' : wrap64 (u * v) = q := by rw [← hqe]; exact IntWalk.wrap64_in q ⟨by omega, by omega⟩
        have hnx : Hid (s + q = ((prodL l m).take (k + 1)).sum) := by unfold Hid; rw [hse, hqp, sum_take_succ _ k hkp]
        have hkn : (k : Int) < (n : Int) := by omega
        clear hse hue hve hqe hqp
        rcases (show 2305843009213693952 < q ∨ (q ≤ 2305843009213693952 ∧ q < -2305843009213693952) ∨ (q ≤ 2305843009213693952 ∧ -2305843009213693952 ≤ q ∧ 1152921504606846976 < s) ∨ (q ≤ 2305843009213693952 ∧ -2305843009213693952 ≤ q ∧ s ≤ 1152921504606846976 ∧ s < -1152921504606846976) ∨ (q ≤ 2305843009213693952 ∧ -2305843009213693952 ≤ q ∧ s ≤ 1152921504606846976 ∧ -1152921504606846976 ≤ s) by omega) with hq | ⟨hq, hq'⟩ | ⟨hq, hq', hq2⟩ | ⟨hq, hq', hq2, hq3⟩ | ⟨hq, hq', hq2, hq3⟩
        all_goals
          go_wp2_with fail
          go_region
          all_goals go_wp2_with fail
          all_goals first
            | (go_ret
               exact ⟨rfl, hbel.drew⟩)
            | (go_roundw
               case rel => exact ⟨k + 1, by omega, by go_num, by rw [← hnx.out], by rw [← hnx.out]; omega, by rw [← hnx.out]; omega, hbel.drew⟩
               case measure => simp [intOf]; omega)
      · have hke : (prodL l m).take k = prodL l m := List.take_of_length_le (by rw [hpl.out]; omega)
        rw [hke, ← hz.out] at hs1 hs2
        have hb2 := hbig.out
        have hcon : 4611686018427387904 < z ∨ z < -4611686018427387904 := by simpa using hb2.symm
        omega
  · have hbig : Hid (false = decide (4611686018427387904 < z ∨ z < -4611686018427387904)) := by unfold Hid; simp [hbg]
    clear hbg
    go_enter Tryd.func3, Tryd.ntmps3
    go_wp2_with (go_at_call 4; refine (halves_true _).mono ?_; rintro e w1 ⟨rfl, hb1⟩)
    refine (intsCopy_as (some ⟨b, off, none⟩) n c l _ (hA.below hb1) hl (by omega)).mono ?_
    rintro e w2 ⟨x2, c2, rfl, hA2, hb2⟩
    have hbw2 := hb1.trans (hb2.mono hb1.size)
    go_wp2_with fail
    refine (intsCopy_as (some ⟨b', off', none⟩) n c' m _ (hB.below hbw2) hm (by omega)).mono ?_
    rintro e w3 ⟨y3, c3, rfl, hB3, hb3⟩
    have hbw3 := hbw2.trans (hb3.mono hbw2.size)
    go_wp2_with fail
    refine (dot_good x2 y3 c2 c3 l m n a _ (hS.below hbw3) (hA2.below hb3) hB3 hl hm (by omega) hp h1 h2 z hz false hbig).mono ?_
    rintro e w4 ⟨rfl, hb4⟩
    rw [if_neg (by simp)]
    have hbw4 := hbw3.trans (hb4.mono hbw3.size)
    clear hb1 hb2 hb3 hb4 hbw2 hbw3
    go_wp2_with fail
    refine (large_as (some ⟨b, off, none⟩) n c l false _ (hA.below hbw4) hl h1 (by omega)).mono ?_
    rintro e w5 ⟨rfl, hb5⟩
    have hbw5 := hbw4.trans (hb5.mono hbw4.size)
    go_wp2_with fail
    refine (large_as (some ⟨b', off', none⟩) n c' m false _ (hB.below hbw5) hm h2 (by omega)).mono ?_
    rintro e w6 ⟨rfl, hb6⟩
    have hbw6 := hbw5.trans (hb6.mono hbw5.size)
    clear hb5 hb6 hbw4 hbw5
    go_wp2_with fail
    go_loopw [8, 9] (fun sv i wr => ∃ k : Nat, k ≤ n ∧ i = .int .i64 k ∧ sv = .int .i64 ((prodL l m).take k).sum ∧ -3458764513820540928 ≤ ((prodL l m).take k).sum ∧ ((prodL l m).take k).sum ≤ 3458764513820540928 ∧ Below w.heap.size w wr) (fun _ i _ => n - (intOf i).toNat)
    case atStart => exact ⟨0, Nat.zero_le _, rfl, by simp, by simp, by simp, hbw6⟩
    case round =>
      obtain ⟨k, hk, rfl, rfl, hs1, hs2, hbel⟩ := hrel
      by_cases hlt : k < n
      · have hkl : k < l.length := by rw [← hl.out]; exact hlt
        have hkm : k < m.length := by rw [← hm.out]; exact hlt
        have hkp : k < (prodL l m).length := by rw [hpl.out]; exact hlt
        obtain ⟨s, hse⟩ : ∃ s, s = ((prodL l m).take k).sum := ⟨_, rfl⟩
        rw [← hse] at hs1 hs2 ⊢
        obtain ⟨u, hue⟩ : ∃ u, u = l.getD k 0 := ⟨_, rfl⟩
        obtain ⟨v, hve⟩ : ∃ v, v = m.getD k 0 := ⟨_, rfl⟩
        obtain ⟨q, hqe⟩ : ∃ q, q = u * v := ⟨_, rfl⟩
        have hcu : wr.cell? ⟨b, off + k, none⟩ = some (.int .i64 u) := by rw [hue, hbel.cell (p := ⟨b, off + k, none⟩) hb]; exact hc k hkl
        have hcv : wr.cell? ⟨b', off' + k, none⟩ = some (.int .i64 v) := by rw [hve, hbel.cell (p := ⟨b', off' + k, none⟩) hb']; exact hc' k hkm
        have hqp : q = (prodL l m).getD k 0 := by rw [hqe, hue, hve, prodL_get l m (by rw [← hl.out, ← hm.out]) k hkl]
        have hqb := HP.out q (by rw [hqp]; simp [hkp])
        have hwq : IntKind.i64.wrap (u * v) = q := by rw [← hqe]; exact wrap_small q (by omega) (by omega)
        have hwq' : wrap64 (u * v) = q := by rw [← hqe]; exact IntWalk.wrap64_in q ⟨by omega, by omega⟩
        have hnx : Hid (s + q = ((prodL l m).take (k + 1)).sum) := by unfold Hid; rw [hse, hqp, sum_take_succ _ k hkp]
        have hkn : (k : Int) < (n : Int) := by omega
        clear hse hue hve hqe hqp
        rcases (show 2305843009213693952 < q ∨ (q ≤ 2305843009213693952 ∧ q < -2305843009213693952) ∨ (q ≤ 2305843009213693952 ∧ -2305843009213693952 ≤ q ∧ 1152921504606846976 < s) ∨ (q ≤ 2305843009213693952 ∧ -2305843009213693952 ≤ q ∧ s ≤ 1152921504606846976 ∧ s < -1152921504606846976) ∨ (q ≤ 2305843009213693952 ∧ -2305843009213693952 ≤ q ∧ s ≤ 1152921504606846976 ∧ -1152921504606846976 ≤ s) by omega) with hq | ⟨hq, hq'⟩ | ⟨hq, hq', hq2⟩ | ⟨hq, hq', hq2, hq3⟩ | ⟨hq, hq', hq2, hq3⟩
        all_goals
          go_wp2_with fail
          go_region
          all_goals go_wp2_with fail
          all_goals first
            | (go_ret
               exact ⟨rfl, hbel.drew⟩)
            | (go_roundw
               case rel => exact ⟨k + 1, by omega, by go_num, by rw [← hnx.out], by rw [← hnx.out]; omega, by rw [← hnx.out]; omega, hbel.drew⟩
               case measure => simp [intOf]; omega)
      · have hke : (prodL l m).take k = prodL l m := List.take_of_length_le (by rw [hpl.out]; omega)
        rw [hke, ← hz.out] at hs1 hs2 ⊢
        clear hke
        have hzz : (z == z) = true := by simp
        go_wp2_with fail
        go_ret
        exact ⟨rfl, hbel⟩

set_option maxHeartbeats 2000000 in
theorem rowsDot_empty (x y : Option Addr) (c c' : Nat) (a : Nat → Addr) (w : World) (hS : Sents w a) :
    Calls Tryd.prog 3 #[.slice x 0 c, .slice y 0 c'] w fun e w' => e = .returned (.bool true) ∧ Below w.heap.size w w' := by
  have hA : IntsAt w x [] := .inl rfl
  have hB : IntsAt w y [] := .inl rfl
  go_enter Tryd.func3, Tryd.ntmps3
  go_wp2_with (go_at_call 4; refine (halves_true _).mono ?_; rintro e w1 ⟨rfl, hb1⟩)
  refine (intsCopy_as x 0 c [] _ (hA.below hb1) rfl (by omega)).mono ?_
  rintro e w2 ⟨x2, c2, rfl, hA2, hb2⟩
  have hbw2 := hb1.trans (hb2.mono hb1.size)
  go_wp2_with fail
  refine (intsCopy_as y 0 c' [] _ (hB.below hbw2) rfl (by omega)).mono ?_
  rintro e w3 ⟨y3, c3, rfl, hB3, hb3⟩
  have hbw3 := hbw2.trans (hb3.mono hbw2.size)
  go_wp2_with fail
  refine (dot_good x2 y3 c2 c3 [] [] 0 a _ (hS.below hbw3) (hA2.below hb3) hB3 rfl rfl (by omega) rfl rfl rfl 0 rfl false rfl).mono ?_
  rintro e w4 ⟨rfl, hb4⟩
  rw [if_neg (by simp)]
  have hbw4 := hbw3.trans (hb4.mono hbw3.size)
  clear hb1 hb2 hb3 hb4 hbw2 hbw3
  go_wp2_with fail
  refine (large_as x 0 c [] false _ (.inl rfl) rfl rfl (by omega)).mono ?_
  rintro e w5 ⟨rfl, hb5⟩
  have hbw5 := hbw4.trans (hb5.mono hbw4.size)
  go_wp2_with fail
  refine (large_as y 0 c' [] false _ (.inl rfl) rfl rfl (by omega)).mono ?_
  rintro e w6 ⟨rfl, hb6⟩
  have hbw6 := hbw5.trans (hb6.mono hbw5.size)
  go_wp2_with fail
  refine wp_loop_rounds 1 ?_
  rw [rounds_succ]
  go_wp2_with fail
  go_ret
  exact ⟨rfl, hbw6⟩

/-- Whatever two lists of ints are handed in: true. -/
theorem rowsDot_true (x y : Option Addr) (c c' n n' : Nat) (l m : List Int) (a : Nat → Addr) (w : World) (hS : Sents w a) (hA : IntsAt w x l) (hB : IntsAt w y m) (hl : n = l.length) (hm : n' = m.length) (hn : n ≤ 9223372036854775807) (hn' : n' ≤ 9223372036854775807) :
    Calls Tryd.prog 3 #[.slice x n c, .slice y n' c'] w fun e w' => e = .returned (.bool true) ∧ Below w.heap.size w w' := by
  by_cases h4 : 400 < n ∨ 400 < n'
  · exact rowsDot_long x y c c' n n' w h4 hn hn'
  · by_cases h : l.length = m.length
    · have hnn : n' = n := by omega
      subst hnn
      cases h1 : largeB l with
      | true => exact rowsDot_great x y c c' n' l m a w hS hA hB hl hm (by omega) true h1 (largeB m) rfl rfl
      | false =>
        cases h2 : largeB m with
        | true => exact rowsDot_great x y c c' n' l m a w hS hA hB hl hm (by omega) false h1 true h2 rfl
        | false =>
          rcases hA with rfl | ⟨b, off, rfl, hb, hc⟩
          · simp at hl
            subst hl
            exact rowsDot_empty x y c c' a w hS
          · rcases hB with rfl | ⟨b', off', rfl, hb', hc'⟩
            · simp at hm
              subst hm
              exact rowsDot_empty _ y c c' a w hS
            · exact rowsDot_good b off c b' off' c' n' l m a w hS hb hc hb' hc' hl hm (by omega) h1 h2
    · exact rowsDot_shape x y c c' n n' l m a w hS hA hB hl hm (by omega) (by omega) h

end Go.Proofs.YtmeaemjdmjhmdaaDoor
