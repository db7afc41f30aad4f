/- The program's Widen and Narrow. -/
import Derived.Test.YtijbjahedfmfgaaDoorPl
import Derived.Test.YtijbjahedfmfgaaDoorGf
namespace Go.Proofs.YtijbjahedfmfgaaDoor
open Go.RowKit
set_option linter.unusedVariables false

set_option maxHeartbeats 1000000 in
theorem enarrowed_any (p q p' q' : Int) (w : World) :
    Calls Tryd.prog 53 #[(Value.agg #[Value.int .i64 (p), Value.int .i64 (q)]), (Value.agg #[Value.int .i64 (p'), Value.int .i64 (q')])] w fun e w' => e = .returned (Value.agg #[Value.int .i64 (naL p p'), Value.int .i64 (naH q q')]) ∧ Below w.heap.size w w' := by
  by_cases h1 : p = -9223372036854775807 <;> by_cases h2 : q = 9223372036854775807
  all_goals
    go_enter Tryd.func53, Tryd.ntmps53
    go_wp2
    all_goals
      refine bodyPost_ret (v := (Value.agg #[Value.int .i64 (naL p p'), Value.int .i64 (naH q q')])) ?_ rfl ⟨rfl, ?_⟩
      · simp [results, Tryd.results53, go_sem, naL, naH, h1, h2]
      · (repeat' (first | exact Below.refl _ _ | refine Below.setCell ?_ (by first | (simp; done) | (simp; omega)) _ | refine Below.alloc ?_ (by first | (simp; done) | (simp; omega)) _ | refine Below.drew ?_))

theorem narrowed_enters : Enters 53 := enters_of Tryd.func53 (by rfl) (by rfl)

set_option maxRecDepth 20000 in
set_option maxHeartbeats 4000000 in
theorem narrow_is (a : Nat → Addr) : NarrowC a := by
  intro d u d' u' lo hi lo' hi' w hS _ _
  have e3 : w.cell? ⟨2, 0, none⟩ = some (.iface 112 (.pointer (some (a 3)))) := hS.cell 3 (by omega)
  have l3 : 2 < w.heap.size := World.block_lt_of_cell? w _ (hS.cell 3 (by omega))
  have HE3 := hide e3
  clear e3
  by_cases hE : twoErr ⟨d, u, lo, hi⟩ ⟨d', u', lo', hi'⟩ = 0
  · obtain ⟨kA, kB⟩ := (twoErr_ok _ _).1 hE
    obtain ⟨n1, n2⟩ := narrowed_told kA kB
    have hT := fun W h => tellSome_ok 53 d u d' u' lo hi lo' hi' _ _ a W h hE narrowed_enters (fun W => enarrowed_any _ _ _ _ W)
    rw [n2] at hT
    have hN : narErr ⟨d, u, lo, hi⟩ ⟨d', u', lo', hi'⟩ = if naH (eHi ⟨d, u, lo, hi⟩) (eHi ⟨d', u', lo', hi'⟩) < naL (eLo ⟨d, u, lo, hi⟩) (eLo ⟨d', u', lo', hi'⟩) then 4 else 0 := by
      unfold narErr; rw [if_pos hE]
      by_cases c : naH (eHi ⟨d, u, lo, hi⟩) (eHi ⟨d', u', lo', hi'⟩) < naL (eLo ⟨d, u, lo, hi⟩) (eLo ⟨d', u', lo', hi'⟩)
      · rw [if_pos c, if_pos (n1.1 c)]
      · rw [if_neg c, if_neg (fun h => c (n1.2 h))]
    rw [hN]
    clear hN n1 n2
    generalize naL (eLo ⟨d, u, lo, hi⟩) (eLo ⟨d', u', lo', hi'⟩) = z0 at *
    generalize naH (eHi ⟨d, u, lo, hi⟩) (eHi ⟨d', u', lo', hi'⟩) = z1 at *
    generalize narrowed ⟨d, u, lo, hi⟩ ⟨d', u', lo', hi'⟩ = t at *
    obtain ⟨td, tu, tl, th⟩ := t
    by_cases c : z1 < z0
    · rw [if_pos c]
      have hT' : ∀ W : World, ErrS W a → Calls Tryd.prog 40 #[(.agg #[.bool d, .bool u, .int .i64 lo, .int .i64 hi]), (.agg #[.bool d', .bool u', .int .i64 lo', .int .i64 hi']), .func (.func 53) #[] #[]] W fun e w' => e = .returned (.tuple #[(.agg #[.bool false, .bool false, .int .i64 0, .int .i64 0]), .bool false, .nilIface]) ∧ Below W.heap.size W w' := fun W h => by
        have := hT W h
        rw [if_pos c, decide_eq_false (show ¬ z0 ≤ z1 by omega)] at this
        exact this
      have HT := hide hT'
      clear hT hT' hE
      go_enter Tryd.func34, Tryd.ntmps34
      go_wp2_with fail
      have s0 := (((St.startE hS.errs).box4 23 (.bool d) (.bool u) (.int .i64 lo) (.int .i64 hi)).box4 23 (.bool d') (.bool u') (.int .i64 lo') (.int .i64 hi')).box4 23 (.bool false) (.bool false) (.int .i64 0) (.int .i64 0)
      simp only [allocSize] at s0
      refine (HT.out _ s0.errz).mono ?_
      rintro e w1 ⟨rfl, hb1⟩
      have s1 := s0.call hb1
      have q1 := s1.hold
      simp only [Holds, and_true] at q1
      have e3 : w1.cell? ⟨2, 0, none⟩ = some (.iface 112 (.pointer (some (a 3)))) := (s1.bel.cell (p := ⟨2, 0, none⟩) l3).trans HE3.out
      have l4 : 2 < w1.heap.size := World.block_lt_of_cell? w1 _ e3
      clear hb1 s0
      go_wp2_with fail
      refine bodyPost_ret (v := .tuple #[ivZ.v, .iface 112 (.pointer (some (a 3)))]) ?_ rfl ⟨rfl, ?_⟩
      · simp [results, Tryd.results34, go_sem, q1, ivZ, Iv.v]
      · (repeat' (first | exact s5.bel | exact s4.bel | exact s3.bel | exact s2.bel | exact s1.bel | refine Below.setCell ?_ (by dsimp only; omega) _ | refine Below.alloc ?_ (by first | (simp; done) | (simp; omega)) _ | refine Below.drew ?_ | exact Below.refl _ _))
    · rw [if_neg c]
      have hT' : ∀ W : World, ErrS W a → Calls Tryd.prog 40 #[(.agg #[.bool d, .bool u, .int .i64 lo, .int .i64 hi]), (.agg #[.bool d', .bool u', .int .i64 lo', .int .i64 hi']), .func (.func 53) #[] #[]] W fun e w' => e = .returned (.tuple #[(.agg #[.bool td, .bool tu, .int .i64 tl, .int .i64 th]), .bool true, .nilIface]) ∧ Below W.heap.size W w' := fun W h => by
        have := hT W h
        rw [if_neg c, decide_eq_true (show z0 ≤ z1 by omega)] at this
        exact this
      have HT := hide hT'
      clear hT hT' hE
      go_enter Tryd.func34, Tryd.ntmps34
      go_wp2_with fail
      have s0 := (((St.startE hS.errs).box4 23 (.bool d) (.bool u) (.int .i64 lo) (.int .i64 hi)).box4 23 (.bool d') (.bool u') (.int .i64 lo') (.int .i64 hi')).box4 23 (.bool false) (.bool false) (.int .i64 0) (.int .i64 0)
      simp only [allocSize] at s0
      refine (HT.out _ s0.errz).mono ?_
      rintro e w1 ⟨rfl, hb1⟩
      have s1 := s0.call hb1
      have q1 := s1.hold
      simp only [Holds, and_true] at q1
      clear hb1 s0
      go_wp2_with fail
      refine bodyPost_ret (v := .tuple #[(.agg #[.bool td, .bool tu, .int .i64 tl, .int .i64 th]), .nilIface]) ?_ rfl ⟨rfl, ?_⟩
      · simp [results, Tryd.results34, go_sem, q1]
      · (repeat' (first | exact s5.bel | exact s4.bel | exact s3.bel | exact s2.bel | exact s1.bel | refine Below.setCell ?_ (by dsimp only; omega) _ | refine Below.alloc ?_ (by first | (simp; done) | (simp; omega)) _ | refine Below.drew ?_ | exact Below.refl _ _))
  · have hT : ∀ W : World, ErrS W a → Calls Tryd.prog 40 #[(.agg #[.bool d, .bool u, .int .i64 lo, .int .i64 hi]), (.agg #[.bool d', .bool u', .int .i64 lo', .int .i64 hi']), .func (.func 53) #[] #[]] W fun e w' => e = .returned (.tuple #[(.agg #[.bool false, .bool false, .int .i64 0, .int .i64 0]), .bool false, errV a (twoErr ⟨d, u, lo, hi⟩ ⟨d', u', lo', hi'⟩)]) ∧ Below W.heap.size W w' := fun W h => tellSome_err _ d u d' u' lo hi lo' hi' a W h hE
    have hN : narErr ⟨d, u, lo, hi⟩ ⟨d', u', lo', hi'⟩ = twoErr ⟨d, u, lo, hi⟩ ⟨d', u', lo', hi'⟩ := by unfold narErr; rw [if_neg hE]
    rw [hN, if_neg hE]
    rw [errV_some hE] at hT ⊢
    have HT := hide hT
    clear hT hN
    generalize (twoErr ⟨d, u, lo, hi⟩ ⟨d', u', lo', hi'⟩).toNat - 1 = k at *
    go_enter Tryd.func34, Tryd.ntmps34
    go_wp2_with fail
    have s0 := (((St.startE hS.errs).box4 23 (.bool d) (.bool u) (.int .i64 lo) (.int .i64 hi)).box4 23 (.bool d') (.bool u') (.int .i64 lo') (.int .i64 hi')).box4 23 (.bool false) (.bool false) (.int .i64 0) (.int .i64 0)
    simp only [allocSize] at s0
    refine (HT.out _ s0.errz).mono ?_
    rintro e w1 ⟨rfl, hb1⟩
    have s1 := s0.call hb1
    have q1 := s1.hold
    simp only [Holds, and_true] at q1
    clear hb1 s0
    go_wp2_with fail
    refine bodyPost_ret (v := .tuple #[ivZ.v, .iface 112 (.pointer (some (a k)))]) ?_ rfl ⟨rfl, ?_⟩
    · simp [results, Tryd.results34, go_sem, q1, ivZ, Iv.v]
    · (repeat' (first | exact s5.bel | exact s4.bel | exact s3.bel | exact s2.bel | exact s1.bel | refine Below.setCell ?_ (by dsimp only; omega) _ | refine Below.alloc ?_ (by first | (simp; done) | (simp; omega)) _ | refine Below.drew ?_ | exact Below.refl _ _))

theorem anyFar_get (l : List Int) (k : Nat) (hk : k < l.length) (h : farB (l.getD k 0) 1099511627776 = true) : anyFar l = true := by
  unfold anyFar; rw [List.any_eq_true]
  exact ⟨l.getD k 0, by simp [hk], h⟩
theorem anyFar_succ (l : List Int) (k : Nat) (hk : k < l.length) (h0 : anyFar (l.take k) = false) (h : farB (l.getD k 0) 1099511627776 = false) : anyFar (l.take (k + 1)) = false := by
  rw [take_snoc_getD l k hk]; unfold anyFar at *; rw [List.any_append, h0, List.any_cons, h]; rfl

set_option maxHeartbeats 400000 in
theorem indexFar_none (x : Option Addr) (c : Nat) (w : World) :
    Calls Tryd.prog 65 #[.slice x 0 c, .func (.func 37) #[] #[]] w fun e w' => ∃ i : Int, e = .returned (.int .i64 i) ∧ decide (0 ≤ i) = false ∧ w' = w := by
  go_enter Tryd.func65, Tryd.ntmps65
  go_wp2_with fail
  refine wp_loop_rounds 1 ?_
  rw [rounds_succ]
  go_wp2_with fail
  go_ret
  exact ⟨-1, rfl, rfl, rfl⟩

set_option maxRecDepth 20000 in
set_option maxHeartbeats 1000000 in
theorem indexFar_some (b off c : Nat) (l : List Int) (n : Nat) (w : World) (hl : Hid (n = l.length)) (hb : b < w.heap.size) (hc : ∀ i, i < l.length → w.cell? ⟨b, off + i, none⟩ = some (.int .i64 (l.getD i 0))) (hn : n ≤ 1000) :
    Calls Tryd.prog 65 #[.slice (some ⟨b, off, none⟩) n c, .func (.func 37) #[] #[]] w fun e w' => ∃ i : Int, e = .returned (.int .i64 i) ∧ decide (0 ≤ i) = anyFar l ∧ w' = w := by
  have HC := hide hc
  clear hc
  go_enter Tryd.func65, Tryd.ntmps65
  go_wp2_with fail
  go_loop [8] (fun i => ∃ k : Nat, k ≤ n ∧ i = .int .i64 k ∧ anyFar (l.take k) = false) (fun i => n - (intOf i).toNat)
  case atStart => exact ⟨0, Nat.zero_le _, rfl, rfl⟩
  case round =>
    obtain ⟨k, hk, rfl, hL⟩ := hrel
    have HL := hide hL
    clear hL
    by_cases hlt : k < n
    · have hkl : k < l.length := by rw [← hl.out]; exact hlt
      obtain ⟨y, hye⟩ : ∃ y, y = l.getD k 0 := ⟨_, rfl⟩
      have hcx : w.cell? ⟨b, off + k, none⟩ = some (.int .i64 y) := by rw [hye]; exact HC.out k hkl
      have Hy := hide hye
      clear hye
      cases hg : farB y 1099511627776
      · have hF := hide (fun W => pfar_any y W)
        rw [hg] at hF
        have HG := hide hg
        clear hg
        go_wp2_with fail
        refine (hF.out _).mono ?_
        rintro e w' ⟨rfl, hw⟩
        rw [hw]
        go_wp2_with fail
        go_round
        case rel => exact ⟨k + 1, by omega, by go_num, anyFar_succ l k hkl HL.out (by rw [← Hy.out]; exact HG.out)⟩
        case measure => simp [intOf]; omega
      · have hF := hide (fun W => pfar_any y W)
        rw [hg] at hF
        have HG := hide hg
        clear hg
        go_wp2_with fail
        refine (hF.out _).mono ?_
        rintro e w' ⟨rfl, hw⟩
        rw [hw]
        go_wp2_with fail
        go_ret
        exact ⟨k, rfl, by rw [anyFar_get l k hkl (by rw [← Hy.out]; exact HG.out)]; simp, rfl⟩
    · have hke : Hid (l.take k = l) := List.take_of_length_le (by rw [← hl.out]; omega)
      go_wp2_with fail
      go_ret
      exact ⟨-1, rfl, by rw [← hke.out, HL.out]; rfl, rfl⟩

theorem indexFar_any (x : Option Addr) (c : Nat) (l : List Int) (n : Nat) (w : World) (hA : IntsAt w x l) (hl : Hid (n = l.length)) (hn : n ≤ 1000) :
    Calls Tryd.prog 65 #[.slice x n c, .func (.func 37) #[] #[]] w fun e w' => ∃ i : Int, e = .returned (.int .i64 i) ∧ decide (0 ≤ i) = anyFar l ∧ w' = w := by
  rcases hA with rfl | ⟨b, off, rfl, hb, hc⟩
  · have h := hl.out
    subst h
    exact indexFar_none x c w
  · exact indexFar_some b off c l n w hl hb hc hn

set_option maxHeartbeats 400000 in
theorem containsFar_any (x : Option Addr) (c : Nat) (l : List Int) (n : Nat) (w : World) (hA : IntsAt w x l) (hl : Hid (n = l.length)) (hn : n ≤ 1000) :
    Calls Tryd.prog 50 #[.slice x n c, .func (.func 37) #[] #[]] w fun e w' => e = .returned (.bool (anyFar l)) ∧ w' = w := by
  go_enter Tryd.func50, Tryd.ntmps50
  go_wp2_with fail
  refine (indexFar_any x c l n _ hA hl hn).mono ?_
  rintro e w1 ⟨i, rfl, hi, rfl⟩
  have HI := hide hi
  clear hi
  go_wp2_with fail
  go_ret
  exact ⟨ret_bool (by rw [← HI.out]), rfl⟩

set_option maxRecDepth 20000 in
set_option maxHeartbeats 4000000 in
theorem ewidened_any (p q p' q' : Int) (x : Option Addr) (n c : Nat) (l : List Int) (w : World) (hA : Hid (IntsAt w x l)) (hl : Hid (n = l.length)) (hn : n ≤ 1000) :
    Calls Tryd.prog 51 #[(Value.agg #[Value.int .i64 (p), Value.int .i64 (q)]), (Value.agg #[Value.int .i64 (p'), Value.int .i64 (q')]), .slice x n c] w fun e w' => e = .returned (Value.agg #[Value.int .i64 (wdL p p' l), Value.int .i64 (wdH q q' l)]) ∧ Below w.heap.size w w' := by
  go_enter Tryd.func51, Tryd.ntmps51
  go_wp2_with fail
  go_loop [7, 8, 13] (fun lo hi i => ∃ k : Nat, k ≤ n ∧ i = .int .i64 k ∧ lo = .int .i64 (lowOf (l.take k) p') ∧ hi = .int .i64 (highOf (l.take k) q')) (fun _ _ i => n - (intOf i).toNat)
  case atStart => exact ⟨0, Nat.zero_le _, rfl, rfl, rfl⟩
  case round =>
    obtain ⟨k, hk, rfl, rfl, rfl⟩ := hrel
    by_cases hlt : k < n
    · have hkl : k < l.length := by rw [← hl.out]; exact hlt
      obtain ⟨y, hye⟩ : ∃ y, y = l.getD k 0 := ⟨_, rfl⟩
      obtain ⟨b, off, rfl, hc⟩ := hA.out.get k hkl y hye
      have hb : b < w.heap.size := World.block_lt_of_cell? w _ hc
      have hb1 : b < w.heap.size + 1 := by omega
      have hb2 : b < w.heap.size + 1 + 1 := by omega
      have HL : Hid (lowOf (l.take (k + 1)) p' = lowStep p' (lowOf (l.take k) p') y) := by unfold Hid; rw [take_snoc_getD l k hkl, lowOf_snoc, ← hye]
      have HH : Hid (highOf (l.take (k + 1)) q' = highStep q' (highOf (l.take k) q') y) := by unfold Hid; rw [take_snoc_getD l k hkl, highOf_snoc, ← hye]
      clear hye hkl
      generalize lowOf (l.take k) p' = L0 at *
      generalize highOf (l.take k) q' = H0 at *
      by_cases c1 : y ≤ p' <;> by_cases c2 : q' ≤ y <;> by_cases c3 : L0 < y <;> by_cases c4 : y < H0
      all_goals
        go_wp2_with fail
      all_goals
        go_round
        case rel => exact ⟨k + 1, by omega, by go_num, congrArg (Value.int .i64) (by rw [HL.out]; unfold lowStep; split <;> omega), congrArg (Value.int .i64) (by rw [HH.out]; unfold highStep; split <;> omega)⟩
        case measure => simp [intOf]; omega
    · have hke : Hid (l.take k = l) := List.take_of_length_le (by rw [← hl.out]; omega)
      rw [hke.out]
      by_cases c1 : p' < p <;> by_cases c2 : q < q'
      all_goals
        go_wp2_with fail
        refine bodyPost_ret (v := (Value.agg #[Value.int .i64 (wdL p p' l), Value.int .i64 (wdH q q' l)])) ?_ rfl ⟨rfl, ?_⟩
        · simp [results, Tryd.results51, go_sem, wdL, wdH, c1, c2]
          try (intros; omega)
        · (repeat' (first | exact Below.refl _ _ | refine Below.setCell ?_ (by first | (simp; done) | (simp; omega)) _ | refine Below.alloc ?_ (by first | (simp; done) | (simp; omega)) _ | refine Below.drew ?_))

theorem near_of {l : List Int} (h : anyFar l = false) : ∀ s ∈ l, -1099511627776 ≤ s ∧ s ≤ 1099511627776 := by
  intro s hs
  unfold anyFar at h
  rw [List.any_eq_false] at h
  have := h s hs
  simp [farB] at this
  omega

set_option maxRecDepth 20000 in
set_option maxHeartbeats 4000000 in
theorem widen_is (a : Nat → Addr) : WidenC a := by
  intro d u d' u' lo hi lo' hi' x n c l w hS _ _ hA hl hn _
  have HA := hide hA
  have HL := hide hl
  have e1 : w.cell? ⟨1, 0, none⟩ = some (.iface 112 (.pointer (some (a 1)))) := hS.1
  have l1 : 1 < w.heap.size := World.block_lt_of_cell? w _ hS.1
  have HE1 := hide e1
  have sw : St w w (Both (EZ a) (IZ x l)) [] := (St.startE hS).both hA (St.startI hA).cl
  clear hA hl e1
  by_cases hE : twoErr ⟨d, u, lo, hi⟩ ⟨d', u', lo', hi'⟩ = 0
  · obtain ⟨kA, kB⟩ := (twoErr_ok _ _).1 hE
    have hW : widErr ⟨d, u, lo, hi⟩ ⟨d', u', lo', hi'⟩ l = if 20 < n ∨ anyFar l = true then 2 else 0 := by unfold widErr; rw [if_pos hE, ← HL.out]
    have HB := hide (fun W h => both_ok d u d' u' lo hi lo' hi' a W h hE)
    have hwid := fun hl => isWid_of kA kB (l := l) hl
    have hEW := fun W hI => ewidened_any (eLo ⟨d, u, lo, hi⟩) (eHi ⟨d, u, lo, hi⟩) (eLo ⟨d', u', lo', hi'⟩) (eHi ⟨d', u', lo', hi'⟩) x n c l W hI HL hn
    rw [hW]
    clear hW kA kB hE
    generalize wdL (eLo ⟨d, u, lo, hi⟩) (eLo ⟨d', u', lo', hi'⟩) l = z0 at *
    generalize wdH (eHi ⟨d, u, lo, hi⟩) (eHi ⟨d', u', lo', hi'⟩) l = z1 at *
    generalize eLo ⟨d, u, lo, hi⟩ = x0 at *
    generalize eHi ⟨d, u, lo, hi⟩ = x1 at *
    generalize eLo ⟨d', u', lo', hi'⟩ = y0 at *
    generalize eHi ⟨d', u', lo', hi'⟩ = y1 at *
    have HEW := hide hEW
    have HWID := hide hwid
    clear hEW hwid
    have HCF := hide (fun W hI => containsFar_any x c l n W hI HL hn)
    by_cases h20 : 20 < n
    · rw [if_pos (.inl h20)]
      go_enter Tryd.func32, Tryd.ntmps32
      go_wp2_with fail
      have s0 := ((sw.box4 23 (.bool d) (.bool u) (.int .i64 lo) (.int .i64 hi)).box4 23 (.bool d') (.bool u') (.int .i64 lo') (.int .i64 hi')).box4 23 (.bool false) (.bool false) (.int .i64 0) (.int .i64 0)
      simp only [allocSize] at s0
      refine (HB.out _ s0.sent.1).mono ?_
      rintro e w1 ⟨rfl, hb1⟩
      have s1 := (s0.call hb1).take 4
      simp only [List.take] at s1
      have q1 := s1.hold
      simp only [Holds, and_true] at q1
      clear hb1 s0
      have e1 : w1.cell? ⟨1, 0, none⟩ = some (.iface 112 (.pointer (some (a 1)))) := (s1.bel.cell (p := ⟨1, 0, none⟩) l1).trans HE1.out
      have l4 : 1 < w1.heap.size := World.block_lt_of_cell? w1 _ e1
      have l5 : 1 < w1.heap.size + 1 := by omega
      have lq : w.heap.size + 1 + 1 < w1.heap.size + 1 := by have := q1.1.2.1; omega
      go_wp2_with fail
      go_region
      all_goals
        go_wp2_with fail
        refine bodyPost_ret (v := .tuple #[ivZ.v, .iface 112 (.pointer (some (a 1)))]) ?_ rfl ⟨⟨ivZ, rfl, fun h => absurd h (by decide), fun _ => rfl⟩, ?_⟩
        · simp [results, Tryd.results32, go_sem, q1, lq, ivZ, Iv.v]
        · (repeat' (first | exact s5.bel | exact s4.bel | exact s3.bel | exact s2.bel | exact s1.bel | refine Below.setCell ?_ (by dsimp only; omega) _ | refine Below.alloc ?_ (by first | (simp; done) | (simp; omega)) _ | refine Below.drew ?_ | exact Below.refl _ _))
    · cases hf : anyFar l
      · rw [if_neg (by rw [hf] at *; simp; omega)]
        have hwid := HWID.out (near_of hf)
        rw [hf] at HCF
        have hT : ∀ W : World, Calls Tryd.prog 52 #[(Value.agg #[Value.int .i64 (z0), Value.int .i64 (z1)])] W fun e w' => e = .returned (told z0 z1).v ∧ Below W.heap.size W w' := fun W => told_any z0 z1 W
        generalize told z0 z1 = t at *
        obtain ⟨td, tu, tl, th⟩ := t
        have HT := hide (show ∀ W : World, Calls Tryd.prog 52 #[(Value.agg #[Value.int .i64 (z0), Value.int .i64 (z1)])] W fun e w' => e = .returned (.agg #[.bool td, .bool tu, .int .i64 tl, .int .i64 th]) ∧ Below W.heap.size W w' from hT)
        have HWI := hide hwid
        clear hT hwid HWID hf
        go_enter Tryd.func32, Tryd.ntmps32
        go_wp2_with fail
        have s0 := ((sw.box4 23 (.bool d) (.bool u) (.int .i64 lo) (.int .i64 hi)).box4 23 (.bool d') (.bool u') (.int .i64 lo') (.int .i64 hi')).box4 23 (.bool false) (.bool false) (.int .i64 0) (.int .i64 0)
        simp only [allocSize] at s0
        refine (HB.out _ s0.sent.1).mono ?_
        rintro e w1 ⟨rfl, hb1⟩
        have s1 := (s0.call hb1).take 4
        simp only [List.take] at s1
        have q1 := s1.hold
        simp only [Holds, and_true] at q1
        clear hb1 s0
        have e1 : w1.cell? ⟨1, 0, none⟩ = some (.iface 112 (.pointer (some (a 1)))) := (s1.bel.cell (p := ⟨1, 0, none⟩) l1).trans HE1.out
        have l4 : 1 < w1.heap.size := World.block_lt_of_cell? w1 _ e1
        have l5 : 1 < w1.heap.size + 1 := by omega
        have lq : w.heap.size + 1 + 1 < w1.heap.size + 1 := by have := q1.1.2.1; omega
        go_wp2_with fail
        refine (HCF.out _ ((s1.alloc _).alloc _).sent.2).mono ?_
        rintro e w' ⟨rfl, hw⟩
        rw [hw]
        clear hw w'
        go_wp2_with fail
        have s2 := (s1.alloc (.cells #[.int .i64 x0, .int .i64 x1] 61)).alloc (.cells #[.int .i64 y0, .int .i64 y1] 61)
        refine (HEW.out _ s2.sent.2).mono ?_
        rintro e w2 ⟨rfl, hb2⟩
        have s3 := s2.call hb2
        clear hb2 s2 s1 q1 e1 l4 l5 lq
        go_wp2_with fail
        refine (HT.out _).mono ?_
        rintro e w3 ⟨rfl, hb3⟩
        have s4 := s3.call hb3
        clear hb3 s3
        have q4 := s4.hold
        simp only [Holds, and_true] at q4
        go_wp2_with fail
        refine bodyPost_ret (v := .tuple #[(.agg #[.bool td, .bool tu, .int .i64 tl, .int .i64 th]), .nilIface]) ?_ rfl ⟨⟨⟨td, tu, tl, th⟩, rfl, fun _ => HWI.out, fun h => absurd rfl h⟩, ?_⟩
        · simp [results, Tryd.results32, go_sem, q4]
        · (repeat' (first | exact s5.bel | exact s4.bel | exact s3.bel | exact s2.bel | exact s1.bel | refine Below.setCell ?_ (by dsimp only; omega) _ | refine Below.alloc ?_ (by first | (simp; done) | (simp; omega)) _ | refine Below.drew ?_ | exact Below.refl _ _))
      · rw [if_pos (.inr rfl)]
        rw [hf] at HCF
        clear hf HWID
        go_enter Tryd.func32, Tryd.ntmps32
        go_wp2_with fail
        have s0 := ((sw.box4 23 (.bool d) (.bool u) (.int .i64 lo) (.int .i64 hi)).box4 23 (.bool d') (.bool u') (.int .i64 lo') (.int .i64 hi')).box4 23 (.bool false) (.bool false) (.int .i64 0) (.int .i64 0)
        simp only [allocSize] at s0
        refine (HB.out _ s0.sent.1).mono ?_
        rintro e w1 ⟨rfl, hb1⟩
        have s1 := (s0.call hb1).take 4
        simp only [List.take] at s1
        have q1 := s1.hold
        simp only [Holds, and_true] at q1
        clear hb1 s0
        have e1 : w1.cell? ⟨1, 0, none⟩ = some (.iface 112 (.pointer (some (a 1)))) := (s1.bel.cell (p := ⟨1, 0, none⟩) l1).trans HE1.out
        have l4 : 1 < w1.heap.size := World.block_lt_of_cell? w1 _ e1
        have l5 : 1 < w1.heap.size + 1 := by omega
        have lq : w.heap.size + 1 + 1 < w1.heap.size + 1 := by have := q1.1.2.1; omega
        go_wp2_with fail
        refine (HCF.out _ ((s1.alloc _).alloc _).sent.2).mono ?_
        rintro e w' ⟨rfl, hw⟩
        rw [hw]
        clear hw w'
        go_wp2_with fail
        go_region
        all_goals
          go_wp2_with fail
          refine bodyPost_ret (v := .tuple #[ivZ.v, .iface 112 (.pointer (some (a 1)))]) ?_ rfl ⟨⟨ivZ, rfl, fun h => absurd h (by decide), fun _ => rfl⟩, ?_⟩
          · simp [results, Tryd.results32, go_sem, q1, lq, ivZ, Iv.v]
          · (repeat' (first | exact s5.bel | exact s4.bel | exact s3.bel | exact s2.bel | exact s1.bel | refine Below.setCell ?_ (by dsimp only; omega) _ | refine Below.alloc ?_ (by first | (simp; done) | (simp; omega)) _ | refine Below.drew ?_ | exact Below.refl _ _))
  · have hW : widErr ⟨d, u, lo, hi⟩ ⟨d', u', lo', hi'⟩ l = twoErr ⟨d, u, lo, hi⟩ ⟨d', u', lo', hi'⟩ := by unfold widErr; rw [if_neg hE]
    rw [hW]
    have HB := hide (fun W h => both_err d u d' u' lo hi lo' hi' a W h hE)
    have hiff : ∀ z : Iv, (twoErr ⟨d, u, lo, hi⟩ ⟨d', u', lo', hi'⟩ = 0 → IsWid ⟨d, u, lo, hi⟩ ⟨d', u', lo', hi'⟩ l z) := fun z h => absurd h hE
    rw [errV_some hE] at HB ⊢
    have HI := hide hiff
    clear hW hiff
    go_enter Tryd.func32, Tryd.ntmps32
    go_wp2_with fail
    have s0 := ((sw.box4 23 (.bool d) (.bool u) (.int .i64 lo) (.int .i64 hi)).box4 23 (.bool d') (.bool u') (.int .i64 lo') (.int .i64 hi')).box4 23 (.bool false) (.bool false) (.int .i64 0) (.int .i64 0)
    simp only [allocSize] at s0
    refine (HB.out _ s0.sent.1).mono ?_
    rintro e w1 ⟨rfl, hb1⟩
    have s1 := (s0.call hb1).take 4
    simp only [List.take] at s1
    have q1 := s1.hold
    simp only [Holds, and_true] at q1
    clear hb1 s0
    have lq : w.heap.size + 1 + 1 < w1.heap.size + 1 := by have := q1.1.2.1; omega
    go_wp2_with fail
    refine bodyPost_ret (v := .tuple #[ivZ.v, .iface 112 (.pointer (some (a ((twoErr ⟨d, u, lo, hi⟩ ⟨d', u', lo', hi'⟩).toNat - 1))))]) ?_ rfl ⟨⟨ivZ, rfl, HI.out _, fun _ => rfl⟩, ?_⟩
    · simp [results, Tryd.results32, go_sem, q1, lq, ivZ, Iv.v]
    · (repeat' (first | exact s5.bel | exact s4.bel | exact s3.bel | exact s2.bel | exact s1.bel | refine Below.setCell ?_ (by dsimp only; omega) _ | refine Below.alloc ?_ (by first | (simp; done) | (simp; omega)) _ | refine Below.drew ?_ | exact Below.refl _ _))

end Go.Proofs.YtijbjahedfmfgaaDoor
