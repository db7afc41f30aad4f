/- Octagons: the reference's errors. -/
import Derived.Test.YtofjjaabgfmnpaaDoorOm
import Derived.Test.YtofjjaabgfmnpaaDoorZo
import Derived.Test.YtofjjaabgfmnpaaDoorYe
namespace Go.Proofs.YtofjjaabgfmnpaaDoor
open Go.RowKit
set_option linter.unusedVariables false

set_option maxRecDepth 20000 in
set_option maxHeartbeats 4000000 in
theorem octError_row (N : Int) (n b off c len : Nat) (l : List Ce) (w : World) (hR : RowC w b off l) (hl : Hid (len = l.length)) (hll : Hid (len = n * n)) (hn : n % 2 = 0 ∧ n ≤ 8) (hN : 2 * N = n) (hc0 : Hid (celErr N l (4 * N * N) = 0)) :
    Calls Tryd.prog 14 #[(.agg #[.int .i64 N, (.slice (some ⟨b, off, none⟩) len c)])] w fun e w' => e = .returned (.int .i64 (if cohP n l then 0 else 7)) ∧ Below w.heap.size w w' := by
  have s0 := (⟨Below.refl _ _, trivial, hR, fun _ _ q hb => RowC.stays hR.lt q hb⟩ : St w w (fun W => RowC W b off l) []).box2 24 (.int .i64 N) (.slice (some ⟨b, off, none⟩) len c)
  have q0 := s0.hold
  simp only [Holds, and_true] at q0
  have hlen : len ≤ 64 := by
    have := hll.out
    have h1 := Nat.mul_le_mul hn.2 hn.2
    omega
  have hN1 : (2 : Int) * N = (n : Int) := hN
  obtain ⟨q4, h4⟩ : ∃ q, (4 : Int) * N = q := ⟨_, rfl⟩
  obtain ⟨wt, hwt⟩ : ∃ q, q4 * N = q := ⟨_, rfl⟩
  have hwb : -1000 ≤ wt ∧ wt ≤ 1000 := by
    rcases (by omega : N = 0 ∨ N = 1 ∨ N = 2 ∨ N = 3 ∨ N = 4) with rfl | rfl | rfl | rfl | rfl <;> omega
  have hqb : 0 ≤ q4 ∧ q4 ≤ 16 := by omega
  have HC : Hid (∀ W : World, RowC W b off l → Calls Tryd.prog 45 #[.int .i64 N, .slice (some ⟨b, off, none⟩) len c, .int .i64 wt] W fun e w' => e = .returned (.int .i64 0) ∧ w' = W) := by
    intro W h
    have := cellsError_any N wt (some ⟨b, off, none⟩) c len l W (.inr ⟨b, off, rfl, h⟩) hl (by omega)
    rw [← hwt, ← h4, hc0.out] at this
    rw [← hwt, ← h4]
    exact this
  obtain ⟨r, hr⟩ : ∃ r : Int, r = if cohP n l then 0 else 7 := ⟨_, rfl⟩
  rw [← hr]
  have Hr := hide hr
  have HO : Hid (∀ (W : World) (k : Nat), k < n → Calls Tryd.prog 46 #[.int .i64 k] W fun e w' => e = .returned (.int .i64 (bar k)) ∧ w' = W) := fun W k hk => other_any k (by omega) W
  obtain ⟨B, hB⟩ : ∃ B, B = bar := ⟨_, rfl⟩
  have HB : Hid (∀ k, k < n → B k < n) := fun k hk => by rw [hB]; exact bar_lt hn.1 hk
  have HBe := hide hB
  rw [← hB] at HO
  clear hR hr hB hc0
  go_enter Tryd.func14, Tryd.ntmps14
  go_wp2_with fail
  refine (HC.out _ s0.sent).mono ?_
  rintro e w1 ⟨rfl, hw1⟩
  rw [hw1]
  clear hw1 w1 HC
  go_wp2_with fail
  go_loopg [5] n (fun gh iv wr => ∃ i : Nat, i + gh = n ∧ iv = .int .i64 i ∧ Hid (∀ i', i' < i → ∀ j, j < n → l.getD (i' * n + j) ceZ = l.getD (B j * n + B i') ceZ) ∧ St w wr (fun W => RowC W b off l) [(w.heap.size, 0, Value.int .i64 N), (w.heap.size, 1, Value.slice (some ⟨b, off, none⟩) len c)])
  case atStart => exact ⟨0, by omega, rfl, fun i' h => by omega, s0⟩
  case round =>
    clear s0 q0
    obtain ⟨i, hig, rfl, HI, st⟩ := hrel
    have qs := st.hold
    simp only [Holds, and_true] at qs
    by_cases hi : i < n
    · have hi' : (i : Int) < (n : Int) := by omega
      go_wp2_with fail
      go_loopg [6] n (fun gh jv wr => ∃ j : Nat, j + gh = n ∧ jv = .int .i64 j ∧ Hid (∀ j', j' < j → l.getD (i * n + j') ceZ = l.getD (B j' * n + B i) ceZ) ∧ St w wr (fun W => RowC W b off l) [(w.heap.size, 0, Value.int .i64 N), (w.heap.size, 1, Value.slice (some ⟨b, off, none⟩) len c)])
      case atStart => exact ⟨0, by omega, rfl, fun j' h => by omega, st⟩
      case round =>
        clear st qs
        obtain ⟨j, hjg, rfl, HJ, st⟩ := hrel
        have qs := st.hold
        simp only [Holds, and_true] at qs
        by_cases hj : j < n
        · have hj' : (j : Int) < (n : Int) := by omega
          obtain ⟨ik, x1, a1, a2, a3, a4, a5⟩ := idx_fact hll.out hi hj
          obtain ⟨jk, x2, b1, b2, b3, b4, b5⟩ := idx_fact hll.out (HB.out j hj) (HB.out i hi)
          have HO1 : Hid (∀ (W : World), Calls Tryd.prog 46 #[.int .i64 j] W fun e w' => e = .returned (.int .i64 (B j)) ∧ w' = W) := fun W => HO.out W j hj
          have HO2 : Hid (∀ (W : World), Calls Tryd.prog 46 #[.int .i64 i] W fun e w' => e = .returned (.int .i64 (B i)) ∧ w' = W) := fun W => HO.out W i hi
          have HOk : Hid (∀ (W : World) (k : Nat), k = i ∨ k = j → Calls Tryd.prog 46 #[.int .i64 k] W fun e w' => e = .returned (.int .i64 (B k)) ∧ w' = W) := fun W k hk => HO.out W k (by rcases hk with rfl | rfl <;> assumption)
          have R := st.sent
          have hlt := R.lt
          obtain ⟨⟨h1, m1⟩, e1⟩ : ∃ C, C = l.getD x1 ceZ := ⟨_, rfl⟩
          obtain ⟨⟨h2, m2⟩, e2⟩ : ∃ C, C = l.getD x2 ceZ := ⟨_, rfl⟩
          have c1 := R.has x1 (by rw [← hl.out]; exact a3)
          have c2 := R.most x1 (by rw [← hl.out]; exact a3)
          have c3 := R.has x2 (by rw [← hl.out]; exact b3)
          have c4 := R.most x2 (by rw [← hl.out]; exact b3)
          rw [← e1] at c1 c2
          rw [← e2] at c3 c4
          obtain ⟨q, hq⟩ : ∃ q, q = (decide (h1 = h2) && decide (m1 = m2)) := ⟨_, rfl⟩
          have hE : ∀ W : World, (binOp .neq 69 (Value.agg #[.bool h1, .int .i64 m1]) (Value.agg #[.bool h2, .int .i64 m2])).run Tryd.prog W = .ok (.bool (!q)) W := fun W => by rw [hq]; exact neCe h1 m1 h2 m2 W
          have Hq : Hid (q = true ↔ l.getD (i * n + j) ceZ = l.getD (B j * n + B i) ceZ) := by
            show _ ↔ _
            rw [hq, ← a5, ← b5, ← e1, ← e2]
            simp
          clear R e1 e2 hq a5 b5
          cases q
          · go_wp2_with fail
            go_quiet (first | (go_at_call 46; exact Calls.quiet_of_same (HOk.out _ _ (by first | exact .inl rfl | exact .inr rfl))))
            go_wp2_with fail
            go_ret
            have er : r = 7 := by
              rw [Hr.out, if_neg]
              intro h
              have := h i hi j hj
              rw [← HBe.out] at this
              have := Hq.out.2 this
              cases this
            exact ⟨by rw [er]; rfl, belowM st.bel _⟩
          · go_wp2_with fail
            go_quiet (first | (go_at_call 46; exact Calls.quiet_of_same (HOk.out _ _ (by first | exact .inl rfl | exact .inr rfl))))
            go_wp2_with fail
            go_roundg (n - (j + 1))
            case measure => omega
            case rel =>
              refine ⟨j + 1, by omega, by go_num, fun j' h => ?_, st.call (belowM (Below.refl _ _) nq)⟩
              by_cases e : j' = j
              · subst e; exact Hq.out.1 (by trivial)
              · exact HJ.out j' (by omega)
        · have hje : j = n := by omega
          have hj' : ¬ (j : Int) < (n : Int) := by omega
          go_wp2_with fail
          go_roundg (n - (i + 1))
          case measure => omega
          case rel =>
            refine ⟨i + 1, by omega, by go_num, fun i' h j' hj2 => ?_, st⟩
            by_cases e : i' = i
            · subst e; exact HJ.out j' (by omega)
            · exact HI.out i' (by omega) j' hj2
    · have hie : i = n := by omega
      have hi' : ¬ (i : Int) < (n : Int) := by omega
      go_wp2_with fail
      go_ret
      have er : r = 0 := by
        rw [Hr.out, if_pos]
        intro i' h' j' hj2
        rw [← HBe.out]
        exact HI.out i' (by omega) j' hj2
      exact ⟨by rw [er]; rfl, st.bel⟩


theorem zErr_split (N : Int) (l : List Ce) : zErr N l = if celErr N l (4 * N * N) = 0 then (if cohP (2 * N).toNat l then 0 else 7) else celErr N l (4 * N * N) := by
  unfold zErr
  by_cases h : celErr N l (4 * N * N) = 0
  · simp [h]
  · simp [h]
theorem celErr_rng (N : Int) (l : List Ce) (wt : Int) : 0 ≤ celErr N l wt ∧ celErr N l wt ≤ 8 := by
  unfold celErr
  split
  · omega
  · split
    · omega
    · split
      · omega
      · split <;> omega
theorem zErr_rngO (N : Int) (l : List Ce) : 0 ≤ zErr N l ∧ zErr N l ≤ 8 := by
  have := celErr_rng N l (4 * N * N)
  rw [zErr_split]
  split
  · split <;> omega
  · exact this
theorem celErr_anyO (N : Int) (l : List Ce) (a b : Int) (h : 0 ≤ N → N ≤ 4 → a = b) : celErr N l a = celErr N l b := by
  unfold celErr
  by_cases e : N < 0 ∨ 4 < N
  · rw [if_pos e, if_pos e]
  · rw [if_neg e, if_neg e, h (by omega) (by omega)]
set_option maxRecDepth 20000 in
set_option maxHeartbeats 2000000 in
theorem octError_any (Ni : Int) (x : Option Addr) (c n : Nat) (l : List Ce) (w : World) (hN : -9223372036854775808 ≤ Ni ∧ Ni ≤ 9223372036854775807) (hA : CsAt w x l) (hl : Hid (n = l.length)) (hn : n ≤ 1000) :
    Calls Tryd.prog 14 #[(.agg #[.int .i64 Ni, (.slice x n c)])] w fun e w' => e = .returned (.int .i64 (zErr Ni l)) ∧ Below w.heap.size w w' := by
  obtain ⟨r, hr⟩ : ∃ r, r = celErr Ni l (4 * Ni * Ni) := ⟨_, rfl⟩
  by_cases h0 : r = 0
  · have hc : celErr Ni l (4 * Ni * Ni) = 0 := by rw [← hr]; exact h0
    have hb : 0 ≤ Ni ∧ Ni ≤ 4 ∧ (n : Int) = 4 * Ni * Ni := by
      unfold celErr at hc
      split at hc
      · omega
      · split at hc
        · omega
        · rename_i h1 h2
          rw [← hl.out] at h2
          exact ⟨by omega, by omega, by omega⟩
    have e0 : zErr Ni l = if cohP (2 * Ni).toNat l then 0 else 7 := by rw [zErr_split, if_pos hc]
    rw [e0]
    have hnn : n = (2 * Ni).toNat * (2 * Ni).toNat := by
      rcases (by omega : Ni = 0 ∨ Ni = 1 ∨ Ni = 2 ∨ Ni = 3 ∨ Ni = 4) with rfl | rfl | rfl | rfl | rfl <;> simp at hb ⊢ <;> omega
    by_cases hz : Ni = 0
    · subst hz
      obtain rfl : n = 0 := hnn
      rw [if_pos (show cohP (2 * (0 : Int)).toNat l from fun i hi => by simp at hi)]
      have HC : Hid (∀ W : World, CsAt W x l → Calls Tryd.prog 45 #[.int .i64 0, .slice x 0 c, .int .i64 0] W fun e w' => e = .returned (.int .i64 0) ∧ w' = W) := fun W h => by
        have := cellsError_any 0 0 x c 0 l W h hl (by omega)
        rw [show celErr 0 l 0 = 0 from hc] at this
        exact this
      have hb' : Below w.heap.size w (w.alloc (.cells #[.int .i64 0, .slice x 0 c] 24)) := (Below.refl _ _).alloc (Nat.le_refl _) _
      have hA1 := hA.below hb'
      clear hA hc hb hr h0 e0
      go_enter Tryd.func14, Tryd.ntmps14
      go_wp2_with fail
      refine (HC.out _ hA1).mono ?_
      rintro e w1 ⟨rfl, hw1⟩
      rw [hw1]
      go_wp2_with fail
      refine wp_loop_rounds 1 ?_
      rw [rounds_succ]
      go_wp2_with fail
      go_ret
      exact ⟨rfl, hb'⟩
    · obtain ⟨b, off, rfl, hR⟩ := row_of hA (by rw [← hl.out, hnn]; exact Nat.mul_le_mul (show 1 ≤ (2 * Ni).toNat by omega) (show 1 ≤ (2 * Ni).toNat by omega))
      exact octError_row Ni (2 * Ni).toNat b off c n l w hR hl hnn ⟨by omega, by omega⟩ (by omega) hc
  · have e0 : zErr Ni l = r := by rw [zErr_split, ← hr, if_neg h0]
    rw [e0]
    have hrg := celErr_rng Ni l (4 * Ni * Ni)
    rw [← hr] at hrg
    have hrp : 0 < r := by omega
    have HC : Hid (∀ (W : World) (want : Int), (0 ≤ Ni → Ni ≤ 4 → want = 4 * Ni * Ni) → CsAt W x l → Calls Tryd.prog 45 #[.int .i64 Ni, .slice x n c, .int .i64 want] W fun e w' => e = .returned (.int .i64 r) ∧ w' = W) := by
      intro W want hw h
      have := cellsError_any Ni want x c n l W h hl hn
      rw [celErr_anyO Ni l want (4 * Ni * Ni) hw] at this
      rw [hr]; exact this
    have hb : Below w.heap.size w (w.alloc (.cells #[.int .i64 Ni, .slice x n c] 24)) := (Below.refl _ _).alloc (Nat.le_refl _) _
    have hA1 := hA.below hb
    clear hA hr h0 e0 hrg
    by_cases hr : 0 ≤ Ni ∧ Ni ≤ 4
    · rcases (by omega : Ni = 0 ∨ Ni = 1 ∨ Ni = 2 ∨ Ni = 3 ∨ Ni = 4) with rfl | rfl | rfl | rfl | rfl
      all_goals
        go_enter Tryd.func14, Tryd.ntmps14
        go_wp2_with fail
        refine (HC.out _ _ (by intro _ _; rfl) hA1).mono ?_
        rintro e w1 ⟨rfl, hw1⟩
        rw [hw1]
        go_wp2_with fail
        go_ret
        exact ⟨rfl, hb⟩
    · go_enter Tryd.func14, Tryd.ntmps14
      go_wp2_with fail
      refine (HC.out _ _ (by intro h1 h2; exact absurd ⟨h1, h2⟩ hr) hA1).mono ?_
      rintro e w1 ⟨rfl, hw1⟩
      rw [hw1]
      go_wp2_with fail
      go_ret
      exact ⟨rfl, hb⟩

def twoO (N : Int) (l : List Ce) (M : Int) (m : List Ce) : Int := if zErr N l = 0 then (if zErr M m = 0 then (if N = M then 0 else 3) else zErr M m) else zErr N l
theorem twoO_range (N : Int) (l : List Ce) (M : Int) (m : List Ce) : 0 ≤ twoO N l M m ∧ twoO N l M m ≤ 8 := by
  have h1 := zErr_rngO N l
  have h2 := zErr_rngO M m
  unfold twoO
  split
  · split
    · split <;> omega
    · exact h2
  · exact h1
set_option maxRecDepth 20000 in
set_option maxHeartbeats 2000000 in
theorem twoOcts_any (N M : Int) (x y : Option Addr) (c n c' n' : Nat) (l m : List Ce) (w : World) (hN : -9223372036854775808 ≤ N ∧ N ≤ 9223372036854775807) (hM : -9223372036854775808 ≤ M ∧ M ≤ 9223372036854775807) (hA : CsAt w x l) (hB : CsAt w y m) (hl : Hid (n = l.length)) (hm : Hid (n' = m.length)) (hn : n ≤ 1000) (hn' : n' ≤ 1000) :
    Calls Tryd.prog 27 #[(.agg #[.int .i64 N, (.slice x n c)]), (.agg #[.int .i64 M, (.slice y n' c')])] w fun e w' => e = .returned (.int .i64 (twoO N l M m)) ∧ Below w.heap.size w w' := by
  obtain ⟨e1, he1⟩ : ∃ e, e = zErr N l := ⟨_, rfl⟩
  obtain ⟨e2, he2⟩ : ∃ e, e = zErr M m := ⟨_, rfl⟩
  have H1 : Hid (∀ W : World, CsAt W x l → Calls Tryd.prog 14 #[(.agg #[.int .i64 N, (.slice x n c)])] W fun e w' => e = .returned (.int .i64 e1) ∧ Below W.heap.size W w') := fun W h => by rw [he1]; exact octError_any N x c n l W hN h hl hn
  have H2 : Hid (∀ W : World, CsAt W y m → Calls Tryd.prog 14 #[(.agg #[.int .i64 M, (.slice y n' c')])] W fun e w' => e = .returned (.int .i64 e2) ∧ Below W.heap.size W w') := fun W h => by rw [he2]; exact octError_any M y c' n' m W hM h hm hn'
  obtain ⟨r, hr⟩ : ∃ r, r = twoO N l M m := ⟨_, rfl⟩
  have Hr : Hid (r = if e1 = 0 then (if e2 = 0 then (if N = M then 0 else 3) else e2) else e1) := by show _ = _; rw [hr, he1, he2]; rfl
  rw [← hr]
  clear hr he1 he2
  have s0 := ((St.startZ hA hB).box2 24 (.int .i64 N) (.slice x n c)).box2 24 (.int .i64 M) (.slice y n' c')
  simp only [World.size_alloc] at s0
  clear hA hB
  by_cases h1 : e1 = 0
  · subst h1
    by_cases h2 : e2 = 0
    · subst h2
      by_cases h3 : N = M
      · subst h3
        have e : Hid (r = 0) := by show _ = _; rw [Hr.out]; simp
        clear Hr
        go_enter Tryd.func27, Tryd.ntmps27
        go_wp2_with fail
        refine (H1.out _ s0.sent.1).mono ?_
        (rintro x1 w1 ⟨rfl, hb⟩; have s1 := s0.call hb; have q1 := s1.hold; simp only [Holds, and_true] at q1; clear hb; try clear q0)
        go_wp2_with fail
        refine (H2.out _ s1.sent.2).mono ?_
        (rintro x1 w2 ⟨rfl, hb⟩; have s2 := s1.call hb; have q2 := s2.hold; simp only [Holds, and_true] at q2; clear hb; try clear q1)
        go_wp2_with fail
        go_ret
        exact ⟨ret_int (by rw [e.out]), s2.bel⟩
      · have e : Hid (r = 3) := by show _ = _; rw [Hr.out]; simp [h3]
        have hb3 : (N != M) = true := by simp [h3]
        clear Hr
        go_enter Tryd.func27, Tryd.ntmps27
        go_wp2_with fail
        refine (H1.out _ s0.sent.1).mono ?_
        (rintro x1 w1 ⟨rfl, hb⟩; have s1 := s0.call hb; have q1 := s1.hold; simp only [Holds, and_true] at q1; clear hb; try clear q0)
        go_wp2_with fail
        refine (H2.out _ s1.sent.2).mono ?_
        (rintro x1 w2 ⟨rfl, hb⟩; have s2 := s1.call hb; have q2 := s2.hold; simp only [Holds, and_true] at q2; clear hb; try clear q1)
        go_wp2_with fail
        go_ret
        exact ⟨ret_int (by rw [e.out]), s2.bel⟩
    · have e : Hid (r = e2) := by show _ = _; rw [Hr.out]; simp [h2]
      have hb2 : (e2 == 0) = false := by simp [h2]
      clear Hr
      go_enter Tryd.func27, Tryd.ntmps27
      go_wp2_with fail
      refine (H1.out _ s0.sent.1).mono ?_
      (rintro x1 w1 ⟨rfl, hb⟩; have s1 := s0.call hb; have q1 := s1.hold; simp only [Holds, and_true] at q1; clear hb; try clear q0)
      go_wp2_with fail
      refine (H2.out _ s1.sent.2).mono ?_
      (rintro x1 w2 ⟨rfl, hb⟩; have s2 := s1.call hb; have q2 := s2.hold; simp only [Holds, and_true] at q2; clear hb; try clear q1)
      go_wp2_with fail
      go_ret
      exact ⟨ret_int (by rw [e.out]), s2.bel⟩
  · have e : Hid (r = e1) := by show _ = _; rw [Hr.out]; simp [h1]
    have hb1 : (e1 == 0) = false := by simp [h1]
    clear Hr
    go_enter Tryd.func27, Tryd.ntmps27
    go_wp2_with fail
    refine (H1.out _ s0.sent.1).mono ?_
    (rintro x1 w1 ⟨rfl, hb⟩; have s1 := s0.call hb; have q1 := s1.hold; simp only [Holds, and_true] at q1; clear hb; try clear q0)
    go_wp2_with fail
    go_ret
    exact ⟨ret_int (by rw [e.out]), s1.bel⟩


end Go.Proofs.YtofjjaabgfmnpaaDoor
