/- Octagons: MINE's tight squares: the law's walk. -/
import Derived.Test.YtpbaenknfoabgaaDoorYs
import Derived.Deep.Cut
import Derived.Deep.DeepCutAuto
namespace Go.Proofs.YtpbaenknfoabgaaDoor
open Go.RowKit
set_option linter.unusedVariables false

theorem St.name {w W : World} {Z : World → Prop} {L : List (Nat × Nat × Value)} (h : St w W Z L) : ∃ V, V = W ∧ St w V Z L := ⟨W, rfl, h⟩
theorem idx_facts {n len i j : Nat} (hll : len = n * n) (hi : i < n) (hj : j < n) : ∃ (ik x1 : Nat), (i : Int) * (n : Int) = (ik : Int) ∧ (ik : Int) + (j : Int) = (x1 : Int) ∧ x1 < len ∧ (x1 : Int) < (len : Int) ∧ x1 = i * n + j := by
  refine ⟨i * n, i * n + j, by rw [Int.natCast_mul], by omega, ?_, ?_, rfl⟩
  · rw [hll]; exact idx_in hi hj
  · have := idx_in hi hj; omega
theorem bar_facts {i : Nat} (hi : i < 8) : ∃ (iq ir i2 i3 : Nat), (i : Int).tdiv 2 = (iq : Int) ∧ (i : Int).tmod 2 = (ir : Int) ∧ (iq : Int) * 2 = (i2 : Int) ∧ (i2 : Int) + 1 = (i3 : Int) ∧ (i3 : Int) - (ir : Int) = (bar i : Nat) ∧ iq ≤ 4 ∧ ir ≤ 1 ∧ i2 ≤ 8 := by
  rcases (by omega : i = 0 ∨ i = 1 ∨ i = 2 ∨ i = 3 ∨ i = 4 ∨ i = 5 ∨ i = 6 ∨ i = 7) with rfl | rfl | rfl | rfl | rfl | rfl | rfl | rfl
  · exact ⟨0, 0, 0, 1, by decide, by decide, by decide, by decide, by decide, by omega, by omega, by omega⟩
  · exact ⟨0, 1, 0, 1, by decide, by decide, by decide, by decide, by decide, by omega, by omega, by omega⟩
  · exact ⟨1, 0, 2, 3, by decide, by decide, by decide, by decide, by decide, by omega, by omega, by omega⟩
  · exact ⟨1, 1, 2, 3, by decide, by decide, by decide, by decide, by decide, by omega, by omega, by omega⟩
  · exact ⟨2, 0, 4, 5, by decide, by decide, by decide, by decide, by decide, by omega, by omega, by omega⟩
  · exact ⟨2, 1, 4, 5, by decide, by decide, by decide, by decide, by decide, by omega, by omega, by omega⟩
  · exact ⟨3, 0, 6, 7, by decide, by decide, by decide, by decide, by decide, by omega, by omega, by omega⟩
  · exact ⟨3, 1, 6, 7, by decide, by decide, by decide, by decide, by decide, by omega, by omega, by omega⟩
/-- What one and the other say together. -/
theorem Tight.strI {n : Nat} {c : Mat} (h : Tight n c) {i j : Nat} (hi : i < n) (hj : j < n) {u v : Int} (h1 : c i (bar i) = some u) (h2 : c (bar j) j = some v) : ∃ m, c i j = some m ∧ 2 * m ≤ u + v := by
  have s := h.str i j hi hj
  unfold topB at s
  rw [bar_bar, h1, h2] at s
  cases e : c i j with
  | none => rw [e] at s; simp [halfB, addB, leB] at s
  | some m =>
    rw [e] at s
    simp [halfB, addB, leB] at s
    exact ⟨m, rfl, by omega⟩

set_option maxRecDepth 20000 in
set_option maxHeartbeats 8000000 in
/-- The three loops: no triangle fails. -/
theorem strong_head (N : Int) (x : Option Addr) (c0 len : Nat) (l : List Ce) (a : Nat → Addr) (w : World) (hS : ErrS w a) (h3 : ErrAt w a 3) (hA : CsAt w x l) (hl : Hid (len = l.length)) (hlen : len ≤ 9223372036854775807) :
    Calls Tryd.prog 10 #[(.agg #[.int .i64 N, (.slice x len c0)])] w fun e w' => e = .returned (.bool true) ∧ Below w.heap.size w w' := by
  have s0 := (St.startZs (em := true) (cs := [(x, l)]) hS (fun _ => h3) (by intro p hp; simp at hp; subst hp; exact hA)).box2 24 (.int .i64 N) (.slice x len c0)
  have HN : Hid (∀ W : World, CsAt W x l → Calls Tryd.prog 24 #[.slice x len c0] W fun e w' => e = .returned (.bool (decide (len ≤ 100) && nearL l 1048576)) ∧ w' = W) := fun W h => near_law x c0 len l W h hl hlen
  go_enter Tryd.func10, Tryd.ntmps10
  go_wp2_with fail
  refine (free_any a _ s0.sent.e).mono ?_
  rintro e w1 ⟨rfl, hb1⟩
  have s1 := s0.call hb1
  have q1 := s1.hold
  simp only [Holds, and_true] at q1
  clear s0 hb1 hS hA h3
  by_cases h100 : len ≤ 100
  rotate_left
  · have h100' : (100 : Int) < (len : Int) := by omega
    go_wp2_with fail
    go_ret
    exact ⟨rfl, s1.bel⟩
  have h100' : ¬ (100 : Int) < (len : Int) := by omega
  rw [decide_eq_true h100, Bool.true_and] at HN
  obtain ⟨nr, hnr⟩ : ∃ b, b = nearL l 1048576 := ⟨_, rfl⟩
  rw [← hnr] at HN
  have Hnr := hide hnr
  clear hnr
  go_wp2_with fail
  refine (HN.out _ (s1.sent.c (by simp))).mono ?_
  rintro e w2 ⟨rfl, hw2⟩
  rw [hw2]
  clear hw2 w2 HN
  cases nr
  · go_wp2_with fail
    go_ret
    exact ⟨rfl, s1.bel⟩
  have HZ : Hid (∀ W : World, CsAt W x l → Calls Tryd.prog 16 #[(.agg #[.int .i64 N, (.slice x len c0)])] W fun e w' => ∃ y cap, e = .returned (.agg #[.int .i64 N, (.slice y len cap)]) ∧ CsAt w' y l ∧ Below W.heap.size W w') := fun W h => zoneOf_any N x c0 len l W h hl (by omega)
  go_wp2_with fail
  refine (HZ.out _ (s1.sent.c (by simp))).mono ?_
  rintro e w2 ⟨y, cy, rfl, hy, hb2⟩
  have s2 := s1.call hb2
  have q2 := s2.hold
  simp only [Holds, and_true] at q2
  clear s1 q1 hb2
  go_wp2_with fail
  refine (close_any N y cy len l a _ s2.sent.e hy hl (by omega)).mono ?_
  rintro e w3 ⟨hb3, h3⟩
  have s3 := s2.call hb3
  have q3 := s3.hold
  simp only [Holds, and_true] at q3
  clear s2 q2 hb3 hy
  rcases h3 with ⟨h0, rfl⟩ | ⟨h0, hno, rfl⟩ | ⟨h0, hok, g, cp, rfl, hg, hR⟩
  · rw [erV_ne h0]
    clear h0
    go_wp2_with fail
    go_ret
    exact ⟨rfl, s3.bel.alloc (by have := s3.bel.size; omega) _⟩
  · clear hno
    go_wp2_with fail
    go_ret
    exact ⟨rfl, s3.bel.alloc (by have := s3.bel.size; omega) _⟩
  obtain ⟨z1, z2, z3, z4, z5, z6⟩ := zErr_0 h0
  obtain ⟨n, hn⟩ : ∃ n, n = nOf N := ⟨_, rfl⟩
  rw [← hn] at z1 z2 z3 z4 hok hR
  have hSz : Sz n 1048576 (matOf n l) := sz_mat z4 (by simpa using near_size Hnr.out.symm)
  have CN : Hid (CloNear n (matOf n l)) := ⟨⟨z2, z3⟩, hSz, by rw [hn]; exact coh_of h0, hok⟩
  have hll : Hid (len = n * n) := by show _ = _; rw [hl.out]; exact z4
  have hmi : (n : Int) * (n : Int) = (len : Int) := by rw [hll.out, Int.natCast_mul]
  have hnn : (n : Int) ≤ 8 := by omega
  have hlenb : len ≤ 64 := by have := hll.out; have := Nat.mul_le_mul z3 z3; omega
  have hmi4 : (4 : Int) * N * N = (len : Int) := by
    have e2 : 4 * N * N = (2 * N) * (2 * N) := by rw [Int.mul_assoc, Int.mul_assoc, Int.mul_left_comm N 2 N, ← Int.mul_assoc 2 2]; simp
    rw [e2, z1]; exact hmi
  obtain ⟨N4, hN4⟩ : ∃ q : Int, (4 : Int) * N = q := ⟨_, rfl⟩
  rw [hN4] at hmi4
  have hN4b : 0 ≤ N4 ∧ N4 ≤ 16 := by omega
  have hNn : 0 ≤ N ∧ N ≤ 4 := by omega
  obtain ⟨L, hL⟩ : ∃ L, L = tellL n (tg n (matOf n l)) := ⟨_, rfl⟩
  rw [← hL] at hR
  have s4 := s3.box2 30 (.int .i64 N) (.slice (some ⟨g, 0, none⟩) len cp)
  have hR4 := hR.below ((Below.refl _ _).alloc (Nat.le_refl _) (.cells #[.int .i64 N, (.slice (some ⟨g, 0, none⟩) len cp)] 30))
  have hE : ∀ W : World, (binOp .neq 73 (.agg #[.bool true, .int .i64 0]) (.agg #[.bool true, .int .i64 0])).run Tryd.prog W = .ok (.bool false) W := fun W => (neZC true 0 true 0 W).trans (by simp)
  have hcell : Hid (∀ (W : World) (i j x1 : Nat), RowC W g 0 L → i < n → j < n → x1 = i * n + j → W.cell? ⟨g, x1 * 2, none⟩ = some (.bool (ceOf (tg n (matOf n l) i j)).h) ∧ W.cell? ⟨g, x1 * 2 + 1, none⟩ = some (.int .i64 (ceOf (tg n (matOf n l) i j)).m)) := by
    intro W i j x1 h hi hj hx
    have hxl : x1 < L.length := by rw [hL, tellL_len, hx]; exact idx_in hi hj
    have e := CN.out.at hi hj
    rw [← hL, ← hx] at e
    have k1 := h.has x1 hxl
    have k2 := h.most x1 hxl
    rw [e, Nat.zero_add] at k1 k2
    exact ⟨k1, k2⟩
  have hgl0 := hR.lt
  obtain ⟨B4, hB4⟩ : ∃ B, B = w3.heap.size := ⟨_, rfl⟩
  rw [← hB4] at s4
  have HL := hide hL
  have Hn := hide hn
  have hz0 : Hid (zErr N l = 0) := h0
  clear hok hSz z2 z3 z4 z5 z6 h0 hL hR s3 hn
  go_wp2_with fail
  rw [← hB4]
  have hBw : w.heap.size ≤ B4 := by rw [hB4]; exact Nat.le_trans (Nat.le_of_lt q3.1.2.1) (Nat.le_refl _)
  clear hB4 q3
  go_loopg [8] n (fun gh iv wr => ∃ i : Nat, i + gh = n ∧ iv = .int .i64 i ∧ (RowC wr g 0 L ∧ St w wr (Zs true a [(x, l)]) [(B4, 0, Value.int .i64 N), (B4, 1, (.slice (some ⟨g, 0, none⟩) len cp)), (w.heap.size, 0, Value.int .i64 N), (w.heap.size, 1, Value.slice x len c0)]))
  case atStart => exact ⟨0, by omega, rfl, hR4, s4⟩
  case round =>
    clear hR4 s4
    obtain ⟨i, hig, rfl, hR, st⟩ := hrel
    have qs := st.hold
    simp only [Holds, and_true] at qs
    by_cases hi : i < n
    · have hi' : (i : Int) < (n : Int) := by omega
      have hbi := bar_lt CN.out.hn.1 hi
      obtain ⟨iq, ir, i2, i3, p1, p2, p3, p4, p5, p6, p7, p8⟩ := bar_facts (i := i) (by omega)
      obtain ⟨ik, x1, a1, a2, a3, a4, a5⟩ := idx_facts hll.out hi hbi
      obtain ⟨s5, hs5⟩ : ∃ s : Nat, (ik : Int) + (i2 : Int) = (s : Int) := ⟨ik + i2, by omega⟩
      obtain ⟨s6, hs6⟩ : ∃ s : Nat, (s5 : Int) + 1 = (s : Int) := ⟨s5 + 1, by omega⟩
      have hs7 : (s6 : Int) - (ir : Int) = (x1 : Int) := by omega
      obtain ⟨c1, c2⟩ := hcell.out wr i (bar i) x1 hR hi hbi a5
      have hgl := hR.lt
      obtain ⟨⟨h9, m9⟩, e9⟩ : ∃ C, C = ceOf (tg n (matOf n l) i (bar i)) := ⟨_, rfl⟩
      rw [← e9] at c1 c2
      dsimp only at c1 c2
      have f9 : Hid (h9 = false ∨ (h9 = true ∧ tg n (matOf n l) i (bar i) = some m9)) := by
        cases u : tg n (matOf n l) i (bar i) with
        | none => rw [u] at e9; left; simpa [ceOf] using (Ce.mk.inj e9).1
        | some v => rw [u] at e9; obtain ⟨rfl, rfl⟩ := Ce.mk.inj e9; exact .inr ⟨rfl, rfl⟩
      have z9 : m9.natAbs ≤ 536870912 := by
        cases u : tg n (matOf n l) i (bar i) with
        | none => rw [u] at e9; obtain ⟨rfl, rfl⟩ := Ce.mk.inj e9; simp
        | some v => rw [u] at e9; obtain ⟨rfl, rfl⟩ := Ce.mk.inj e9; exact CN.out.small _ _ hi hbi _ u
      have r9 : m9.tmod 2 = 0 := by
        cases u : tg n (matOf n l) i (bar i) with
        | none => rw [u] at e9; obtain ⟨rfl, rfl⟩ := Ce.mk.inj e9; rfl
        | some v =>
          rw [u] at e9; obtain ⟨rfl, rfl⟩ := Ce.mk.inj e9
          have := CN.out.tig.par (bar i) m9 hbi (by rw [bar_bar]; exact u)
          obtain ⟨k, hk⟩ : ∃ k, m9 = 2 * k := ⟨m9 / 2, by omega⟩
          rw [hk]
          exact Int.mul_tmod_right 2 k
      have st9 := st.box2 73 (.bool h9) (.int .i64 m9)
      have hR9 := hR.below ((Below.refl _ _).alloc (Nat.le_refl _) (.cells #[.bool h9, .int .i64 m9] 73))
      have hbw9 := st.bel.size
      obtain ⟨b9, hb9⟩ : ∃ b, b = wr.heap.size := ⟨_, rfl⟩
      obtain ⟨W9, hW9⟩ : ∃ W, W = wr.alloc (.cells #[.bool h9, .int .i64 m9] 73) := ⟨_, rfl⟩
      rw [← hb9, ← hW9] at st9
      rw [← hW9] at hR9
      have hikb : ik ≤ 64 := by omega
      clear e9 a5 a2 hR st
      have Hz9 := hide z9
      clear z9
      cases h9
      · as_aux_lemma =>
        go_wp2_with fail
        rw [← hb9, ← hW9]
        clear hb9 hW9 c1 c2 hgl qs a3 a4 hikb p1 p2 p3 p4 p5 p6 p7 p8 hs5 hs6 hs7 a1 r9 hbw9
        go_loopg [10] n (fun gh jv wr => ∃ j : Nat, j + gh = n ∧ jv = .int .i64 j ∧ RowC wr g 0 L ∧ St w wr (Zs true a [(x, l)]) ((b9, 0, Value.bool false) :: (b9, 1, Value.int .i64 m9) :: [(B4, 0, Value.int .i64 N), (B4, 1, (.slice (some ⟨g, 0, none⟩) len cp)), (w.heap.size, 0, Value.int .i64 N), (w.heap.size, 1, Value.slice x len c0)]))
        case atStart => exact ⟨0, by omega, rfl, hR9, st9⟩
        case round =>
          clear hR9 st9
          obtain ⟨j, hjg, rfl, hR, st⟩ := hrel
          have qs := st.hold
          simp only [Holds, and_true] at qs
          by_cases hj : j < n
          · have hj' : (j : Int) < (n : Int) := by omega
            have hbj := bar_lt CN.out.hn.1 hj
            obtain ⟨jq, jr, j2, j3, p1, p2, p3, p4, p5, p6, p7, p8⟩ := bar_facts (i := j) (by omega)
            obtain ⟨ik, x3, d1, d2, d3, d4, d5⟩ := idx_facts hll.out hi hj
            obtain ⟨bk, x2, b1, b2, b3, b4, b5⟩ := idx_facts hll.out hbj hj
            obtain ⟨bj, hbj'⟩ : ∃ b, b = bar j := ⟨_, rfl⟩
            rw [← hbj'] at p5 b1 b5
            obtain ⟨c5, c6⟩ := hcell.out wr i j x3 hR hi hj d5
            obtain ⟨c3, c4⟩ := hcell.out wr (bar j) j x2 hR hbj hj (by rw [b5, hbj'])
            have hgl := hR.lt
            obtain ⟨⟨h3, m3⟩, e3⟩ : ∃ C, C = ceOf (tg n (matOf n l) i j) := ⟨_, rfl⟩
            obtain ⟨⟨h2, m2⟩, e2⟩ : ∃ C, C = ceOf (tg n (matOf n l) (bar j) j) := ⟨_, rfl⟩
            rw [← e3] at c5 c6
            rw [← e2] at c3 c4
            dsimp only at c3 c4 c5 c6
            have F3 : Hid (⟨h3, m3⟩ = ceOf (tg n (matOf n l) i j)) := e3
            have z3 : m3.natAbs ≤ 536870912 := by
              cases u : tg n (matOf n l) i j with
              | none => rw [u] at e3; obtain ⟨rfl, rfl⟩ := Ce.mk.inj e3; simp
              | some v => rw [u] at e3; obtain ⟨rfl, rfl⟩ := Ce.mk.inj e3; exact CN.out.small _ _ hi hj _ u
            have z2 : m2.natAbs ≤ 536870912 := by
              cases u : tg n (matOf n l) (bar j) j with
              | none => rw [u] at e2; obtain ⟨rfl, rfl⟩ := Ce.mk.inj e2; simp
              | some v => rw [u] at e2; obtain ⟨rfl, rfl⟩ := Ce.mk.inj e2; exact CN.out.small _ _ hbj hj _ u
            have z9 := Hz9.out
            have hikb : ik ≤ 64 := by omega
            have hbkb : bk ≤ 64 := by omega
            have hbjb : bj ≤ 8 := by omega
            have fin : h2 = false ∨ (h2 = true ∧ ∀ m, tg n (matOf n l) i (bar i) = some m → h3 = true ∧ 2 * m3 ≤ m + m2) := by
              cases u : tg n (matOf n l) (bar j) j with
              | none => rw [u] at e2; left; simpa [ceOf] using (Ce.mk.inj e2).1
              | some v =>
                rw [u] at e2; obtain ⟨rfl, rfl⟩ := Ce.mk.inj e2
                refine .inr ⟨rfl, fun m hm => ?_⟩
                obtain ⟨q, hq, hle⟩ := CN.out.tig.strI hi hj hm u
                rw [hq] at e3
                obtain ⟨rfl, rfl⟩ := Ce.mk.inj e3
                exact ⟨rfl, hle⟩
            have st2 := (st.box2 73 (.bool h3) (.int .i64 m3)).alloc (.cells #[.bool h2, .int .i64 m2] 73)
            have bel2 : Below wr.heap.size wr ((wr.alloc (.cells #[.bool h3, .int .i64 m3] 73)).alloc (.cells #[.bool h2, .int .i64 m2] 73)) := ((Below.refl _ _).alloc (Nat.le_refl _) _).alloc (by simp) _
            have hR2 := hR.below bel2
            obtain ⟨b11, hb11⟩ : ∃ b, b = wr.heap.size := ⟨_, rfl⟩
            obtain ⟨W2, hW2⟩ : ∃ W, W = (wr.alloc (.cells #[.bool h3, .int .i64 m3] 73)).alloc (.cells #[.bool h2, .int .i64 m2] 73) := ⟨_, rfl⟩
            rw [← hb11, ← hW2] at st2
            rw [← hW2] at hR2
            have hmm : -2147483648 ≤ 2 * m3 ∧ 2 * m3 ≤ 2147483648 ∧ -2147483648 ≤ m9 + m2 ∧ m9 + m2 ≤ 2147483648 := by omega
            clear e2 e3 b5 d5 bel2 hR st hbj'
            clear fin
            go_wp2_with fail
            rw [← hb11, ← hW2]
            clear hb11 hW2 c3 c4 c5 c6 hgl qs p1 p2 p3 p4 p5 p6 p7 p8 b1 b2 b3 b4 d1 d2 d3 d4
            go_loopg [13] n (fun gh kv wr => ∃ k : Nat, k + gh = n ∧ kv = .int .i64 k ∧ RowC wr g 0 L ∧ St w wr (Zs true a [(x, l)]) ((b11, 0, Value.bool h3) :: (b11, 1, Value.int .i64 m3) :: (b9, 0, Value.bool false) :: (b9, 1, Value.int .i64 m9) :: [(B4, 0, Value.int .i64 N), (B4, 1, (.slice (some ⟨g, 0, none⟩) len cp)), (w.heap.size, 0, Value.int .i64 N), (w.heap.size, 1, Value.slice x len c0)]))
            case atStart => exact ⟨0, by omega, rfl, hR2, st2⟩
            case round =>
              as_aux_lemma =>
              clear hR2 st2
              obtain ⟨k, hkg, rfl, hR, st⟩ := hrel
              have qs := st.hold
              simp only [Holds, and_true] at qs
              by_cases hk : k < n
              · have hk' : (k : Int) < (n : Int) := by omega
                obtain ⟨ik, x1, a1, a2, a3, a4, a5⟩ := idx_facts hll.out hi hk
                obtain ⟨kn, x2, b1, b2, b3, b4, b5⟩ := idx_facts hll.out hk hj
                obtain ⟨c1, c2⟩ := hcell.out wr i k x1 hR hi hk a5
                obtain ⟨c3, c4⟩ := hcell.out wr k j x2 hR hk hj b5
                have hgl := hR.lt
                have tri := CN.out.tig.clo.tri i j k hi hj hk
                have sz1 := CN.out.small i k hi hk
                have sz2 := CN.out.small k j hk hj
                obtain ⟨⟨h1, m1⟩, e1⟩ : ∃ C, C = ceOf (tg n (matOf n l) i k) := ⟨_, rfl⟩
                obtain ⟨⟨h2, m2⟩, e2⟩ : ∃ C, C = ceOf (tg n (matOf n l) k j) := ⟨_, rfl⟩
                rw [← e1] at c1 c2
                rw [← e2] at c3 c4
                dsimp only at c1 c2 c3 c4
                have fin : h1 = false ∨ h2 = false ∨ (h1 = true ∧ h2 = true ∧ h3 = true ∧ m3 ≤ m1 + m2 ∧ -2147483648 ≤ m1 + m2 ∧ m1 + m2 ≤ 2147483648) := by
                  have e3 := F3.out
                  cases u1 : tg n (matOf n l) i k with
                  | none => rw [u1] at e1; left; simpa [ceOf] using (Ce.mk.inj e1).1
                  | some v1 =>
                    cases u2 : tg n (matOf n l) k j with
                    | none => rw [u2] at e2; right; left; simpa [ceOf] using (Ce.mk.inj e2).1
                    | some v2 =>
                      rw [u1, u2] at tri
                      cases u3 : tg n (matOf n l) i j with
                      | none => rw [u3] at tri; simp [addB, leB] at tri
                      | some v3 =>
                        rw [u3] at tri
                        have t1 := sz1 v1 u1
                        have t2 := sz2 v2 u2
                        rw [u1] at e1
                        rw [u2] at e2
                        rw [u3] at e3
                        obtain ⟨q1, q2⟩ := Ce.mk.inj e1
                        obtain ⟨q3, q4⟩ := Ce.mk.inj e2
                        obtain ⟨q5, q6⟩ := Ce.mk.inj e3
                        simp [addB, leB] at tri
                        exact .inr (.inr ⟨q1, q3, q5, by omega, by omega, by omega⟩)
                have st2 := (st.alloc (.cells #[.bool h1, .int .i64 m1] 73)).alloc (.cells #[.bool h2, .int .i64 m2] 73)
                have hR2 := hR.below (((Below.refl _ _).alloc (Nat.le_refl _) (.cells #[.bool h1, .int .i64 m1] 73)).alloc (by simp) (.cells #[.bool h2, .int .i64 m2] 73))
                clear tri sz1 sz2 e1 e2 a5 b5 hR st
                rcases fin with rfl | rfl | ⟨rfl, rfl, g3, f1, f2, f3⟩
                · go_wp2_with fail
                  go_roundg (n - (k + 1))
                  case measure => omega
                  case rel => exact ⟨k + 1, by omega, by go_num, hR2, st2⟩
                · cases h1
                  all_goals
                    go_wp2_with fail
                    go_roundg (n - (k + 1))
                    case measure => omega
                    case rel => exact ⟨k + 1, by omega, by go_num, hR2, st2⟩
                · have f4 : ¬ m1 + m2 < m3 := by omega
                  try subst g3
                  go_wp2_with fail
                  go_roundg (n - (k + 1))
                  case measure => omega
                  case rel => exact ⟨k + 1, by omega, by go_num, hR2, st2⟩
              · have hk' : ¬ (k : Int) < (n : Int) := by omega
                go_wp2_with fail
                go_roundg (n - (j + 1))
                case measure => omega
                case rel => exact ⟨j + 1, by omega, by go_num, hR, ⟨st.bel, st.hold.2.2, st.sent, st.cl⟩⟩
          · have hj' : ¬ (j : Int) < (n : Int) := by omega
            go_wp2_with fail
            go_roundg (n - (i + 1))
            case measure => omega
            case rel => exact ⟨i + 1, by omega, by go_num, hR, ⟨st.bel, st.hold.2.2, st.sent, st.cl⟩⟩
      · as_aux_lemma =>
        go_wp2_with fail
        rw [← hb9, ← hW9]
        clear hb9 hW9 c1 c2 hgl qs a3 a4 hikb p1 p2 p3 p4 p5 p6 p7 p8 hs5 hs6 hs7 a1 r9 hbw9
        go_loopg [10] n (fun gh jv wr => ∃ j : Nat, j + gh = n ∧ jv = .int .i64 j ∧ RowC wr g 0 L ∧ St w wr (Zs true a [(x, l)]) ((b9, 0, Value.bool true) :: (b9, 1, Value.int .i64 m9) :: [(B4, 0, Value.int .i64 N), (B4, 1, (.slice (some ⟨g, 0, none⟩) len cp)), (w.heap.size, 0, Value.int .i64 N), (w.heap.size, 1, Value.slice x len c0)]))
        case atStart => exact ⟨0, by omega, rfl, hR9, st9⟩
        case round =>
          clear hR9 st9
          obtain ⟨j, hjg, rfl, hR, st⟩ := hrel
          have qs := st.hold
          simp only [Holds, and_true] at qs
          by_cases hj : j < n
          · have hj' : (j : Int) < (n : Int) := by omega
            have hbj := bar_lt CN.out.hn.1 hj
            obtain ⟨jq, jr, j2, j3, p1, p2, p3, p4, p5, p6, p7, p8⟩ := bar_facts (i := j) (by omega)
            obtain ⟨ik, x3, d1, d2, d3, d4, d5⟩ := idx_facts hll.out hi hj
            obtain ⟨bk, x2, b1, b2, b3, b4, b5⟩ := idx_facts hll.out hbj hj
            obtain ⟨bj, hbj'⟩ : ∃ b, b = bar j := ⟨_, rfl⟩
            rw [← hbj'] at p5 b1 b5
            obtain ⟨c5, c6⟩ := hcell.out wr i j x3 hR hi hj d5
            obtain ⟨c3, c4⟩ := hcell.out wr (bar j) j x2 hR hbj hj (by rw [b5, hbj'])
            have hgl := hR.lt
            obtain ⟨⟨h3, m3⟩, e3⟩ : ∃ C, C = ceOf (tg n (matOf n l) i j) := ⟨_, rfl⟩
            obtain ⟨⟨h2, m2⟩, e2⟩ : ∃ C, C = ceOf (tg n (matOf n l) (bar j) j) := ⟨_, rfl⟩
            rw [← e3] at c5 c6
            rw [← e2] at c3 c4
            dsimp only at c3 c4 c5 c6
            have F3 : Hid (⟨h3, m3⟩ = ceOf (tg n (matOf n l) i j)) := e3
            have z3 : m3.natAbs ≤ 536870912 := by
              cases u : tg n (matOf n l) i j with
              | none => rw [u] at e3; obtain ⟨rfl, rfl⟩ := Ce.mk.inj e3; simp
              | some v => rw [u] at e3; obtain ⟨rfl, rfl⟩ := Ce.mk.inj e3; exact CN.out.small _ _ hi hj _ u
            have z2 : m2.natAbs ≤ 536870912 := by
              cases u : tg n (matOf n l) (bar j) j with
              | none => rw [u] at e2; obtain ⟨rfl, rfl⟩ := Ce.mk.inj e2; simp
              | some v => rw [u] at e2; obtain ⟨rfl, rfl⟩ := Ce.mk.inj e2; exact CN.out.small _ _ hbj hj _ u
            have z9 := Hz9.out
            have hikb : ik ≤ 64 := by omega
            have hbkb : bk ≤ 64 := by omega
            have hbjb : bj ≤ 8 := by omega
            have fin : h2 = false ∨ (h2 = true ∧ ∀ m, tg n (matOf n l) i (bar i) = some m → h3 = true ∧ 2 * m3 ≤ m + m2) := by
              cases u : tg n (matOf n l) (bar j) j with
              | none => rw [u] at e2; left; simpa [ceOf] using (Ce.mk.inj e2).1
              | some v =>
                rw [u] at e2; obtain ⟨rfl, rfl⟩ := Ce.mk.inj e2
                refine .inr ⟨rfl, fun m hm => ?_⟩
                obtain ⟨q, hq, hle⟩ := CN.out.tig.strI hi hj hm u
                rw [hq] at e3
                obtain ⟨rfl, rfl⟩ := Ce.mk.inj e3
                exact ⟨rfl, hle⟩
            have st2 := (st.box2 73 (.bool h3) (.int .i64 m3)).alloc (.cells #[.bool h2, .int .i64 m2] 73)
            have bel2 : Below wr.heap.size wr ((wr.alloc (.cells #[.bool h3, .int .i64 m3] 73)).alloc (.cells #[.bool h2, .int .i64 m2] 73)) := ((Below.refl _ _).alloc (Nat.le_refl _) _).alloc (by simp) _
            have hR2 := hR.below bel2
            obtain ⟨b11, hb11⟩ : ∃ b, b = wr.heap.size := ⟨_, rfl⟩
            obtain ⟨W2, hW2⟩ : ∃ W, W = (wr.alloc (.cells #[.bool h3, .int .i64 m3] 73)).alloc (.cells #[.bool h2, .int .i64 m2] 73) := ⟨_, rfl⟩
            rw [← hb11, ← hW2] at st2
            rw [← hW2] at hR2
            have hmm : -2147483648 ≤ 2 * m3 ∧ 2 * m3 ≤ 2147483648 ∧ -2147483648 ≤ m9 + m2 ∧ m9 + m2 ≤ 2147483648 := by omega
            clear e2 e3 b5 d5 bel2 hR st hbj'
            have e9 := f9.out.resolve_left (fun h => Bool.noConfusion h)
            rcases fin with rfl | ⟨rfl, hs⟩
            · go_wp2_with fail
              rw [← hb11, ← hW2]
              clear hb11 hW2 c3 c4 c5 c6 hgl qs p1 p2 p3 p4 p5 p6 p7 p8 b1 b2 b3 b4 d1 d2 d3 d4
              go_loopg [13] n (fun gh kv wr => ∃ k : Nat, k + gh = n ∧ kv = .int .i64 k ∧ RowC wr g 0 L ∧ St w wr (Zs true a [(x, l)]) ((b11, 0, Value.bool h3) :: (b11, 1, Value.int .i64 m3) :: (b9, 0, Value.bool true) :: (b9, 1, Value.int .i64 m9) :: [(B4, 0, Value.int .i64 N), (B4, 1, (.slice (some ⟨g, 0, none⟩) len cp)), (w.heap.size, 0, Value.int .i64 N), (w.heap.size, 1, Value.slice x len c0)]))
              case atStart => exact ⟨0, by omega, rfl, hR2, st2⟩
              case round =>
                as_aux_lemma =>
                clear hR2 st2
                obtain ⟨k, hkg, rfl, hR, st⟩ := hrel
                have qs := st.hold
                simp only [Holds, and_true] at qs
                by_cases hk : k < n
                · have hk' : (k : Int) < (n : Int) := by omega
                  obtain ⟨ik, x1, a1, a2, a3, a4, a5⟩ := idx_facts hll.out hi hk
                  obtain ⟨kn, x2, b1, b2, b3, b4, b5⟩ := idx_facts hll.out hk hj
                  obtain ⟨c1, c2⟩ := hcell.out wr i k x1 hR hi hk a5
                  obtain ⟨c3, c4⟩ := hcell.out wr k j x2 hR hk hj b5
                  have hgl := hR.lt
                  have tri := CN.out.tig.clo.tri i j k hi hj hk
                  have sz1 := CN.out.small i k hi hk
                  have sz2 := CN.out.small k j hk hj
                  obtain ⟨⟨h1, m1⟩, e1⟩ : ∃ C, C = ceOf (tg n (matOf n l) i k) := ⟨_, rfl⟩
                  obtain ⟨⟨h2, m2⟩, e2⟩ : ∃ C, C = ceOf (tg n (matOf n l) k j) := ⟨_, rfl⟩
                  rw [← e1] at c1 c2
                  rw [← e2] at c3 c4
                  dsimp only at c1 c2 c3 c4
                  have fin : h1 = false ∨ h2 = false ∨ (h1 = true ∧ h2 = true ∧ h3 = true ∧ m3 ≤ m1 + m2 ∧ -2147483648 ≤ m1 + m2 ∧ m1 + m2 ≤ 2147483648) := by
                    have e3 := F3.out
                    cases u1 : tg n (matOf n l) i k with
                    | none => rw [u1] at e1; left; simpa [ceOf] using (Ce.mk.inj e1).1
                    | some v1 =>
                      cases u2 : tg n (matOf n l) k j with
                      | none => rw [u2] at e2; right; left; simpa [ceOf] using (Ce.mk.inj e2).1
                      | some v2 =>
                        rw [u1, u2] at tri
                        cases u3 : tg n (matOf n l) i j with
                        | none => rw [u3] at tri; simp [addB, leB] at tri
                        | some v3 =>
                          rw [u3] at tri
                          have t1 := sz1 v1 u1
                          have t2 := sz2 v2 u2
                          rw [u1] at e1
                          rw [u2] at e2
                          rw [u3] at e3
                          obtain ⟨q1, q2⟩ := Ce.mk.inj e1
                          obtain ⟨q3, q4⟩ := Ce.mk.inj e2
                          obtain ⟨q5, q6⟩ := Ce.mk.inj e3
                          simp [addB, leB] at tri
                          exact .inr (.inr ⟨q1, q3, q5, by omega, by omega, by omega⟩)
                  have st2 := (st.alloc (.cells #[.bool h1, .int .i64 m1] 73)).alloc (.cells #[.bool h2, .int .i64 m2] 73)
                  have hR2 := hR.below (((Below.refl _ _).alloc (Nat.le_refl _) (.cells #[.bool h1, .int .i64 m1] 73)).alloc (by simp) (.cells #[.bool h2, .int .i64 m2] 73))
                  clear tri sz1 sz2 e1 e2 a5 b5 hR st
                  rcases fin with rfl | rfl | ⟨rfl, rfl, g3, f1, f2, f3⟩
                  · go_wp2_with fail
                    go_roundg (n - (k + 1))
                    case measure => omega
                    case rel => exact ⟨k + 1, by omega, by go_num, hR2, st2⟩
                  · cases h1
                    all_goals
                      go_wp2_with fail
                      go_roundg (n - (k + 1))
                      case measure => omega
                      case rel => exact ⟨k + 1, by omega, by go_num, hR2, st2⟩
                  · have f4 : ¬ m1 + m2 < m3 := by omega
                    try subst g3
                    go_wp2_with fail
                    go_roundg (n - (k + 1))
                    case measure => omega
                    case rel => exact ⟨k + 1, by omega, by go_num, hR2, st2⟩
                · have hk' : ¬ (k : Int) < (n : Int) := by omega
                  go_wp2_with fail
                  go_roundg (n - (j + 1))
                  case measure => omega
                  case rel => exact ⟨j + 1, by omega, by go_num, hR, ⟨st.bel, st.hold.2.2, st.sent, st.cl⟩⟩
            · obtain ⟨rfl, hle⟩ := hs m9 e9.2
              have hng : ¬ m9 + m2 < 2 * m3 := by omega
              clear hs e9
              by_cases hij : i = j
              · have hne : ((i : Int) != (j : Int)) = false := by simp [hij]
                have Hij := hide hij
                clear hij
                go_wp2_with fail
                rw [← hb11, ← hW2]
                clear hb11 hW2 c3 c4 c5 c6 hgl qs p1 p2 p3 p4 p5 p6 p7 p8 b1 b2 b3 b4 d1 d2 d3 d4
                go_loopg [13] n (fun gh kv wr => ∃ k : Nat, k + gh = n ∧ kv = .int .i64 k ∧ RowC wr g 0 L ∧ St w wr (Zs true a [(x, l)]) ((b11, 0, Value.bool true) :: (b11, 1, Value.int .i64 m3) :: (b9, 0, Value.bool true) :: (b9, 1, Value.int .i64 m9) :: [(B4, 0, Value.int .i64 N), (B4, 1, (.slice (some ⟨g, 0, none⟩) len cp)), (w.heap.size, 0, Value.int .i64 N), (w.heap.size, 1, Value.slice x len c0)]))
                case atStart => exact ⟨0, by omega, rfl, hR2, st2⟩
                case round =>
                  as_aux_lemma =>
                  clear hR2 st2
                  obtain ⟨k, hkg, rfl, hR, st⟩ := hrel
                  have qs := st.hold
                  simp only [Holds, and_true] at qs
                  by_cases hk : k < n
                  · have hk' : (k : Int) < (n : Int) := by omega
                    obtain ⟨ik, x1, a1, a2, a3, a4, a5⟩ := idx_facts hll.out hi hk
                    obtain ⟨kn, x2, b1, b2, b3, b4, b5⟩ := idx_facts hll.out hk hj
                    obtain ⟨c1, c2⟩ := hcell.out wr i k x1 hR hi hk a5
                    obtain ⟨c3, c4⟩ := hcell.out wr k j x2 hR hk hj b5
                    have hgl := hR.lt
                    have tri := CN.out.tig.clo.tri i j k hi hj hk
                    have sz1 := CN.out.small i k hi hk
                    have sz2 := CN.out.small k j hk hj
                    obtain ⟨⟨h1, m1⟩, e1⟩ : ∃ C, C = ceOf (tg n (matOf n l) i k) := ⟨_, rfl⟩
                    obtain ⟨⟨h2, m2⟩, e2⟩ : ∃ C, C = ceOf (tg n (matOf n l) k j) := ⟨_, rfl⟩
                    rw [← e1] at c1 c2
                    rw [← e2] at c3 c4
                    dsimp only at c1 c2 c3 c4
                    have fin : h1 = false ∨ h2 = false ∨ (h1 = true ∧ h2 = true ∧ true = true ∧ m3 ≤ m1 + m2 ∧ -2147483648 ≤ m1 + m2 ∧ m1 + m2 ≤ 2147483648) := by
                      have e3 := F3.out
                      cases u1 : tg n (matOf n l) i k with
                      | none => rw [u1] at e1; left; simpa [ceOf] using (Ce.mk.inj e1).1
                      | some v1 =>
                        cases u2 : tg n (matOf n l) k j with
                        | none => rw [u2] at e2; right; left; simpa [ceOf] using (Ce.mk.inj e2).1
                        | some v2 =>
                          rw [u1, u2] at tri
                          cases u3 : tg n (matOf n l) i j with
                          | none => rw [u3] at tri; simp [addB, leB] at tri
                          | some v3 =>
                            rw [u3] at tri
                            have t1 := sz1 v1 u1
                            have t2 := sz2 v2 u2
                            rw [u1] at e1
                            rw [u2] at e2
                            rw [u3] at e3
                            obtain ⟨q1, q2⟩ := Ce.mk.inj e1
                            obtain ⟨q3, q4⟩ := Ce.mk.inj e2
                            obtain ⟨q5, q6⟩ := Ce.mk.inj e3
                            simp [addB, leB] at tri
                            exact .inr (.inr ⟨q1, q3, q5, by omega, by omega, by omega⟩)
                    have st2 := (st.alloc (.cells #[.bool h1, .int .i64 m1] 73)).alloc (.cells #[.bool h2, .int .i64 m2] 73)
                    have hR2 := hR.below (((Below.refl _ _).alloc (Nat.le_refl _) (.cells #[.bool h1, .int .i64 m1] 73)).alloc (by simp) (.cells #[.bool h2, .int .i64 m2] 73))
                    clear tri sz1 sz2 e1 e2 a5 b5 hR st
                    rcases fin with rfl | rfl | ⟨rfl, rfl, g3, f1, f2, f3⟩
                    · go_wp2_with fail
                      go_roundg (n - (k + 1))
                      case measure => omega
                      case rel => exact ⟨k + 1, by omega, by go_num, hR2, st2⟩
                    · cases h1
                      all_goals
                        go_wp2_with fail
                        go_roundg (n - (k + 1))
                        case measure => omega
                        case rel => exact ⟨k + 1, by omega, by go_num, hR2, st2⟩
                    · have f4 : ¬ m1 + m2 < m3 := by omega
                      try subst g3
                      go_wp2_with fail
                      go_roundg (n - (k + 1))
                      case measure => omega
                      case rel => exact ⟨k + 1, by omega, by go_num, hR2, st2⟩
                  · have hk' : ¬ (k : Int) < (n : Int) := by omega
                    go_wp2_with fail
                    go_roundg (n - (j + 1))
                    case measure => omega
                    case rel => exact ⟨j + 1, by omega, by go_num, hR, ⟨st.bel, st.hold.2.2, st.sent, st.cl⟩⟩
              · have hne : ((i : Int) != (j : Int)) = true := by simp; omega
                have Hij := hide hij
                clear hij
                go_wp2_with fail
                rw [← hb11, ← hW2]
                clear hb11 hW2 c3 c4 c5 c6 hgl qs p1 p2 p3 p4 p5 p6 p7 p8 b1 b2 b3 b4 d1 d2 d3 d4
                go_loopg [13] n (fun gh kv wr => ∃ k : Nat, k + gh = n ∧ kv = .int .i64 k ∧ RowC wr g 0 L ∧ St w wr (Zs true a [(x, l)]) ((b11, 0, Value.bool true) :: (b11, 1, Value.int .i64 m3) :: (b9, 0, Value.bool true) :: (b9, 1, Value.int .i64 m9) :: [(B4, 0, Value.int .i64 N), (B4, 1, (.slice (some ⟨g, 0, none⟩) len cp)), (w.heap.size, 0, Value.int .i64 N), (w.heap.size, 1, Value.slice x len c0)]))
                case atStart => exact ⟨0, by omega, rfl, hR2, st2⟩
                case round =>
                  as_aux_lemma =>
                  clear hR2 st2
                  obtain ⟨k, hkg, rfl, hR, st⟩ := hrel
                  have qs := st.hold
                  simp only [Holds, and_true] at qs
                  by_cases hk : k < n
                  · have hk' : (k : Int) < (n : Int) := by omega
                    obtain ⟨ik, x1, a1, a2, a3, a4, a5⟩ := idx_facts hll.out hi hk
                    obtain ⟨kn, x2, b1, b2, b3, b4, b5⟩ := idx_facts hll.out hk hj
                    obtain ⟨c1, c2⟩ := hcell.out wr i k x1 hR hi hk a5
                    obtain ⟨c3, c4⟩ := hcell.out wr k j x2 hR hk hj b5
                    have hgl := hR.lt
                    have tri := CN.out.tig.clo.tri i j k hi hj hk
                    have sz1 := CN.out.small i k hi hk
                    have sz2 := CN.out.small k j hk hj
                    obtain ⟨⟨h1, m1⟩, e1⟩ : ∃ C, C = ceOf (tg n (matOf n l) i k) := ⟨_, rfl⟩
                    obtain ⟨⟨h2, m2⟩, e2⟩ : ∃ C, C = ceOf (tg n (matOf n l) k j) := ⟨_, rfl⟩
                    rw [← e1] at c1 c2
                    rw [← e2] at c3 c4
                    dsimp only at c1 c2 c3 c4
                    have fin : h1 = false ∨ h2 = false ∨ (h1 = true ∧ h2 = true ∧ true = true ∧ m3 ≤ m1 + m2 ∧ -2147483648 ≤ m1 + m2 ∧ m1 + m2 ≤ 2147483648) := by
                      have e3 := F3.out
                      cases u1 : tg n (matOf n l) i k with
                      | none => rw [u1] at e1; left; simpa [ceOf] using (Ce.mk.inj e1).1
                      | some v1 =>
                        cases u2 : tg n (matOf n l) k j with
                        | none => rw [u2] at e2; right; left; simpa [ceOf] using (Ce.mk.inj e2).1
                        | some v2 =>
                          rw [u1, u2] at tri
                          cases u3 : tg n (matOf n l) i j with
                          | none => rw [u3] at tri; simp [addB, leB] at tri
                          | some v3 =>
                            rw [u3] at tri
                            have t1 := sz1 v1 u1
                            have t2 := sz2 v2 u2
                            rw [u1] at e1
                            rw [u2] at e2
                            rw [u3] at e3
                            obtain ⟨q1, q2⟩ := Ce.mk.inj e1
                            obtain ⟨q3, q4⟩ := Ce.mk.inj e2
                            obtain ⟨q5, q6⟩ := Ce.mk.inj e3
                            simp [addB, leB] at tri
                            exact .inr (.inr ⟨q1, q3, q5, by omega, by omega, by omega⟩)
                    have st2 := (st.alloc (.cells #[.bool h1, .int .i64 m1] 73)).alloc (.cells #[.bool h2, .int .i64 m2] 73)
                    have hR2 := hR.below (((Below.refl _ _).alloc (Nat.le_refl _) (.cells #[.bool h1, .int .i64 m1] 73)).alloc (by simp) (.cells #[.bool h2, .int .i64 m2] 73))
                    clear tri sz1 sz2 e1 e2 a5 b5 hR st
                    rcases fin with rfl | rfl | ⟨rfl, rfl, g3, f1, f2, f3⟩
                    · go_wp2_with fail
                      go_roundg (n - (k + 1))
                      case measure => omega
                      case rel => exact ⟨k + 1, by omega, by go_num, hR2, st2⟩
                    · cases h1
                      all_goals
                        go_wp2_with fail
                        go_roundg (n - (k + 1))
                        case measure => omega
                        case rel => exact ⟨k + 1, by omega, by go_num, hR2, st2⟩
                    · have f4 : ¬ m1 + m2 < m3 := by omega
                      try subst g3
                      go_wp2_with fail
                      go_roundg (n - (k + 1))
                      case measure => omega
                      case rel => exact ⟨k + 1, by omega, by go_num, hR2, st2⟩
                  · have hk' : ¬ (k : Int) < (n : Int) := by omega
                    go_wp2_with fail
                    go_roundg (n - (j + 1))
                    case measure => omega
                    case rel => exact ⟨j + 1, by omega, by go_num, hR, ⟨st.bel, st.hold.2.2, st.sent, st.cl⟩⟩
          · have hj' : ¬ (j : Int) < (n : Int) := by omega
            go_wp2_with fail
            go_roundg (n - (i + 1))
            case measure => omega
            case rel => exact ⟨i + 1, by omega, by go_num, hR, ⟨st.bel, st.hold.2.2, st.sent, st.cl⟩⟩
    · have hi' : ¬ (i : Int) < (n : Int) := by omega
      have sV := st.more (y := some ⟨g, 0, none⟩) (m := L) (.inr ⟨g, 0, rfl, hR⟩)
      have hbV := st.bel
      have hLl : Hid (len = L.length) := by show _ = _; rw [HL.out, tellL_len]; exact hll.out
      have HC : Hid (∀ (W : World), ErrS W a → CsAt W (some ⟨g, 0, none⟩) L → Calls Tryd.prog 15 #[(.agg #[.int .i64 N, (.slice (some ⟨g, 0, none⟩) len cp)])] W fun e w' => ∃ g5 cp5, e = .returned (.tuple #[(.agg #[.int .i64 N, (.slice (some ⟨g5, 0, none⟩) len cp5)]), .bool true, .nilIface]) ∧ W.heap.size ≤ g5 ∧ RowC w' g5 0 L ∧ Below W.heap.size W w') := by
        intro W h1 h2
        have hg := close_any N (some ⟨g, 0, none⟩) cp len L a W h1 h2 hLl (by omega)
        rw [← Hn.out] at hg
        refine hg.mono ?_
        rintro e w' ⟨hb, h | h | h⟩
        · exact absurd (by rw [HL.out]; exact tell_right z1 CN.out.hn _ CN.out.tig.coh) h.1
        · exact absurd (by rw [HL.out]; exact CN.out.ok_again) h.2.1
        · obtain ⟨_, _, g5, cp5, rfl, hg5, hR5⟩ := h
          refine ⟨g5, cp5, rfl, hg5, ?_, hb⟩
          have e := CN.out.tell_again
          rw [← HL.out] at e
          rw [e] at hR5
          exact hR5
      have HJ : Hid (∀ (W : World) (y1 y2 : Option Addr) (c1 c2 : Nat), ErrS W a → ErrAt W a 3 → CsAt W y1 l → CsAt W y2 l → Calls Tryd.prog 28 #[(.agg #[.int .i64 N, (.slice y1 len c1)]), (.agg #[.int .i64 N, (.slice y2 len c2)])] W fun e w' => ∃ g5 cp5, e = .returned (.tuple #[(.agg #[.int .i64 N, (.slice (some ⟨g5, 0, none⟩) len cp5)]), .nilIface]) ∧ W.heap.size ≤ g5 ∧ RowC w' g5 0 L ∧ Below W.heap.size W w') := by
        intro W y1 y2 c1 c2 h1 h2 h3 h4
        have hg := join_any N N y1 y2 len c1 len c2 l l a W h1 h2 h3 h4 hl hl (by omega) (by omega)
        rw [← Hn.out] at hg
        refine hg.mono ?_
        rintro e w' ⟨hb, h | h | h⟩
        · exact absurd (by unfold pairErr; simp [firstE, hz0.out]) h.1
        · exact absurd CN.out.ok h.2.1.1
        · obtain ⟨_, _, g5, cp5, rfl, hg5, hR5⟩ := h
          refine ⟨g5, cp5, rfl, hg5, ?_, hb⟩
          rw [CN.out.join, ← HL.out] at hR5
          exact hR5
      have HM : Hid (∀ (W : World) (y1 y2 : Option Addr) (c1 c2 : Nat), ErrS W a → ErrAt W a 3 → CsAt W y1 l → CsAt W y2 l → Calls Tryd.prog 29 #[(.agg #[.int .i64 N, (.slice y1 len c1)]), (.agg #[.int .i64 N, (.slice y2 len c2)])] W fun e w' => ∃ g5 cp5, e = .returned (.tuple #[(.agg #[.int .i64 N, (.slice (some ⟨g5, 0, none⟩) len cp5)]), .bool true, .nilIface]) ∧ W.heap.size ≤ g5 ∧ RowC w' g5 0 L ∧ Below W.heap.size W w') := by
        intro W y1 y2 c1 c2 h1 _ h3 h4
        have hg := meet_any N N y1 y2 len c1 len c2 l l a W h1 h3 h4 hl hl (by omega) (by omega)
        rw [← Hn.out, with_min_self] at hg
        refine hg.mono ?_
        rintro e w' ⟨hb, h | h | h⟩
        · exact absurd (by unfold pairErr; simp [firstE, hz0.out]) h.1
        · exact absurd CN.out.ok h.2.1
        · obtain ⟨_, _, g5, cp5, rfl, hg5, hR5⟩ := h
          refine ⟨g5, cp5, rfl, hg5, ?_, hb⟩
          rw [← HL.out] at hR5
          exact hR5
      clear st hcell hE hgl0 CN HL
      go_wp2_with fail
      refine (HC.out _ sV.sent.e (sV.sent.c (by simp))).mono ?_
      rintro e w5 ⟨g5, cp5, rfl, hg5, hR5, hb5⟩
      have s5 := (sV.call hb5).box2 30 (.int .i64 N) (.slice (some ⟨g5, 0, none⟩) len cp5)
      have hR6 := hR5.below ((Below.refl _ _).alloc (Nat.le_refl _) (.cells #[.int .i64 N, .slice (some ⟨g5, 0, none⟩) len cp5] 30))
      have s6 := s5.more (y := some ⟨g5, 0, none⟩) (m := L) (.inr ⟨g5, 0, rfl, hR6⟩)
      have hb6 := hbV.trans (s5.bel.mono hbV.size)
      obtain ⟨B14, hB14⟩ : ∃ B, B = w5.heap.size := ⟨_, rfl⟩
      clear s5 hb5 hR5 hR6 HC hbV sV
      go_upto_region 29 with fail
      rw [← hB14] at s6 ⊢
      clear hB14
      obtain ⟨W6, hW6⟩ : ∃ W, W = w5.alloc (.cells #[.int .i64 N, .slice (some ⟨g5, 0, none⟩) len cp5] 30) := ⟨_, rfl⟩
      rw [← hW6] at s6 hb6 ⊢
      clear hW6 hg5 hR
      have q6 := s6.hold
      simp only [Holds, and_true] at q6
      go_cut [17, 18] (fun t15 t16 wx => t16 = .nilIface ∧ ∃ bj gj cj : Nat, t15 = .pointer (some ⟨bj, 0, none⟩) ∧ W6.heap.size ≤ bj ∧ CsAt wx (some ⟨gj, 0, none⟩) L ∧ St W6 wx (Zs true a [(some ⟨g5, 0, none⟩, L), (some ⟨g, 0, none⟩, L), (x, l)]) ((bj, 0, Value.int .i64 N) :: (bj, 1, Value.slice (some ⟨gj, 0, none⟩) len cj) :: ((B14, 0, Value.int .i64 N) :: (B14, 1, Value.slice (some ⟨g5, 0, none⟩) len cp5) :: (B4, 0, Value.int .i64 N) :: (B4, 1, Value.slice (some ⟨g, 0, none⟩) len cp) :: (w.heap.size, 0, Value.int .i64 N) :: (w.heap.size, 1, Value.slice x len c0) :: [])))
      case first =>
        as_aux_lemma =>
        have hwB := Nat.le_refl W6.heap.size
        have k2 := s6.hold
        go_region_held3 (fun w' => w'.cell? ⟨B14, 0, none⟩ = some (.int .i64 N) ∧ w'.cell? ⟨B14, 1, none⟩ = some (.slice (some ⟨g5, 0, none⟩) len cp5) ∧ w'.cell? ⟨B4, 0, none⟩ = some (.int .i64 N) ∧ w'.cell? ⟨B4, 1, none⟩ = some (.slice (some ⟨g, 0, none⟩) len cp) ∧ w'.cell? ⟨w.heap.size, 0, none⟩ = some (.int .i64 N) ∧ w'.cell? ⟨w.heap.size, 1, none⟩ = some (.slice x len c0) ∧ St W6 w' (Zs true a [(some ⟨g5, 0, none⟩, L), (some ⟨g, 0, none⟩, L), (x, l)]) ((B14, 0, Value.int .i64 N) :: (B14, 1, Value.slice (some ⟨g5, 0, none⟩) len cp5) :: (B4, 0, Value.int .i64 N) :: (B4, 1, Value.slice (some ⟨g, 0, none⟩) len cp) :: (w.heap.size, 0, Value.int .i64 N) :: (w.heap.size, 1, Value.slice x len c0) :: [])) (first | (exact keepSt (((B14, 0, Value.int .i64 N) :: (B14, 1, Value.slice (some ⟨g5, 0, none⟩) len cp5) :: (B4, 0, Value.int .i64 N) :: (B4, 1, Value.slice (some ⟨g, 0, none⟩) len cp) :: (w.heap.size, 0, Value.int .i64 N) :: (w.heap.size, 1, Value.slice x len c0) :: [])) (by assumption) (by assumption)) | (exact keepSt (((B14, 0, Value.int .i64 N) :: (B14, 1, Value.slice (some ⟨g5, 0, none⟩) len cp5) :: (B4, 0, Value.int .i64 N) :: (B4, 1, Value.slice (some ⟨g, 0, none⟩) len cp) :: (w.heap.size, 0, Value.int .i64 N) :: (w.heap.size, 1, Value.slice x len c0) :: [])) (Below.refl _ _).drew (by assumption)) | (exact keepSt (((B14, 0, Value.int .i64 N) :: (B14, 1, Value.slice (some ⟨g5, 0, none⟩) len cp5) :: (B4, 0, Value.int .i64 N) :: (B4, 1, Value.slice (some ⟨g, 0, none⟩) len cp) :: (w.heap.size, 0, Value.int .i64 N) :: (w.heap.size, 1, Value.slice x len c0) :: [])) ((Below.refl _ _).alloc (Nat.le_refl _) _) (by assumption)) | (exact keepSt0 (((B14, 0, Value.int .i64 N) :: (B14, 1, Value.slice (some ⟨g5, 0, none⟩) len cp5) :: (B4, 0, Value.int .i64 N) :: (B4, 1, Value.slice (some ⟨g, 0, none⟩) len cp) :: (w.heap.size, 0, Value.int .i64 N) :: (w.heap.size, 1, Value.slice x len c0) :: [])) (St.drew (by assumption))) | (exact keepSt0 (((B14, 0, Value.int .i64 N) :: (B14, 1, Value.slice (some ⟨g5, 0, none⟩) len cp5) :: (B4, 0, Value.int .i64 N) :: (B4, 1, Value.slice (some ⟨g, 0, none⟩) len cp) :: (w.heap.size, 0, Value.int .i64 N) :: (w.heap.size, 1, Value.slice x len c0) :: [])) (s9.alloc _)) | (exact keepSt0 (((B14, 0, Value.int .i64 N) :: (B14, 1, Value.slice (some ⟨g5, 0, none⟩) len cp5) :: (B4, 0, Value.int .i64 N) :: (B4, 1, Value.slice (some ⟨g, 0, none⟩) len cp) :: (w.heap.size, 0, Value.int .i64 N) :: (w.heap.size, 1, Value.slice x len c0) :: [])) (St.twoP s9 k2 hwB (by first | exact Nat.le_refl _ | exact hb7.size | exact Nat.le_trans hb7.size hb8.size))) | (exact keepSt0 (((B14, 0, Value.int .i64 N) :: (B14, 1, Value.slice (some ⟨g5, 0, none⟩) len cp5) :: (B4, 0, Value.int .i64 N) :: (B4, 1, Value.slice (some ⟨g, 0, none⟩) len cp) :: (w.heap.size, 0, Value.int .i64 N) :: (w.heap.size, 1, Value.slice x len c0) :: [])) (by assumption)))
          (first
            | (go_at_call 16; (fail_if_success (have _ := hb7)); refine (HZ.out _ ((keepZs (w := W6) (em := true) (a := a) (cs := [(some ⟨g5, 0, none⟩, L), (some ⟨g, 0, none⟩, L), (x, l)]) ((B14, 0, Value.int .i64 N) :: (B14, 1, Value.slice (some ⟨g5, 0, none⟩) len cp5) :: (B4, 0, Value.int .i64 N) :: (B4, 1, Value.slice (some ⟨g, 0, none⟩) len cp) :: (w.heap.size, 0, Value.int .i64 N) :: (w.heap.size, 1, Value.slice x len c0) :: []) (by assumption)).c (by simp))).mono ?_; rintro e w7 ⟨y7, c7, rfl, hy7, hb7⟩; have s7 := (keepSt_st (w := W6) (Z := Zs true a [(some ⟨g5, 0, none⟩, L), (some ⟨g, 0, none⟩, L), (x, l)]) ((B14, 0, Value.int .i64 N) :: (B14, 1, Value.slice (some ⟨g5, 0, none⟩) len cp5) :: (B4, 0, Value.int .i64 N) :: (B4, 1, Value.slice (some ⟨g, 0, none⟩) len cp) :: (w.heap.size, 0, Value.int .i64 N) :: (w.heap.size, 1, Value.slice x len c0) :: []) (by assumption)).call hb7; first | (have hx7 := boxed2 hb7) | (have hx7 := boxed2' hb7) | skip)
            | (go_at_call 16; refine (HZ.out _ ((keepZs (w := W6) (em := true) (a := a) (cs := [(some ⟨g5, 0, none⟩, L), (some ⟨g, 0, none⟩, L), (x, l)]) ((B14, 0, Value.int .i64 N) :: (B14, 1, Value.slice (some ⟨g5, 0, none⟩) len cp5) :: (B4, 0, Value.int .i64 N) :: (B4, 1, Value.slice (some ⟨g, 0, none⟩) len cp) :: (w.heap.size, 0, Value.int .i64 N) :: (w.heap.size, 1, Value.slice x len c0) :: []) (by assumption)).c (by simp))).mono ?_; rintro e w8 ⟨y8, c8, rfl, hy8, hb8⟩; have hy78 := (show CsAt _ y7 l from (by first | exact hy7 | exact hy7.below ((Below.refl _ _).alloc (Nat.le_refl _) _).drew | exact hy7.below ((Below.refl _ _).alloc (Nat.le_refl _) _))).below hb8; have s8 := (keepSt_st (w := W6) (Z := Zs true a [(some ⟨g5, 0, none⟩, L), (some ⟨g, 0, none⟩, L), (x, l)]) ((B14, 0, Value.int .i64 N) :: (B14, 1, Value.slice (some ⟨g5, 0, none⟩) len cp5) :: (B4, 0, Value.int .i64 N) :: (B4, 1, Value.slice (some ⟨g, 0, none⟩) len cp) :: (w.heap.size, 0, Value.int .i64 N) :: (w.heap.size, 1, Value.slice x len c0) :: []) (by assumption)).call hb8; first | (have hx8 := hx7.below hb8; clear hx7) | (have hx8 := boxed2 hb8) | (have hx8 := boxed2' hb8) | skip)
            | (go_at_call 28; refine (HJ.out _ y7 y8 c7 c8 (keepZs (w := W6) (em := true) (a := a) (cs := [(some ⟨g5, 0, none⟩, L), (some ⟨g, 0, none⟩, L), (x, l)]) ((B14, 0, Value.int .i64 N) :: (B14, 1, Value.slice (some ⟨g5, 0, none⟩) len cp5) :: (B4, 0, Value.int .i64 N) :: (B4, 1, Value.slice (some ⟨g, 0, none⟩) len cp) :: (w.heap.size, 0, Value.int .i64 N) :: (w.heap.size, 1, Value.slice x len c0) :: []) (by assumption)).e ((keepZs (w := W6) (em := true) (a := a) (cs := [(some ⟨g5, 0, none⟩, L), (some ⟨g, 0, none⟩, L), (x, l)]) ((B14, 0, Value.int .i64 N) :: (B14, 1, Value.slice (some ⟨g5, 0, none⟩) len cp5) :: (B4, 0, Value.int .i64 N) :: (B4, 1, Value.slice (some ⟨g, 0, none⟩) len cp) :: (w.heap.size, 0, Value.int .i64 N) :: (w.heap.size, 1, Value.slice x len c0) :: []) (by assumption)).1.2 rfl) (by first | exact hy78 | exact hy78.below ((Below.refl _ _).alloc (Nat.le_refl _) _).drew | exact hy78.below ((Below.refl _ _).alloc (Nat.le_refl _) _)) (by first | exact hy8 | exact hy8.below ((Below.refl _ _).alloc (Nat.le_refl _) _).drew | exact hy8.below ((Below.refl _ _).alloc (Nat.le_refl _) _))).mono ?_; rintro e w9 ⟨g9, c9, rfl, hg9, hR9, hb9⟩; have s9 := (keepSt_st (w := W6) (Z := Zs true a [(some ⟨g5, 0, none⟩, L), (some ⟨g, 0, none⟩, L), (x, l)]) ((B14, 0, Value.int .i64 N) :: (B14, 1, Value.slice (some ⟨g5, 0, none⟩) len cp5) :: (B4, 0, Value.int .i64 N) :: (B4, 1, Value.slice (some ⟨g, 0, none⟩) len cp) :: (w.heap.size, 0, Value.int .i64 N) :: (w.heap.size, 1, Value.slice x len c0) :: []) (by assumption)).call hb9; (first | (have hx9 := hx8.below hb9; clear hx8; have ho9 := hx9; simp only [Holds, and_true] at ho9) | (have hx9 := boxed2 hb9; have ho9 := hx9; simp only [Holds, and_true] at ho9) | (have hx9 := boxed2' hb9; have ho9 := hx9; simp only [Holds, and_true] at ho9) | skip)))
        all_goals
          have zz := hg9
          try simp only [World.size_alloc] at zz
          have za := hb7.size
          try simp only [World.drew, World.size_alloc] at za
          have zb := hb8.size
          try simp only [World.size_alloc] at zb
          go_wp2_with fail
          go_meet
          case rel => first
            | exact ⟨rfl, _, g9, c9, rfl, s9.bel.size, .inr ⟨g9, 0, rfl, hR9.below ((Below.refl _ _).alloc (Nat.le_refl _) _)⟩, s9.box2 30 _ _⟩
            | exact ⟨rfl, _, g9, c9, rfl, (by first | exact hwB | exact hb7.size | exact Nat.le_trans hb7.size hb8.size), .inr ⟨g9, 0, rfl, (hR9.other (by dsimp only; omega) _).other (by dsimp only; omega) _⟩, s9.late2 k2 hwB (by first | exact Nat.le_refl _ | exact hb7.size | exact Nat.le_trans hb7.size hb8.size) hx9 _ _⟩
      case rest =>
      obtain ⟨rfl, bj, gj, cj, rfl, hbj, hcj, s7⟩ := hcut
      obtain ⟨W7, hW7, s7⟩ := s7.name
      rw [← hW7] at hcj ⊢
      clear hW7
      have hb7 := hb6.trans (s7.bel.mono hb6.size)
      have s8 := s7.more hcj
      clear s7 hcj s6 q6 hb6 HJ
      go_upto_region 30 with fail
      have q8 := s8.hold
      simp only [Holds, and_true] at q8
      have hbW := hb7
      clear hb7
      go_cut [19, 20, 21] (fun t17 t18 t19 wx => t18 = .bool true ∧ t19 = .nilIface ∧ ∃ bm gm cm : Nat, t17 = .pointer (some ⟨bm, 0, none⟩) ∧ W7.heap.size ≤ bm ∧ CsAt wx (some ⟨gm, 0, none⟩) L ∧ St W7 wx (Zs true a [(some ⟨gj, 0, none⟩, L), (some ⟨g5, 0, none⟩, L), (some ⟨g, 0, none⟩, L), (x, l)]) ((bm, 0, Value.int .i64 N) :: (bm, 1, Value.slice (some ⟨gm, 0, none⟩) len cm) :: ((bj, 0, Value.int .i64 N) :: (bj, 1, Value.slice (some ⟨gj, 0, none⟩) len cj) :: (B14, 0, Value.int .i64 N) :: (B14, 1, Value.slice (some ⟨g5, 0, none⟩) len cp5) :: (B4, 0, Value.int .i64 N) :: (B4, 1, Value.slice (some ⟨g, 0, none⟩) len cp) :: (w.heap.size, 0, Value.int .i64 N) :: (w.heap.size, 1, Value.slice x len c0) :: [])))
      case first =>
        as_aux_lemma =>
        have hwB := Nat.le_refl W7.heap.size
        have k2 := s8.hold
        go_region_held3 (fun w' => w'.cell? ⟨bj, 0, none⟩ = some (.int .i64 N) ∧ w'.cell? ⟨bj, 1, none⟩ = some (.slice (some ⟨gj, 0, none⟩) len cj) ∧ w'.cell? ⟨B14, 0, none⟩ = some (.int .i64 N) ∧ w'.cell? ⟨B14, 1, none⟩ = some (.slice (some ⟨g5, 0, none⟩) len cp5) ∧ w'.cell? ⟨B4, 0, none⟩ = some (.int .i64 N) ∧ w'.cell? ⟨B4, 1, none⟩ = some (.slice (some ⟨g, 0, none⟩) len cp) ∧ w'.cell? ⟨w.heap.size, 0, none⟩ = some (.int .i64 N) ∧ w'.cell? ⟨w.heap.size, 1, none⟩ = some (.slice x len c0) ∧ St W7 w' (Zs true a [(some ⟨gj, 0, none⟩, L), (some ⟨g5, 0, none⟩, L), (some ⟨g, 0, none⟩, L), (x, l)]) ((bj, 0, Value.int .i64 N) :: (bj, 1, Value.slice (some ⟨gj, 0, none⟩) len cj) :: (B14, 0, Value.int .i64 N) :: (B14, 1, Value.slice (some ⟨g5, 0, none⟩) len cp5) :: (B4, 0, Value.int .i64 N) :: (B4, 1, Value.slice (some ⟨g, 0, none⟩) len cp) :: (w.heap.size, 0, Value.int .i64 N) :: (w.heap.size, 1, Value.slice x len c0) :: [])) (first | (exact keepSt (((bj, 0, Value.int .i64 N) :: (bj, 1, Value.slice (some ⟨gj, 0, none⟩) len cj) :: (B14, 0, Value.int .i64 N) :: (B14, 1, Value.slice (some ⟨g5, 0, none⟩) len cp5) :: (B4, 0, Value.int .i64 N) :: (B4, 1, Value.slice (some ⟨g, 0, none⟩) len cp) :: (w.heap.size, 0, Value.int .i64 N) :: (w.heap.size, 1, Value.slice x len c0) :: [])) (by assumption) (by assumption)) | (exact keepSt (((bj, 0, Value.int .i64 N) :: (bj, 1, Value.slice (some ⟨gj, 0, none⟩) len cj) :: (B14, 0, Value.int .i64 N) :: (B14, 1, Value.slice (some ⟨g5, 0, none⟩) len cp5) :: (B4, 0, Value.int .i64 N) :: (B4, 1, Value.slice (some ⟨g, 0, none⟩) len cp) :: (w.heap.size, 0, Value.int .i64 N) :: (w.heap.size, 1, Value.slice x len c0) :: [])) (Below.refl _ _).drew (by assumption)) | (exact keepSt (((bj, 0, Value.int .i64 N) :: (bj, 1, Value.slice (some ⟨gj, 0, none⟩) len cj) :: (B14, 0, Value.int .i64 N) :: (B14, 1, Value.slice (some ⟨g5, 0, none⟩) len cp5) :: (B4, 0, Value.int .i64 N) :: (B4, 1, Value.slice (some ⟨g, 0, none⟩) len cp) :: (w.heap.size, 0, Value.int .i64 N) :: (w.heap.size, 1, Value.slice x len c0) :: [])) ((Below.refl _ _).alloc (Nat.le_refl _) _) (by assumption)) | (exact keepSt0 (((bj, 0, Value.int .i64 N) :: (bj, 1, Value.slice (some ⟨gj, 0, none⟩) len cj) :: (B14, 0, Value.int .i64 N) :: (B14, 1, Value.slice (some ⟨g5, 0, none⟩) len cp5) :: (B4, 0, Value.int .i64 N) :: (B4, 1, Value.slice (some ⟨g, 0, none⟩) len cp) :: (w.heap.size, 0, Value.int .i64 N) :: (w.heap.size, 1, Value.slice x len c0) :: [])) (St.drew (by assumption))) | (exact keepSt0 (((bj, 0, Value.int .i64 N) :: (bj, 1, Value.slice (some ⟨gj, 0, none⟩) len cj) :: (B14, 0, Value.int .i64 N) :: (B14, 1, Value.slice (some ⟨g5, 0, none⟩) len cp5) :: (B4, 0, Value.int .i64 N) :: (B4, 1, Value.slice (some ⟨g, 0, none⟩) len cp) :: (w.heap.size, 0, Value.int .i64 N) :: (w.heap.size, 1, Value.slice x len c0) :: [])) (s9.alloc _)) | (exact keepSt0 (((bj, 0, Value.int .i64 N) :: (bj, 1, Value.slice (some ⟨gj, 0, none⟩) len cj) :: (B14, 0, Value.int .i64 N) :: (B14, 1, Value.slice (some ⟨g5, 0, none⟩) len cp5) :: (B4, 0, Value.int .i64 N) :: (B4, 1, Value.slice (some ⟨g, 0, none⟩) len cp) :: (w.heap.size, 0, Value.int .i64 N) :: (w.heap.size, 1, Value.slice x len c0) :: [])) (St.twoP s9 k2 hwB (by first | exact Nat.le_refl _ | exact hb7.size | exact Nat.le_trans hb7.size hb8.size))) | (exact keepSt0 (((bj, 0, Value.int .i64 N) :: (bj, 1, Value.slice (some ⟨gj, 0, none⟩) len cj) :: (B14, 0, Value.int .i64 N) :: (B14, 1, Value.slice (some ⟨g5, 0, none⟩) len cp5) :: (B4, 0, Value.int .i64 N) :: (B4, 1, Value.slice (some ⟨g, 0, none⟩) len cp) :: (w.heap.size, 0, Value.int .i64 N) :: (w.heap.size, 1, Value.slice x len c0) :: [])) (by assumption)))
          (first
            | (go_at_call 16; (fail_if_success (have _ := hb7)); refine (HZ.out _ ((keepZs (w := W7) (em := true) (a := a) (cs := [(some ⟨gj, 0, none⟩, L), (some ⟨g5, 0, none⟩, L), (some ⟨g, 0, none⟩, L), (x, l)]) ((bj, 0, Value.int .i64 N) :: (bj, 1, Value.slice (some ⟨gj, 0, none⟩) len cj) :: (B14, 0, Value.int .i64 N) :: (B14, 1, Value.slice (some ⟨g5, 0, none⟩) len cp5) :: (B4, 0, Value.int .i64 N) :: (B4, 1, Value.slice (some ⟨g, 0, none⟩) len cp) :: (w.heap.size, 0, Value.int .i64 N) :: (w.heap.size, 1, Value.slice x len c0) :: []) (by assumption)).c (by simp))).mono ?_; rintro e w7 ⟨y7, c7, rfl, hy7, hb7⟩; have s7 := (keepSt_st (w := W7) (Z := Zs true a [(some ⟨gj, 0, none⟩, L), (some ⟨g5, 0, none⟩, L), (some ⟨g, 0, none⟩, L), (x, l)]) ((bj, 0, Value.int .i64 N) :: (bj, 1, Value.slice (some ⟨gj, 0, none⟩) len cj) :: (B14, 0, Value.int .i64 N) :: (B14, 1, Value.slice (some ⟨g5, 0, none⟩) len cp5) :: (B4, 0, Value.int .i64 N) :: (B4, 1, Value.slice (some ⟨g, 0, none⟩) len cp) :: (w.heap.size, 0, Value.int .i64 N) :: (w.heap.size, 1, Value.slice x len c0) :: []) (by assumption)).call hb7; first | (have hx7 := boxed2 hb7) | (have hx7 := boxed2' hb7) | skip)
            | (go_at_call 16; refine (HZ.out _ ((keepZs (w := W7) (em := true) (a := a) (cs := [(some ⟨gj, 0, none⟩, L), (some ⟨g5, 0, none⟩, L), (some ⟨g, 0, none⟩, L), (x, l)]) ((bj, 0, Value.int .i64 N) :: (bj, 1, Value.slice (some ⟨gj, 0, none⟩) len cj) :: (B14, 0, Value.int .i64 N) :: (B14, 1, Value.slice (some ⟨g5, 0, none⟩) len cp5) :: (B4, 0, Value.int .i64 N) :: (B4, 1, Value.slice (some ⟨g, 0, none⟩) len cp) :: (w.heap.size, 0, Value.int .i64 N) :: (w.heap.size, 1, Value.slice x len c0) :: []) (by assumption)).c (by simp))).mono ?_; rintro e w8 ⟨y8, c8, rfl, hy8, hb8⟩; have hy78 := (show CsAt _ y7 l from (by first | exact hy7 | exact hy7.below ((Below.refl _ _).alloc (Nat.le_refl _) _).drew | exact hy7.below ((Below.refl _ _).alloc (Nat.le_refl _) _))).below hb8; have sB := (keepSt_st (w := W7) (Z := Zs true a [(some ⟨gj, 0, none⟩, L), (some ⟨g5, 0, none⟩, L), (some ⟨g, 0, none⟩, L), (x, l)]) ((bj, 0, Value.int .i64 N) :: (bj, 1, Value.slice (some ⟨gj, 0, none⟩) len cj) :: (B14, 0, Value.int .i64 N) :: (B14, 1, Value.slice (some ⟨g5, 0, none⟩) len cp5) :: (B4, 0, Value.int .i64 N) :: (B4, 1, Value.slice (some ⟨g, 0, none⟩) len cp) :: (w.heap.size, 0, Value.int .i64 N) :: (w.heap.size, 1, Value.slice x len c0) :: []) (by assumption)).call hb8; first | (have hx8 := hx7.below hb8; clear hx7) | (have hx8 := boxed2 hb8) | (have hx8 := boxed2' hb8) | skip)
            | (go_at_call 29; refine (HM.out _ y7 y8 c7 c8 (keepZs (w := W7) (em := true) (a := a) (cs := [(some ⟨gj, 0, none⟩, L), (some ⟨g5, 0, none⟩, L), (some ⟨g, 0, none⟩, L), (x, l)]) ((bj, 0, Value.int .i64 N) :: (bj, 1, Value.slice (some ⟨gj, 0, none⟩) len cj) :: (B14, 0, Value.int .i64 N) :: (B14, 1, Value.slice (some ⟨g5, 0, none⟩) len cp5) :: (B4, 0, Value.int .i64 N) :: (B4, 1, Value.slice (some ⟨g, 0, none⟩) len cp) :: (w.heap.size, 0, Value.int .i64 N) :: (w.heap.size, 1, Value.slice x len c0) :: []) (by assumption)).e ((keepZs (w := W7) (em := true) (a := a) (cs := [(some ⟨gj, 0, none⟩, L), (some ⟨g5, 0, none⟩, L), (some ⟨g, 0, none⟩, L), (x, l)]) ((bj, 0, Value.int .i64 N) :: (bj, 1, Value.slice (some ⟨gj, 0, none⟩) len cj) :: (B14, 0, Value.int .i64 N) :: (B14, 1, Value.slice (some ⟨g5, 0, none⟩) len cp5) :: (B4, 0, Value.int .i64 N) :: (B4, 1, Value.slice (some ⟨g, 0, none⟩) len cp) :: (w.heap.size, 0, Value.int .i64 N) :: (w.heap.size, 1, Value.slice x len c0) :: []) (by assumption)).1.2 rfl) (by first | exact hy78 | exact hy78.below ((Below.refl _ _).alloc (Nat.le_refl _) _).drew | exact hy78.below ((Below.refl _ _).alloc (Nat.le_refl _) _)) (by first | exact hy8 | exact hy8.below ((Below.refl _ _).alloc (Nat.le_refl _) _).drew | exact hy8.below ((Below.refl _ _).alloc (Nat.le_refl _) _))).mono ?_; rintro e w9 ⟨g9, c9, rfl, hg9, hR9, hb9⟩; have s9 := (keepSt_st (w := W7) (Z := Zs true a [(some ⟨gj, 0, none⟩, L), (some ⟨g5, 0, none⟩, L), (some ⟨g, 0, none⟩, L), (x, l)]) ((bj, 0, Value.int .i64 N) :: (bj, 1, Value.slice (some ⟨gj, 0, none⟩) len cj) :: (B14, 0, Value.int .i64 N) :: (B14, 1, Value.slice (some ⟨g5, 0, none⟩) len cp5) :: (B4, 0, Value.int .i64 N) :: (B4, 1, Value.slice (some ⟨g, 0, none⟩) len cp) :: (w.heap.size, 0, Value.int .i64 N) :: (w.heap.size, 1, Value.slice x len c0) :: []) (by assumption)).call hb9; (first | (have hx9 := hx8.below hb9; clear hx8; have ho9 := hx9; simp only [Holds, and_true] at ho9) | (have hx9 := boxed2 hb9; have ho9 := hx9; simp only [Holds, and_true] at ho9) | (have hx9 := boxed2' hb9; have ho9 := hx9; simp only [Holds, and_true] at ho9) | skip)))
        all_goals
          have zz := hg9
          try simp only [World.size_alloc] at zz
          have za := hb7.size
          try simp only [World.drew, World.size_alloc] at za
          have zb := hb8.size
          try simp only [World.size_alloc] at zb
          go_wp2_with fail
          go_meet
          case rel => first
            | exact ⟨rfl, rfl, _, g9, c9, rfl, s9.bel.size, .inr ⟨g9, 0, rfl, hR9.below ((Below.refl _ _).alloc (Nat.le_refl _) _)⟩, s9.box2 30 _ _⟩
            | exact ⟨rfl, rfl, _, g9, c9, rfl, (by first | exact hwB | exact hb7.size | exact Nat.le_trans hb7.size hb8.size), .inr ⟨g9, 0, rfl, (hR9.other (by dsimp only; omega) _).other (by dsimp only; omega) _⟩, s9.late2 k2 hwB (by first | exact Nat.le_refl _ | exact hb7.size | exact Nat.le_trans hb7.size hb8.size) hx9 _ _⟩
      case rest =>
      obtain ⟨rfl, rfl, bm, gm, cm, rfl, hbm, hcm, s9⟩ := hcut
      obtain ⟨W9, hW9, s9⟩ := s9.name
      rw [← hW9] at hcm ⊢
      clear hW9
      have hb9 := hbW.trans (s9.bel.mono hbW.size)
      have s10 := s9.more hcm
      have q10 := s10.hold
      simp only [Holds, and_true] at q10
      have HB : Hid (∀ W : World, CsAt W (some ⟨g, 0, none⟩) L → Calls Tryd.prog 44 #[(.agg #[.int .i64 N, (.slice (some ⟨g, 0, none⟩) len cp)])] W fun e w' => ∃ y cap, e = .returned (.agg #[.int .i64 N, (.slice y len cap)]) ∧ CsAt w' y L ∧ Below W.heap.size W w') := fun W h => zoneBack_any N _ cp len L W h hLl (by omega)
      have HI : Hid (∀ (W : World) (y1 y2 : Option Addr) (c1 c2 : Nat), CsAt W y1 L → CsAt W y2 L → Calls Tryd.prog 26 #[(.agg #[.int .i64 N, (.slice y1 len c1)]), (.agg #[.int .i64 N, (.slice y2 len c2)])] W fun e w' => e = .returned (.bool true) ∧ Below W.heap.size W w') := by
        intro W y1 y2 c1 c2 h1 h2
        refine (isZone_any N N y1 y2 len c1 len c2 L L W h1 h2 hLl hLl (by omega)).mono ?_
        rintro e w' ⟨rfl, hb⟩
        exact ⟨by simp, hb⟩
      clear s8 q8 s9 hcm HM HZ hbW hLl
      go_wp2_with fail
      refine (HB.out _ (s10.sent.c (by simp))).mono ?_
      rintro e w11 ⟨y11, c11, rfl, hy11, hb11⟩
      have s11 := (s10.call hb11).box2 24 (.int .i64 N) (.slice y11 len c11)
      have hy12 := hy11.below ((Below.refl _ _).alloc (Nat.le_refl _) (.cells #[.int .i64 N, .slice y11 len c11] 24))
      have s12 := s11.more hy12
      have hb12 := hb9.trans (s11.bel.mono hb9.size)
      have q12 := (s10.call hb11).hold
      simp only [Holds, and_true] at q12
      clear s10 q10 hb11 hy11 hy12 s11 hb9
      go_wp2_with fail
      refine (HI.out _ _ _ _ _ (s12.sent.c (by simp)) (s12.sent.c (by simp))).mono ?_
      rintro e w13 ⟨rfl, hb13⟩
      have s13 := s12.call hb13
      have q13 := s13.hold
      simp only [Holds, and_true] at q13
      clear q12
      go_wp2_with fail
      refine (HI.out _ _ _ _ _ (s13.sent.c (by simp)) (s13.sent.c (by simp))).mono ?_
      rintro e w14 ⟨rfl, hb14⟩
      have s14 := s13.call hb14
      have q14 := s14.hold
      simp only [Holds, and_true] at q14
      clear q13
      go_wp2_with fail
      refine (HI.out _ _ _ _ _ (s14.sent.c (by simp)) (s14.sent.c (by simp))).mono ?_
      rintro e w15 ⟨rfl, hb15⟩
      have s15 := s14.call hb15
      go_wp2_with fail
      go_ret
      exact ⟨rfl, hb12.trans (s15.bel.mono hb12.size)⟩

theorem octStrong_true (N : Int) (x : Option Addr) (c0 : Nat) (l : List Ce) (a : Nat → Addr) (w : World) (hS : ErrS w a ∧ ErrAt w a 3) (hN : -9223372036854775808 ≤ N ∧ N ≤ 9223372036854775807) (hA : CsAt w x l) (hlen : l.length ≤ 9223372036854775807) (hm : ∀ A ∈ l, -9223372036854775808 ≤ A.m ∧ A.m ≤ 9223372036854775807) :
    Calls Tryd.prog 10 #[(.agg #[.int .i64 N, (.slice x l.length c0)])] w fun e w' => e = .returned (.bool true) ∧ Below w.heap.size w w' :=
  strong_head N x c0 l.length l a w hS.1 hS.2 hA rfl hlen
end Go.Proofs.YtpbaenknfoabgaaDoor
