/- Octagons: has a right octagon a point: the reference. -/
import Derived.Test.YtofjjaabgfmnpaaDoorYu
import Derived.Test.YtofjjaabgfmnpaaDoorZo
import Derived.Test.YtofjjaabgfmnpaaDoorZr
import Derived.Test.YtofjjaabgfmnpaaDoorOl
import Derived.BigQuiet
namespace Go.Proofs.YtofjjaabgfmnpaaDoor
open Go.RowKit
set_option linter.unusedVariables false

set_option maxRecDepth 20000 in
set_option maxHeartbeats 1000000 in
theorem valueOf_any (x : Option Addr) (k c i : Nat) (p : List Int) (W : World) (hI : IntsAt W x p) (hk : Hid (k = p.length)) (hi : i < 2 * k) (hk4 : k ≤ 4) (hp : Hid (∀ v ∈ p, v.natAbs ≤ 1099511627776)) :
    Calls Tryd.prog 59 #[.slice x k c, .int .i64 i] W fun e w' => e = .returned (.int .i64 (ptF p i)) ∧ w' = W := by
  obtain ⟨j, hj⟩ : ∃ j, j = i / 2 := ⟨_, rfl⟩
  have hjk : j < p.length := by rw [← hk.out]; omega
  obtain ⟨v, hv⟩ : ∃ v, v = p.getD j 0 := ⟨_, rfl⟩
  obtain ⟨b, off, rfl, hcell⟩ := hI.get j hjk v hv
  have hvs : -1099511627776 ≤ v ∧ v ≤ 1099511627776 := by
    have : v ∈ p := by rw [hv, show p.getD j 0 = p[j] by simp [hjk]]; exact List.getElem_mem hjk
    have := hp.out v this
    omega
  have e1 : (i : Int) / 2 = (j : Int) := by omega
  have e2 : (j : Int) < (k : Int) := by omega
  have hr : Hid (ptF p i = if i % 2 = 1 then -v else v) := by show _ = _; rw [hv, hj]; rfl
  have hi8 : i ≤ 8 := by omega
  clear hv hI hj hp hk
  by_cases h : i % 2 = 1
  · have h1 : (i : Int) % 2 = 1 := by omega
    have hr2 : Hid (ptF p i = -v) := by show _ = _; rw [hr.out, if_pos h]
    clear hr h
    go_enter Tryd.func59, Tryd.ntmps59
    go_wp2_with fail
    go_ret
    exact ⟨ret_int (by rw [hr2.out]), rfl⟩
  · have h1 : (i : Int) % 2 = 0 := by omega
    have hr2 : Hid (ptF p i = v) := by show _ = _; rw [hr.out, if_neg h]
    clear hr h
    go_enter Tryd.func59, Tryd.ntmps59
    go_wp2_with fail
    go_ret
    exact ⟨ret_int (by rw [hr2.out]), rfl⟩
set_option maxRecDepth 20000 in
set_option maxHeartbeats 4000000 in
theorem hasOct_row (Ni : Int) (n b off c len : Nat) (l : List Ce) (x : Option Addr) (k c' : Nat) (p : List Int) (w : World) (hR : RowC w b off l) (hI : IntsAt w x p) (hl : Hid (len = l.length)) (hll : Hid (len = n * n)) (hk : Hid (k = p.length)) (hkn : 2 * k = n) (hn : n ≤ 8) (hN : 2 * Ni = n) (hp : Hid (∀ v ∈ p, v.natAbs ≤ 1099511627776)) :
    Calls Tryd.prog 22 #[(.agg #[.int .i64 Ni, (.slice (some ⟨b, off, none⟩) len c)]), .slice x k c'] w fun e w' => e = .returned (.bool (inB n (ptD p) (encM (matOf n l)))) ∧ Below w.heap.size w w' := by
  have s0 := (St.startRP hR hI).box2 24 (.int .i64 Ni) (.slice (some ⟨b, off, none⟩) len c)
  have q0 := s0.hold
  simp only [Holds, and_true] at q0
  obtain ⟨r, hr⟩ : ∃ r, r = inB n (ptD p) (encM (matOf n l)) := ⟨_, rfl⟩
  rw [← hr]
  have Hr := hide hr
  have hNr : 0 ≤ Ni ∧ Ni ≤ 4 := by omega
  have hlen : len ≤ 64 := by
    have := hll.out
    have h1 := Nat.mul_le_mul hn hn
    omega
  have hk4 : k ≤ 4 := by omega
  have hsm : Hid (∀ i, (ptF p i).natAbs ≤ 1099511627776) := fun i => ptF_small hp.out i
  have hzc : Hid (∀ (W : World) (i j : Nat), RowC W b off l → i < n → j < n → W.cell? ⟨b, off + (i * n + j) * 2, none⟩ = some (.bool (l.getD (i * n + j) ceZ).h) ∧ W.cell? ⟨b, off + (i * n + j) * 2 + 1, none⟩ = some (.int .i64 (l.getD (i * n + j) ceZ).m)) := fun W i j h hi hj => ⟨h.has _ (by rw [← hl.out, hll.out]; exact idx_in hi hj), h.most _ (by rw [← hl.out, hll.out]; exact idx_in hi hj)⟩
  have HVl : Hid (∀ (W : World) (i : Nat), IntsAt W x p → i < n → Calls Tryd.prog 59 #[.slice x k c', .int .i64 i] W fun e w' => e = .returned (.int .i64 (ptF p i)) ∧ w' = W) := fun W i h hi => valueOf_any x k c' i p W h hk (by omega) hk4 hp
  clear hr hR hI
  go_enter Tryd.func22, Tryd.ntmps22
  go_wp2_with fail
  go_loopg [6] n (fun gh iv wr => ∃ i : Nat, i + gh = n ∧ iv = .int .i64 i ∧ Hid (∀ q, q < i * n + 0 → ptD p (q / n) (q % n) ≤ encM (matOf n l) (q / n) (q % n)) ∧ St w wr (RP b off l x p) [(w.heap.size, 0, Value.int .i64 Ni), (w.heap.size, 1, Value.slice (some ⟨b, off, none⟩) len c)])
  case atStart => exact ⟨0, by omega, rfl, fun q hq => by simp at hq, s0⟩
  case round =>
    clear s0 q0
    obtain ⟨i, hig, rfl, HQ, st⟩ := hrel
    have qs := st.hold
    simp only [Holds, and_true] at qs
    by_cases hin : i < n
    · have hi' : (i : Int) < (n : Int) := by omega
      go_wp2_with fail
      go_loopg [7] n (fun gh jv wr => ∃ j : Nat, j + gh = n ∧ jv = .int .i64 j ∧ Hid (∀ q, q < i * n + j → ptD p (q / n) (q % n) ≤ encM (matOf n l) (q / n) (q % n)) ∧ St w wr (RP b off l x p) [(w.heap.size, 0, Value.int .i64 Ni), (w.heap.size, 1, Value.slice (some ⟨b, off, none⟩) len c)])
      case atStart => exact ⟨0, by omega, rfl, HQ, st⟩
      case round =>
        clear st qs HQ
        obtain ⟨j, hjg, rfl, HQ, st⟩ := hrel
        have qs := st.hold
        simp only [Holds, and_true] at qs
        by_cases hjn : j < n
        · have hj' : (j : Int) < (n : Int) := by omega
          obtain ⟨c1, c2⟩ := hzc.out wr i j st.sent.1 hin hjn
          have hbl := st.sent.1.lt
          obtain ⟨ik, hik⟩ : ∃ m : Nat, m = i * n := ⟨_, rfl⟩
          obtain ⟨x1, hx1⟩ : ∃ m : Nat, m = ik + j := ⟨_, rfl⟩
          have a1 : (i : Int) * (n : Int) = (ik : Int) := by rw [hik, Int.natCast_mul]
          have a3 : (ik : Int) + (j : Int) = (x1 : Int) := by omega
          have b1 : x1 < len := by rw [hll.out, hx1, hik]; exact idx_in hin hjn
          have b4 : (x1 : Int) < (len : Int) := by omega
          have b5 : ik ≤ 64 := by omega
          have hx2 : x1 = i * n + j := by rw [hx1, hik]
          rw [← hx2] at c1 c2
          obtain ⟨⟨ch, cm⟩, hC⟩ : ∃ C, C = l.getD x1 ceZ := ⟨_, rfl⟩
          rw [← hC] at c1 c2
          dsimp only at c1 c2
          obtain ⟨u, hu⟩ : ∃ u, u = ptF p i := ⟨_, rfl⟩
          obtain ⟨v, hv⟩ : ∃ u, u = ptF p j := ⟨_, rfl⟩
          have u1 := hsm.out i
          have u2 := hsm.out j
          have HVi := HVl.out
          obtain ⟨G, hG⟩ : ∃ G : Nat → Int, G = ptF p := ⟨_, rfl⟩
          have HV2 : Hid (∀ (W : World) (z : Nat), z = i ∨ z = j → IntsAt W x p → Calls Tryd.prog 59 #[.slice x k c', .int .i64 z] W fun e w' => e = .returned (.int .i64 (G z)) ∧ w' = W) := fun W z hz h => by
            rw [hG]; rcases hz with rfl | rfl
            · exact HVi W _ h hin
            · exact HVi W _ h hjn
          have gu : G i = u := by rw [hG, hu]
          have gv : G j = v := by rw [hG, hv]
          rw [← hu] at u1
          rw [← hv] at u2
          have hwr : IntKind.i64.wrap (v - u) = v - u := by unfold IntKind.wrap; simp [IntKind.signed, IntKind.bits]; omega
          have hen : Hid (ptD p i j = v - u ∧ encM (matOf n l) i j = if ch = true then cm else 9223372036854775807) := by
            refine ⟨by rw [hu, hv]; rfl, ?_⟩
            show encB ((l.getD (i * n + j) ceZ).bd) = _
            rw [← hx2, ← hC]
            cases ch <;> rfl
          have hnext : Hid ((ch = true → v - u ≤ cm) → ∀ q, q < i * n + (j + 1) → ptD p (q / n) (q % n) ≤ encM (matOf n l) (q / n) (q % n)) := by
            intro hle q hq
            by_cases e : q = i * n + j
            · obtain ⟨e1, e2⟩ := div_at (i := i) hjn
              rw [e, e1, e2, hen.out.1, hen.out.2]
              split
              · rename_i h; exact hle h
              · omega
            · exact HQ.out q (by omega)
          have hbad : Hid (ch = true → cm < v - u → r = false) := by
            intro h1 h2
            rw [Hr.out]; unfold inB; apply decide_eq_false
            intro hall
            have := hall (i * n + j) (idx_in hin hjn)
            obtain ⟨e1, e2⟩ := div_at (i := i) hjn
            rw [e1, e2, hen.out.1, hen.out.2, if_pos h1] at this
            omega
          have st2 := st.alloc (.cells #[.bool ch, .int .i64 cm] 69)
          have hII : IntsAt (wr.alloc (.cells #[.bool ch, .int .i64 cm] 69)) x p := st2.sent.2
          clear hik hx1 hx2 hC hu hv hen u1 u2 HVi hG
          cases ch
          · go_wp2_with fail
            go_quiet (fail)
            go_wp2_with fail
            go_roundg (n - (j + 1))
            case measure => omega
            case rel => exact ⟨j + 1, by omega, by go_num, hnext.out (fun h => by cases h), ⟨belowN st2.bel _, st2.hold, st2.cl _ _ st2.sent (belowN (Below.refl _ _) _), st2.cl⟩⟩
          · by_cases hgt : cm < v - u
            · have hre : Hid (r = false) := hbad.out rfl hgt
              have hdec : decide (cm < v - u) = true := decide_eq_true hgt
              go_wp2_with fail
              go_quiet (first | (go_at_call 59; exact Calls.quiet_of_same (HV2.out _ _ (by first | exact .inl rfl | exact .inr rfl) hII)))
              go_wp2_with fail
              go_ret
              exact ⟨ret_bool (by rw [hre.out]), belowN st2.bel _⟩
            · have hdec : decide (cm < v - u) = false := decide_eq_false hgt
              go_wp2_with fail
              go_quiet (first | (go_at_call 59; exact Calls.quiet_of_same (HV2.out _ _ (by first | exact .inl rfl | exact .inr rfl) hII)))
              go_wp2_with fail
              go_roundg (n - (j + 1))
              case measure => omega
              case rel => exact ⟨j + 1, by omega, by go_num, hnext.out (fun _ => by omega), ⟨belowN st2.bel _, st2.hold, st2.cl _ _ st2.sent (belowN (Below.refl _ _) _), st2.cl⟩⟩
        · have hj' : ¬ (j : Int) < (n : Int) := by omega
          have hje : j = n := by omega
          subst hje
          have e : i * j + j = (i + 1) * j + 0 := by rw [Nat.add_mul]; omega
          rw [e] at HQ
          go_wp2_with fail
          go_roundg (j - (i + 1))
          case measure => omega
          case rel => exact ⟨i + 1, by omega, by go_num, HQ, st⟩
    · have hi' : ¬ (i : Int) < (n : Int) := by omega
      have hie : i = n := by omega
      subst hie
      have hre : Hid (r = true) := by
        show _ = _; rw [Hr.out]; unfold inB; apply decide_eq_true
        intro q hq
        exact HQ.out q (by omega)
      go_wp2_with fail
      go_ret
      exact ⟨ret_bool (by rw [hre.out]), st.bel⟩
set_option maxHeartbeats 1000000 in
theorem hasOct_zero (x y : Option Addr) (c c' : Nat) (w : World) :
    Calls Tryd.prog 22 #[(.agg #[.int .i64 0, (.slice x 0 c)]), .slice y 0 c'] w fun e w' => e = .returned (.bool true) ∧ Below w.heap.size w w' := by
  have s0 := (St.start1' w).box2 24 (.int .i64 0) (.slice x 0 c)
  go_enter Tryd.func22, Tryd.ntmps22
  go_wp2_with fail
  refine wp_loop_rounds 1 ?_
  rw [rounds_succ]
  go_wp2_with fail
  go_ret
  exact ⟨rfl, s0.bel⟩
theorem hasOct_any (Ni : Int) (n c len : Nat) (s : Option Addr) (l : List Ce) (x : Option Addr) (k c' : Nat) (p : List Int) (w : World) (hA : CsAt w s l) (hI : IntsAt w x p) (hl : Hid (len = l.length)) (hll : Hid (len = n * n)) (hk : Hid (k = p.length)) (hkn : 2 * k = n) (hn : n ≤ 8) (hN : 2 * Ni = n) (hp : Hid (∀ v ∈ p, v.natAbs ≤ 1099511627776)) :
    Calls Tryd.prog 22 #[(.agg #[.int .i64 Ni, (.slice s len c)]), .slice x k c'] w fun e w' => e = .returned (.bool (inB n (ptD p) (encM (matOf n l)))) ∧ Below w.heap.size w w' := by
  by_cases h0 : n = 0
  · subst h0
    obtain rfl : k = 0 := by omega
    obtain rfl : Ni = 0 := by omega
    obtain rfl : len = 0 := by have := hll.out; omega
    have e : inB 0 (ptD p) (encM (matOf 0 l)) = true := by unfold inB; apply decide_eq_true; intro q hq; simp at hq
    rw [e]
    exact hasOct_zero s x c c' w
  · rcases hA with rfl | ⟨b, off, rfl, hR⟩
    · exfalso
      have h1 := hl.out
      have h2 := hll.out
      have h3 : 1 ≤ n * n := Nat.mul_le_mul (show 1 ≤ n by omega) (show 1 ≤ n by omega)
      simp at h1
      omega
    · exact hasOct_row Ni n b off c len l x k c' p w hR hI hl hll hk hkn hn hN hp
end Go.Proofs.YtofjjaabgfmnpaaDoor
