/- Zones: has a right zone a point: the reference. -/
import Derived.Test.YtkngedinomngbaaDoorYu
import Derived.Test.YtkngedinomngbaaDoorZo
import Derived.Deep.Cut
import Derived.Deep.DeepCutAuto
namespace Go.Proofs.YtkngedinomngbaaDoor
open Go.RowKit
set_option linter.unusedVariables false

theorem ptF_cons (p : List Int) (i : Nat) : (0 :: p).getD i 0 = ptF p i := by
  cases i with
  | zero => simp [ptF]
  | succ i => simp [ptF]
/-- Cells and numbers kept. -/
def RP (b off : Nat) (l : List Ce) (x : Option Addr) (p : List Int) (W : World) : Prop := RowC W b off l ∧ IntsAt W x p
theorem St.startRP {w : World} {b off : Nat} {l : List Ce} {x : Option Addr} {p : List Int} (h : RowC w b off l) (k : IntsAt w x p) : St w w (RP b off l x p) [] :=
  ⟨Below.refl _ _, trivial, ⟨h, k⟩, fun _ _ q hb => ⟨RowC.stays h.lt q.1 hb, k.stays q.2 hb⟩⟩

theorem St.name' {w W : World} {Z : World → Prop} {L : List (Nat × Nat × Value)} (h : St w W Z L) : ∃ V, V = W ∧ St w V Z L := ⟨W, rfl, h⟩
theorem St.grownZ {w W W' : World} {Z : World → Prop} {L : List (Nat × Nat × Value)} {b : Nat} (h : St w W Z L) (hg : W.grownBy W' (some b)) (ap : Apart b L) (hb : w.heap.size ≤ b) : St w W' Z L := by
  have bel : Below w.heap.size W W' := (Below.refl _ _).grown hg h.bel.size (fun k e => by simp at e; omega)
  exact ⟨h.bel.trans bel, h.hold.grown hg ap, h.cl _ _ h.sent bel, h.cl⟩
theorem own_form {W : World} {base e m : Nat} {v : Value} {l : List Int} (h : W.ownsRow base e 1 v m (l.map (Value.int .i64))) (hm : 0 < m) : ∃ g cp, v = .slice (some ⟨g, 0, none⟩) m cp ∧ base ≤ g ∧ IntsAt W (some ⟨g, 0, none⟩) l := by
  have h1 := h.1
  obtain ⟨h2, h3⟩ := h
  rcases h3 with ⟨_, h0⟩ | ⟨g, cap, cur, rfl, hb, r⟩
  · omega
  · exact ⟨g, cap, rfl, hb, IntsAt_of_owns ⟨h2, .inr ⟨g, cap, cur, rfl, hb, r⟩⟩ (by simpa using h1.symm)⟩
theorem news_ints {w : World} {b off : Nat} {l : List Int} (hc : ∀ i, i < l.length → w.cell? ⟨b, off + i, none⟩ = some (.int .i64 (l.getD i 0))) : ∀ j u, (l.map (Value.int .i64))[j]? = some u → w.cell? ((⟨b, off, none⟩ : Addr).add j) = some u := by
  intro j u hj
  have hjl : j < l.length := by
    rcases Nat.lt_or_ge j l.length with h | h
    · exact h
    · rw [List.getElem?_eq_none (by simpa using h)] at hj; cases hj
  have := hc j hjl
  have hu : u = .int .i64 (l.getD j 0) := by simp [hjl] at hj; rw [← hj]; simp [hjl]
  rw [hu, ← this]
  unfold Addr.add
  split
  · rename_i h0; subst h0; simp
  · rfl

set_option maxRecDepth 20000 in
set_option maxHeartbeats 4000000 in
theorem hasZone_any (Ni : Int) (n b off c len : Nat) (l : List Ce) (x : Option Addr) (k c' : Nat) (p : List Int) (w : World) (hR : RowC w b off l) (hI : IntsAt w x p) (hl : Hid (len = l.length)) (hll : Hid (len = n * n)) (hk : Hid (k = p.length)) (hkn : k + 1 = n) (hn : 1 ≤ n ∧ n ≤ 5) (hN : Ni + 1 = n) (hp : Hid (∀ v ∈ p, v.natAbs ≤ 1099511627776)) :
    Calls Tryd.prog 21 #[(.agg #[.int .i64 Ni, (.slice (some ⟨b, off, none⟩) len c)]), .slice x k c'] w fun e w' => e = .returned (.bool (inB n (ptD p) (encM (matOf n l)))) ∧ Below w.heap.size w w' := by
  obtain ⟨i0, hi, hz0, hz1, hz2⟩ := info_parts Tryd.infoInt
  have s0 := ((St.startRP hR hI).box2 24 (.int .i64 Ni) (.slice (some ⟨b, off, none⟩) len c)).alloc (.cells #[.int .i64 0] 3)
  have own0 : ((w.alloc (.cells #[.int .i64 Ni, .slice (some ⟨b, off, none⟩) len c] 24)).alloc (.cells #[.int .i64 0] 3)).ownsRow (w.heap.size + 1) 3 1 (.slice (some ⟨w.heap.size + 1, 0, none⟩) 1 1) 1 [.int .i64 0] := by
    have := World.ownsRow_lit (base := w.heap.size + 1) (e := 3) (size := 1) (w.alloc (.cells #[.int .i64 Ni, .slice (some ⟨b, off, none⟩) len c] 24)) #[.int .i64 0] 1 (by simp) (by unfold maxLen; omega) rfl
    simpa using this
  have q0 := s0.hold
  simp only [Holds, and_true] at q0
  obtain ⟨r, hr⟩ : ∃ r, r = inB n (ptD p) (encM (matOf n l)) := ⟨_, rfl⟩
  rw [← hr]
  have Hr := hide hr
  have hNr : 0 ≤ Ni ∧ Ni ≤ 4 := by omega
  have hlen : 1 ≤ len ∧ len ≤ 25 := by
    have := hll.out
    have h1 := Nat.mul_le_mul hn.2 hn.2
    have h2 := Nat.mul_le_mul hn.1 hn.1
    omega
  have hk4 : k ≤ 4 := by omega
  clear hr
  go_enter Tryd.func21, Tryd.ntmps21
  go_upto_region 2 with fail
  go_cut [5] (fun t5 wx => ∃ (g cp : Nat), t5 = .slice (some ⟨g, 0, none⟩) n cp ∧ w.heap.size ≤ g ∧ IntsAt wx (some ⟨g, 0, none⟩) (0 :: p) ∧ St w wx (RP b off l x p) [(w.heap.size, 0, Value.int .i64 Ni), (w.heap.size, 1, Value.slice (some ⟨b, off, none⟩) len c)])
  case first =>
    rcases hI with rfl | ⟨bp, op, rfl, hbp, hcp⟩
    · have : k = 0 := hk.out
      subst this
      have hn1 : n = 1 := by omega
      subst hn1
      cases x with
      | none =>
        go_wp2_with fail
        go_meet
        case rel => exact ⟨w.heap.size + 1, 1, rfl, by omega, IntsAt_of_owns (l := [0]) own0 rfl, s0⟩
      | some xa =>
        go_wp2_with (at_builtin; refine wpList_append_own _ rfl _ _ 25 rfl (w.heap.size + 1) 3 i0 (.int .i64 0) 1 8 Tryd.underlying25 hi hz0 hz1 hz2 rfl (by decide) _ _ _ rfl own0 xa 0 c' [] rfl (by simp) (by intro j u h; simp at h) (by simp) (by unfold maxLen; omega) (by omega) (by simp) ?_)
        intro v' w1 hown hgrow _
        obtain ⟨g, cp, rfl, hg, hI1⟩ := own_form (l := [0]) hown (by omega)
        have s1 := s0.grownZ (b := w.heap.size + 1) hgrow ⟨by dsimp only; omega, by dsimp only; omega, trivial⟩ (by omega)
        go_wp2_with fail
        go_meet
        case rel => exact ⟨g, cp, rfl, by omega, hI1, s1⟩
    · have hcp2 : ∀ i, i < p.length → ((w.alloc (.cells #[.int .i64 Ni, .slice (some ⟨b, off, none⟩) len c] 24)).alloc (.cells #[.int .i64 0] 3)).cell? ⟨bp, op + i, none⟩ = some (.int .i64 (p.getD i 0)) := by
        intro i hi
        exact (s0.bel.cell (p := ⟨bp, op + i, none⟩) hbp).trans (hcp i hi)
      go_wp2_with (at_builtin; refine wpList_append_own _ rfl _ _ 25 rfl (w.heap.size + 1) 3 i0 (.int .i64 0) 1 8 Tryd.underlying25 hi hz0 hz1 hz2 rfl (by decide) _ _ _ rfl own0 ⟨bp, op, none⟩ k c' (p.map (Value.int .i64)) rfl (by rw [List.length_map, ← hk.out, Nat.mul_one]) (news_ints hcp2) (ints_oneCell _ _) (by unfold maxLen; omega) (by omega) (by simp) ?_)
      intro v' w1 hown hgrow _
      have e1 : 1 + k = n := by omega
      rw [e1] at hown
      obtain ⟨g, cp, rfl, hg, hI1⟩ := own_form (l := 0 :: p) hown (by omega)
      have s1 := s0.grownZ (b := w.heap.size + 1) hgrow ⟨by dsimp only; omega, by dsimp only; omega, trivial⟩ (by omega)
      clear e1
      go_wp2_with fail
      go_meet
      case rel => exact ⟨g, cp, rfl, by omega, hI1, s1⟩
  case rest =>
  clear s0 own0 q0
  obtain ⟨g, cp, rfl, hg, hP, s1⟩ := hcut
  obtain ⟨W1, hW1, s1⟩ := s1.name'
  rw [← hW1] at hP ⊢
  clear hW1
  have hgN := hide hg
  have hcell : Hid (∀ (W : World) (i : Nat), Below W1.heap.size W1 W → i < n → W.cell? ⟨g, i, none⟩ = some (.int .i64 (ptF p i)) ∧ g < W.heap.size) := by
    intro W i hb hi
    rcases hP with h | ⟨b', off', e, hlt, hc⟩
    · cases h
    · obtain ⟨rfl, rfl⟩ : g = b' ∧ 0 = off' := by simpa using e
      have := hc i (by simp; have := hk.out; omega)
      rw [ptF_cons, Nat.zero_add] at this
      exact ⟨(hb.cell (p := ⟨g, i, none⟩) hlt).trans this, Nat.lt_of_lt_of_le hlt hb.size⟩
  have hsm : Hid (∀ i, (ptF p i).natAbs ≤ 1099511627776) := fun i => ptF_small hp.out i
  have hzc : Hid (∀ (W : World) (i j : Nat), RowC W b off l → i < n → j < n → W.cell? ⟨b, off + (i * n + j) * 2, none⟩ = some (.bool (l.getD (i * n + j) ceZ).h) ∧ W.cell? ⟨b, off + (i * n + j) * 2 + 1, none⟩ = some (.int .i64 (l.getD (i * n + j) ceZ).m)) := fun W i j h hi hj => ⟨h.has _ (by rw [← hl.out, hll.out]; exact idx_in hi hj), h.most _ (by rw [← hl.out, hll.out]; exact idx_in hi hj)⟩
  have s2 := s1.re
  have hb1 := s1.bel
  clear hR hI s1 hP hg
  go_wp2_with fail
  go_loopg [6] n (fun gh iv wr => ∃ i : Nat, i + gh = n ∧ iv = .int .i64 i ∧ Hid (∀ q, q < i * n + 0 → ptD p (q / n) (q % n) ≤ encM (matOf n l) (q / n) (q % n)) ∧ St W1 wr (RP b off l x p) [(w.heap.size, 0, Value.int .i64 Ni), (w.heap.size, 1, Value.slice (some ⟨b, off, none⟩) len c)])
  case atStart => exact ⟨0, by omega, rfl, fun q hq => by simp at hq, s2⟩
  case round =>
    clear s2
    obtain ⟨i, hig, rfl, HQ, st⟩ := hrel
    have qs := st.hold
    simp only [Holds, and_true] at qs
    by_cases hin : i < n
    · have hi' : (i : Int) ≤ Ni := by omega
      go_wp2_with fail
      go_loopg [7] n (fun gh jv wr => ∃ j : Nat, j + gh = n ∧ jv = .int .i64 j ∧ Hid (∀ q, q < i * n + j → ptD p (q / n) (q % n) ≤ encM (matOf n l) (q / n) (q % n)) ∧ St W1 wr (RP b off l x p) [(w.heap.size, 0, Value.int .i64 Ni), (w.heap.size, 1, Value.slice (some ⟨b, off, none⟩) len c)])
      case atStart => exact ⟨0, by omega, rfl, HQ, st⟩
      case round =>
        clear st qs HQ
        obtain ⟨j, hjg, rfl, HQ, st⟩ := hrel
        have qs := st.hold
        simp only [Holds, and_true] at qs
        by_cases hjn : j < n
        · have hj' : (j : Int) ≤ Ni := by omega
          have hi2 : (i : Int) < (n : Int) := by omega
          have hj2 : (j : Int) < (n : Int) := by omega
          obtain ⟨c1, c2⟩ := hzc.out wr i j st.sent.1 hin hjn
          obtain ⟨c3, c5⟩ := hcell.out wr i st.bel hin
          obtain ⟨c4, -⟩ := hcell.out wr j st.bel hjn
          have hbl := st.sent.1.lt
          obtain ⟨ik, hik⟩ : ∃ m : Nat, m = i * n := ⟨_, rfl⟩
          obtain ⟨x1, hx1⟩ : ∃ m : Nat, m = ik + j := ⟨_, rfl⟩
          have a1 : (i : Int) * (n : Int) = (ik : Int) := by rw [hik, Int.natCast_mul]
          have a3 : (ik : Int) + (j : Int) = (x1 : Int) := by omega
          have b1 : x1 < len := by rw [hll.out, hx1, hik]; exact idx_in hin hjn
          have b4 : (x1 : Int) < (len : Int) := by omega
          have hx2 : x1 = i * n + j := by rw [hx1, hik]
          rw [← hx2] at c1 c2
          obtain ⟨⟨ch, cm⟩, hC⟩ : ∃ C, C = l.getD x1 ceZ := ⟨_, rfl⟩
          rw [← hC] at c1 c2
          dsimp only at c1 c2
          obtain ⟨u, hu⟩ : ∃ u, u = ptF p i := ⟨_, rfl⟩
          obtain ⟨v, hv⟩ : ∃ u, u = ptF p j := ⟨_, rfl⟩
          have u1 := hsm.out i
          have u2 := hsm.out j
          rw [← hu] at c3 u1
          rw [← hv] at c4 u2
          have hwr : IntKind.i64.wrap (v - u) = v - u := by unfold IntKind.wrap; simp [IntKind.signed, IntKind.bits]; omega
          have hen : Hid (ptD p i j = v - u ∧ encM (matOf n l) i j = if ch = true then cm else 9223372036854775807) := by
            refine ⟨by rw [hu, hv]; rfl, ?_⟩
            show encB ((l.getD (i * n + j) ceZ).bd) = _
            rw [← hx2, ← hC]
            cases ch <;> rfl
          have hnext : Hid ((ch = true → v - u ≤ cm) → ∀ q, q < i * n + (j + 1) → ptD p (q / n) (q % n) ≤ encM (matOf n l) (q / n) (q % n)) := by
            intro hle q hq
            by_cases e : q = i * n + j
            · obtain ⟨e1, e2⟩ := div_at (i := i) hjn
              rw [e, e1, e2, hen.out.1, hen.out.2]
              split
              · rename_i h; exact hle h
              · omega
            · exact HQ.out q (by omega)
          have hbad : Hid (ch = true → cm < v - u → r = false) := by
            intro h1 h2
            rw [Hr.out]; unfold inB; apply decide_eq_false
            intro hall
            have := hall (i * n + j) (idx_in hin hjn)
            obtain ⟨e1, e2⟩ := div_at (i := i) hjn
            rw [e1, e2, hen.out.1, hen.out.2, if_pos h1] at this
            omega
          have st2 := st.alloc (.cells #[.bool ch, .int .i64 cm] 68)
          clear hik hx1 hx2 hC hu hv hen u1 u2
          cases ch
          · go_wp2_with fail
            go_quiet (fail)
            go_wp2_with fail
            go_roundg (n - (j + 1))
            case measure => omega
            case rel => exact ⟨j + 1, by omega, by go_num, hnext.out (fun h => by cases h), ⟨belowN st2.bel _, st2.hold, st2.cl _ _ st2.sent (belowN (Below.refl _ _) _), st2.cl⟩⟩
          · by_cases hgt : cm < v - u
            · have hre : Hid (r = false) := hbad.out rfl hgt
              have hdec : decide (cm < v - u) = true := decide_eq_true hgt
              go_wp2_with fail
              go_quiet (fail)
              go_wp2_with fail
              go_ret
              exact ⟨ret_bool (by rw [hre.out]), hb1.trans ((belowN st2.bel _).mono hb1.size)⟩
            · have hdec : decide (cm < v - u) = false := decide_eq_false hgt
              go_wp2_with fail
              go_quiet (fail)
              go_wp2_with fail
              go_roundg (n - (j + 1))
              case measure => omega
              case rel => exact ⟨j + 1, by omega, by go_num, hnext.out (fun _ => by omega), ⟨belowN st2.bel _, st2.hold, st2.cl _ _ st2.sent (belowN (Below.refl _ _) _), st2.cl⟩⟩
        · have hj' : ¬ (j : Int) ≤ Ni := by omega
          have hje : j = n := by omega
          subst hje
          have e : i * j + j = (i + 1) * j + 0 := by rw [Nat.add_mul]; omega
          rw [e] at HQ
          go_wp2_with fail
          go_roundg (j - (i + 1))
          case measure => omega
          case rel => exact ⟨i + 1, by omega, by go_num, HQ, st⟩
    · have hi' : ¬ (i : Int) ≤ Ni := by omega
      have hie : i = n := by omega
      subst hie
      have hre : Hid (r = true) := by
        show _ = _; rw [Hr.out]; unfold inB; apply decide_eq_true
        intro q hq
        exact HQ.out q (by omega)
      go_wp2_with fail
      go_ret
      exact ⟨ret_bool (by rw [hre.out]), hb1.trans (st.bel.mono hb1.size)⟩
end Go.Proofs.YtkngedinomngbaaDoor
