/- Zones: the reference's walk: closed over and over. -/
import Derived.Test.YtkngedinomngbaaDoorZg
import Derived.Deep.CutBlock
namespace Go.Proofs.YtkngedinomngbaaDoor
open Go.RowKit
set_option linter.unusedVariables false

theorem Tryd.infoCell : (Tryd.prog.info? 68).map (fun i => (i.zero, i.size, i.bytes)) = some (some (.agg #[.bool false, .int .i64 0]), 2, 16) := by kernel_rfl

set_option maxRecDepth 20000 in
set_option maxHeartbeats 8000000 in
theorem closedZone_any (Ni : Int) (n b off c len : Nat) (l : List Ce) (w : World) (hN : Ni + 1 = n) (hn : 1 ≤ n ∧ n ≤ 5) (hR : RowC w b off l) (hl : Hid (len = l.length)) (hll : Hid (len = n * n)) :
    Calls Tryd.prog 24 #[(.agg #[.int .i64 Ni, (.slice (some ⟨b, off, none⟩) len c)])] w fun e w' => CloPost w Ni n len (roundsL n (diagL n l n) (n + 1)) e w' := by
  have hlen : 1 ≤ len ∧ len ≤ 25 := by
    have := hll.out
    have h1 := Nat.mul_le_mul hn.2 hn.2
    have h2 := Nat.mul_le_mul hn.1 hn.1
    omega
  obtain ⟨i0, hi0, hz0, hz1, hz2⟩ := info_parts Tryd.infoCell
  have s0 := ((St.start1' w).box2 24 (.int .i64 Ni) (.slice (some ⟨b, off, none⟩) len c)).box2 24 (.int .i64 0) (.slice none 0 0)
  have s1 := s0.box2 24 (.int .i64 Ni) (.slice none 0 0)
  simp only [World.size_alloc] at s1
  have hR1 := hR.below (s1.bel)
  have hnews := hR1.news
  have hcl : (cellsV l).length = len * 2 := by rw [cellsV_len, hl.out]
  have hone := cellsV_one l
  obtain ⟨zs, hzs⟩ : ∃ zs, zs = cellsV l := ⟨_, rfl⟩
  rw [← hzs] at hnews hcl hone
  have Hzs := hide hzs
  clear hzs s0 hR1 hR
  go_enter Tryd.func24, Tryd.ntmps24
  go_wp2_with (at_builtin; refine wpList_append_lies _ rfl _ _ 22 rfl w.heap.size 68 i0 _ 2 16 Tryd.underlying22 hi0 hz0 hz1 hz2 rfl (by decide) _ _ _ rfl (World.ownsRow_nil _ _ _ _) ⟨b, off, none⟩ len c zs rfl hcl hnews hone (by omega) (by unfold maxLen; omega) (by omega) (by simp; omega) (w.heap.size + 1 + 1 + 1) (by simp) ?_)
  intro g cap w1 own1 hgrow hat hlt1
  have hg : g = w.heap.size + 1 + 1 + 1 := by
    rcases hat with h | h
    · simp [Value.ownBlock] at h
    · exact h
  have hb1 := (Below.refl _ _).grown hgrow (Nat.le_refl _) (fun j hj => by simp [Value.ownBlock] at hj)
  have s2 := s1.call hb1
  have own2 : w1.ownsRow w.heap.size 68 2 (.slice (some ⟨g, 0, none⟩) len cap) len (cellsV l) := by
    have := own1
    rw [Hzs.out] at this
    exact this
  obtain ⟨R2, F2⟩ := RowC.of_own own2 hl.out hlt1
  have q2 := s2.hold
  simp only [Holds, and_true] at q2
  have s3 := s2.put21 (by omega) ⟨by dsimp only; omega, by dsimp only; omega, by dsimp only; omega, by dsimp only; omega, trivial⟩ (.slice (some ⟨g, 0, none⟩) len cap)
  have R3 := R2.other (p := ⟨w.heap.size + 1 + 1, 1, none⟩) (by show w.heap.size + 1 + 1 ≠ g; omega) (.slice (some ⟨g, 0, none⟩) len cap)
  have F3 : ∀ o, (w1.setCell ⟨w.heap.size + 1 + 1, 1, none⟩ (.slice (some ⟨g, 0, none⟩) len cap)).frozen? ⟨g, o, none⟩ = false := fun o => by rw [frozen?_setCell']; exact F2 o
  have hgb : w.heap.size + 1 + 1 < g := by omega
  clear hg hat hgrow own1 own2 R2 F2 hb1 hnews hcl hone hlt1 hi0 hz0 hz1 hz2
  go_wp2_with fail
  obtain ⟨W3, hW3⟩ : ∃ W, W = w1.setCell ⟨w.heap.size + 1 + 1, 1, none⟩ (.slice (some ⟨g, 0, none⟩) len cap) := ⟨_, rfl⟩
  rw [← hW3] at s3 R3 F3 ⊢
  clear hW3 q2 s2 s1 Hzs
  go_loopg [6] n (fun gh iv wr => ∃ k : Nat, k + gh = n ∧ iv = .int .i64 k ∧ (RowC wr g 0 (diagL n l k) ∧ Hid (∀ o, wr.frozen? ⟨g, o, none⟩ = false) ∧ St w wr (fun _ => True) [(w.heap.size + 1 + 1, 0, Value.int .i64 Ni), (w.heap.size + 1 + 1, 1, Value.slice (some ⟨g, 0, none⟩) len cap), (w.heap.size + 1, 0, Value.int .i64 0), (w.heap.size + 1, 1, Value.slice none 0 0), (w.heap.size, 0, Value.int .i64 Ni), (w.heap.size, 1, Value.slice (some ⟨b, off, none⟩) len c)]))
  case atStart => exact ⟨0, by omega, rfl, R3, F3, s3⟩
  case round =>
    clear s3 R3 F3
    obtain ⟨k, hkg, rfl, hR, hF, st⟩ := hrel
    have qs := st.hold
    simp only [Holds, and_true] at qs
    by_cases hk : k < n
    · have hkn : (k : Int) < (n : Int) := by omega
      obtain ⟨kn, hkn'⟩ : ∃ m : Nat, m = k * n := ⟨_, rfl⟩
      have e1 : (k : Int) * (n : Int) = (kn : Int) := by rw [hkn', Int.natCast_mul]
      have hin := idx_in hk hk
      have hidx : kn + k < len := by rw [hll.out, hkn']; exact hin
      have HLw : Hid (∀ W : World, RowC W g 0 (diagL n l k) → (∀ o, W.frozen? ⟨g, o, none⟩ = false) → Calls Tryd.prog 58 #[.slice (some ⟨g, 0, none⟩) len cap, .int .i64 ((kn : Int) + (k : Int)), .int .i64 0] W fun e w' => (e = .returned (.bool (lowR ((diagL n l k).getD (kn + k) ceZ) 0))) ∧ RowC w' g 0 (diagL n l (k + 1)) ∧ Only g W w') := by
        intro W h1 h2
        have := lower_as g 0 len cap (kn + k) ((kn : Int) + (k : Int)) 0 (by show _ = _; omega) (diagL n l k) (by show _ = _; rw [diagL_len]; exact hl.out) hidx (by omega) W h1 h2
        rw [hkn'] at this ⊢
        exact this
      clear hkn' hin
      go_wp2_with fail
      refine (HLw.out _ hR hF.out).mono ?_
      rintro e2 w2 ⟨rfl, hR2, hO⟩
      have st2 := st.only hO ⟨by dsimp only; omega, by dsimp only; omega, by dsimp only; omega, by dsimp only; omega, by dsimp only; omega, by dsimp only; omega, trivial⟩ (by omega)
      have hF2 : Hid (∀ o, w2.frozen? ⟨g, o, none⟩ = false) := fun o => (hO.fr _).trans (hF.out o)
      clear HLw
      go_wp2_with fail
      go_roundg (n - (k + 1))
      case measure => omega
      case rel => exact ⟨k + 1, by omega, by go_num, hR2, hF2, st2⟩
    · have hke : k = n := by omega
      subst hke
      have hkn : ¬ (k : Int) < (k : Int) := by omega
      obtain ⟨D, hD⟩ : ∃ D, D = diagL k l k := ⟨_, rfl⟩
      rw [← hD] at hR
      have HD := hide hD
      have hDl : Hid (len = D.length) := by show _ = _; rw [hD, diagL_len]; exact hl.out
      clear hD hkg hk
      go_wp2_with fail
      go_loopg [7] (k + 1) (fun gh tv wr => ∃ t : Nat, t + gh = k + 1 ∧ tv = .int .i64 t ∧ (RowC wr g 0 (roundsL k D t) ∧ Hid (∀ o, wr.frozen? ⟨g, o, none⟩ = false) ∧ St w wr (fun _ => True) [(w.heap.size + 1 + 1, 0, Value.int .i64 Ni), (w.heap.size + 1 + 1, 1, Value.slice (some ⟨g, 0, none⟩) len cap), (w.heap.size + 1, 0, Value.int .i64 0), (w.heap.size + 1, 1, Value.slice none 0 0), (w.heap.size, 0, Value.int .i64 Ni), (w.heap.size, 1, Value.slice (some ⟨b, off, none⟩) len c)]))
      case atStart => exact ⟨0, by omega, rfl, hR, hF, st⟩
      case round =>
        clear hR hF st qs
        obtain ⟨t, htg, rfl, hR, hF, st⟩ := hrel
        have qs := st.hold
        simp only [Holds, and_true] at qs
        by_cases ht : t ≤ k
        · have htn : (t : Int) ≤ (k : Int) := by omega
          obtain ⟨Rt, hRt⟩ : ∃ R, R = roundsL k D t := ⟨_, rfl⟩
          rw [← hRt] at hR
          have hRl : Hid (len = Rt.length) := by show _ = _; rw [hRt, roundsL_len]; exact hDl.out
          have HRt := hide hRt
          clear hRt
          go_wp2_with fail
          go_loopg [8] k (fun gh iv wr => ∃ i : Nat, i + gh = k ∧ iv = .int .i64 i ∧ (RowC wr g 0 (sweepL k Rt ((i * k + 0) * k + 0)) ∧ Hid (∀ o, wr.frozen? ⟨g, o, none⟩ = false) ∧ St w wr (fun _ => True) [(w.heap.size + 1 + 1, 0, Value.int .i64 Ni), (w.heap.size + 1 + 1, 1, Value.slice (some ⟨g, 0, none⟩) len cap), (w.heap.size + 1, 0, Value.int .i64 0), (w.heap.size + 1, 1, Value.slice none 0 0), (w.heap.size, 0, Value.int .i64 Ni), (w.heap.size, 1, Value.slice (some ⟨b, off, none⟩) len c)]))
          case atStart => exact ⟨0, by omega, rfl, by simpa [sweepL] using hR, hF, st⟩
          case round =>
            clear hR hF st qs
            obtain ⟨i, hig, rfl, hR, hF, st⟩ := hrel
            have qs := st.hold
            simp only [Holds, and_true] at qs
            by_cases hi : i < k
            · have hin : (i : Int) < (k : Int) := by omega
              go_wp2_with fail
              go_loopg [9] k (fun gh jv wr => ∃ j : Nat, j + gh = k ∧ jv = .int .i64 j ∧ (RowC wr g 0 (sweepL k Rt ((i * k + j) * k + 0)) ∧ Hid (∀ o, wr.frozen? ⟨g, o, none⟩ = false) ∧ St w wr (fun _ => True) [(w.heap.size + 1 + 1, 0, Value.int .i64 Ni), (w.heap.size + 1 + 1, 1, Value.slice (some ⟨g, 0, none⟩) len cap), (w.heap.size + 1, 0, Value.int .i64 0), (w.heap.size + 1, 1, Value.slice none 0 0), (w.heap.size, 0, Value.int .i64 Ni), (w.heap.size, 1, Value.slice (some ⟨b, off, none⟩) len c)]))
              case atStart => exact ⟨0, by omega, rfl, hR, hF, st⟩
              case round =>
                clear hR hF st qs
                obtain ⟨j, hjg, rfl, hR, hF, st⟩ := hrel
                have qs := st.hold
                simp only [Holds, and_true] at qs
                by_cases hj : j < k
                · have hjn : (j : Int) < (k : Int) := by omega
                  go_wp2_with fail
                  go_loopg [10] k (fun gh pv wr => ∃ p : Nat, p + gh = k ∧ pv = .int .i64 p ∧ (RowC wr g 0 (sweepL k Rt ((i * k + j) * k + p)) ∧ Hid (∀ o, wr.frozen? ⟨g, o, none⟩ = false) ∧ St w wr (fun _ => True) [(w.heap.size + 1 + 1, 0, Value.int .i64 Ni), (w.heap.size + 1 + 1, 1, Value.slice (some ⟨g, 0, none⟩) len cap), (w.heap.size + 1, 0, Value.int .i64 0), (w.heap.size + 1, 1, Value.slice none 0 0), (w.heap.size, 0, Value.int .i64 Ni), (w.heap.size, 1, Value.slice (some ⟨b, off, none⟩) len c)]))
                  case atStart => exact ⟨0, by omega, rfl, hR, hF, st⟩
                  case round =>
                    clear hR hF st qs
                    obtain ⟨p, hpg, rfl, hR, hF, st⟩ := hrel
                    have qs := st.hold
                    simp only [Holds, and_true] at qs
                    by_cases hp : p < k
                    · have hpn : (p : Int) < (k : Int) := by omega
                      obtain ⟨S, hS⟩ : ∃ S, S = sweepL k Rt ((i * k + j) * k + p) := ⟨_, rfl⟩
                      rw [← hS] at hR
                      have hSl : Hid (len = S.length) := by show _ = _; rw [hS, sweepL_len]; exact hRl.out
                      have hNext : Hid (sweepL k Rt ((i * k + j) * k + (p + 1)) = relL k S i j p) := by
                        obtain ⟨e1, e2, e3⟩ := at_place (i := i) hp hj
                        have e0 : sweepL k Rt ((i * k + j) * k + p + 1) = relL k (sweepL k Rt ((i * k + j) * k + p)) (((i * k + j) * k + p) / k / k) (((i * k + j) * k + p) / k % k) (((i * k + j) * k + p) % k) := rfl
                        show sweepL k Rt ((i * k + j) * k + p + 1) = _
                        rw [e0, e1, e2, e3, ← hS]
                      clear hS
                      obtain ⟨ik, hik⟩ : ∃ m : Nat, m = i * k := ⟨_, rfl⟩
                      obtain ⟨pk, hpk⟩ : ∃ m : Nat, m = p * k := ⟨_, rfl⟩
                      have a1 : (i : Int) * (k : Int) = (ik : Int) := by rw [hik, Int.natCast_mul]
                      have a2 : (p : Int) * (k : Int) = (pk : Int) := by rw [hpk, Int.natCast_mul]
                      have b1 : ik + p < len := by rw [hll.out, hik]; exact idx_in hi hp
                      have b2 : pk + j < len := by rw [hll.out, hpk]; exact idx_in hp hj
                      have b3 : ik + j < len := by rw [hll.out, hik]; exact idx_in hi hj
                      obtain ⟨x1, hx1⟩ : ∃ m : Nat, m = ik + p := ⟨_, rfl⟩
                      obtain ⟨x2, hx2⟩ : ∃ m : Nat, m = pk + j := ⟨_, rfl⟩
                      have a3 : (ik : Int) + (p : Int) = (x1 : Int) := by omega
                      have a4 : (pk : Int) + (j : Int) = (x2 : Int) := by omega
                      have b4 : (x1 : Int) < (len : Int) := by omega
                      have b5 : (x2 : Int) < (len : Int) := by omega
                      obtain ⟨⟨ah, am⟩, hA⟩ : ∃ C, C = S.getD x1 ceZ := ⟨_, rfl⟩
                      obtain ⟨⟨bh, bm⟩, hB⟩ : ∃ C, C = S.getD x2 ceZ := ⟨_, rfl⟩
                      have c1 : wr.cell? ⟨g, x1 * 2, none⟩ = some (.bool ah) := by have := hR.has x1 (by rw [← hSl.out]; omega); rw [← hA, Nat.zero_add] at this; exact this
                      have c2 : wr.cell? ⟨g, x1 * 2 + 1, none⟩ = some (.int .i64 am) := by have := hR.most x1 (by rw [← hSl.out]; omega); rw [← hA, Nat.zero_add] at this; exact this
                      have c3 : wr.cell? ⟨g, x2 * 2, none⟩ = some (.bool bh) := by have := hR.has x2 (by rw [← hSl.out]; omega); rw [← hB, Nat.zero_add] at this; exact this
                      have c4 : wr.cell? ⟨g, x2 * 2 + 1, none⟩ = some (.int .i64 bm) := by have := hR.most x2 (by rw [← hSl.out]; omega); rw [← hB, Nat.zero_add] at this; exact this
                      have hgl := hR.lt
                      have hrel' : Hid (relL k S i j p = if ah = true ∧ bh = true then lowL S (ik + j) (wrap64 (am + bm)) else S) := by
                        show _ = _
                        unfold relL
                        rw [← hik, ← hpk, ← hx1, ← hx2, ← hA, ← hB]
                      have HLw : Hid (∀ (W : World), RowC W g 0 S → (∀ o, W.frozen? ⟨g, o, none⟩ = false) → Calls Tryd.prog 58 #[.slice (some ⟨g, 0, none⟩) len cap, .int .i64 ((ik : Int) + (j : Int)), .int .i64 (wrap64 (am + bm))] W fun e w' => (e = .returned (.bool (lowR (S.getD (ik + j) ceZ) (wrap64 (am + bm))))) ∧ RowC w' g 0 (lowL S (ik + j) (wrap64 (am + bm))) ∧ Only g W w') := by
                        intro W h1 h2
                        exact lower_as g 0 len cap (ik + j) ((ik : Int) + (j : Int)) (wrap64 (am + bm)) (by show _ = _; omega) S hSl b3 (by omega) W h1 h2
                      have HR := hide hR
                      clear hik hpk hx1 hx2 hA hB hR
                      have st1 := st.alloc (.cells #[.bool ah, .int .i64 am] 68)
                      have st2 := st1.alloc (.cells #[.bool bh, .int .i64 bm] 68)
                      have bel2 : Below wr.heap.size wr ((wr.alloc (.cells #[.bool ah, .int .i64 am] 68)).alloc (.cells #[.bool bh, .int .i64 bm] 68)) := ((Below.refl _ _).alloc (Nat.le_refl _) _).alloc (by simp) _
                      have R2 := HR.out.below bel2
                      have F2 : ∀ o, ((wr.alloc (.cells #[.bool ah, .int .i64 am] 68)).alloc (.cells #[.bool bh, .int .i64 bm] 68)).frozen? ⟨g, o, none⟩ = false := fun o => (bel2.frozen (p := ⟨g, o, none⟩) hgl).trans (hF.out o)
                      cases ah
                      · have hN2 : Hid (sweepL k Rt ((i * k + j) * k + (p + 1)) = S) := by show _ = _; rw [hNext.out, hrel'.out]; simp
                        go_wp2_with fail
                        go_roundg (k - (p + 1))
                        case measure => omega
                        case rel => exact ⟨p + 1, by omega, by go_num, by rw [hN2.out]; exact R2, F2, st2⟩
                      · cases bh
                        · have hN2 : Hid (sweepL k Rt ((i * k + j) * k + (p + 1)) = S) := by show _ = _; rw [hNext.out, hrel'.out]; simp
                          go_wp2_with fail
                          go_roundg (k - (p + 1))
                          case measure => omega
                          case rel => exact ⟨p + 1, by omega, by go_num, by rw [hN2.out]; exact R2, F2, st2⟩
                        · have hN2 : Hid (sweepL k Rt ((i * k + j) * k + (p + 1)) = lowL S (ik + j) (wrap64 (am + bm))) := by show _ = _; rw [hNext.out, hrel'.out]; simp
                          go_wp2_with fail
                          refine (HLw.out _ R2 F2).mono ?_
                          rintro e2 w2 ⟨rfl, hR2, hO⟩
                          have st3 := st2.only hO ⟨by dsimp only; omega, by dsimp only; omega, by dsimp only; omega, by dsimp only; omega, by dsimp only; omega, by dsimp only; omega, trivial⟩ (by omega)
                          have hF2 : Hid (∀ o, w2.frozen? ⟨g, o, none⟩ = false) := fun o => (hO.fr _).trans (F2 o)
                          clear HLw
                          go_wp2_with fail
                          go_roundg (k - (p + 1))
                          case measure => omega
                          case rel => exact ⟨p + 1, by omega, by go_num, by rw [hN2.out]; exact hR2, hF2, st3⟩
                    · have hpk : p = k := by omega
                      subst hpk
                      have e : (i * p + j) * p + p = (i * p + (j + 1)) * p + 0 := by rw [show i * p + (j + 1) = (i * p + j) + 1 by omega, Nat.add_mul (i * p + j) 1 p, Nat.one_mul]; rfl
                      go_wp2_with fail
                      go_roundg (p - (j + 1))
                      case measure => omega
                      case rel => exact ⟨j + 1, by omega, by go_num, by rw [← e]; exact hR, hF, st⟩
                · have hjk : j = k := by omega
                  subst hjk
                  have e : (i * j + j) * j + 0 = ((i + 1) * j + 0) * j + 0 := by rw [Nat.add_mul i 1 j]; simp
                  go_wp2_with fail
                  go_roundg (j - (i + 1))
                  case measure => omega
                  case rel => exact ⟨i + 1, by omega, by go_num, by rw [← e]; exact hR, hF, st⟩
            · have hik : i = k := by omega
              subst hik
              have e : (i * i + 0) * i + 0 = i * i * i := by simp
              go_wp2_with fail
              go_roundg (i + 1 - (t + 1))
              case measure => omega
              case rel => exact ⟨t + 1, by omega, by go_num, by show RowC _ _ _ (sweepL i (roundsL i D t) (i * i * i)); rw [← HRt.out, ← e]; exact hR, hF, st⟩
        · have htk : t = k + 1 := by omega
          subst htk
          have htn : ¬ ((k + 1 : Nat) : Int) ≤ (k : Int) := by omega
          obtain ⟨F, hFF⟩ : ∃ F, F = roundsL k D (k + 1) := ⟨_, rfl⟩
          have HFF : Hid (roundsL k (diagL k l k) (k + 1) = F) := by show _ = _; rw [hFF, HD.out]
          have hFl : Hid (len = F.length) := by show _ = _; rw [hFF, roundsL_len]; exact hDl.out
          rw [← hFF] at hR
          clear hFF HD hDl
          go_wp2_with fail
          go_loopg [13] k (fun gh iv wx => ∃ i : Nat, i + gh = k ∧ iv = .int .i64 i ∧ wx = wr ∧ Hid (∀ i', i' < i → 0 ≤ (F.getD (i' * k + i') ceZ).m))
          case atStart => exact ⟨0, by omega, rfl, rfl, fun i' h => by omega⟩
          case round =>
            rename_i wr1
            obtain ⟨i, hig, rfl, rfl, hpos⟩ := hrel
            by_cases hi : i < k
            · have hin : (i : Int) < (k : Int) := by omega
              obtain ⟨ik, hik⟩ : ∃ m : Nat, m = i * k := ⟨_, rfl⟩
              have a1 : (i : Int) * (k : Int) = (ik : Int) := by rw [hik, Int.natCast_mul]
              have b1 : ik + i < len := by rw [hll.out, hik]; exact idx_in hi hi
              obtain ⟨x1, hx1⟩ : ∃ m : Nat, m = ik + i := ⟨_, rfl⟩
              have a3 : (ik : Int) + (i : Int) = (x1 : Int) := by omega
              have b4 : (x1 : Int) < (len : Int) := by omega
              obtain ⟨am, hA⟩ : ∃ C, C = (F.getD x1 ceZ).m := ⟨_, rfl⟩
              have c2 : wr.cell? ⟨g, x1 * 2 + 1, none⟩ = some (.int .i64 am) := by have := hR.most x1 (by rw [← hFl.out]; omega); rw [← hA, Nat.zero_add] at this; exact this
              have hgl := hR.lt
              have HA : Hid (am = (F.getD (i * k + i) ceZ).m) := by show _ = _; rw [hA, hx1, hik]
              clear hik hx1 hA
              by_cases hneg : am < 0
              · go_wp2_with fail
                refine bodyPost_ret (v := .tuple #[(.agg #[.int .i64 0, (.slice none 0 0)]), .bool false]) (by simp [results, Tryd.results24, go_sem, *]) rfl ⟨?_, .inl ⟨⟨i, hi, by rw [HFF.out, ← HA.out]; exact hneg⟩, rfl⟩⟩
                iterate 2 refine Below.setCell ?_ (by first | (simp; done) | (simp; omega)) _
                exact st.bel
              · go_wp2_with fail
                go_roundg (k - (i + 1))
                case measure => omega
                case rel =>
                  refine ⟨i + 1, by omega, by go_num, rfl, ?_⟩
                  intro i' hi'
                  by_cases e : i' = i
                  · subst e; rw [← HA.out]; omega
                  · exact hpos.out i' (by omega)
            · have hik : i = k := by omega
              subst hik
              have hin : ¬ (i : Int) < (i : Int) := by omega
              have HCl : Hid (∀ W : World, RowC W g 0 F → (∀ o, W.frozen? ⟨g, o, none⟩ = false) → Calls Tryd.prog 59 #[.slice (some ⟨g, 0, none⟩) len cap] W fun e w' => e = .returned (.tuple #[]) ∧ RowC w' g 0 (F.map clipC) ∧ Only g W w') := fun W h1 h2 => clip_any g 0 cap len F W h1 h2 hFl (by omega)
              go_wp2_with fail
              refine (HCl.out _ hR hF.out).mono ?_
              rintro e2 w2 ⟨rfl, hR2, hO⟩
              have st2 := st.only hO ⟨by dsimp only; omega, by dsimp only; omega, by dsimp only; omega, by dsimp only; omega, by dsimp only; omega, by dsimp only; omega, trivial⟩ (by omega)
              have q2 := st2.hold
              simp only [Holds, and_true] at q2
              have F2 : Hid (∀ o, w2.frozen? ⟨g, o, none⟩ = false) := fun o => (hO.fr _).trans (hF.out o)
              clear HCl qs st
              go_wp2_with fail
              refine bodyPost_ret (v := .tuple #[(.agg #[.int .i64 Ni, (.slice (some ⟨g, 0, none⟩) len cap)]), .bool true]) (by simp [results, Tryd.results24, go_sem, *]) rfl ⟨?_, .inr ⟨fun i' hi' => by rw [HFF.out]; exact hpos.out i' hi', g, cap, rfl, by omega, ?_, ?_⟩⟩
              · iterate 2 refine Below.setCell ?_ (by first | (simp; done) | (simp; omega)) _
                exact st2.bel
              · intro o
                rw [frozen?_setCell', frozen?_setCell']
                exact F2.out o
              · rw [HFF.out]
                exact (hR2.other (by show w.heap.size + 1 ≠ g; omega) _).other (by show w.heap.size + 1 ≠ g; omega) _

end Go.Proofs.YtkngedinomngbaaDoor
