/- Zones: the reference's closedWide: closed over and over, in its own cells. -/
import Derived.Test.YtkngedinomngbaaDoorZg
import Derived.Deep.CutBlock
namespace Go.Proofs.YtkngedinomngbaaDoor
open Go.RowKit
set_option linter.unusedVariables false

/-- What lay there is as it was, but for one block. -/
structure OnlyG (g : Nat) (w w' : World) : Prop where
  size : w.heap.size ≤ w'.heap.size
  cell : ∀ p : Addr, p.block < w.heap.size → p.block ≠ g → w'.cell? p = w.cell? p
  fr : ∀ p : Addr, p.block < w.heap.size → w'.frozen? p = w.frozen? p
  bel : ∀ B, B ≤ g → B ≤ w.heap.size → Below B w w'
theorem OnlyG.refl (g : Nat) (w : World) : OnlyG g w w := ⟨Nat.le_refl _, fun _ _ _ => rfl, fun _ _ => rfl, fun _ _ _ => Below.refl _ _⟩
theorem OnlyG.trans {g : Nat} {w w1 w2 : World} (h : OnlyG g w w1) (k : OnlyG g w1 w2) : OnlyG g w w2 :=
  ⟨Nat.le_trans h.size k.size, fun p hp hg => (k.cell p (Nat.lt_of_lt_of_le hp h.size) hg).trans (h.cell p hp hg), fun p hp => (k.fr p (Nat.lt_of_lt_of_le hp h.size)).trans (h.fr p hp), fun B hB hw => (h.bel B hB hw).trans (k.bel B hB (Nat.le_trans hw h.size))⟩
theorem OnlyG.of_only {g : Nat} {w w' : World} (h : Only g w w') : OnlyG g w w' := ⟨by rw [h.size]; exact Nat.le_refl _, fun p _ hg => h.cell p hg, fun p _ => h.fr p, fun B hB _ => h.bel B hB⟩
theorem OnlyG.of_below {g : Nat} {w w' : World} (h : Below w.heap.size w w') : OnlyG g w w' := ⟨h.size, fun p hp _ => h.cell hp, fun p hp => h.frozen hp, fun B _ hw => h.mono hw⟩
theorem OnlyG.set {g : Nat} {w w' : World} (h : OnlyG g w w') {p : Addr} (hp : w.heap.size ≤ p.block) (v : Value) : OnlyG g w (w'.setCell p v) := by
  have b : Below w.heap.size w' (w'.setCell p v) := (Below.refl _ _).setCell hp v
  exact ⟨Nat.le_trans h.size b.size, fun q hq hg' => (b.cell hq).trans (h.cell q hq hg'), fun q hq => (b.frozen hq).trans (h.fr q hq), fun B hB hw => (h.bel B hB hw).trans (b.mono hw)⟩
/-- Boxes kept, while one block changes. -/
structure StG (g : Nat) (w W : World) (L : List (Nat × Nat × Value)) : Prop where
  og : OnlyG g w W
  hold : Holds W L
theorem StG.only {g : Nat} {w W W' : World} {L : List (Nat × Nat × Value)} (h : StG g w W L) (k : Only g W W') (ap : Apart g L) : StG g w W' L := ⟨h.og.trans (.of_only k), h.hold.only k ap⟩
theorem StG.alloc {g : Nat} {w W : World} {L : List (Nat × Nat × Value)} (h : StG g w W L) (o : Obj) : StG g w (W.alloc o) L :=
  ⟨h.og.trans (.of_below ((Below.refl _ _).alloc (Nat.le_refl _) o)), h.hold.below ((Below.refl _ _).alloc (Nat.le_refl _) o)⟩

/-- What closing in one's own cells answers. -/
def CwPost (w : World) (Ni : Int) (n len g cap : Nat) (F : List Ce) (e : Ending) (w' : World) : Prop :=
  OnlyG g w w' ∧ (((∃ i, i < n ∧ (F.getD (i * n + i) ceZ).m < 0) ∧ e = .returned (.tuple #[(.agg #[.int .i64 0, (.slice none 0 0)]), .bool false])) ∨
    ((∀ i, i < n → 0 ≤ (F.getD (i * n + i) ceZ).m) ∧ e = .returned (.tuple #[(.agg #[.int .i64 Ni, (.slice (some ⟨g, 0, none⟩) len cap)]), .bool true]) ∧ (∀ o, w'.frozen? ⟨g, o, none⟩ = false) ∧ RowC w' g 0 F))

set_option maxRecDepth 20000 in
set_option maxHeartbeats 8000000 in
theorem closedWide_any (Ni : Int) (n g cap len : Nat) (l : List Ce) (w : World) (hN : Ni + 1 = n) (hn : 1 ≤ n ∧ n ≤ 6) (R0 : RowC w g 0 l) (F0 : ∀ o, w.frozen? ⟨g, o, none⟩ = false) (hl : Hid (len = l.length)) (hll : Hid (len = n * n)) :
    Calls Tryd.prog 75 #[(.agg #[.int .i64 Ni, (.slice (some ⟨g, 0, none⟩) len cap)])] w fun e w' => CwPost w Ni n len g cap (roundsL n (diagL n l n) (n + 1)) e w' := by
  have hlen : 1 ≤ len ∧ len ≤ 36 := by
    have := hll.out
    have h1 := Nat.mul_le_mul hn.2 hn.2
    have h2 := Nat.mul_le_mul hn.1 hn.1
    omega
  have hgb : g < w.heap.size := R0.lt
  have t0 := ((St.start1' w).box2 24 (.int .i64 Ni) (.slice (some ⟨g, 0, none⟩) len cap)).box2 24 (.int .i64 0) (.slice none 0 0)
  simp only [World.size_alloc] at t0
  have R3 := R0.below t0.bel
  have F3 : Hid (∀ o, ((w.alloc (.cells #[.int .i64 Ni, .slice (some ⟨g, 0, none⟩) len cap] 24)).alloc (.cells #[.int .i64 0, .slice none 0 0] 24)).frozen? ⟨g, o, none⟩ = false) := fun o => (t0.bel.frozen (p := ⟨g, o, none⟩) hgb).trans (F0 o)
  have s3 : StG g w _ [(w.heap.size + 1, 0, Value.int .i64 0), (w.heap.size + 1, 1, Value.slice none 0 0), (w.heap.size, 0, Value.int .i64 Ni), (w.heap.size, 1, Value.slice (some ⟨g, 0, none⟩) len cap)] := ⟨.of_below t0.bel, t0.hold⟩
  clear t0 R0 F0
  go_enter Tryd.func75, Tryd.ntmps75
  go_wp2_with fail
  go_loopg [5] n (fun gh iv wr => ∃ k : Nat, k + gh = n ∧ iv = .int .i64 k ∧ (RowC wr g 0 (diagL n l k) ∧ Hid (∀ o, wr.frozen? ⟨g, o, none⟩ = false) ∧ StG g w wr [(w.heap.size + 1, 0, Value.int .i64 0), (w.heap.size + 1, 1, Value.slice none 0 0), (w.heap.size, 0, Value.int .i64 Ni), (w.heap.size, 1, Value.slice (some ⟨g, 0, none⟩) len cap)]))
  case atStart => exact ⟨0, by omega, rfl, R3, F3, s3⟩
  case round =>
    clear s3 R3 F3
    obtain ⟨k, hkg, rfl, hR, hF, st⟩ := hrel
    have qs := st.hold
    simp only [Holds, and_true] at qs
    by_cases hk : k < n
    · have hkn : (k : Int) < (n : Int) := by omega
      obtain ⟨kn, hkn'⟩ : ∃ m : Nat, m = k * n := ⟨_, rfl⟩
      have e1 : (k : Int) * (n : Int) = (kn : Int) := by rw [hkn', Int.natCast_mul]
      have hin := idx_in hk hk
      have hidx : kn + k < len := by rw [hll.out, hkn']; exact hin
      have HLw : Hid (∀ W : World, RowC W g 0 (diagL n l k) → (∀ o, W.frozen? ⟨g, o, none⟩ = false) → Calls Tryd.prog 58 #[.slice (some ⟨g, 0, none⟩) len cap, .int .i64 ((kn : Int) + (k : Int)), .int .i64 0] W fun e w' => (e = .returned (.bool (lowR ((diagL n l k).getD (kn + k) ceZ) 0))) ∧ RowC w' g 0 (diagL n l (k + 1)) ∧ Only g W w') := by
        intro W h1 h2
        have := lower_as g 0 len cap (kn + k) ((kn : Int) + (k : Int)) 0 (by show _ = _; omega) (diagL n l k) (by show _ = _; rw [diagL_len]; exact hl.out) hidx (by omega) W h1 h2
        rw [hkn'] at this ⊢
        exact this
      clear hkn' hin
      go_wp2_with fail
      refine (HLw.out _ hR hF.out).mono ?_
      rintro e2 w2 ⟨rfl, hR2, hO⟩
      have st2 := st.only hO ⟨by dsimp only; omega, by dsimp only; omega, by dsimp only; omega, by dsimp only; omega, trivial⟩
      have hF2 : Hid (∀ o, w2.frozen? ⟨g, o, none⟩ = false) := fun o => (hO.fr _).trans (hF.out o)
      clear HLw
      go_wp2_with fail
      go_roundg (n - (k + 1))
      case measure => omega
      case rel => exact ⟨k + 1, by omega, by go_num, hR2, hF2, st2⟩
    · have hke : k = n := by omega
      subst hke
      have hkn : ¬ (k : Int) < (k : Int) := by omega
      obtain ⟨D, hD⟩ : ∃ D, D = diagL k l k := ⟨_, rfl⟩
      rw [← hD] at hR
      have HD := hide hD
      have hDl : Hid (len = D.length) := by show _ = _; rw [hD, diagL_len]; exact hl.out
      clear hD hkg hk
      go_wp2_with fail
      go_loopg [6] (k + 1) (fun gh tv wr => ∃ t : Nat, t + gh = k + 1 ∧ tv = .int .i64 t ∧ (RowC wr g 0 (roundsL k D t) ∧ Hid (∀ o, wr.frozen? ⟨g, o, none⟩ = false) ∧ StG g w wr [(w.heap.size + 1, 0, Value.int .i64 0), (w.heap.size + 1, 1, Value.slice none 0 0), (w.heap.size, 0, Value.int .i64 Ni), (w.heap.size, 1, Value.slice (some ⟨g, 0, none⟩) len cap)]))
      case atStart => exact ⟨0, by omega, rfl, hR, hF, st⟩
      case round =>
        clear hR hF st qs
        obtain ⟨t, htg, rfl, hR, hF, st⟩ := hrel
        have qs := st.hold
        simp only [Holds, and_true] at qs
        by_cases ht : t ≤ k
        · have htn : (t : Int) ≤ (k : Int) := by omega
          obtain ⟨Rt, hRt⟩ : ∃ R, R = roundsL k D t := ⟨_, rfl⟩
          rw [← hRt] at hR
          have hRl : Hid (len = Rt.length) := by show _ = _; rw [hRt, roundsL_len]; exact hDl.out
          have HRt := hide hRt
          clear hRt
          go_wp2_with fail
          go_loopg [7] k (fun gh iv wr => ∃ i : Nat, i + gh = k ∧ iv = .int .i64 i ∧ (RowC wr g 0 (sweepL k Rt ((i * k + 0) * k + 0)) ∧ Hid (∀ o, wr.frozen? ⟨g, o, none⟩ = false) ∧ StG g w wr [(w.heap.size + 1, 0, Value.int .i64 0), (w.heap.size + 1, 1, Value.slice none 0 0), (w.heap.size, 0, Value.int .i64 Ni), (w.heap.size, 1, Value.slice (some ⟨g, 0, none⟩) len cap)]))
          case atStart => exact ⟨0, by omega, rfl, by simpa [sweepL] using hR, hF, st⟩
          case round =>
            clear hR hF st qs
            obtain ⟨i, hig, rfl, hR, hF, st⟩ := hrel
            have qs := st.hold
            simp only [Holds, and_true] at qs
            by_cases hi : i < k
            · have hin : (i : Int) < (k : Int) := by omega
              go_wp2_with fail
              go_loopg [8] k (fun gh jv wr => ∃ j : Nat, j + gh = k ∧ jv = .int .i64 j ∧ (RowC wr g 0 (sweepL k Rt ((i * k + j) * k + 0)) ∧ Hid (∀ o, wr.frozen? ⟨g, o, none⟩ = false) ∧ StG g w wr [(w.heap.size + 1, 0, Value.int .i64 0), (w.heap.size + 1, 1, Value.slice none 0 0), (w.heap.size, 0, Value.int .i64 Ni), (w.heap.size, 1, Value.slice (some ⟨g, 0, none⟩) len cap)]))
              case atStart => exact ⟨0, by omega, rfl, hR, hF, st⟩
              case round =>
                clear hR hF st qs
                obtain ⟨j, hjg, rfl, hR, hF, st⟩ := hrel
                have qs := st.hold
                simp only [Holds, and_true] at qs
                by_cases hj : j < k
                · have hjn : (j : Int) < (k : Int) := by omega
                  go_wp2_with fail
                  go_loopg [9] k (fun gh pv wr => ∃ p : Nat, p + gh = k ∧ pv = .int .i64 p ∧ (RowC wr g 0 (sweepL k Rt ((i * k + j) * k + p)) ∧ Hid (∀ o, wr.frozen? ⟨g, o, none⟩ = false) ∧ StG g w wr [(w.heap.size + 1, 0, Value.int .i64 0), (w.heap.size + 1, 1, Value.slice none 0 0), (w.heap.size, 0, Value.int .i64 Ni), (w.heap.size, 1, Value.slice (some ⟨g, 0, none⟩) len cap)]))
                  case atStart => exact ⟨0, by omega, rfl, hR, hF, st⟩
                  case round =>
                    clear hR hF st qs
                    obtain ⟨p, hpg, rfl, hR, hF, st⟩ := hrel
                    have qs := st.hold
                    simp only [Holds, and_true] at qs
                    by_cases hp : p < k
                    · have hpn : (p : Int) < (k : Int) := by omega
                      obtain ⟨S, hS⟩ : ∃ S, S = sweepL k Rt ((i * k + j) * k + p) := ⟨_, rfl⟩
                      rw [← hS] at hR
                      have hSl : Hid (len = S.length) := by show _ = _; rw [hS, sweepL_len]; exact hRl.out
                      have hNext : Hid (sweepL k Rt ((i * k + j) * k + (p + 1)) = relL k S i j p) := by
                        obtain ⟨e1, e2, e3⟩ := at_place (i := i) hp hj
                        have e0 : sweepL k Rt ((i * k + j) * k + p + 1) = relL k (sweepL k Rt ((i * k + j) * k + p)) (((i * k + j) * k + p) / k / k) (((i * k + j) * k + p) / k % k) (((i * k + j) * k + p) % k) := rfl
                        show sweepL k Rt ((i * k + j) * k + p + 1) = _
                        rw [e0, e1, e2, e3, ← hS]
                      clear hS
                      obtain ⟨ik, hik⟩ : ∃ m : Nat, m = i * k := ⟨_, rfl⟩
                      obtain ⟨pk, hpk⟩ : ∃ m : Nat, m = p * k := ⟨_, rfl⟩
                      have a1 : (i : Int) * (k : Int) = (ik : Int) := by rw [hik, Int.natCast_mul]
                      have a2 : (p : Int) * (k : Int) = (pk : Int) := by rw [hpk, Int.natCast_mul]
                      have b1 : ik + p < len := by rw [hll.out, hik]; exact idx_in hi hp
                      have b2 : pk + j < len := by rw [hll.out, hpk]; exact idx_in hp hj
                      have b3 : ik + j < len := by rw [hll.out, hik]; exact idx_in hi hj
                      obtain ⟨x1, hx1⟩ : ∃ m : Nat, m = ik + p := ⟨_, rfl⟩
                      obtain ⟨x2, hx2⟩ : ∃ m : Nat, m = pk + j := ⟨_, rfl⟩
                      have a3 : (ik : Int) + (p : Int) = (x1 : Int) := by omega
                      have a4 : (pk : Int) + (j : Int) = (x2 : Int) := by omega
                      have b4 : (x1 : Int) < (len : Int) := by omega
                      have b5 : (x2 : Int) < (len : Int) := by omega
                      obtain ⟨⟨ah, am⟩, hA⟩ : ∃ C, C = S.getD x1 ceZ := ⟨_, rfl⟩
                      obtain ⟨⟨bh, bm⟩, hB⟩ : ∃ C, C = S.getD x2 ceZ := ⟨_, rfl⟩
                      have c1 : wr.cell? ⟨g, x1 * 2, none⟩ = some (.bool ah) := by have := hR.has x1 (by rw [← hSl.out]; omega); rw [← hA, Nat.zero_add] at this; exact this
                      have c2 : wr.cell? ⟨g, x1 * 2 + 1, none⟩ = some (.int .i64 am) := by have := hR.most x1 (by rw [← hSl.out]; omega); rw [← hA, Nat.zero_add] at this; exact this
                      have c3 : wr.cell? ⟨g, x2 * 2, none⟩ = some (.bool bh) := by have := hR.has x2 (by rw [← hSl.out]; omega); rw [← hB, Nat.zero_add] at this; exact this
                      have c4 : wr.cell? ⟨g, x2 * 2 + 1, none⟩ = some (.int .i64 bm) := by have := hR.most x2 (by rw [← hSl.out]; omega); rw [← hB, Nat.zero_add] at this; exact this
                      have hgl := hR.lt
                      have hrel' : Hid (relL k S i j p = if ah = true ∧ bh = true then lowL S (ik + j) (wrap64 (am + bm)) else S) := by
                        show _ = _
                        unfold relL
                        rw [← hik, ← hpk, ← hx1, ← hx2, ← hA, ← hB]
                      have HLw : Hid (∀ (W : World), RowC W g 0 S → (∀ o, W.frozen? ⟨g, o, none⟩ = false) → Calls Tryd.prog 58 #[.slice (some ⟨g, 0, none⟩) len cap, .int .i64 ((ik : Int) + (j : Int)), .int .i64 (wrap64 (am + bm))] W fun e w' => (e = .returned (.bool (lowR (S.getD (ik + j) ceZ) (wrap64 (am + bm))))) ∧ RowC w' g 0 (lowL S (ik + j) (wrap64 (am + bm))) ∧ Only g W w') := by
                        intro W h1 h2
                        exact lower_as g 0 len cap (ik + j) ((ik : Int) + (j : Int)) (wrap64 (am + bm)) (by show _ = _; omega) S hSl b3 (by omega) W h1 h2
                      have HR := hide hR
                      clear hik hpk hx1 hx2 hA hB hR
                      have st1 := st.alloc (.cells #[.bool ah, .int .i64 am] 68)
                      have st2 := st1.alloc (.cells #[.bool bh, .int .i64 bm] 68)
                      have bel2 : Below wr.heap.size wr ((wr.alloc (.cells #[.bool ah, .int .i64 am] 68)).alloc (.cells #[.bool bh, .int .i64 bm] 68)) := ((Below.refl _ _).alloc (Nat.le_refl _) _).alloc (by simp) _
                      have R2 := HR.out.below bel2
                      have F2 : ∀ o, ((wr.alloc (.cells #[.bool ah, .int .i64 am] 68)).alloc (.cells #[.bool bh, .int .i64 bm] 68)).frozen? ⟨g, o, none⟩ = false := fun o => (bel2.frozen (p := ⟨g, o, none⟩) hgl).trans (hF.out o)
                      cases ah
                      · have hN2 : Hid (sweepL k Rt ((i * k + j) * k + (p + 1)) = S) := by show _ = _; rw [hNext.out, hrel'.out]; simp
                        go_wp2_with fail
                        go_roundg (k - (p + 1))
                        case measure => omega
                        case rel => exact ⟨p + 1, by omega, by go_num, by rw [hN2.out]; exact R2, F2, st2⟩
                      · cases bh
                        · have hN2 : Hid (sweepL k Rt ((i * k + j) * k + (p + 1)) = S) := by show _ = _; rw [hNext.out, hrel'.out]; simp
                          go_wp2_with fail
                          go_roundg (k - (p + 1))
                          case measure => omega
                          case rel => exact ⟨p + 1, by omega, by go_num, by rw [hN2.out]; exact R2, F2, st2⟩
                        · have hN2 : Hid (sweepL k Rt ((i * k + j) * k + (p + 1)) = lowL S (ik + j) (wrap64 (am + bm))) := by show _ = _; rw [hNext.out, hrel'.out]; simp
                          go_wp2_with fail
                          refine (HLw.out _ R2 F2).mono ?_
                          rintro e2 w2 ⟨rfl, hR2, hO⟩
                          have st3 := st2.only hO ⟨by dsimp only; omega, by dsimp only; omega, by dsimp only; omega, by dsimp only; omega, trivial⟩
                          have hF2 : Hid (∀ o, w2.frozen? ⟨g, o, none⟩ = false) := fun o => (hO.fr _).trans (F2 o)
                          clear HLw
                          go_wp2_with fail
                          go_roundg (k - (p + 1))
                          case measure => omega
                          case rel => exact ⟨p + 1, by omega, by go_num, by rw [hN2.out]; exact hR2, hF2, st3⟩
                    · have hpk : p = k := by omega
                      subst hpk
                      have e : (i * p + j) * p + p = (i * p + (j + 1)) * p + 0 := by rw [show i * p + (j + 1) = (i * p + j) + 1 by omega, Nat.add_mul (i * p + j) 1 p, Nat.one_mul]; rfl
                      go_wp2_with fail
                      go_roundg (p - (j + 1))
                      case measure => omega
                      case rel => exact ⟨j + 1, by omega, by go_num, by rw [← e]; exact hR, hF, st⟩
                · have hjk : j = k := by omega
                  subst hjk
                  have e : (i * j + j) * j + 0 = ((i + 1) * j + 0) * j + 0 := by rw [Nat.add_mul i 1 j]; simp
                  go_wp2_with fail
                  go_roundg (j - (i + 1))
                  case measure => omega
                  case rel => exact ⟨i + 1, by omega, by go_num, by rw [← e]; exact hR, hF, st⟩
            · have hik : i = k := by omega
              subst hik
              have e : (i * i + 0) * i + 0 = i * i * i := by simp
              go_wp2_with fail
              go_roundg (i + 1 - (t + 1))
              case measure => omega
              case rel => exact ⟨t + 1, by omega, by go_num, by show RowC _ _ _ (sweepL i (roundsL i D t) (i * i * i)); rw [← HRt.out, ← e]; exact hR, hF, st⟩
        · have htk : t = k + 1 := by omega
          subst htk
          have htn : ¬ ((k + 1 : Nat) : Int) ≤ (k : Int) := by omega
          obtain ⟨F, hFF⟩ : ∃ F, F = roundsL k D (k + 1) := ⟨_, rfl⟩
          have HFF : Hid (roundsL k (diagL k l k) (k + 1) = F) := by show _ = _; rw [hFF, HD.out]
          have hFl : Hid (len = F.length) := by show _ = _; rw [hFF, roundsL_len]; exact hDl.out
          rw [← hFF] at hR
          clear hFF HD hDl
          go_wp2_with fail
          go_loopg [12] k (fun gh iv wx => ∃ i : Nat, i + gh = k ∧ iv = .int .i64 i ∧ wx = wr ∧ Hid (∀ i', i' < i → 0 ≤ (F.getD (i' * k + i') ceZ).m))
          case atStart => exact ⟨0, by omega, rfl, rfl, fun i' h => by omega⟩
          case round =>
            rename_i wr1
            obtain ⟨i, hig, rfl, rfl, hpos⟩ := hrel
            by_cases hi : i < k
            · have hin : (i : Int) < (k : Int) := by omega
              obtain ⟨ik, hik⟩ : ∃ m : Nat, m = i * k := ⟨_, rfl⟩
              have a1 : (i : Int) * (k : Int) = (ik : Int) := by rw [hik, Int.natCast_mul]
              have b1 : ik + i < len := by rw [hll.out, hik]; exact idx_in hi hi
              obtain ⟨x1, hx1⟩ : ∃ m : Nat, m = ik + i := ⟨_, rfl⟩
              have a3 : (ik : Int) + (i : Int) = (x1 : Int) := by omega
              have b4 : (x1 : Int) < (len : Int) := by omega
              obtain ⟨am, hA⟩ : ∃ C, C = (F.getD x1 ceZ).m := ⟨_, rfl⟩
              have c2 : wr.cell? ⟨g, x1 * 2 + 1, none⟩ = some (.int .i64 am) := by have := hR.most x1 (by rw [← hFl.out]; omega); rw [← hA, Nat.zero_add] at this; exact this
              have hgl := hR.lt
              have HA : Hid (am = (F.getD (i * k + i) ceZ).m) := by show _ = _; rw [hA, hx1, hik]
              clear hik hx1 hA
              by_cases hneg : am < 0
              · go_wp2_with fail
                refine bodyPost_ret (v := .tuple #[(.agg #[.int .i64 0, (.slice none 0 0)]), .bool false]) (by simp [results, Tryd.results75, go_sem, *]) rfl ⟨(st.og.set (by show w.heap.size ≤ w.heap.size + 1; omega) _).set (by show w.heap.size ≤ w.heap.size + 1; omega) _, .inl ⟨⟨i, hi, by rw [HFF.out, ← HA.out]; exact hneg⟩, rfl⟩⟩
              · go_wp2_with fail
                go_roundg (k - (i + 1))
                case measure => omega
                case rel =>
                  refine ⟨i + 1, by omega, by go_num, rfl, ?_⟩
                  intro i' hi'
                  by_cases e : i' = i
                  · subst e; rw [← HA.out]; omega
                  · exact hpos.out i' (by omega)
            · have hik : i = k := by omega
              subst hik
              have hin : ¬ (i : Int) < (i : Int) := by omega
              go_wp2_with fail
              refine bodyPost_ret (v := .tuple #[(.agg #[.int .i64 Ni, (.slice (some ⟨g, 0, none⟩) len cap)]), .bool true]) (by simp [results, Tryd.results75, go_sem, *]) rfl ⟨(st.og.set (by show w.heap.size ≤ w.heap.size + 1; omega) _).set (by show w.heap.size ≤ w.heap.size + 1; omega) _, .inr ⟨fun i' hi' => by rw [HFF.out]; exact hpos.out i' hi', rfl, ?_, ?_⟩⟩
              · intro o
                rw [frozen?_setCell', frozen?_setCell']
                exact hF.out o
              · rw [HFF.out]
                exact (hR.other (by show w.heap.size + 1 ≠ g; omega) _).other (by show w.heap.size + 1 ≠ g; omega) _
end Go.Proofs.YtkngedinomngbaaDoor
