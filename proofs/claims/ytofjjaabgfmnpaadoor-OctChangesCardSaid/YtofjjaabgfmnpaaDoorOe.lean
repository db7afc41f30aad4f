/- Octagons: what may be wrong; indexes. -/
import Derived.Test.YtofjjaabgfmnpaaDoorYl

namespace Go.Proofs.YtofjjaabgfmnpaaDoor
open Go.RowKit
set_option linter.unusedVariables false

def voErr (N : Int) (ms : List Int) : Int := firstE (ms.map fun v => varErr (wrap64 (N - 1)) 0 v)
def siErr (ms : List Int) : Int := firstE (ms.map fun v => if v < -1 ∨ 1 < v then 3 else 0)
def saErr (x y : Int) : Int := if x = y then 3 else 0

set_option maxRecDepth 20000 in
set_option maxHeartbeats 2000000 in
theorem voErr_any (N : Int) (s : Option Addr) (len c b n c' : Nat) (ms : List Int) (a : Nat → Addr) (w : World) (hS : ErrS w a) (hl : Hid (n = ms.length)) (hn : n ≤ 10) (hb : b < w.heap.size) (hc : Hid (∀ i, i < n → w.cell? ⟨b, i, none⟩ = some (.int .i64 (ms.getD i 0)))) :
    Calls Tryd.prog 71 #[(.agg #[.int .i64 N, (.slice s len c)]), .slice (some ⟨b, 0, none⟩) n c'] w fun e w' => e = .returned (erV a (voErr N ms)) ∧ Below w.heap.size w w' := by
  obtain ⟨r, hr⟩ : ∃ r, r = voErr N ms := ⟨_, rfl⟩
  rw [← hr]
  have Hr := hide hr
  have s0 := (St.startE hS).box2 30 (.int .i64 N) (.slice s len c)
  have HC : Hid (∀ i, i < n → ∀ W : World, Below w.heap.size w W → W.cell? ⟨b, i, none⟩ = some (.int .i64 (ms.getD i 0))) := fun i hi W h => (h.cell (p := ⟨b, i, none⟩) hb).trans (hc.out i hi)
  have HV : Hid (∀ (W : World) (v : Int), ErrS W a → Calls Tryd.prog 103 #[.int .i64 v, .int .i64 0, .int .i64 (wrap64 (N - 1))] W fun e w' => e = .returned (erV a (varErr (wrap64 (N - 1)) 0 v)) ∧ Below W.heap.size W w') := fun W v h => varErr_any (wrap64 (N - 1)) 0 v a W h
  clear hr hS hc
  go_enter Tryd.func71, Tryd.ntmps71
  go_wp2_with fail
  go_loopg [10] n (fun gh iv wr => ∃ k : Nat, k + gh = n ∧ iv = .int .i64 k ∧ Hid (∀ i, i < k → (ms.map fun v => varErr (wrap64 (N - 1)) 0 v).getD i 0 = 0) ∧ St w wr (EZ a) [(w.heap.size, 0, Value.int .i64 N), (w.heap.size, 1, Value.slice s len c)])
  case atStart => exact ⟨0, by omega, rfl, fun i h => by omega, s0⟩
  case round =>
    clear s0
    obtain ⟨k, hkg, rfl, HL, st⟩ := hrel
    have qs := st.hold
    simp only [Holds, and_true] at qs
    by_cases hk : k < n
    · have hkn : (k : Int) < (n : Int) := by omega
      have hck := HC.out k hk wr st.bel
      have hbw : b < wr.heap.size := Nat.lt_of_lt_of_le hb st.bel.size
      obtain ⟨v, hv⟩ : ∃ v, v = ms.getD k 0 := ⟨_, rfl⟩
      rw [← hv] at hck
      obtain ⟨z, hz⟩ : ∃ z, z = varErr (wrap64 (N - 1)) 0 v := ⟨_, rfl⟩
      have HV1 : Hid (∀ (W : World), ErrS W a → Calls Tryd.prog 103 #[.int .i64 v, .int .i64 0, .int .i64 (wrap64 (N - 1))] W fun e w' => e = .returned (erV a z) ∧ Below W.heap.size W w') := fun W h => by rw [hz]; exact HV.out W v h
      have Hz : Hid ((ms.map fun v => varErr (wrap64 (N - 1)) 0 v).getD k 0 = z) := by
        show _ = _
        have hkm : k < ms.length := by rw [← hl.out]; exact hk
        rw [hz, hv]; simp [hkm]
      clear hv hz
      by_cases h0 : z = 0
      · subst h0
        rw [erV_0] at HV1
        go_wp2_with fail
        refine (HV1.out _ st.sent).mono ?_
        rintro e w1 ⟨rfl, hb1⟩
        have s1 := st.call hb1
        go_wp2_with fail
        go_roundg (n - (k + 1))
        case measure => omega
        case rel =>
          refine ⟨k + 1, by omega, by go_num, fun i hi => ?_, s1⟩
          by_cases e : i = k
          · subst e; exact Hz.out
          · exact HL.out i (by omega)
      · rw [erV_ne h0] at HV1
        have hre : Hid (r = z) := by
          show _ = _
          rw [Hr.out]
          have := firstE_take (es := ms.map fun v => varErr (wrap64 (N - 1)) 0 v) k HL.out (by simp; rw [← hl.out]; exact hk) (by rw [Hz.out]; exact h0)
          unfold voErr
          rw [this, Hz.out]
        have H0 := hide h0
        clear h0
        go_wp2_with fail
        refine (HV1.out _ st.sent).mono ?_
        rintro e w1 ⟨rfl, hb1⟩
        have s1 := st.call hb1
        go_wp2_with fail
        go_ret
        exact ⟨by rw [hre.out, erV_ne H0.out]; rfl, s1.bel⟩
    · have hkn : ¬ (k : Int) < (n : Int) := by omega
      have hre : Hid (r = 0) := by show _ = _; rw [Hr.out]; exact firstE_none fun i hi => HL.out i (by simp at hi; rw [← hl.out] at hi; omega)
      go_wp2_with fail
      go_ret
      exact ⟨by rw [hre.out]; rfl, st.bel⟩

set_option maxRecDepth 20000 in
set_option maxHeartbeats 2000000 in
theorem siErr_any (b n c' : Nat) (ms : List Int) (a : Nat → Addr) (w : World) (hS : ErrS w a) (hl : Hid (n = ms.length)) (hn : n ≤ 10) (hb : b < w.heap.size) (hc : Hid (∀ i, i < n → w.cell? ⟨b, i, none⟩ = some (.int .i64 (ms.getD i 0)))) :
    Calls Tryd.prog 75 #[.slice (some ⟨b, 0, none⟩) n c'] w fun e w' => e = .returned (erV a (siErr ms)) ∧ w' = w := by
  obtain ⟨r, hr⟩ : ∃ r, r = siErr ms := ⟨_, rfl⟩
  rw [← hr]
  have Hr := hide hr
  have e2 : w.cell? ⟨1, 0, none⟩ = some (.iface 169 (.pointer (some (a 2)))) := hS.2
  have l2 := World.block_lt_of_cell? w _ e2
  clear hr hS
  go_enter Tryd.func75, Tryd.ntmps75
  go_wp2_with fail
  go_loopg [7] n (fun gh iv wr => ∃ k : Nat, k + gh = n ∧ iv = .int .i64 k ∧ wr = w ∧ Hid (∀ i, i < k → (ms.map fun v => if v < -1 ∨ 1 < v then (3 : Int) else 0).getD i 0 = 0))
  case atStart => exact ⟨0, by omega, rfl, rfl, fun i h => by omega⟩
  case round =>
    rename_i wr
    obtain ⟨k, hkg, rfl, rfl, HL⟩ := hrel
    by_cases hk : k < n
    · have hkn : (k : Int) < (n : Int) := by omega
      have hck := hc.out k hk
      obtain ⟨v, hv⟩ : ∃ v, v = ms.getD k 0 := ⟨_, rfl⟩
      rw [← hv] at hck
      have Hz : Hid ((ms.map fun v => if v < -1 ∨ 1 < v then (3 : Int) else 0).getD k 0 = if v < -1 ∨ 1 < v then (3 : Int) else 0) := by
        show _ = _
        have hkm : k < ms.length := by rw [← hl.out]; exact hk
        rw [hv]; simp [hkm]
      clear hv
      have no : Hid (v < -1 ∨ 1 < v → r = 3) := by
        intro h
        rw [Hr.out]
        have := firstE_take (es := ms.map fun v => if v < -1 ∨ 1 < v then (3 : Int) else 0) k HL.out (by simp; rw [← hl.out]; exact hk) (by rw [Hz.out, if_pos h]; omega)
        unfold siErr
        rw [this, Hz.out, if_pos h]
      by_cases h1 : v < -1
      · go_wp2_with fail
        go_ret
        exact ⟨by rw [no.out (.inl h1)]; rfl, rfl⟩
      · by_cases h2 : 1 < v
        · go_wp2_with fail
          go_ret
          exact ⟨by rw [no.out (.inr h2)]; rfl, rfl⟩
        · have yes : Hid (¬ (v < -1 ∨ 1 < v)) := by show ¬ _; omega
          go_wp2_with fail
          go_roundg (n - (k + 1))
          case measure => omega
          case rel =>
            refine ⟨k + 1, by omega, by go_num, rfl, fun i hi => ?_⟩
            by_cases e : i = k
            · subst e; rw [Hz.out, if_neg yes.out]
            · exact HL.out i (by omega)
    · have hkn : ¬ (k : Int) < (n : Int) := by omega
      have hre : Hid (r = 0) := by show _ = _; rw [Hr.out]; exact firstE_none fun i hi => HL.out i (by simp at hi; rw [← hl.out] at hi; omega)
      go_wp2_with fail
      go_ret
      exact ⟨by rw [hre.out]; rfl, rfl⟩

set_option maxHeartbeats 1000000 in
theorem saErr_any (x y : Int) (a : Nat → Addr) (w : World) (hS : ErrS w a) :
    Calls Tryd.prog 79 #[.int .i64 x, .int .i64 y] w fun e w' => e = .returned (erV a (saErr x y)) ∧ w' = w := by
  have e2 : w.cell? ⟨1, 0, none⟩ = some (.iface 169 (.pointer (some (a 2)))) := hS.2
  have l2 := World.block_lt_of_cell? w _ e2
  clear hS
  unfold saErr
  by_cases h : x = y
  · subst h
    rw [if_pos rfl]
    go_enter Tryd.func79, Tryd.ntmps79
    go_wp2_with fail
    go_ret
    exact ⟨rfl, rfl⟩
  · rw [if_neg h]
    have hb : (x == y) = false := by simp [h]
    go_enter Tryd.func79, Tryd.ntmps79
    go_wp2_with fail
    go_ret
    exact ⟨rfl, rfl⟩

def idxI (sign x : Int) : Int := if sign = 1 then 2 * x else if sign = -1 then 2 * x + 1 else -1
set_option maxHeartbeats 1000000 in
theorem index_any (sign x : Int) (hs : sign = 1 ∨ sign = -1 ∨ sign = 0) (hx : 0 ≤ x ∧ x ≤ 4) (w : World) :
    Calls Tryd.prog 84 #[.int .i64 sign, .int .i64 x] w fun e w' => e = .returned (.int .i64 (idxI sign x)) ∧ w' = w := by
  rcases hs with rfl | rfl | rfl
  all_goals
    go_enter Tryd.func84, Tryd.ntmps84
    go_wp2
    go_ret
    exact ⟨ret_int (by simp [idxI]), rfl⟩

end Go.Proofs.YtofjjaabgfmnpaaDoor
