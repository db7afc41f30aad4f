/- Octagons: what may be wrong; indexes. -/
import Derived.Test.YtkaodfmfkafjfaaDoorYl
import Derived.Test.YtkaodfmfkafjfaaDoorYp
import Derived.Test.YtkaodfmfkafjfaaDoorYs
import Derived.Test.YtkaodfmfkafjfaaDoorOb
import Derived.Deep.Cut
import Derived.Deep.DeepCutAuto

namespace Go.Proofs.YtkaodfmfkafjfaaDoor
open Go.RowKit
set_option linter.unusedVariables false

def voErr (N : Int) (ms : List Int) : Int := firstE (ms.map fun v => varErr (wrap64 (N - 1)) 0 v)
def siErr (ms : List Int) : Int := firstE (ms.map fun v => if v < -1 ∨ 1 < v then 3 else 0)
def saErr (x y : Int) : Int := if x = y then 3 else 0

set_option maxRecDepth 20000 in
set_option maxHeartbeats 2000000 in
theorem voErr_any (N : Int) (s : Option Addr) (len c b n c' : Nat) (ms : List Int) (a : Nat → Addr) (w : World) (hS : ErrS w a) (hl : Hid (n = ms.length)) (hn : n ≤ 10) (hb : b < w.heap.size) (hc : Hid (∀ i, i < n → w.cell? ⟨b, i, none⟩ = some (.int .i64 (ms.getD i 0)))) :
    Calls Tryd.prog 71 #[(.agg #[.int .i64 N, (.slice s len c)]), .slice (some ⟨b, 0, none⟩) n c'] w fun e w' => e = .returned (erV a (voErr N ms)) ∧ Below w.heap.size w w' := by
  obtain ⟨r, hr⟩ : ∃ r, r = voErr N ms := ⟨_, rfl⟩
  rw [← hr]
  have Hr := hide hr
  have s0 := (St.startE hS).box2 30 (.int .i64 N) (.slice s len c)
  have HC : Hid (∀ i, i < n → ∀ W : World, Below w.heap.size w W → W.cell? ⟨b, i, none⟩ = some (.int .i64 (ms.getD i 0))) := fun i hi W h => (h.cell (p := ⟨b, i, none⟩) hb).trans (hc.out i hi)
  have HV : Hid (∀ (W : World) (v : Int), ErrS W a → Calls Tryd.prog 103 #[.int .i64 v, .int .i64 0, .int .i64 (wrap64 (N - 1))] W fun e w' => e = .returned (erV a (varErr (wrap64 (N - 1)) 0 v)) ∧ Below W.heap.size W w') := fun W v h => varErr_any (wrap64 (N - 1)) 0 v a W h
  clear hr hS hc
  go_enter Tryd.func71, Tryd.ntmps71
  go_wp2_with fail
  go_loopg [10] n (fun gh iv wr => ∃ k : Nat, k + gh = n ∧ iv = .int .i64 k ∧ Hid (∀ i, i < k → (ms.map fun v => varErr (wrap64 (N - 1)) 0 v).getD i 0 = 0) ∧ St w wr (EZ a) [(w.heap.size, 0, Value.int .i64 N), (w.heap.size, 1, Value.slice s len c)])
  case atStart => exact ⟨0, by omega, rfl, fun i h => by omega, s0⟩
  case round =>
    clear s0
    obtain ⟨k, hkg, rfl, HL, st⟩ := hrel
    have qs := st.hold
    simp only [Holds, and_true] at qs
    by_cases hk : k < n
    · have hkn : (k : Int) < (n : Int) := by omega
      have hck := HC.out k hk wr st.bel
      have hbw : b < wr.heap.size := Nat.lt_of_lt_of_le hb st.bel.size
      obtain ⟨v, hv⟩ : ∃ v, v = ms.getD k 0 := ⟨_, rfl⟩
      rw [← hv] at hck
      obtain ⟨z, hz⟩ : ∃ z, z = varErr (wrap64 (N - 1)) 0 v := ⟨_, rfl⟩
      have HV1 : Hid (∀ (W : World), ErrS W a → Calls Tryd.prog 103 #[.int .i64 v, .int .i64 0, .int .i64 (wrap64 (N - 1))] W fun e w' => e = .returned (erV a z) ∧ Below W.heap.size W w') := fun W h => by rw [hz]; exact HV.out W v h
      have Hz : Hid ((ms.map fun v => varErr (wrap64 (N - 1)) 0 v).getD k 0 = z) := by
        show _ = _
        have hkm : k < ms.length := by rw [← hl.out]; exact hk
        rw [hz, hv]; simp [hkm]
      clear hv hz
      by_cases h0 : z = 0
      · subst h0
        rw [erV_0] at HV1
        go_wp2_with fail
        refine (HV1.out _ st.sent).mono ?_
        rintro e w1 ⟨rfl, hb1⟩
        have s1 := st.call hb1
        go_wp2_with fail
        go_roundg (n - (k + 1))
        case measure => omega
        case rel =>
          refine ⟨k + 1, by omega, by go_num, fun i hi => ?_, s1⟩
          by_cases e : i = k
          · subst e; exact Hz.out
          · exact HL.out i (by omega)
      · rw [erV_ne h0] at HV1
        have hre : Hid (r = z) := by
          show _ = _
          rw [Hr.out]
          have := firstE_take (es := ms.map fun v => varErr (wrap64 (N - 1)) 0 v) k HL.out (by simp; rw [← hl.out]; exact hk) (by rw [Hz.out]; exact h0)
          unfold voErr
          rw [this, Hz.out]
        have H0 := hide h0
        clear h0
        go_wp2_with fail
        refine (HV1.out _ st.sent).mono ?_
        rintro e w1 ⟨rfl, hb1⟩
        have s1 := st.call hb1
        go_wp2_with fail
        go_ret
        exact ⟨by rw [hre.out, erV_ne H0.out]; rfl, s1.bel⟩
    · have hkn : ¬ (k : Int) < (n : Int) := by omega
      have hre : Hid (r = 0) := by show _ = _; rw [Hr.out]; exact firstE_none fun i hi => HL.out i (by simp at hi; rw [← hl.out] at hi; omega)
      go_wp2_with fail
      go_ret
      exact ⟨by rw [hre.out]; rfl, st.bel⟩

set_option maxRecDepth 20000 in
set_option maxHeartbeats 2000000 in
theorem siErr_any (b n c' : Nat) (ms : List Int) (a : Nat → Addr) (w : World) (hS : ErrS w a) (hl : Hid (n = ms.length)) (hn : n ≤ 10) (hb : b < w.heap.size) (hc : Hid (∀ i, i < n → w.cell? ⟨b, i, none⟩ = some (.int .i64 (ms.getD i 0)))) :
    Calls Tryd.prog 75 #[.slice (some ⟨b, 0, none⟩) n c'] w fun e w' => e = .returned (erV a (siErr ms)) ∧ w' = w := by
  obtain ⟨r, hr⟩ : ∃ r, r = siErr ms := ⟨_, rfl⟩
  rw [← hr]
  have Hr := hide hr
  have e2 : w.cell? ⟨1, 0, none⟩ = some (.iface 169 (.pointer (some (a 2)))) := hS.2
  have l2 := World.block_lt_of_cell? w _ e2
  clear hr hS
  go_enter Tryd.func75, Tryd.ntmps75
  go_wp2_with fail
  go_loopg [7] n (fun gh iv wr => ∃ k : Nat, k + gh = n ∧ iv = .int .i64 k ∧ wr = w ∧ Hid (∀ i, i < k → (ms.map fun v => if v < -1 ∨ 1 < v then (3 : Int) else 0).getD i 0 = 0))
  case atStart => exact ⟨0, by omega, rfl, rfl, fun i h => by omega⟩
  case round =>
    rename_i wr
    obtain ⟨k, hkg, rfl, rfl, HL⟩ := hrel
    by_cases hk : k < n
    · have hkn : (k : Int) < (n : Int) := by omega
      have hck := hc.out k hk
      obtain ⟨v, hv⟩ : ∃ v, v = ms.getD k 0 := ⟨_, rfl⟩
      rw [← hv] at hck
      have Hz : Hid ((ms.map fun v => if v < -1 ∨ 1 < v then (3 : Int) else 0).getD k 0 = if v < -1 ∨ 1 < v then (3 : Int) else 0) := by
        show _ = _
        have hkm : k < ms.length := by rw [← hl.out]; exact hk
        rw [hv]; simp [hkm]
      clear hv
      have no : Hid (v < -1 ∨ 1 < v → r = 3) := by
        intro h
        rw [Hr.out]
        have := firstE_take (es := ms.map fun v => if v < -1 ∨ 1 < v then (3 : Int) else 0) k HL.out (by simp; rw [← hl.out]; exact hk) (by rw [Hz.out, if_pos h]; omega)
        unfold siErr
        rw [this, Hz.out, if_pos h]
      by_cases h1 : v < -1
      · go_wp2_with fail
        go_ret
        exact ⟨by rw [no.out (.inl h1)]; rfl, rfl⟩
      · by_cases h2 : 1 < v
        · go_wp2_with fail
          go_ret
          exact ⟨by rw [no.out (.inr h2)]; rfl, rfl⟩
        · have yes : Hid (¬ (v < -1 ∨ 1 < v)) := by show ¬ _; omega
          go_wp2_with fail
          go_roundg (n - (k + 1))
          case measure => omega
          case rel =>
            refine ⟨k + 1, by omega, by go_num, rfl, fun i hi => ?_⟩
            by_cases e : i = k
            · subst e; rw [Hz.out, if_neg yes.out]
            · exact HL.out i (by omega)
    · have hkn : ¬ (k : Int) < (n : Int) := by omega
      have hre : Hid (r = 0) := by show _ = _; rw [Hr.out]; exact firstE_none fun i hi => HL.out i (by simp at hi; rw [← hl.out] at hi; omega)
      go_wp2_with fail
      go_ret
      exact ⟨by rw [hre.out]; rfl, rfl⟩

set_option maxHeartbeats 1000000 in
theorem saErr_any (x y : Int) (a : Nat → Addr) (w : World) (hS : ErrS w a) :
    Calls Tryd.prog 79 #[.int .i64 x, .int .i64 y] w fun e w' => e = .returned (erV a (saErr x y)) ∧ w' = w := by
  have e2 : w.cell? ⟨1, 0, none⟩ = some (.iface 169 (.pointer (some (a 2)))) := hS.2
  have l2 := World.block_lt_of_cell? w _ e2
  clear hS
  unfold saErr
  by_cases h : x = y
  · subst h
    rw [if_pos rfl]
    go_enter Tryd.func79, Tryd.ntmps79
    go_wp2_with fail
    go_ret
    exact ⟨rfl, rfl⟩
  · rw [if_neg h]
    have hb : (x == y) = false := by simp [h]
    go_enter Tryd.func79, Tryd.ntmps79
    go_wp2_with fail
    go_ret
    exact ⟨rfl, rfl⟩

def idxI (sign x : Int) : Int := if sign = 1 then 2 * x else if sign = -1 then 2 * x + 1 else -1
set_option maxHeartbeats 1000000 in
theorem index_any (sign x : Int) (hs : sign = 1 ∨ sign = -1 ∨ sign = 0) (hx : 0 ≤ x ∧ x ≤ 4) (w : World) :
    Calls Tryd.prog 84 #[.int .i64 sign, .int .i64 x] w fun e w' => e = .returned (.int .i64 (idxI sign x)) ∧ w' = w := by
  rcases hs with rfl | rfl | rfl
  all_goals
    go_enter Tryd.func84, Tryd.ntmps84
    go_wp2
    go_ret
    exact ⟨ret_int (by simp [idxI]), rfl⟩

end Go.Proofs.YtkaodfmfkafjfaaDoor

/- Octagons: the numbers of a variable (octagon.Bounds). -/
namespace Go.Proofs.YtkaodfmfkafjfaaDoor
open Go.RowKit
set_option linter.unusedVariables false

/-- What is told of a number: of the bounds of its opposite, and of itself. -/
def spanV (u v : Int) : Value := .agg #[.bool (!(tellI u).h), .bool (!(tellI v).h), .int .i64 (-(tellI u).m), .int .i64 (tellI v).m]
set_option maxRecDepth 20000 in
set_option maxHeartbeats 2000000 in
theorem span_any (u v : Int) (w : World) :
    Calls Tryd.prog 82 #[.int .i64 u, .int .i64 v] w fun e w' => e = .returned (spanV u v) ∧ Below w.heap.size w w' := by
  have s0 := (St.start1' w).box4 65 (.bool false) (.bool false) (.int .i64 0) (.int .i64 0)
  obtain ⟨⟨h, m⟩, ht⟩ : ∃ t, t = tellI u := ⟨_, rfl⟩
  obtain ⟨⟨h', m'⟩, ht'⟩ : ∃ t, t = tellI v := ⟨_, rfl⟩
  have HT : Hid (∀ W : World, Calls Tryd.prog 109 #[.int .i64 u] W fun e w' => e = .returned (.tuple #[.bool h, .int .i64 m]) ∧ w' = W) := fun W => by
    have := told_any u W
    rw [← ht] at this
    exact this
  have HU : Hid (∀ W : World, Calls Tryd.prog 109 #[.int .i64 v] W fun e w' => e = .returned (.tuple #[.bool h', .int .i64 m']) ∧ w' = W) := fun W => by
    have := told_any v W
    rw [← ht'] at this
    exact this
  have hm : -1099511627776 ≤ m ∧ m ≤ 1099511627776 := by
    have : m = (tellI u).m := by rw [← ht]
    unfold tellI at this
    split at this
    · simp at this; omega
    · simp at this; split at this <;> omega
  have hV : spanV u v = Value.agg #[.bool (!h), .bool (!h'), .int .i64 (-m), .int .i64 m'] := by unfold spanV; rw [← ht, ← ht']
  rw [hV]
  clear ht ht' hV
  go_enter Tryd.func82, Tryd.ntmps82
  go_wp2_with fail
  refine (HT.out _).mono ?_
  rintro e w1 ⟨rfl, hw⟩
  rw [hw]
  clear hw w1
  go_wp2_with fail
  refine (HU.out _).mono ?_
  rintro e w1 ⟨rfl, hw⟩
  rw [hw]
  clear hw w1
  go_wp2_with fail
  refine bodyPost_ret (v := (Value.agg #[.bool (!h), .bool (!h'), .int .i64 (-m), .int .i64 (m')])) (by simp [results, Tryd.results82, go_sem]; try omega) rfl ⟨rfl, ?_⟩
  repeat' (first | exact s0.bel | refine Below.setCell ?_ (by first | (simp; done) | (simp; omega)) _ | exact (Below.refl _ _).alloc (Nat.le_refl _) _)

theorem keepEO1 {w W : World} {a : Nat → Addr} {x : Option Addr} {l : List Ce} (L : List (Nat × Nat × Value)) (h : CellsAnd W L (St w W (EC a x l) L)) : ErrS W a := h.last.sent.1
theorem keepEO2 {w W : World} {a : Nat → Addr} {x : Option Addr} {l : List Ce} (L : List (Nat × Nat × Value)) (h : CellsAnd W L (St w W (EC a x l) L)) : CsAt W x l := h.last.sent.2
theorem keepQ4 {W W1 : World} {b r : Nat} {u0 u1 v0 v1 v2 v3 : Value} {L : List (Nat × Nat × Value)} (h : Holds W ((b, 0, u0) :: (b, 1, u1) :: L)) (hne : b ≠ r) (e : W1 = (((W.setCell ⟨r, 0, none⟩ v0).setCell ⟨r, 1, none⟩ v1).setCell ⟨r, 2, none⟩ v2).setCell ⟨r, 3, none⟩ v3) : W1.cell? ⟨b, 0, none⟩ = some u0 ∧ W1.cell? ⟨b, 1, none⟩ = some u1 := by
  subst e
  have k : Holds W [(b, 0, u0), (b, 1, u1)] := ⟨h.1, h.2.1, trivial⟩
  have ap : Apart r [(b, 0, u0), (b, 1, u1)] := ⟨hne, hne, trivial⟩
  have f := (((k.setCell (p := ⟨r, 0, none⟩) ap v0).setCell (p := ⟨r, 1, none⟩) ap v1).setCell (p := ⟨r, 2, none⟩) ap v2).setCell (p := ⟨r, 3, none⟩) ap v3
  exact ⟨f.1.1, f.2.1.1⟩
theorem fstE_0 {e : Int} {l : List Int} : firstE (e :: l) = 0 ↔ e = 0 ∧ firstE l = 0 := by
  simp only [firstE]
  by_cases h : e = 0 <;> simp [h]
theorem pre1 {W w2 : World} {v : Value} {t : TypeId} (hb : Below (W.alloc (.cells #[v] t)).heap.size (W.alloc (.cells #[v] t)) w2) : W.heap.size < w2.heap.size ∧ w2.cell? ⟨W.heap.size, 0, none⟩ = some v := by
  have h := hb.size
  simp at h
  exact ⟨by omega, (hb.cell (p := ⟨W.heap.size, 0, none⟩) (by simp)).trans (by simp)⟩
theorem pre1' {W w2 : World} {v : Value} {t : TypeId} (hb : Below (W.alloc (.cells #[v] t)).drew.heap.size (W.alloc (.cells #[v] t)).drew w2) : W.heap.size < w2.heap.size ∧ w2.cell? ⟨W.heap.size, 0, none⟩ = some v := by
  have h := hb.size
  simp at h
  exact ⟨by omega, (hb.cell (p := ⟨W.heap.size, 0, none⟩) (by simp)).trans (by simp)⟩

/-- What Bounds answers. -/
def BoPost (w : World) (a : Nat → Addr) (er : Int) (ok : Prop) (V : Value) (e : Ending) (w' : World) : Prop :=
  Below w.heap.size w w' ∧ ((er ≠ 0 ∧ e = .returned (.tuple #[(Value.agg #[.bool (false), .bool (false), .int .i64 (0), .int .i64 (0)]), .bool false, erV a er])) ∨ (er = 0 ∧ ¬ ok ∧ e = .returned (.tuple #[(Value.agg #[.bool (false), .bool (false), .int .i64 (0), .int .i64 (0)]), .bool false, .nilIface])) ∨ (er = 0 ∧ ok ∧ e = .returned (.tuple #[V, .bool true, .nilIface])))
def boErr (N : Int) (l : List Ce) (x : Int) : Int := firstE [zErr N l, voErr N [x]]
set_option maxRecDepth 20000 in
set_option maxHeartbeats 8000000 in
theorem boundsO_any (N x : Int) (s : Option Addr) (c0 len : Nat) (l : List Ce) (a : Nat → Addr) (w : World) (hS : ErrS w a) (hA : CsAt w s l) (hl : Hid (len = l.length)) (hlen : len ≤ 1000) :
    Calls Tryd.prog 41 #[(.agg #[.int .i64 N, (.slice s len c0)]), .int .i64 x] w fun e w' =>
      BoPost w a (boErr N l x) (NoNeg (nOf N) (tg (nOf N) (matOf (nOf N) l))) (spanV (topI (encM (tg (nOf N) (matOf (nOf N) l))) (2 * x.toNat + 1)) (topI (encM (tg (nOf N) (matOf (nOf N) l))) (2 * x.toNat))) e w' := by
  have s0 := ((St.startEC hS hA).box2 30 (.int .i64 N) (.slice s len c0)).box4 65 (.bool false) (.bool false) (.int .i64 0) (.int .i64 0)
  simp only [World.size_alloc] at s0
  have q0 := s0.hold
  simp only [Holds, and_true] at q0
  obtain ⟨e1, he1⟩ : ∃ e, e = zErr N l := ⟨_, rfl⟩
  obtain ⟨e2, he2⟩ : ∃ e, e = voErr N [x] := ⟨_, rfl⟩
  obtain ⟨er, her⟩ : ∃ e, e = boErr N l x := ⟨_, rfl⟩
  have HV : Hid (∀ W : World, ErrS W a → CsAt W s l → Calls Tryd.prog 20 #[(.agg #[.int .i64 N, (.slice s len c0)])] W fun e w' => e = .returned (erV a e1) ∧ Below W.heap.size W w') := fun W h1 h2 => by rw [he1]; exact valid_any N s c0 len l a W h1 h2 hl hlen
  have HX : Hid (∀ (W : World) (b : Nat), ErrS W a → b < W.heap.size → W.cell? ⟨b, 0, none⟩ = some (.int .i64 x) → Calls Tryd.prog 71 #[(.agg #[.int .i64 N, (.slice s len c0)]), .slice (some ⟨b, 0, none⟩) 1 1] W fun e w' => e = .returned (erV a e2) ∧ Below W.heap.size W w') := by
    intro W b h1 h2 h3
    rw [he2]
    refine voErr_any N s len c0 b 1 1 [x] a W h1 rfl (by omega) h2 ?_
    intro i hi
    obtain rfl : i = 0 := by omega
    exact h3
  have HX2 : Hid (∀ (W : World) (t : TypeId), ErrS (W.alloc (.cells #[.int .i64 x] t)) a → Calls Tryd.prog 71 #[(.agg #[.int .i64 N, (.slice s len c0)]), .slice (some ⟨W.heap.size, 0, none⟩) 1 1] (W.alloc (.cells #[.int .i64 x] t)) fun e w' => e = .returned (erV a e2) ∧ Below (W.alloc (.cells #[.int .i64 x] t)).heap.size (W.alloc (.cells #[.int .i64 x] t)) w') := fun W t h => HX.out _ _ h (by simp) (by simp)
  have HF : Hid (∀ (W : World) (t : TypeId), Calls Tryd.prog 49 #[.slice (some ⟨W.heap.size, 0, none⟩) 2 2] (W.alloc (.cells #[erV a e1, erV a e2] t)) fun e w' => e = .returned (erV a er) ∧ w' = (W.alloc (.cells #[erV a e1, erV a e2] t))) := fun W t => by
    rw [her]; unfold boErr; rw [← he1, ← he2]; exact first2 a _ _ t W
  have hcl : ∀ x, (erV a x).cells = #[erV a x] := erV_cells a
  unfold Value.cells at hcl
  rw [← her]
  by_cases h0 : er = 0
  · have h1 : firstE [zErr N l, voErr N [x]] = 0 := by have := her; unfold boErr at this; rw [← this]; exact h0
    rw [fstE_0, fstE_0] at h1
    obtain ⟨hz, hv1, -⟩ := h1
    obtain ⟨z1, z2, z3, z4, z5, z6⟩ := zErr_0 hz
    obtain ⟨v1, v2⟩ : 0 ≤ x ∧ x < N := by
      unfold voErr varErr at hv1
      simp only [List.map, firstE] at hv1
      have hw : wrap64 (N - 1) = N - 1 := by unfold wrap64; omega
      rw [hw] at hv1
      by_cases k : x < 0 ∨ N - 1 < x
      · simp [k] at hv1
      · omega
    obtain ⟨n, hn⟩ : ∃ n, n = nOf N := ⟨_, rfl⟩
    rw [← hn] at z1 z2 z3 z4 ⊢
    have hll : Hid (len = n * n) := by show _ = _; rw [hl.out]; exact z4
    obtain ⟨x', hx'⟩ : ∃ k : Nat, (k : Int) = x := ⟨x.toNat, by omega⟩
    have ex : x.toNat = x' := by omega
    have hxn : 2 * x' + 1 < n := by omega
    rw [ex]
    subst hx'
    have HB : Hid (∀ W : World, CsAt W s l → Calls Tryd.prog 48 #[(.agg #[.int .i64 N, (.slice s len c0)])] W fun e w' => GrPost W n len (encM (matOf n l)) e w') := by
      intro W h
      exact boundsOf_cs N n c0 len _ l W h hl hll ⟨z2, z3⟩ z1
    have HC : Hid (∀ (W : World) (g cp : Nat), GrI W g n (encM (matOf n l)) → Calls Tryd.prog 66 #[(.agg #[.int .i64 n, (.slice (some ⟨g, 0, none⟩) len cp)])] W fun e w' => TgPost W n len (matOf n l) e w') := fun W g cp h => tight_any n g cp len 1099511627776 _ W h hll ⟨z2, z3⟩ (sz_mat z4 z6) (by omega)
    have hx4 : x' ≤ 4 := by omega
    obtain ⟨G, hG⟩ : ∃ G : Int → Int, G = fun sg => idxI sg x' := ⟨_, rfl⟩
    obtain ⟨H, hH⟩ : ∃ H : Int → Int, H = fun z => topI (encM (tg n (matOf n l))) z.toNat := ⟨_, rfl⟩
    have g1 : G (-1) = ((2 * x' + 1 : Nat) : Int) := by rw [hG]; simp [idxI]
    have g2 : G 1 = ((2 * x' : Nat) : Int) := by rw [hG]; simp [idxI]
    have ht1 : topI (encM (tg n (matOf n l))) (2 * x' + 1) = H (G (-1)) := by rw [g1, hH]; rfl
    have ht2 : topI (encM (tg n (matOf n l))) (2 * x') = H (G 1) := by rw [g2, hH]; rfl
    have HI : Hid (∀ (W : World) (sg : Int), sg = 1 ∨ sg = -1 → Calls Tryd.prog 84 #[.int .i64 sg, .int .i64 (x' : Int)] W fun e w' => e = .returned (.int .i64 (G sg)) ∧ w' = W) := fun W sg h => by
      rw [hG]
      exact index_any sg x' (by rcases h with h | h <;> simp [h]) (by omega) W
    have HT : Hid (∀ (W : World) (g cp : Nat) (z : Int), z = G 1 ∨ z = G (-1) → GrI W g n (encM (tg n (matOf n l))) → Calls Tryd.prog 83 #[(.agg #[.int .i64 n, (.slice (some ⟨g, 0, none⟩) len cp)]), .int .i64 z] W fun e w' => e = .returned (.int .i64 (H z)) ∧ Below W.heap.size W w') := by
      intro W g cp z hz h
      rw [hH]
      rcases hz with rfl | rfl
      · rw [g2]; exact top_any n g cp len (2 * x') _ W h hll (by omega) z3 z2
      · rw [g1]; exact top_any n g cp len (2 * x' + 1) _ W h hll (by omega) z3 z2
    obtain ⟨t1, e1'⟩ : ∃ t, t = H (G (-1)) := ⟨_, rfl⟩
    obtain ⟨t2, e2'⟩ : ∃ t, t = H (G 1) := ⟨_, rfl⟩
    obtain ⟨b1, b2, i1, i2, hsv⟩ : ∃ (b1 b2 : Bool) (i1 i2 : Int), spanV t1 t2 = Value.agg #[.bool b1, .bool b2, .int .i64 i1, .int .i64 i2] := ⟨_, _, _, _, rfl⟩
    have HSp : Hid (∀ (W : World), Calls Tryd.prog 82 #[.int .i64 (H (G (-1))), .int .i64 (H (G 1))] W fun e w' => e = .returned (Value.agg #[.bool b1, .bool b2, .int .i64 i1, .int .i64 i2]) ∧ Below W.heap.size W w') := fun W => by rw [← hsv, e1', e2']; exact span_any _ _ W
    rw [ht1, ht2, ← e1', ← e2', hsv]
    rw [h0] at HF ⊢
    rw [erV_0] at HF
    clear hS hA hl hll z1 z2 z3 z4 z5 z6 hz hn h0 hv1 v1 v2 ex her he1 he2 hsv ht1 ht2 hxn hx4 g1 g2 hG hH e1' e2' t1 t2
    go_enter Tryd.func41, Tryd.ntmps41
    go_wp2_with fail
    go_cut [7] (fun t7 wx => t7 = .nilIface ∧ St w wx (EC a s l) ((w.heap.size + 1, 0, Value.bool false) :: (w.heap.size + 1, 1, Value.bool false) :: (w.heap.size + 1, 2, Value.int .i64 0) :: (w.heap.size + 1, 3, Value.int .i64 0) :: (w.heap.size, 0, Value.int .i64 N) :: (w.heap.size, 1, Value.slice s len c0) :: []))
    case first =>
      (go_region_held3 (fun w' => w'.cell? ⟨w.heap.size + 1, 0, none⟩ = some (.bool false) ∧ w'.cell? ⟨w.heap.size + 1, 1, none⟩ = some (.bool false) ∧ w'.cell? ⟨w.heap.size + 1, 2, none⟩ = some (.int .i64 0) ∧ w'.cell? ⟨w.heap.size + 1, 3, none⟩ = some (.int .i64 0) ∧ w'.cell? ⟨w.heap.size, 0, none⟩ = some (.int .i64 N) ∧ w'.cell? ⟨w.heap.size, 1, none⟩ = some (.slice s len c0) ∧ St w w' (EC a s l) ((w.heap.size + 1, 0, Value.bool false) :: (w.heap.size + 1, 1, Value.bool false) :: (w.heap.size + 1, 2, Value.int .i64 0) :: (w.heap.size + 1, 3, Value.int .i64 0) :: (w.heap.size, 0, Value.int .i64 N) :: (w.heap.size, 1, Value.slice s len c0) :: [])) (first | (exact keepSt0 ((w.heap.size + 1, 0, Value.bool false) :: (w.heap.size + 1, 1, Value.bool false) :: (w.heap.size + 1, 2, Value.int .i64 0) :: (w.heap.size + 1, 3, Value.int .i64 0) :: (w.heap.size, 0, Value.int .i64 N) :: (w.heap.size, 1, Value.slice s len c0) :: []) s0.drew) | (exact keepSt ((w.heap.size + 1, 0, Value.bool false) :: (w.heap.size + 1, 1, Value.bool false) :: (w.heap.size + 1, 2, Value.int .i64 0) :: (w.heap.size + 1, 3, Value.int .i64 0) :: (w.heap.size, 0, Value.int .i64 N) :: (w.heap.size, 1, Value.slice s len c0) :: []) (by assumption) (by assumption)) | (exact keepSt ((w.heap.size + 1, 0, Value.bool false) :: (w.heap.size + 1, 1, Value.bool false) :: (w.heap.size + 1, 2, Value.int .i64 0) :: (w.heap.size + 1, 3, Value.int .i64 0) :: (w.heap.size, 0, Value.int .i64 N) :: (w.heap.size, 1, Value.slice s len c0) :: []) ((Below.refl _ _).alloc (Nat.le_refl _) _) (by assumption)) | (exact keepSt0 ((w.heap.size + 1, 0, Value.bool false) :: (w.heap.size + 1, 1, Value.bool false) :: (w.heap.size + 1, 2, Value.int .i64 0) :: (w.heap.size + 1, 3, Value.int .i64 0) :: (w.heap.size, 0, Value.int .i64 N) :: (w.heap.size, 1, Value.slice s len c0) :: []) ((s0.alloc _).drew)) | assumption) (first | (go_at_call 20; refine (HV.out _ (keepEO1 (w := w) (x := s) (l := l) ((w.heap.size + 1, 0, Value.bool false) :: (w.heap.size + 1, 1, Value.bool false) :: (w.heap.size + 1, 2, Value.int .i64 0) :: (w.heap.size + 1, 3, Value.int .i64 0) :: (w.heap.size, 0, Value.int .i64 N) :: (w.heap.size, 1, Value.slice s len c0) :: []) (by assumption)) (keepEO2 (w := w) (a := a) ((w.heap.size + 1, 0, Value.bool false) :: (w.heap.size + 1, 1, Value.bool false) :: (w.heap.size + 1, 2, Value.int .i64 0) :: (w.heap.size + 1, 3, Value.int .i64 0) :: (w.heap.size, 0, Value.int .i64 N) :: (w.heap.size, 1, Value.slice s len c0) :: []) (by assumption))).mono ?_; rintro e w2 ⟨rfl, hb2⟩; first | (have hpre := pre1' hb2; simp only [World.size_alloc] at hpre) | (have hpre := pre1 hb2; simp only [World.size_alloc] at hpre) | skip) | (go_at_call 71; have hpre2 := hpre; refine (HX.out _ _ (keepEO1 (w := w) (x := s) (l := l) ((w.heap.size + 1, 0, Value.bool false) :: (w.heap.size + 1, 1, Value.bool false) :: (w.heap.size + 1, 2, Value.int .i64 0) :: (w.heap.size + 1, 3, Value.int .i64 0) :: (w.heap.size, 0, Value.int .i64 N) :: (w.heap.size, 1, Value.slice s len c0) :: []) (by assumption)) hpre.1 hpre.2).mono ?_; rintro e w2 ⟨rfl, hb2⟩) | (go_at_call 71; refine (HX2.out _ _ (keepEO1 (w := w) (x := s) (l := l) ((w.heap.size + 1, 0, Value.bool false) :: (w.heap.size + 1, 1, Value.bool false) :: (w.heap.size + 1, 2, Value.int .i64 0) :: (w.heap.size + 1, 3, Value.int .i64 0) :: (w.heap.size, 0, Value.int .i64 N) :: (w.heap.size, 1, Value.slice s len c0) :: []) (by assumption))).mono ?_; rintro e w2 ⟨rfl, hb2⟩) | (go_at_call 49; refine (HF.out _ _).mono ?_; rintro e w2 ⟨rfl, rfl⟩)))
      all_goals
        (have s5 := keepSt_st (w := w) (W := w2.alloc (.cells #[erV a e1, erV a e2] 32)) (Z := EC a s l) ((w.heap.size + 1, 0, Value.bool false) :: (w.heap.size + 1, 1, Value.bool false) :: (w.heap.size + 1, 2, Value.int .i64 0) :: (w.heap.size + 1, 3, Value.int .i64 0) :: (w.heap.size, 0, Value.int .i64 N) :: (w.heap.size, 1, Value.slice s len c0) :: []) (by assumption); obtain ⟨W5, hW5⟩ : ∃ W, W = w2.alloc (.cells #[erV a e1, erV a e2] 32) := ⟨_, rfl⟩; rw [← hW5] at s5 ⊢; clear hW5 s0 q0 HV HX HX2 HF hcl; have q5 := s5.hold; simp only [Holds, and_true] at q5)
        go_wp2_with fail
        go_meet
        case rel => exact ⟨rfl, s5⟩
    case rest =>
    obtain ⟨rfl, s5⟩ := hcut
    clear s0 q0 HV HX HX2 HF hcl
    have q5 := s5.hold
    simp only [Holds, and_true] at q5
    go_wp2_with fail
    refine (HB.out _ s5.sent.2).mono ?_
    rintro e w6 ⟨g2, cp2, rfl, hg2, hG2, hb6⟩
    (have s6 := s5.call hb6; have q6 := s6.hold; simp only [Holds, and_true] at q6; clear s5 hb6; try clear q5)
    go_wp2_with fail
    refine (HC.out _ g2 cp2 hG2).mono ?_
    rintro e w7 ⟨hb7, h7⟩
    (have s7 := s6.call hb7; have q7 := s7.hold; simp only [Holds, and_true] at q7; clear s6 hb7; try clear q6)
    clear hG2
    rcases h7 with ⟨hno, rfl⟩ | ⟨hyes, g3, cp3, rfl, hg3, hG3⟩
    · go_wp2_with fail
      refine bodyPost_ret (v := .tuple #[(Value.agg #[.bool (false), .bool (false), .int .i64 (0), .int .i64 (0)]), .bool false, .nilIface]) (by simp [results, Tryd.results41, go_sem, q7]) rfl ⟨?_, .inr (.inl ⟨rfl, hno, rfl⟩)⟩
      repeat' (first | exact s7.bel | refine Below.setCell ?_ (by first | (simp; done) | (simp; omega)) _ | refine Below.alloc ?_ (by first | (simp; done) | (simp; omega)) _)
    · have hz7 : w.heap.size + 1 < w7.heap.size := q7.1.2.1
      have s8 := s7.box2 84 (.int .i64 n) (.slice (some ⟨g3, 0, none⟩) len cp3)
      have hG4 := hG3.below ((Below.refl _ _).alloc (Nat.le_refl _) (.cells #[.int .i64 n, .slice (some ⟨g3, 0, none⟩) len cp3] 84))
      have hbW := s8.bel
      have s9 := s8.re.both (Y := fun W => GrI W g3 n (encM (tg n (matOf n l)))) hG4 (fun _ _ q hb => GrI.stays hG4.lt q hb)
      clear s8 hG4 hG3 s7
      have q9 := s9.hold
      simp only [Holds, and_true] at q9
      go_wp2_with fail
      obtain ⟨W4, hW4⟩ : ∃ W, W = w7.alloc (.cells #[.int .i64 n, .slice (some ⟨g3, 0, none⟩) len cp3] 84) := ⟨_, rfl⟩
      obtain ⟨b7, hb7⟩ : ∃ b, b = w7.heap.size := ⟨_, rfl⟩
      rw [← hW4, ← hb7] at s9 q9 ⊢
      rw [← hW4] at hbW
      have hg7 : w.heap.size + 1 < b7 := by rw [hb7]; exact hz7
      clear hW4 hb7
      have hne7 : b7 ≠ w.heap.size + 1 := by have := hg7; omega
      go_region_held3 (fun w' => w'.cell? ⟨b7, 0, none⟩ = some (.int .i64 n) ∧ w'.cell? ⟨b7, 1, none⟩ = some (.slice (some ⟨g3, 0, none⟩) len cp3)) (first | (exact keepQ4 s13.hold hne7 rfl) | (exact ⟨q13.1.1, q13.2.1.1⟩) | (exact ⟨q12.1.1, q12.2.1.1⟩) | (exact ⟨q11.1.1, q11.2.1.1⟩) | (exact ⟨q9.1.1, q9.2.1.1⟩) | assumption) (first
        | (go_at_call 84; refine (HI.out _ _ (by first | exact .inl rfl | exact .inr rfl)).mono ?_; rintro e w10 ⟨rfl, rfl⟩)
        | (go_at_call 83; (fail_if_success (have _ := s11)); refine (HT.out _ g3 cp3 _ (by first | exact .inl rfl | exact .inr rfl) s9.drew.sent.2).mono ?_; rintro e w11 ⟨rfl, hb11⟩; have s11 := s9.drew.call hb11; have q11 := s11.hold; simp only [Holds, and_true] at q11)
        | (go_at_call 83; refine (HT.out _ g3 cp3 _ (by first | exact .inl rfl | exact .inr rfl) s11.sent.2).mono ?_; rintro e w12 ⟨rfl, hb12⟩; have s12 := s11.call hb12; have q12 := s12.hold; simp only [Holds, and_true] at q12)
        | (go_at_call 82; refine (HSp.out _).mono ?_; rintro e w13 ⟨rfl, hb13⟩; have s13 := s12.call hb13; have q13 := s13.hold; simp only [Holds, and_true] at q13))
      all_goals
        have sz12 : w.heap.size + 1 < w13.heap.size := q13.2.2.1.2.1
        go_wp2_with fail
        refine bodyPost_ret (v := .tuple #[(Value.agg #[.bool (b1), .bool (b2), .int .i64 (i1), .int .i64 (i2)]), .bool true, .nilIface]) (by simp [results, Tryd.results41, go_sem, q13]) rfl ⟨?_, .inr (.inr ⟨rfl, hyes, rfl⟩)⟩
        repeat' (first | exact hbW.trans (s13.bel.mono hbW.size) | refine Below.setCell ?_ (by first | (simp; done) | (simp; omega)) _)
  · rw [erV_ne h0] at HF
    have H0 := hide h0
    clear h0 hS hA hl her he1 he2
    go_enter Tryd.func41, Tryd.ntmps41
    go_wp2_with fail
    go_cut [7] (fun t7 wx => t7 = .iface 169 (.pointer (some (a (er.toNat - 1)))) ∧ St w wx (EC a s l) ((w.heap.size + 1, 0, Value.bool false) :: (w.heap.size + 1, 1, Value.bool false) :: (w.heap.size + 1, 2, Value.int .i64 0) :: (w.heap.size + 1, 3, Value.int .i64 0) :: (w.heap.size, 0, Value.int .i64 N) :: (w.heap.size, 1, Value.slice s len c0) :: []))
    case first =>
      (go_region_held3 (fun w' => w'.cell? ⟨w.heap.size + 1, 0, none⟩ = some (.bool false) ∧ w'.cell? ⟨w.heap.size + 1, 1, none⟩ = some (.bool false) ∧ w'.cell? ⟨w.heap.size + 1, 2, none⟩ = some (.int .i64 0) ∧ w'.cell? ⟨w.heap.size + 1, 3, none⟩ = some (.int .i64 0) ∧ w'.cell? ⟨w.heap.size, 0, none⟩ = some (.int .i64 N) ∧ w'.cell? ⟨w.heap.size, 1, none⟩ = some (.slice s len c0) ∧ St w w' (EC a s l) ((w.heap.size + 1, 0, Value.bool false) :: (w.heap.size + 1, 1, Value.bool false) :: (w.heap.size + 1, 2, Value.int .i64 0) :: (w.heap.size + 1, 3, Value.int .i64 0) :: (w.heap.size, 0, Value.int .i64 N) :: (w.heap.size, 1, Value.slice s len c0) :: [])) (first | (exact keepSt0 ((w.heap.size + 1, 0, Value.bool false) :: (w.heap.size + 1, 1, Value.bool false) :: (w.heap.size + 1, 2, Value.int .i64 0) :: (w.heap.size + 1, 3, Value.int .i64 0) :: (w.heap.size, 0, Value.int .i64 N) :: (w.heap.size, 1, Value.slice s len c0) :: []) s0.drew) | (exact keepSt ((w.heap.size + 1, 0, Value.bool false) :: (w.heap.size + 1, 1, Value.bool false) :: (w.heap.size + 1, 2, Value.int .i64 0) :: (w.heap.size + 1, 3, Value.int .i64 0) :: (w.heap.size, 0, Value.int .i64 N) :: (w.heap.size, 1, Value.slice s len c0) :: []) (by assumption) (by assumption)) | (exact keepSt ((w.heap.size + 1, 0, Value.bool false) :: (w.heap.size + 1, 1, Value.bool false) :: (w.heap.size + 1, 2, Value.int .i64 0) :: (w.heap.size + 1, 3, Value.int .i64 0) :: (w.heap.size, 0, Value.int .i64 N) :: (w.heap.size, 1, Value.slice s len c0) :: []) ((Below.refl _ _).alloc (Nat.le_refl _) _) (by assumption)) | (exact keepSt0 ((w.heap.size + 1, 0, Value.bool false) :: (w.heap.size + 1, 1, Value.bool false) :: (w.heap.size + 1, 2, Value.int .i64 0) :: (w.heap.size + 1, 3, Value.int .i64 0) :: (w.heap.size, 0, Value.int .i64 N) :: (w.heap.size, 1, Value.slice s len c0) :: []) ((s0.alloc _).drew)) | assumption) (first | (go_at_call 20; refine (HV.out _ (keepEO1 (w := w) (x := s) (l := l) ((w.heap.size + 1, 0, Value.bool false) :: (w.heap.size + 1, 1, Value.bool false) :: (w.heap.size + 1, 2, Value.int .i64 0) :: (w.heap.size + 1, 3, Value.int .i64 0) :: (w.heap.size, 0, Value.int .i64 N) :: (w.heap.size, 1, Value.slice s len c0) :: []) (by assumption)) (keepEO2 (w := w) (a := a) ((w.heap.size + 1, 0, Value.bool false) :: (w.heap.size + 1, 1, Value.bool false) :: (w.heap.size + 1, 2, Value.int .i64 0) :: (w.heap.size + 1, 3, Value.int .i64 0) :: (w.heap.size, 0, Value.int .i64 N) :: (w.heap.size, 1, Value.slice s len c0) :: []) (by assumption))).mono ?_; rintro e w2 ⟨rfl, hb2⟩; first | (have hpre := pre1' hb2; simp only [World.size_alloc] at hpre) | (have hpre := pre1 hb2; simp only [World.size_alloc] at hpre) | skip) | (go_at_call 71; have hpre2 := hpre; refine (HX.out _ _ (keepEO1 (w := w) (x := s) (l := l) ((w.heap.size + 1, 0, Value.bool false) :: (w.heap.size + 1, 1, Value.bool false) :: (w.heap.size + 1, 2, Value.int .i64 0) :: (w.heap.size + 1, 3, Value.int .i64 0) :: (w.heap.size, 0, Value.int .i64 N) :: (w.heap.size, 1, Value.slice s len c0) :: []) (by assumption)) hpre.1 hpre.2).mono ?_; rintro e w2 ⟨rfl, hb2⟩) | (go_at_call 71; refine (HX2.out _ _ (keepEO1 (w := w) (x := s) (l := l) ((w.heap.size + 1, 0, Value.bool false) :: (w.heap.size + 1, 1, Value.bool false) :: (w.heap.size + 1, 2, Value.int .i64 0) :: (w.heap.size + 1, 3, Value.int .i64 0) :: (w.heap.size, 0, Value.int .i64 N) :: (w.heap.size, 1, Value.slice s len c0) :: []) (by assumption))).mono ?_; rintro e w2 ⟨rfl, hb2⟩) | (go_at_call 49; refine (HF.out _ _).mono ?_; rintro e w2 ⟨rfl, rfl⟩)))
      all_goals
        (have s5 := keepSt_st (w := w) (W := w2.alloc (.cells #[erV a e1, erV a e2] 32)) (Z := EC a s l) ((w.heap.size + 1, 0, Value.bool false) :: (w.heap.size + 1, 1, Value.bool false) :: (w.heap.size + 1, 2, Value.int .i64 0) :: (w.heap.size + 1, 3, Value.int .i64 0) :: (w.heap.size, 0, Value.int .i64 N) :: (w.heap.size, 1, Value.slice s len c0) :: []) (by assumption); obtain ⟨W5, hW5⟩ : ∃ W, W = w2.alloc (.cells #[erV a e1, erV a e2] 32) := ⟨_, rfl⟩; rw [← hW5] at s5 ⊢; clear hW5 s0 q0 HV HX HX2 HF hcl; have q5 := s5.hold; simp only [Holds, and_true] at q5)
        go_wp2_with fail
        go_meet
        case rel => exact ⟨rfl, s5⟩
    case rest =>
    obtain ⟨rfl, s5⟩ := hcut
    have q5 := s5.hold
    simp only [Holds, and_true] at q5
    clear s0 q0
    go_wp2_with fail
    refine bodyPost_ret (v := .tuple #[(Value.agg #[.bool (false), .bool (false), .int .i64 (0), .int .i64 (0)]), .bool false, .iface 169 (.pointer (some (a (er.toNat - 1))))]) (by simp [results, Tryd.results41, go_sem, q5]) rfl ⟨?_, .inl ⟨H0.out, by rw [erV_ne H0.out]⟩⟩
    repeat' (first | exact s5.bel | refine Below.setCell ?_ (by first | (simp; done) | (simp; omega)) _)
end Go.Proofs.YtkaodfmfkafjfaaDoor
