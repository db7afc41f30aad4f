/- Zones: which are right, by the program. -/
import Derived.Test.YtbafkjhlogkllaaGreatDoorYb
import Derived.Test.YtbafkjhlogkllaaGreatDoorZh
import Derived.Test.YtbafkjhlogkllaaGreatDoorObO
import Derived.BigQuiet
namespace Go.Proofs.YtbafkjhlogkllaaGreatDoor.Oc
open Go.RowKit
set_option linter.unusedVariables false

/-- An error of package api by its number. -/
def erV (a : Nat → Addr) (x : Int) : Value := if x = 0 then .nilIface else .iface 146 (.pointer (some (a (x.toNat - 1))))
theorem erV_0 (a : Nat → Addr) : erV a 0 = .nilIface := rfl
theorem erV_2 (a : Nat → Addr) : erV a 2 = .iface 146 (.pointer (some (a 1))) := rfl
theorem erV_3 (a : Nat → Addr) : erV a 3 = .iface 146 (.pointer (some (a 2))) := rfl
theorem erV_ne {a : Nat → Addr} {x : Int} (h : x ≠ 0) : erV a x = .iface 146 (.pointer (some (a (x.toNat - 1)))) := by unfold erV; rw [if_neg h]

set_option maxHeartbeats 400000 in
theorem bfar_any (x : Int) (w : World) :
    Calls Tryz.prog 54 #[.int .i64 x] w fun e w' => e = .returned (.bool (farB x 1099511627776)) ∧ w' = w := by
  by_cases h1 : x < -1099511627776
  · go_enter Tryz.func54, Tryz.ntmps54
    go_wp2
    go_ret
    exact ⟨ret_bool (by simp [farB]; omega), rfl⟩
  · by_cases h2 : 1099511627776 < x
    · go_enter Tryz.func54, Tryz.ntmps54
      go_wp2
      go_ret
      exact ⟨ret_bool (by simp [farB]; omega), rfl⟩
    · go_enter Tryz.func54, Tryz.ntmps54
      go_wp2
      go_ret
      exact ⟨ret_bool (by simp [farB]; omega), rfl⟩

/-- What a function asks of a cell. -/
def Tests (fn : Nat) (p : Ce → Bool) : Prop := ∀ (W : World) (h : Bool) (m : Int), Calls Tryz.prog fn #[(.agg #[.bool h, .int .i64 m])] W fun e w' => e = .returned (.bool (p ⟨h, m⟩)) ∧ Below W.heap.size W w'

set_option maxHeartbeats 400000 in
theorem tests1 : Tests 60 badC := by
  intro W h m
  cases h
  · by_cases h0 : m = 0
    · subst h0
      go_enter Tryz.func60, Tryz.ntmps60
      go_wp2
      go_ret
      exact ⟨rfl, (Below.refl _ _).alloc (Nat.le_refl _) _⟩
    · have hb : (m != 0) = true := by simp [h0]
      go_enter Tryz.func60, Tryz.ntmps60
      go_wp2
      go_ret
      exact ⟨ret_bool (by simp [badC, h0]), (Below.refl _ _).alloc (Nat.le_refl _) _⟩
  · go_enter Tryz.func60, Tryz.ntmps60
    go_wp2
    go_ret
    exact ⟨rfl, (Below.refl _ _).alloc (Nat.le_refl _) _⟩
set_option maxHeartbeats 400000 in
theorem tests2 : Tests 61 (farC 1099511627776) := by
  intro W h m
  go_enter Tryz.func61, Tryz.ntmps61
  go_wp2_with (go_at_call 54; refine (bfar_any m _).mono ?_; rintro e w' ⟨rfl, rfl⟩)
  go_ret
  exact ⟨rfl, (Below.refl _ _).alloc (Nat.le_refl _) _⟩
theorem enters_v1 : Enters 60 := enters_of Tryz.func60 (by kernel_rfl) rfl
theorem enters_v2 : Enters 61 := enters_of Tryz.func61 (by kernel_rfl) rfl

def IxPost (w : World) (b : Bool) (e : Ending) (w' : World) : Prop := ∃ r : Int, e = .returned (.int .i64 r) ∧ Below w.heap.size w w' ∧ ((r = -1 ∧ b = false) ∨ (0 ≤ r ∧ b = true))
set_option maxHeartbeats 1000000 in
theorem index_nil (x : Option Addr) (c fn : Nat) (w : World) :
    Calls Tryz.prog 84 #[.slice x 0 c, .func (.func fn) #[] #[]] w fun e w' => IxPost w false e w' := by
  go_enter Tryz.func84, Tryz.ntmps84
  go_wp2_with fail
  refine wp_loop_rounds 1 ?_
  rw [rounds_succ]
  go_wp2_with fail
  go_ret
  exact ⟨-1, rfl, Below.refl _ _, .inl ⟨rfl, rfl⟩⟩
set_option maxRecDepth 20000 in
set_option maxHeartbeats 2000000 in
theorem index_row (b off c n fn : Nat) (l : List Ce) (p : Ce → Bool) (w : World) (hR : RowC w b off l) (hl : Hid (n = l.length)) (hn : n ≤ 1000) (hE : Hid (Enters fn)) (hT : Hid (Tests fn p)) :
    Calls Tryz.prog 84 #[.slice (some ⟨b, off, none⟩) n c, .func (.func fn) #[] #[]] w fun e w' => IxPost w (l.any p) e w' := by
  have hE' : ∀ (args : Array Value) (W : World), (callFunc fn args).run Tryz.prog W = .ok (.enter fn args) W := hE.out
  have HR := hide hR
  clear hR
  go_enter Tryz.func84, Tryz.ntmps84
  go_wp2_with fail
  go_loopg [8] n (fun gh iv wr => ∃ k : Nat, k + gh = n ∧ iv = .int .i64 k ∧ Hid ((l.take k).any p = false) ∧ Below w.heap.size w wr)
  case atStart => exact ⟨0, by omega, rfl, rfl, Below.refl _ _⟩
  case round =>
    obtain ⟨k, hkg, rfl, HL, hbel⟩ := hrel
    by_cases hk : k < n
    · have hkl : k < l.length := by rw [← hl.out]; exact hk
      have hkn : (k : Int) < (n : Int) := by omega
      obtain ⟨⟨ch, cm⟩, hc⟩ : ∃ C, C = l.getD k ceZ := ⟨_, rfl⟩
      have R := HR.out.below hbel
      have c1 : wr.cell? ⟨b, off + k * 2, none⟩ = some (.bool ch) := by have := R.has k hkl; rw [← hc] at this; exact this
      have c2 : wr.cell? ⟨b, off + k * 2 + 1, none⟩ = some (.int .i64 cm) := by have := R.most k hkl; rw [← hc] at this; exact this
      have hlt := R.lt
      have Hc := hide hc
      obtain ⟨q, hq⟩ : ∃ q, q = p ⟨ch, cm⟩ := ⟨_, rfl⟩
      have HT : Hid (∀ W : World, Calls Tryz.prog fn #[(.agg #[.bool ch, .int .i64 cm])] W fun e w' => e = .returned (.bool q) ∧ Below W.heap.size W w') := fun W => by rw [hq]; exact hT.out W ch cm
      have Hq := hide hq
      clear hq hc R
      go_wp2_with fail
      refine (HT.out _).mono ?_
      rintro e w2 ⟨rfl, hb2⟩
      have hbel2 := hbel.trans (hb2.mono hbel.size)
      cases q
      · go_wp2_with fail
        go_roundg (n - (k + 1))
        case measure => omega
        case rel => exact ⟨k + 1, by omega, by go_num, (by show _ = _; rw [any_snoc hkl, HL.out, ← Hc.out, ← Hq.out]; rfl), hbel2⟩
      · go_wp2_with fail
        go_ret
        exact ⟨k, rfl, hbel2, .inr ⟨by omega, any_yes hkl (by rw [← Hc.out, ← Hq.out])⟩⟩
    · have hke : k = n := by omega
      have ee : Hid (l.any p = false) := by
        show _ = _
        have := HL.out
        rwa [take_all (by rw [← hl.out]; omega)] at this
      have hkn : ¬ (k : Int) < (n : Int) := by omega
      go_wp2_with fail
      go_ret
      exact ⟨-1, rfl, hbel, .inl ⟨rfl, ee.out⟩⟩
set_option maxHeartbeats 1000000 in
theorem contains_any (x : Option Addr) (c n fn : Nat) (l : List Ce) (p : Ce → Bool) (w : World) (hA : CsAt w x l) (hl : Hid (n = l.length)) (hn : n ≤ 1000) (hE : Hid (Enters fn)) (hT : Hid (Tests fn p)) :
    Calls Tryz.prog 59 #[.slice x n c, .func (.func fn) #[] #[]] w fun e w' => e = .returned (.bool (l.any p)) ∧ Below w.heap.size w w' := by
  have HI : Hid (∀ W : World, CsAt W x l → Calls Tryz.prog 84 #[.slice x n c, .func (.func fn) #[] #[]] W fun e w' => IxPost W (l.any p) e w') := by
    intro W h
    rcases h with h | ⟨b, off, rfl, h⟩
    · subst h
      have : n = 0 := hl.out
      subst this
      exact index_nil x c fn W
    · exact index_row b off c n fn l p W h hl hn hE hT
  obtain ⟨q, hq⟩ : ∃ q, q = l.any p := ⟨_, rfl⟩
  rw [← hq] at HI ⊢
  clear hq hE hT
  go_enter Tryz.func59, Tryz.ntmps59
  go_wp2_with fail
  refine (HI.out _ hA).mono ?_
  rintro e w2 ⟨r, rfl, hb2, hr⟩
  rcases hr with ⟨rfl, rfl⟩ | ⟨hr, rfl⟩
  · go_wp2_with fail
    go_ret
    exact ⟨rfl, hb2⟩
  · go_wp2_with fail
    go_ret
    exact ⟨ret_bool (by simp), hb2⟩

/-- The errors, and a slice of cells. -/
def EC (a : Nat → Addr) (x : Option Addr) (l : List Ce) (W : World) : Prop := ErrS W a ∧ CsAt W x l
theorem St.startEC {w : World} {a : Nat → Addr} {x : Option Addr} {l : List Ce} (h : ErrS w a) (k : CsAt w x l) : St w w (EC a x l) [] :=
  ⟨Below.refl _ _, trivial, ⟨h, k⟩, fun _ _ q hb => ⟨h.stays q.1 hb, k.stays q.2 hb⟩⟩

theorem erV_7 (a : Nat → Addr) : erV a 7 = .iface 146 (.pointer (some (a 6))) := rfl
def cohP (n : Nat) (l : List Ce) : Prop := ∀ i, i < n → ∀ j, j < n → l.getD (i * n + j) ceZ = l.getD (bar j * n + bar i) ceZ
instance (n : Nat) (l : List Ce) : Decidable (cohP n l) := by unfold cohP; infer_instance
def zErr (N : Int) (l : List Ce) : Int := if celErr N l (4 * N * N) ≠ 0 then celErr N l (4 * N * N) else if cohP (2 * N).toNat l then 0 else 7
theorem zErr_far {N : Int} {l : List Ce} (h : N < 0 ∨ 4 < N) : zErr N l = 2 := by
  have e : celErr N l (4 * N * N) = 2 := by unfold celErr; rw [if_pos h]
  unfold zErr; rw [e]; simp
theorem Tryz.stoodOC : Tryz.prog.stoodInHeld 55 = false := by kernel_rfl
theorem Tryz.fieldsOC : Tryz.prog.underlying 55 = some (.struct (Tryz.prog.fieldsOf 55)) := by kernel_rfl
theorem eqOC (h : Bool) (m : Int) (h' : Bool) (m' : Int) (W : World) : (binOp .eql 55 (.agg #[.bool h, .int .i64 m]) (.agg #[.bool h', .int .i64 m'])).run Tryz.prog W = .ok (.bool (decide (h = h') && decide (m = m'))) W := by
  rw [run_eql_struct, run_equalIn_struct W 9999 _ _ _ Tryz.fieldsOC Tryz.stoodOC]
  simp [Program.fieldsOf, Tryz.underlying55, go_sem, Tryz.underlying3, Tryz.underlying4]
  by_cases h1 : h = h' <;> by_cases h2 : m = m' <;> simp [h1, h2]
theorem neOC (h : Bool) (m : Int) (h' : Bool) (m' : Int) (W : World) : (binOp .neq 55 (.agg #[.bool h, .int .i64 m]) (.agg #[.bool h', .int .i64 m'])).run Tryz.prog W = .ok (.bool (!(decide (h = h') && decide (m = m')))) W := by
  have hh := eqOC h m h' m' W
  rw [run_eql_struct] at hh
  rw [run_neq_struct]
  cases hq : (Op.equalIn 10000 55 (.agg #[.bool h, .int .i64 m]) (.agg #[.bool h', .int .i64 m'])).run Tryz.prog W with
  | ok b w' => rw [hq] at hh; simp only [Result.andThen_ok, Result.ok.injEq, Value.bool.injEq] at hh ⊢; exact ⟨by rw [hh.1], hh.2⟩
  | halt x w' => rw [hq] at hh; simp [Result.andThen] at hh
theorem belowNo {B : Nat} {w w' : World} (h : Below B w w') (n : Nat) : Below B w (w'.drewN n) := by
  induction n with
  | zero => exact h
  | succ n ih => exact ih.drew
theorem idx_fact {n len i j : Nat} (hll : len = n * n) (hi : i < n) (hj : j < n) : ∃ (ik x1 : Nat), (i : Int) * (n : Int) = (ik : Int) ∧ (ik : Int) + (j : Int) = (x1 : Int) ∧ x1 < len ∧ (x1 : Int) < (len : Int) ∧ x1 = i * n + j := by
  refine ⟨i * n, i * n + j, by rw [Int.natCast_mul], by omega, ?_, ?_, rfl⟩
  · rw [hll]; exact idx_in hi hj
  · have := idx_in hi hj; omega
theorem row_of {w : World} {x : Option Addr} {l : List Ce} (h : CsAt w x l) (k : 1 ≤ l.length) : ∃ b off, x = some ⟨b, off, none⟩ ∧ RowC w b off l := by
  rcases h with h | h
  · rw [h] at k; simp at k
  · exact h
set_option maxRecDepth 20000 in
set_option maxHeartbeats 4000000 in
theorem coherent_row (N : Int) (n b off c len : Nat) (l : List Ce) (w : World) (hR : RowC w b off l) (hl : Hid (len = l.length)) (hll : Hid (len = n * n)) (hn : n % 2 = 0 ∧ n ≤ 8) (hN : 2 * N = n) :
    Calls Tryz.prog 62 #[(.agg #[.int .i64 N, (.slice (some ⟨b, off, none⟩) len c)])] w fun e w' => e = .returned (.bool (decide (cohP n l))) ∧ Below w.heap.size w w' := by
  have s0 := (⟨Below.refl _ _, trivial, hR, fun _ _ q hb => RowC.stays hR.lt q hb⟩ : St w w (fun W => RowC W b off l) []).box2 30 (.int .i64 N) (.slice (some ⟨b, off, none⟩) len c)
  have q0 := s0.hold
  simp only [Holds, and_true] at q0
  have hlen : len ≤ 64 := by
    have := hll.out
    have h1 := Nat.mul_le_mul hn.2 hn.2
    omega
  have hN1 : (2 : Int) * N = (n : Int) := hN
  obtain ⟨r, hr⟩ : ∃ r, r = decide (cohP n l) := ⟨_, rfl⟩
  rw [← hr]
  have Hr := hide hr
  have HO : Hid (∀ (W : World) (k : Nat), k < n → Calls Tryz.prog 48 #[.int .i64 k] W fun e w' => e = .returned (.int .i64 (bar k)) ∧ w' = W) := fun W k hk => opposite_any k (by omega) W
  obtain ⟨B, hB⟩ : ∃ B, B = bar := ⟨_, rfl⟩
  have HB : Hid (∀ k, k < n → B k < n) := fun k hk => by rw [hB]; exact bar_lt hn.1 hk
  have HBe := hide hB
  rw [← hB] at HO
  clear hR hr hB
  go_enter Tryz.func62, Tryz.ntmps62
  go_wp2_with fail
  go_loopg [10] n (fun gh iv wr => ∃ i : Nat, i + gh = n ∧ iv = .int .i64 i ∧ Hid (∀ i', i' < i → ∀ j, j < n → l.getD (i' * n + j) ceZ = l.getD (B j * n + B i') ceZ) ∧ St w wr (fun W => RowC W b off l) [(w.heap.size, 0, Value.int .i64 N), (w.heap.size, 1, Value.slice (some ⟨b, off, none⟩) len c)])
  case atStart => exact ⟨0, by omega, rfl, fun i' h => by omega, s0⟩
  case round =>
    clear s0 q0
    obtain ⟨i, hig, rfl, HI, st⟩ := hrel
    have qs := st.hold
    simp only [Holds, and_true] at qs
    by_cases hi : i < n
    · have hi' : (i : Int) < (n : Int) := by omega
      go_wp2_with fail
      go_loopg [14] n (fun gh jv wr => ∃ j : Nat, j + gh = n ∧ jv = .int .i64 j ∧ Hid (∀ j', j' < j → l.getD (i * n + j') ceZ = l.getD (B j' * n + B i) ceZ) ∧ St w wr (fun W => RowC W b off l) [(w.heap.size, 0, Value.int .i64 N), (w.heap.size, 1, Value.slice (some ⟨b, off, none⟩) len c)])
      case atStart => exact ⟨0, by omega, rfl, fun j' h => by omega, st⟩
      case round =>
        clear st qs
        obtain ⟨j, hjg, rfl, HJ, st⟩ := hrel
        have qs := st.hold
        simp only [Holds, and_true] at qs
        by_cases hj : j < n
        · have hj' : (j : Int) < (n : Int) := by omega
          obtain ⟨ik, x1, a1, a2, a3, a4, a5⟩ := idx_fact hll.out hi hj
          obtain ⟨jk, x2, b1, b2, b3, b4, b5⟩ := idx_fact hll.out (HB.out j hj) (HB.out i hi)
          have HO1 : Hid (∀ (W : World), Calls Tryz.prog 48 #[.int .i64 j] W fun e w' => e = .returned (.int .i64 (B j)) ∧ w' = W) := fun W => HO.out W j hj
          have HO2 : Hid (∀ (W : World), Calls Tryz.prog 48 #[.int .i64 i] W fun e w' => e = .returned (.int .i64 (B i)) ∧ w' = W) := fun W => HO.out W i hi
          have HOk : Hid (∀ (W : World) (k : Nat), k = i ∨ k = j → Calls Tryz.prog 48 #[.int .i64 k] W fun e w' => e = .returned (.int .i64 (B k)) ∧ w' = W) := fun W k hk => HO.out W k (by rcases hk with rfl | rfl <;> assumption)
          have R := st.sent
          have hlt := R.lt
          obtain ⟨⟨h1, m1⟩, e1⟩ : ∃ C, C = l.getD x1 ceZ := ⟨_, rfl⟩
          obtain ⟨⟨h2, m2⟩, e2⟩ : ∃ C, C = l.getD x2 ceZ := ⟨_, rfl⟩
          have c1 := R.has x1 (by rw [← hl.out]; exact a3)
          have c2 := R.most x1 (by rw [← hl.out]; exact a3)
          have c3 := R.has x2 (by rw [← hl.out]; exact b3)
          have c4 := R.most x2 (by rw [← hl.out]; exact b3)
          rw [← e1] at c1 c2
          rw [← e2] at c3 c4
          obtain ⟨q, hq⟩ : ∃ q, q = (decide (h1 = h2) && decide (m1 = m2)) := ⟨_, rfl⟩
          have hE : ∀ W : World, (binOp .neq 55 (.agg #[.bool h1, .int .i64 m1]) (.agg #[.bool h2, .int .i64 m2])).run Tryz.prog W = .ok (.bool (!q)) W := fun W => by rw [hq]; exact neOC h1 m1 h2 m2 W
          have Hq : Hid (q = true ↔ l.getD (i * n + j) ceZ = l.getD (B j * n + B i) ceZ) := by
            show _ ↔ _
            rw [hq, ← a5, ← b5, ← e1, ← e2]
            simp
          clear R e1 e2 hq a5 b5
          cases q
          · go_wp2_with fail
            go_quiet (first | (go_at_call 48; exact Calls.quiet_of_same (HOk.out _ _ (by first | exact .inl rfl | exact .inr rfl))))
            go_wp2_with fail
            go_ret
            refine ⟨ret_bool ?_, belowNo st.bel _⟩
            rw [Hr.out, decide_eq_false]
            intro h
            have := h i hi j hj
            rw [← HBe.out] at this
            have := Hq.out.2 this
            cases this
          · go_wp2_with fail
            go_quiet (first | (go_at_call 48; exact Calls.quiet_of_same (HOk.out _ _ (by first | exact .inl rfl | exact .inr rfl))))
            go_wp2_with fail
            go_roundg (n - (j + 1))
            case measure => omega
            case rel =>
              refine ⟨j + 1, by omega, by go_num, fun j' h => ?_, st.call (belowNo (Below.refl _ _) nq)⟩
              by_cases e : j' = j
              · subst e; exact Hq.out.1 (by trivial)
              · exact HJ.out j' (by omega)
        · have hje : j = n := by omega
          have hj' : ¬ (j : Int) < (n : Int) := by omega
          go_wp2_with fail
          go_roundg (n - (i + 1))
          case measure => omega
          case rel =>
            refine ⟨i + 1, by omega, by go_num, fun i' h j' hj2 => ?_, st⟩
            by_cases e : i' = i
            · subst e; exact HJ.out j' (by omega)
            · exact HI.out i' (by omega) j' hj2
    · have hie : i = n := by omega
      have hi' : ¬ (i : Int) < (n : Int) := by omega
      go_wp2_with fail
      go_ret
      refine ⟨ret_bool ?_, st.bel⟩
      rw [Hr.out, decide_eq_true]
      intro i' h' j' hj2
      rw [← HBe.out]
      exact HI.out i' (by omega) j' hj2

set_option maxHeartbeats 1000000 in
theorem coherent_zero (x : Option Addr) (c : Nat) (w : World) :
    Calls Tryz.prog 62 #[(.agg #[.int .i64 0, (.slice x 0 c)])] w fun e w' => e = .returned (.bool true) ∧ Below w.heap.size w w' := by
  have hb : Below w.heap.size w (w.alloc (.cells #[.int .i64 0, .slice x 0 c] 30)) := (Below.refl _ _).alloc (Nat.le_refl _) _
  go_enter Tryz.func62, Tryz.ntmps62
  go_wp2_with fail
  refine wp_loop_rounds 1 ?_
  rw [rounds_succ]
  go_wp2_with fail
  go_ret
  exact ⟨rfl, hb⟩
theorem coherent_any (N : Int) (n c len : Nat) (x : Option Addr) (l : List Ce) (w : World) (hA : CsAt w x l) (hl : Hid (len = l.length)) (hll : Hid (len = n * n)) (hn : n % 2 = 0 ∧ n ≤ 8) (hN : 2 * N = n) :
    Calls Tryz.prog 62 #[(.agg #[.int .i64 N, (.slice x len c)])] w fun e w' => e = .returned (.bool (decide (cohP n l))) ∧ Below w.heap.size w w' := by
  rcases Nat.eq_zero_or_pos n with h0 | h0
  · subst h0
    obtain rfl : N = 0 := by omega
    obtain rfl : len = 0 := hll.out
    rw [decide_eq_true (show cohP 0 l from fun i hi => by omega)]
    exact coherent_zero x c w
  · obtain ⟨b, off, rfl, hR⟩ := row_of hA (by rw [← hl.out, hll.out]; exact Nat.mul_le_mul h0 h0)
    exact coherent_row N n b off c len l w hR hl hll hn hN

set_option maxRecDepth 20000 in
set_option maxHeartbeats 4000000 in
theorem valid_any (N : Int) (x : Option Addr) (c n : Nat) (l : List Ce) (a : Nat → Addr) (w : World) (hS : ErrS w a) (hA : CsAt w x l) (hl : Hid (n = l.length)) (hn : n ≤ 1000) :
    Calls Tryz.prog 38 #[(.agg #[.int .i64 N, (.slice x n c)])] w fun e w' => e = .returned (erV a (zErr N l)) ∧ Below w.heap.size w w' := by
  obtain ⟨r, hr⟩ : ∃ r, r = zErr N l := ⟨_, rfl⟩
  rw [← hr]
  have Hr := hide hr
  have s0 := (St.startEC hS hA).box2 30 (.int .i64 N) (.slice x n c)
  have e1 : w.cell? ⟨1, 0, none⟩ = some (.iface 146 (.pointer (some (a 1)))) := hS.1
  have e2 : w.cell? ⟨2, 0, none⟩ = some (.iface 146 (.pointer (some (a 2)))) := hS.2
  have l1 := World.block_lt_of_cell? w _ e1
  have l2 := World.block_lt_of_cell? w _ e2
  have hb0 : Below w.heap.size w (w.alloc (.cells #[.int .i64 N, .slice x n c] 30)) := (Below.refl _ _).alloc (Nat.le_refl _) _
  clear hr
  by_cases c1 : N < 0
  · have e : r = 2 := by rw [Hr.out]; exact zErr_far (.inl c1)
    subst e
    go_enter Tryz.func38, Tryz.ntmps38
    go_wp2_with fail
    go_ret
    exact ⟨rfl, hb0⟩
  by_cases c2 : 4 < N
  · have e : r = 2 := by rw [Hr.out]; exact zErr_far (.inr c2)
    subst e
    go_enter Tryz.func38, Tryz.ntmps38
    go_wp2_with fail
    go_ret
    exact ⟨rfl, hb0⟩
  have H1 : Hid (∀ W : World, CsAt W x l → Calls Tryz.prog 59 #[.slice x n c, .func (.func 60) #[] #[]] W fun e w' => e = .returned (.bool (l.any badC)) ∧ Below W.heap.size W w') := fun W h => contains_any x c n _ l _ W h hl hn enters_v1 tests1
  have H2 : Hid (∀ W : World, CsAt W x l → Calls Tryz.prog 59 #[.slice x n c, .func (.func 61) #[] #[]] W fun e w' => e = .returned (.bool (l.any (farC 1099511627776))) ∧ Below W.heap.size W w') := fun W h => contains_any x c n _ l _ W h hl hn enters_v2 tests2
  have H3 : Hid ((n : Int) = 4 * N * N → ∀ W : World, CsAt W x l → Calls Tryz.prog 62 #[(.agg #[.int .i64 N, (.slice x n c)])] W fun e w' => e = .returned (.bool (decide (cohP (2 * N).toNat l))) ∧ Below W.heap.size W w') := by
    intro hM W h
    refine coherent_any N (2 * N).toNat c n x l W h hl ?_ (by omega) (by omega)
    show _ = _
    rcases (by omega : N = 0 ∨ N = 1 ∨ N = 2 ∨ N = 3 ∨ N = 4) with rfl | rfl | rfl | rfl | rfl <;> simp at hM ⊢ <;> omega
  obtain ⟨q1, hq1⟩ : ∃ q, q = l.any badC := ⟨_, rfl⟩
  obtain ⟨q2, hq2⟩ : ∃ q, q = l.any (farC 1099511627776) := ⟨_, rfl⟩
  obtain ⟨q3, hq3⟩ : ∃ q, q = decide (cohP (2 * N).toNat l) := ⟨_, rfl⟩
  obtain ⟨M, hM⟩ : ∃ M, M = 4 * N * N := ⟨_, rfl⟩
  have Hr' : Hid (r = if (n : Int) ≠ M then 3 else if q1 = true then 3 else if q2 = true then 2 else if q3 = true then 0 else 7) := by
    show _ = _
    have ec : celErr N l (4 * N * N) = if (n : Int) ≠ 4 * N * N then 3 else if l.any badC = true then 3 else if l.any (farC 1099511627776) = true then 2 else 0 := by
      unfold celErr; rw [if_neg (by omega), ← hl.out]
    rw [Hr.out]; unfold zErr
    rw [ec, hq1, hq2, hq3, hM]
    by_cases k1 : (n : Int) ≠ 4 * N * N
    · rw [if_pos k1]; simp [k1]
    · rw [if_neg k1]
      cases l.any badC <;> cases l.any (farC 1099511627776) <;> simp [k1]
  rw [← hq1] at H1
  rw [← hq2] at H2
  rw [← hq3, ← hM] at H3
  clear hq1 hq2 hq3 Hr hS hA hl
  by_cases c3 : (n : Int) = M
  all_goals rcases (by omega : N = 0 ∨ N = 1 ∨ N = 2 ∨ N = 3 ∨ N = 4) with rfl | rfl | rfl | rfl | rfl
  all_goals
    simp only [Int.reduceMul] at hM
    subst hM
    clear c1 c2
    first
    | (have c3' : ¬ (n : Int) = _ := c3
       have e : r = 3 := by rw [Hr'.out, if_pos c3]
       subst e
       have c3b : ((n : Int) != _) = true := bne_iff_ne.2 c3
       go_enter Tryz.func38, Tryz.ntmps38
       go_wp2_with fail
       go_ret
       exact ⟨rfl, hb0⟩)
    | skip
  all_goals
    · have e : r = if q1 = true then 3 else if q2 = true then 2 else if q3 = true then 0 else 7 := by rw [Hr'.out, if_neg (fun h => h c3)]
      have He := hide e
      have H3' := hide (H3.out c3)
      clear e Hr' H3
      cases q1
      · cases q2
        · cases q3
          · have e : r = 7 := by rw [He.out]; rfl
            subst e
            go_enter Tryz.func38, Tryz.ntmps38
            go_wp2_with fail
            refine (H1.out _ s0.sent.2).mono ?_
            rintro e w1 ⟨rfl, hb1⟩
            have s1 := s0.call hb1
            have k1 := s1.hold
            simp only [Holds, and_true] at k1
            go_wp2_with fail
            refine (H2.out _ s1.sent.2).mono ?_
            rintro e w2 ⟨rfl, hb2⟩
            have s2 := s1.call hb2
            have k2 := s2.hold
            simp only [Holds, and_true] at k2
            go_wp2_with fail
            refine (H3'.out _ s2.sent.2).mono ?_
            rintro e w3 ⟨rfl, hb3⟩
            have s3 := s2.call hb3
            have f1 : w3.cell? ⟨6, 0, none⟩ = some (.iface 146 (.pointer (some (a 6)))) := s3.sent.1.3
            go_wp2_with fail
            go_ret
            exact ⟨rfl, s3.bel⟩
          · have e : r = 0 := by rw [He.out]; rfl
            subst e
            go_enter Tryz.func38, Tryz.ntmps38
            go_wp2_with fail
            refine (H1.out _ s0.sent.2).mono ?_
            rintro e w1 ⟨rfl, hb1⟩
            have s1 := s0.call hb1
            have k1 := s1.hold
            simp only [Holds, and_true] at k1
            go_wp2_with fail
            refine (H2.out _ s1.sent.2).mono ?_
            rintro e w2 ⟨rfl, hb2⟩
            have s2 := s1.call hb2
            have k2 := s2.hold
            simp only [Holds, and_true] at k2
            go_wp2_with fail
            refine (H3'.out _ s2.sent.2).mono ?_
            rintro e w3 ⟨rfl, hb3⟩
            have s3 := s2.call hb3
            go_wp2_with fail
            go_ret
            exact ⟨rfl, s3.bel⟩
        · have e : r = 2 := by rw [He.out]; rfl
          subst e
          go_enter Tryz.func38, Tryz.ntmps38
          go_wp2_with fail
          refine (H1.out _ s0.sent.2).mono ?_
          rintro e w1 ⟨rfl, hb1⟩
          have s1 := s0.call hb1
          have k1 := s1.hold
          simp only [Holds, and_true] at k1
          go_wp2_with fail
          refine (H2.out _ s1.sent.2).mono ?_
          rintro e w2 ⟨rfl, hb2⟩
          have s2 := s1.call hb2
          have f1 : w2.cell? ⟨1, 0, none⟩ = some (.iface 146 (.pointer (some (a 1)))) := s2.sent.1.1
          go_wp2_with fail
          go_ret
          exact ⟨rfl, s2.bel⟩
      · have e : r = 3 := by rw [He.out]; rfl
        subst e
        go_enter Tryz.func38, Tryz.ntmps38
        go_wp2_with fail
        refine (H1.out _ s0.sent.2).mono ?_
        rintro e w1 ⟨rfl, hb1⟩
        have s1 := s0.call hb1
        have f1 : w1.cell? ⟨2, 0, none⟩ = some (.iface 146 (.pointer (some (a 2)))) := s1.sent.1.2
        go_wp2_with fail
        go_ret
        exact ⟨rfl, s1.bel⟩

end Go.Proofs.YtbafkjhlogkllaaGreatDoor.Oc
