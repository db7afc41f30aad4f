/- Zones: which are right, by the program. -/
import Derived.Test.YtbafkjhlogkllaaGreatDoorYb
import Derived.Test.YtbafkjhlogkllaaGreatDoorZh
namespace Go.Proofs.YtbafkjhlogkllaaGreatDoor
open Go.RowKit
set_option linter.unusedVariables false

/-- An error of package api by its number. -/
def erV (a : Nat → Addr) (x : Int) : Value := if x = 0 then .nilIface else .iface 146 (.pointer (some (a (x.toNat - 1))))
theorem erV_0 (a : Nat → Addr) : erV a 0 = .nilIface := rfl
theorem erV_2 (a : Nat → Addr) : erV a 2 = .iface 146 (.pointer (some (a 1))) := rfl
theorem erV_3 (a : Nat → Addr) : erV a 3 = .iface 146 (.pointer (some (a 2))) := rfl
theorem erV_ne {a : Nat → Addr} {x : Int} (h : x ≠ 0) : erV a x = .iface 146 (.pointer (some (a (x.toNat - 1)))) := by unfold erV; rw [if_neg h]

set_option maxHeartbeats 400000 in
theorem bfar_any (x : Int) (w : World) :
    Calls Tryz.prog 54 #[.int .i64 x] w fun e w' => e = .returned (.bool (farB x 1099511627776)) ∧ w' = w := by
  by_cases h1 : x < -1099511627776
  · go_enter Tryz.func54, Tryz.ntmps54
    go_wp2
    go_ret
    exact ⟨ret_bool (by simp [farB]; omega), rfl⟩
  · by_cases h2 : 1099511627776 < x
    · go_enter Tryz.func54, Tryz.ntmps54
      go_wp2
      go_ret
      exact ⟨ret_bool (by simp [farB]; omega), rfl⟩
    · go_enter Tryz.func54, Tryz.ntmps54
      go_wp2
      go_ret
      exact ⟨ret_bool (by simp [farB]; omega), rfl⟩

/-- What a function asks of a cell. -/
def Tests (fn : Nat) (p : Ce → Bool) : Prop := ∀ (W : World) (h : Bool) (m : Int), Calls Tryz.prog fn #[(.agg #[.bool h, .int .i64 m])] W fun e w' => e = .returned (.bool (p ⟨h, m⟩)) ∧ Below W.heap.size W w'

set_option maxHeartbeats 400000 in
theorem tests1 : Tests 52 badC := by
  intro W h m
  cases h
  · by_cases h0 : m = 0
    · subst h0
      go_enter Tryz.func52, Tryz.ntmps52
      go_wp2
      go_ret
      exact ⟨rfl, (Below.refl _ _).alloc (Nat.le_refl _) _⟩
    · have hb : (m != 0) = true := by simp [h0]
      go_enter Tryz.func52, Tryz.ntmps52
      go_wp2
      go_ret
      exact ⟨ret_bool (by simp [badC, h0]), (Below.refl _ _).alloc (Nat.le_refl _) _⟩
  · go_enter Tryz.func52, Tryz.ntmps52
    go_wp2
    go_ret
    exact ⟨rfl, (Below.refl _ _).alloc (Nat.le_refl _) _⟩
set_option maxHeartbeats 400000 in
theorem tests2 : Tests 53 (farC 1099511627776) := by
  intro W h m
  go_enter Tryz.func53, Tryz.ntmps53
  go_wp2_with (go_at_call 54; refine (bfar_any m _).mono ?_; rintro e w' ⟨rfl, rfl⟩)
  go_ret
  exact ⟨rfl, (Below.refl _ _).alloc (Nat.le_refl _) _⟩
theorem enters_v1 : Enters 52 := enters_of Tryz.func52 (by kernel_rfl) rfl
theorem enters_v2 : Enters 53 := enters_of Tryz.func53 (by kernel_rfl) rfl

def IxPost (w : World) (b : Bool) (e : Ending) (w' : World) : Prop := ∃ r : Int, e = .returned (.int .i64 r) ∧ Below w.heap.size w w' ∧ ((r = -1 ∧ b = false) ∨ (0 ≤ r ∧ b = true))
set_option maxHeartbeats 1000000 in
theorem index_nil (x : Option Addr) (c fn : Nat) (w : World) :
    Calls Tryz.prog 82 #[.slice x 0 c, .func (.func fn) #[] #[]] w fun e w' => IxPost w false e w' := by
  go_enter Tryz.func82, Tryz.ntmps82
  go_wp2_with fail
  refine wp_loop_rounds 1 ?_
  rw [rounds_succ]
  go_wp2_with fail
  go_ret
  exact ⟨-1, rfl, Below.refl _ _, .inl ⟨rfl, rfl⟩⟩
set_option maxRecDepth 20000 in
set_option maxHeartbeats 2000000 in
theorem index_row (b off c n fn : Nat) (l : List Ce) (p : Ce → Bool) (w : World) (hR : RowC w b off l) (hl : Hid (n = l.length)) (hn : n ≤ 1000) (hE : Hid (Enters fn)) (hT : Hid (Tests fn p)) :
    Calls Tryz.prog 82 #[.slice (some ⟨b, off, none⟩) n c, .func (.func fn) #[] #[]] w fun e w' => IxPost w (l.any p) e w' := by
  have hE' : ∀ (args : Array Value) (W : World), (callFunc fn args).run Tryz.prog W = .ok (.enter fn args) W := hE.out
  have HR := hide hR
  clear hR
  go_enter Tryz.func82, Tryz.ntmps82
  go_wp2_with fail
  go_loopg [8] n (fun gh iv wr => ∃ k : Nat, k + gh = n ∧ iv = .int .i64 k ∧ Hid ((l.take k).any p = false) ∧ Below w.heap.size w wr)
  case atStart => exact ⟨0, by omega, rfl, rfl, Below.refl _ _⟩
  case round =>
    obtain ⟨k, hkg, rfl, HL, hbel⟩ := hrel
    by_cases hk : k < n
    · have hkl : k < l.length := by rw [← hl.out]; exact hk
      have hkn : (k : Int) < (n : Int) := by omega
      obtain ⟨⟨ch, cm⟩, hc⟩ : ∃ C, C = l.getD k ceZ := ⟨_, rfl⟩
      have R := HR.out.below hbel
      have c1 : wr.cell? ⟨b, off + k * 2, none⟩ = some (.bool ch) := by have := R.has k hkl; rw [← hc] at this; exact this
      have c2 : wr.cell? ⟨b, off + k * 2 + 1, none⟩ = some (.int .i64 cm) := by have := R.most k hkl; rw [← hc] at this; exact this
      have hlt := R.lt
      have Hc := hide hc
      obtain ⟨q, hq⟩ : ∃ q, q = p ⟨ch, cm⟩ := ⟨_, rfl⟩
      have HT : Hid (∀ W : World, Calls Tryz.prog fn #[(.agg #[.bool ch, .int .i64 cm])] W fun e w' => e = .returned (.bool q) ∧ Below W.heap.size W w') := fun W => by rw [hq]; exact hT.out W ch cm
      have Hq := hide hq
      clear hq hc R
      go_wp2_with fail
      refine (HT.out _).mono ?_
      rintro e w2 ⟨rfl, hb2⟩
      have hbel2 := hbel.trans (hb2.mono hbel.size)
      cases q
      · go_wp2_with fail
        go_roundg (n - (k + 1))
        case measure => omega
        case rel => exact ⟨k + 1, by omega, by go_num, (by show _ = _; rw [any_snoc hkl, HL.out, ← Hc.out, ← Hq.out]; rfl), hbel2⟩
      · go_wp2_with fail
        go_ret
        exact ⟨k, rfl, hbel2, .inr ⟨by omega, any_yes hkl (by rw [← Hc.out, ← Hq.out])⟩⟩
    · have hke : k = n := by omega
      have ee : Hid (l.any p = false) := by
        show _ = _
        have := HL.out
        rwa [take_all (by rw [← hl.out]; omega)] at this
      have hkn : ¬ (k : Int) < (n : Int) := by omega
      go_wp2_with fail
      go_ret
      exact ⟨-1, rfl, hbel, .inl ⟨rfl, ee.out⟩⟩
set_option maxHeartbeats 1000000 in
theorem contains_any (x : Option Addr) (c n fn : Nat) (l : List Ce) (p : Ce → Bool) (w : World) (hA : CsAt w x l) (hl : Hid (n = l.length)) (hn : n ≤ 1000) (hE : Hid (Enters fn)) (hT : Hid (Tests fn p)) :
    Calls Tryz.prog 51 #[.slice x n c, .func (.func fn) #[] #[]] w fun e w' => e = .returned (.bool (l.any p)) ∧ Below w.heap.size w w' := by
  have HI : Hid (∀ W : World, CsAt W x l → Calls Tryz.prog 82 #[.slice x n c, .func (.func fn) #[] #[]] W fun e w' => IxPost W (l.any p) e w') := by
    intro W h
    rcases h with h | ⟨b, off, rfl, h⟩
    · subst h
      have : n = 0 := hl.out
      subst this
      exact index_nil x c fn W
    · exact index_row b off c n fn l p W h hl hn hE hT
  obtain ⟨q, hq⟩ : ∃ q, q = l.any p := ⟨_, rfl⟩
  rw [← hq] at HI ⊢
  clear hq hE hT
  go_enter Tryz.func51, Tryz.ntmps51
  go_wp2_with fail
  refine (HI.out _ hA).mono ?_
  rintro e w2 ⟨r, rfl, hb2, hr⟩
  rcases hr with ⟨rfl, rfl⟩ | ⟨hr, rfl⟩
  · go_wp2_with fail
    go_ret
    exact ⟨rfl, hb2⟩
  · go_wp2_with fail
    go_ret
    exact ⟨ret_bool (by simp), hb2⟩

/-- The errors, and a slice of cells. -/
def EC (a : Nat → Addr) (x : Option Addr) (l : List Ce) (W : World) : Prop := ErrS W a ∧ CsAt W x l
theorem St.startEC {w : World} {a : Nat → Addr} {x : Option Addr} {l : List Ce} (h : ErrS w a) (k : CsAt w x l) : St w w (EC a x l) [] :=
  ⟨Below.refl _ _, trivial, ⟨h, k⟩, fun _ _ q hb => ⟨h.stays q.1 hb, k.stays q.2 hb⟩⟩

def zErr (N : Int) (l : List Ce) : Int := celErr N l ((N + 1) * (N + 1))

set_option maxRecDepth 20000 in
set_option maxHeartbeats 4000000 in
theorem valid_any (N : Int) (x : Option Addr) (c n : Nat) (l : List Ce) (a : Nat → Addr) (w : World) (hS : ErrS w a) (hA : CsAt w x l) (hl : Hid (n = l.length)) (hn : n ≤ 1000) :
    Calls Tryz.prog 33 #[(.agg #[.int .i64 N, (.slice x n c)])] w fun e w' => e = .returned (erV a (zErr N l)) ∧ Below w.heap.size w w' := by
  obtain ⟨r, hr⟩ : ∃ r, r = zErr N l := ⟨_, rfl⟩
  rw [← hr]
  have Hr := hide hr
  have s0 := (St.startEC hS hA).box2 37 (.int .i64 N) (.slice x n c)
  have e1 : w.cell? ⟨1, 0, none⟩ = some (.iface 146 (.pointer (some (a 1)))) := hS.1
  have e2 : w.cell? ⟨2, 0, none⟩ = some (.iface 146 (.pointer (some (a 2)))) := hS.2
  have l1 := World.block_lt_of_cell? w _ e1
  have l2 := World.block_lt_of_cell? w _ e2
  have hb0 : Below w.heap.size w (w.alloc (.cells #[.int .i64 N, .slice x n c] 37)) := (Below.refl _ _).alloc (Nat.le_refl _) _
  clear hr
  by_cases c1 : N < 0
  · have e : r = 2 := by rw [Hr.out]; unfold zErr celErr; rw [if_pos (.inl c1)]
    subst e
    go_enter Tryz.func33, Tryz.ntmps33
    go_wp2_with fail
    go_ret
    exact ⟨rfl, hb0⟩
  by_cases c2 : 4 < N
  · have e : r = 2 := by rw [Hr.out]; unfold zErr celErr; rw [if_pos (.inr c2)]
    subst e
    go_enter Tryz.func33, Tryz.ntmps33
    go_wp2_with fail
    go_ret
    exact ⟨rfl, hb0⟩
  have H1 : Hid (∀ W : World, CsAt W x l → Calls Tryz.prog 51 #[.slice x n c, .func (.func 52) #[] #[]] W fun e w' => e = .returned (.bool (l.any badC)) ∧ Below W.heap.size W w') := fun W h => contains_any x c n _ l _ W h hl hn enters_v1 tests1
  have H2 : Hid (∀ W : World, CsAt W x l → Calls Tryz.prog 51 #[.slice x n c, .func (.func 53) #[] #[]] W fun e w' => e = .returned (.bool (l.any (farC 1099511627776))) ∧ Below W.heap.size W w') := fun W h => contains_any x c n _ l _ W h hl hn enters_v2 tests2
  obtain ⟨q1, hq1⟩ : ∃ q, q = l.any badC := ⟨_, rfl⟩
  obtain ⟨q2, hq2⟩ : ∃ q, q = l.any (farC 1099511627776) := ⟨_, rfl⟩
  obtain ⟨M, hM⟩ : ∃ M, M = (N + 1) * (N + 1) := ⟨_, rfl⟩
  have Hr' : Hid (r = if (n : Int) ≠ M then 3 else if q1 = true then 3 else if q2 = true then 2 else 0) := by
    show _ = _
    rw [Hr.out]; unfold zErr celErr
    rw [if_neg (by omega), hq1, hq2, ← hl.out, hM]
  rw [← hq1] at H1
  rw [← hq2] at H2
  clear hq1 hq2 Hr hS hA hl
  by_cases c3 : (n : Int) = M
  all_goals rcases (by omega : N = 0 ∨ N = 1 ∨ N = 2 ∨ N = 3 ∨ N = 4) with rfl | rfl | rfl | rfl | rfl
  all_goals
    simp only [Int.reduceAdd, Int.reduceMul] at hM
    subst hM
    clear c1 c2
    first
    | (have c3' : ¬ (n : Int) = _ := c3
       have e : r = 3 := by rw [Hr'.out, if_pos c3]
       subst e
       have c3b : ((n : Int) != _) = true := bne_iff_ne.2 c3
       go_enter Tryz.func33, Tryz.ntmps33
       go_wp2_with fail
       go_ret
       exact ⟨rfl, hb0⟩)
    | skip
  all_goals
    · have e : r = if q1 = true then 3 else if q2 = true then 2 else 0 := by rw [Hr'.out, if_neg (fun h => h c3)]
      have He := hide e
      clear e Hr'
      cases q1
      · cases q2
        · have e : r = 0 := by rw [He.out]; rfl
          subst e
          go_enter Tryz.func33, Tryz.ntmps33
          go_wp2_with fail
          refine (H1.out _ s0.sent.2).mono ?_
          rintro e w1 ⟨rfl, hb1⟩
          have s1 := s0.call hb1
          have k1 := s1.hold
          simp only [Holds, and_true] at k1
          go_wp2_with fail
          refine (H2.out _ s1.sent.2).mono ?_
          rintro e w2 ⟨rfl, hb2⟩
          have s2 := s1.call hb2
          go_wp2_with fail
          go_ret
          exact ⟨rfl, s2.bel⟩
        · have e : r = 2 := by rw [He.out]; rfl
          subst e
          go_enter Tryz.func33, Tryz.ntmps33
          go_wp2_with fail
          refine (H1.out _ s0.sent.2).mono ?_
          rintro e w1 ⟨rfl, hb1⟩
          have s1 := s0.call hb1
          have k1 := s1.hold
          simp only [Holds, and_true] at k1
          go_wp2_with fail
          refine (H2.out _ s1.sent.2).mono ?_
          rintro e w2 ⟨rfl, hb2⟩
          have s2 := s1.call hb2
          have f1 : w2.cell? ⟨1, 0, none⟩ = some (.iface 146 (.pointer (some (a 1)))) := s2.sent.1.1
          go_wp2_with fail
          go_ret
          exact ⟨rfl, s2.bel⟩
      · have e : r = 3 := by rw [He.out]; rfl
        subst e
        go_enter Tryz.func33, Tryz.ntmps33
        go_wp2_with fail
        refine (H1.out _ s0.sent.2).mono ?_
        rintro e w1 ⟨rfl, hb1⟩
        have s1 := s0.call hb1
        have f1 : w1.cell? ⟨2, 0, none⟩ = some (.iface 146 (.pointer (some (a 2)))) := s1.sent.1.2
        go_wp2_with fail
        go_ret
        exact ⟨rfl, s1.bel⟩

end Go.Proofs.YtbafkjhlogkllaaGreatDoor
