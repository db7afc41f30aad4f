/- Zones: the same cells; near ones. -/
import Derived.Test.YtbafkjhlogkllaaGreatDoorZh
import Derived.BigQuiet
import Derived.Test.YtbafkjhlogkllaaGreatDoorKu
namespace Go.Proofs.YtbafkjhlogkllaaGreatDoor
open Go.RowKit
set_option linter.unusedVariables false

theorem Tryz.stoodCe : Tryz.prog.stoodInHeld 56 = false := by kernel_rfl
theorem Tryz.fieldsCe : Tryz.prog.underlying 56 = some (.struct (Tryz.prog.fieldsOf 56)) := by kernel_rfl
theorem eqCe (h : Bool) (m : Int) (h' : Bool) (m' : Int) (W : World) : (binOp .eql 56 (.agg #[.bool h, .int .i64 m]) (.agg #[.bool h', .int .i64 m'])).run Tryz.prog W = .ok (.bool (decide (h = h') && decide (m = m'))) W := by
  rw [run_eql_struct, run_equalIn_struct W 9999 _ _ _ Tryz.fieldsCe Tryz.stoodCe]
  simp [Program.fieldsOf, Tryz.underlying56, go_sem, Tryz.underlying3, Tryz.underlying4]
  by_cases h1 : h = h' <;> by_cases h2 : m = m' <;> simp [h1, h2]
theorem neCe (h : Bool) (m : Int) (h' : Bool) (m' : Int) (W : World) : (binOp .neq 56 (.agg #[.bool h, .int .i64 m]) (.agg #[.bool h', .int .i64 m'])).run Tryz.prog W = .ok (.bool (!(decide (h = h') && decide (m = m')))) W := by
  have hh := eqCe h m h' m' W
  rw [run_eql_struct] at hh
  rw [run_neq_struct]
  cases hq : (Op.equalIn 10000 56 (.agg #[.bool h, .int .i64 m]) (.agg #[.bool h', .int .i64 m'])).run Tryz.prog W with
  | ok b w' => rw [hq] at hh; simp only [Result.andThen_ok, Result.ok.injEq, Value.bool.injEq] at hh ⊢; exact ⟨by rw [hh.1], hh.2⟩
  | halt x w' => rw [hq] at hh; simp [Result.andThen] at hh

theorem belowN {B : Nat} {w w' : World} (h : Below B w w') (n : Nat) : Below B w (w'.drewN n) := by
  induction n with
  | zero => exact h
  | succ n ih => exact ih.drew
theorem take_eq_succ {l m : List Ce} {k : Nat} (h1 : k < l.length) (h2 : k < m.length) (h : l.take k = m.take k) (e : l.getD k ceZ = m.getD k ceZ) : l.take (k + 1) = m.take (k + 1) := by
  rw [takeC l k h1, takeC m k h2, h, e]

set_option maxRecDepth 20000 in
set_option maxHeartbeats 2000000 in
theorem same_row (b off c n b' off' c' : Nat) (l m : List Ce) (w : World) (hR : RowC w b off l) (hR' : RowC w b' off' m) (hl : Hid (n = l.length)) (hm : Hid (n = m.length)) (hn : n ≤ 1000) :
    Calls Tryz.prog 30 #[.slice (some ⟨b, off, none⟩) n c, .slice (some ⟨b', off', none⟩) n c'] w fun e w' => e = .returned (.bool (decide (l = m))) ∧ Below w.heap.size w w' := by
  have HR := hide hR
  have HR' := hide hR'
  have hlt := hR.lt
  have hlt' := hR'.lt
  obtain ⟨d, hd⟩ : ∃ d, d = decide (l = m) := ⟨_, rfl⟩
  rw [← hd]
  have Hd := hide hd
  clear hR hR' hd
  go_enter Tryz.func30, Tryz.ntmps30
  go_wp2_with fail
  go_loopg [5] n (fun gh i wr => ∃ k : Nat, k + gh = n ∧ i = .int .i64 k ∧ Hid (l.take k = m.take k) ∧ Below w.heap.size w wr)
  case atStart => exact ⟨0, by omega, rfl, rfl, Below.refl _ _⟩
  case round =>
    obtain ⟨k, hkg, rfl, HL, hbel⟩ := hrel
    by_cases hk : k < n
    · have hkl : k < l.length := by rw [← hl.out]; exact hk
      have hkm : k < m.length := by rw [← hm.out]; exact hk
      have hkn : (k : Int) < (n : Int) := by omega
      obtain ⟨⟨h1, m1⟩, hA⟩ : ∃ C, C = l.getD k ceZ := ⟨_, rfl⟩
      obtain ⟨⟨h2, m2⟩, hB⟩ : ∃ C, C = m.getD k ceZ := ⟨_, rfl⟩
      have R := HR.out.below hbel
      have R' := HR'.out.below hbel
      have c1 : wr.cell? ⟨b, off + k * 2, none⟩ = some (.bool h1) := by have := R.has k hkl; rw [← hA] at this; exact this
      have c2 : wr.cell? ⟨b, off + k * 2 + 1, none⟩ = some (.int .i64 m1) := by have := R.most k hkl; rw [← hA] at this; exact this
      have c3 : wr.cell? ⟨b', off' + k * 2, none⟩ = some (.bool h2) := by have := R'.has k hkm; rw [← hB] at this; exact this
      have c4 : wr.cell? ⟨b', off' + k * 2 + 1, none⟩ = some (.int .i64 m2) := by have := R'.most k hkm; rw [← hB] at this; exact this
      have l1 := R.lt
      have l2 := R'.lt
      have HA := hide hA
      have HB := hide hB
      clear hA hB R R'
      by_cases he : h1 = h2 ∧ m1 = m2
      · obtain ⟨rfl, rfl⟩ := he
        have hE : ∀ W : World, (binOp .neq 56 (.agg #[.bool h1, .int .i64 m1]) (.agg #[.bool h1, .int .i64 m1])).run Tryz.prog W = .ok (.bool false) W := fun W => (neCe h1 m1 h1 m1 W).trans (by simp)
        have HN : Hid (l.take (k + 1) = m.take (k + 1)) := take_eq_succ hkl hkm HL.out (HA.out.symm.trans HB.out)
        go_wp2_with fail
        go_quiet (fail)
        go_wp2_with fail
        go_roundg (n - (k + 1))
        case measure => omega
        case rel => exact ⟨k + 1, by omega, by go_num, HN, belowN hbel _⟩
      · have hE : ∀ W : World, (binOp .neq 56 (.agg #[.bool h1, .int .i64 m1]) (.agg #[.bool h2, .int .i64 m2])).run Tryz.prog W = .ok (.bool true) W := fun W => (neCe h1 m1 h2 m2 W).trans (by
          have : (decide (h1 = h2) && decide (m1 = m2)) = false := by
            cases q : (decide (h1 = h2) && decide (m1 = m2)) with
            | false => rfl
            | true => simp at q; exact absurd q he
          rw [this]; rfl)
        have HN : Hid (d = false) := by
          show _ = _; rw [Hd.out]; apply decide_eq_false
          intro e
          rw [← e, ← HA.out] at HB
          have := HB.out
          exact he ⟨by injection this with a _; exact a.symm, by injection this with _ a; exact a.symm⟩
        go_wp2_with fail
        go_quiet (fail)
        go_wp2_with fail
        go_ret
        exact ⟨ret_bool (by rw [HN.out]), belowN hbel _⟩
    · have hke : k = n := by omega
      have HN : Hid (d = true) := by
        show _ = _; rw [Hd.out]; apply decide_eq_true
        have := HL.out
        rwa [take_all (by rw [← hl.out]; omega), take_all (by rw [← hm.out]; omega)] at this
      go_wp2_with fail
      go_ret
      exact ⟨ret_bool (by rw [HN.out]), hbel⟩

end Go.Proofs.YtbafkjhlogkllaaGreatDoor

/- Zones: which are right: the reference. -/
namespace Go.Proofs.YtbafkjhlogkllaaGreatDoor
open Go.RowKit
set_option linter.unusedVariables false

set_option maxRecDepth 20000 in
set_option maxHeartbeats 2000000 in
theorem cellsError_nil (N want : Int) (x : Option Addr) (c : Nat) (w : World) :
    Calls Tryz.prog 19 #[.int .i64 N, .slice x 0 c, .int .i64 want] w fun e w' => e = .returned (.int .i64 (celErr N [] want)) ∧ w' = w := by
  obtain ⟨r, hr⟩ : ∃ r, r = celErr N [] want := ⟨_, rfl⟩
  have Hr := hide hr
  rw [← hr]
  clear hr
  by_cases c1 : N < 0
  · have e : Hid (r = 2) := by show _ = _; rw [Hr.out]; unfold celErr; rw [if_pos (.inl c1)]
    go_enter Tryz.func19, Tryz.ntmps19
    go_wp2
    go_ret
    exact ⟨ret_int (by rw [e.out]), rfl⟩
  by_cases c2 : 4 < N
  · have e : Hid (r = 2) := by show _ = _; rw [Hr.out]; unfold celErr; rw [if_pos (.inr c2)]
    go_enter Tryz.func19, Tryz.ntmps19
    go_wp2
    go_ret
    exact ⟨ret_int (by rw [e.out]), rfl⟩
  by_cases c3 : (0 : Int) = want
  · subst c3
    have e : Hid (r = 0) := by show _ = _; rw [Hr.out]; unfold celErr; rw [if_neg (by omega)]; simp
    go_enter Tryz.func19, Tryz.ntmps19
    go_wp2_with fail
    refine wp_loop_rounds 1 ?_
    rw [rounds_succ]
    go_wp2_with fail
    go_ret
    exact ⟨ret_int (by rw [e.out]), rfl⟩
  · have e : Hid (r = 3) := by show _ = _; rw [Hr.out]; unfold celErr; rw [if_neg (by omega), if_pos (by simpa using c3)]
    have c3b : ((0 : Int) != want) = true := by simp [c3]
    go_enter Tryz.func19, Tryz.ntmps19
    go_wp2
    go_ret
    exact ⟨ret_int (by rw [e.out]), rfl⟩

theorem cellsError_any (N want : Int) (x : Option Addr) (c n : Nat) (l : List Ce) (w : World) (hA : CsAt w x l) (hl : Hid (n = l.length)) (hn : n ≤ 1000) :
    Calls Tryz.prog 19 #[.int .i64 N, .slice x n c, .int .i64 want] w fun e w' => e = .returned (.int .i64 (celErr N l want)) ∧ w' = w := by
  rcases hA with h | ⟨b, off, rfl, h⟩
  · subst h
    have : n = 0 := hl.out
    subst this
    exact cellsError_nil N want x c w
  · exact cellsError_row N want b off c n l w h hl hn

/-- The error of a zone. -/
def zoErr (N : Int) (l : List Ce) : Int := celErr N l ((N + 1) * (N + 1))
theorem zoErr_range (N : Int) (l : List Ce) : 0 ≤ zoErr N l ∧ zoErr N l ≤ 8 := by
  unfold zoErr celErr
  split
  · omega
  · split
    · omega
    · split
      · omega
      · split <;> omega
theorem celErr_any (N : Int) (l : List Ce) (a b : Int) (h : 0 ≤ N → N ≤ 4 → a = b) : celErr N l a = celErr N l b := by
  unfold celErr
  by_cases e : N < 0 ∨ 4 < N
  · rw [if_pos e, if_pos e]
  · rw [if_neg e, if_neg e, h (by omega) (by omega)]

set_option maxRecDepth 20000 in
set_option maxHeartbeats 2000000 in
theorem zoneError_any (Ni : Int) (x : Option Addr) (c n : Nat) (l : List Ce) (w : World) (hN : (-9223372036854775808 ≤ Ni ∧ Ni ≤ 9223372036854775807)) (hA : CsAt w x l) (hl : Hid (n = l.length)) (hn : n ≤ 1000) :
    Calls Tryz.prog 5 #[(.agg #[.int .i64 Ni, (.slice x n c)])] w fun e w' => e = .returned (.int .i64 (zoErr Ni l)) ∧ Below w.heap.size w w' := by
  obtain ⟨r, hr⟩ : ∃ r, r = zoErr Ni l := ⟨_, rfl⟩
  have HC : Hid (∀ (W : World) (want : Int), (0 ≤ Ni → Ni ≤ 4 → want = (Ni + 1) * (Ni + 1)) → CsAt W x l → Calls Tryz.prog 19 #[.int .i64 Ni, .slice x n c, .int .i64 want] W fun e w' => e = .returned (.int .i64 r) ∧ w' = W) := by
    intro W want hw h
    have := cellsError_any Ni want x c n l W h hl hn
    rw [celErr_any Ni l want ((Ni + 1) * (Ni + 1)) hw] at this
    rw [hr]; exact this
  rw [← hr]
  clear hr
  have hb : Below w.heap.size w (w.alloc (.cells #[.int .i64 Ni, .slice x n c] 24)) := (Below.refl _ _).alloc (Nat.le_refl _) _
  have hA1 := hA.below hb
  clear hA
  by_cases hr : 0 ≤ Ni ∧ Ni ≤ 4
  · rcases (by omega : Ni = 0 ∨ Ni = 1 ∨ Ni = 2 ∨ Ni = 3 ∨ Ni = 4) with rfl | rfl | rfl | rfl | rfl
    all_goals
      go_enter Tryz.func5, Tryz.ntmps5
      go_wp2_with fail
      refine (HC.out _ _ (by intro _ _; rfl) hA1).mono ?_
      rintro e w1 ⟨rfl, rfl⟩
      go_wp2_with fail
      go_ret
      exact ⟨rfl, hb⟩
  · go_enter Tryz.func5, Tryz.ntmps5
    go_wp2_with fail
    refine (HC.out _ _ (by intro h1 h2; exact absurd ⟨h1, h2⟩ hr) hA1).mono ?_
    rintro e w1 ⟨rfl, rfl⟩
    go_wp2_with fail
    go_ret
    exact ⟨rfl, hb⟩

set_option maxHeartbeats 1000000 in
theorem near_law (x : Option Addr) (c n : Nat) (l : List Ce) (w : World) (hA : CsAt w x l) (hl : Hid (n = l.length)) (hn : n ≤ 9223372036854775807) :
    Calls Tryz.prog 10 #[.slice x n c] w fun e w' => e = .returned (.bool (decide (n ≤ 100) && nearL l 1048576)) ∧ w' = w := by
  by_cases h : n ≤ 100
  · obtain ⟨q, hq⟩ : ∃ q, q = nearL l 1048576 := ⟨_, rfl⟩
    have HC : Hid (∀ W : World, CsAt W x l → Calls Tryz.prog 24 #[.slice x n c, .int .i64 1048576] W fun e w' => e = .returned (.bool q) ∧ w' = W) := fun W k => by rw [hq]; exact near_any x c n 1048576 l W k hl (by omega) (by omega)
    rw [decide_eq_true h, Bool.true_and, ← hq]
    have hi : (n : Int) ≤ 100 := by omega
    clear hq
    go_enter Tryz.func10, Tryz.ntmps10
    go_wp2_with fail
    refine (HC.out _ hA).mono ?_
    rintro e w1 ⟨rfl, rfl⟩
    go_wp2_with fail
    go_ret
    exact ⟨rfl, rfl⟩
  · rw [decide_eq_false h, Bool.false_and]
    have hi : ¬ (n : Int) ≤ 100 := by omega
    go_enter Tryz.func10, Tryz.ntmps10
    go_wp2_with fail
    go_ret
    exact ⟨rfl, rfl⟩

end Go.Proofs.YtbafkjhlogkllaaGreatDoor

/- Zones: the first error of two: the reference. -/
namespace Go.Proofs.YtbafkjhlogkllaaGreatDoor
open Go.RowKit
set_option linter.unusedVariables false

def twoZ (N : Int) (l : List Ce) (M : Int) (m : List Ce) : Int := if zoErr N l = 0 then (if zoErr M m = 0 then (if N = M then 0 else 3) else zoErr M m) else zoErr N l
theorem twoZ_range (N : Int) (l : List Ce) (M : Int) (m : List Ce) : 0 ≤ twoZ N l M m ∧ twoZ N l M m ≤ 8 := by
  have h1 := zoErr_range N l
  have h2 := zoErr_range M m
  unfold twoZ
  split
  · split
    · split <;> omega
    · omega
  · omega

/-- Two slices of cells are kept. -/
def ZZ (x : Option Addr) (l : List Ce) (y : Option Addr) (m : List Ce) (W : World) : Prop := CsAt W x l ∧ CsAt W y m
theorem St.startZ {w : World} {x y : Option Addr} {l m : List Ce} (h : CsAt w x l) (k : CsAt w y m) : St w w (ZZ x l y m) [] :=
  ⟨Below.refl _ _, trivial, ⟨h, k⟩, fun _ _ q hb => ⟨h.stays q.1 hb, k.stays q.2 hb⟩⟩

end Go.Proofs.YtbafkjhlogkllaaGreatDoor
