/- Zones: the reference: which cells are near, which are right. -/
import Derived.Test.YtmdbgmkbkmckfaaDoorZd
namespace Go.Proofs.YtmdbgmkbkmckfaaDoor
open Go.RowKit
set_option linter.unusedVariables false

def farC (B : Int) (c : Ce) : Bool := farB c.m B
def badC (c : Ce) : Bool := !c.h && decide (c.m ≠ 0)
def nearL (l : List Ce) (B : Int) : Bool := !(l.any (farC B))
def celErr (n : Int) (l : List Ce) (want : Int) : Int := if n < 0 ∨ 4 < n then 2 else if (l.length : Int) ≠ want then 3 else if l.any badC = true then 3 else if l.any (farC 1099511627776) = true then 2 else 0

theorem takeC (l : List Ce) (k : Nat) (h : k < l.length) : l.take (k + 1) = l.take k ++ [l.getD k ceZ] := by
  rw [List.take_add_one]; simp [h]
theorem any_snoc {l : List Ce} {k : Nat} (h : k < l.length) (p : Ce → Bool) : (l.take (k + 1)).any p = ((l.take k).any p || p (l.getD k ceZ)) := by
  rw [takeC l k h, List.any_append]; simp
theorem any_yes {l : List Ce} {k : Nat} (h : k < l.length) {p : Ce → Bool} (hp : p (l.getD k ceZ) = true) : l.any p = true := by
  rw [List.any_eq_true]
  exact ⟨l.getD k ceZ, by rw [show l.getD k ceZ = l[k] by simp [h]]; exact List.getElem_mem h, hp⟩
theorem take_all {l : List Ce} {k : Nat} (h : l.length ≤ k) : l.take k = l := List.take_of_length_le h

set_option maxHeartbeats 1000000 in
theorem near_nil (x : Option Addr) (c : Nat) (B : Int) (w : World) :
    Calls Tryd.prog 40 #[.slice x 0 c, .int .i64 B] w fun e w' => e = .returned (.bool true) ∧ w' = w := by
  go_enter Tryd.func40, Tryd.ntmps40
  go_wp2_with fail
  refine wp_loop_rounds 1 ?_
  rw [rounds_succ]
  go_wp2_with fail
  go_ret
  exact ⟨rfl, rfl⟩

set_option maxRecDepth 20000 in
set_option maxHeartbeats 2000000 in
theorem near_row (b off c n : Nat) (B : Int) (l : List Ce) (w : World) (hR : RowC w b off l) (hl : Hid (n = l.length)) (hn : n ≤ 1000) (hB : 0 ≤ B ∧ B ≤ 9223372036854775807) :
    Calls Tryd.prog 40 #[.slice (some ⟨b, off, none⟩) n c, .int .i64 B] w fun e w' => e = .returned (.bool (nearL l B)) ∧ w' = w := by
  have HR := hide hR
  have hlt := hR.lt
  clear hR
  go_enter Tryd.func40, Tryd.ntmps40
  go_wp2_with fail
  go_loop [5] (fun i => ∃ k : Nat, k ≤ n ∧ i = .int .i64 k ∧ Hid ((l.take k).any (farC B) = false)) (fun i => n - (intOf i).toNat)
  case atStart => exact ⟨0, Nat.zero_le _, rfl, rfl⟩
  case round =>
    obtain ⟨k, hk, rfl, HL⟩ := hrel
    by_cases hlt' : k < n
    · have hkl : k < l.length := by rw [← hl.out]; exact hlt'
      obtain ⟨y, hy⟩ : ∃ y, y = (l.getD k ceZ).m := ⟨_, rfl⟩
      have hc : w.cell? ⟨b, off + k * 2 + 1, none⟩ = some (.int .i64 y) := by rw [hy]; exact HR.out.most k hkl
      have Hy := hide hy
      clear hy
      cases hg : farB y B
      · have hF := hide (fun W => far_any y B W hB.1 hB.2)
        rw [hg] at hF
        have HG := hide hg
        clear hg
        go_wp2_with fail
        refine (hF.out _).mono ?_
        rintro e w' ⟨rfl, hw⟩
        rw [hw]
        go_wp2_with fail
        go_round
        case rel => exact ⟨k + 1, by omega, by go_num, (by show _ = _; rw [any_snoc hkl, HL.out]; unfold farC; rw [← Hy.out, HG.out]; rfl)⟩
        case measure => simp [intOf]; omega
      · have hF := hide (fun W => far_any y B W hB.1 hB.2)
        rw [hg] at hF
        have HG := hide hg
        clear hg
        go_wp2_with fail
        refine (hF.out _).mono ?_
        rintro e w' ⟨rfl, hw⟩
        rw [hw]
        go_wp2_with fail
        go_ret
        exact ⟨ret_bool (by unfold nearL; rw [any_yes hkl (p := farC B) (by unfold farC; rw [← Hy.out]; exact HG.out)]; rfl), rfl⟩
    · have hke : Hid (l.take k = l) := take_all (by rw [← hl.out]; omega)
      go_wp2_with fail
      go_ret
      exact ⟨ret_bool (by unfold nearL; rw [← hke.out, HL.out]; rfl), rfl⟩

theorem near_any (x : Option Addr) (c n : Nat) (B : Int) (l : List Ce) (w : World) (hA : CsAt w x l) (hl : Hid (n = l.length)) (hn : n ≤ 1000) (hB : 0 ≤ B ∧ B ≤ 9223372036854775807) :
    Calls Tryd.prog 40 #[.slice x n c, .int .i64 B] w fun e w' => e = .returned (.bool (nearL l B)) ∧ w' = w := by
  rcases hA with h | ⟨b, off, rfl, h⟩
  · subst h
    have : n = 0 := hl.out
    subst this
    exact near_nil x c B w
  · exact near_row b off c n B l w h hl hn hB

set_option maxRecDepth 20000 in
set_option maxHeartbeats 4000000 in
theorem cellsError_row (N want : Int) (b off c n : Nat) (l : List Ce) (w : World) (hR : RowC w b off l) (hl : Hid (n = l.length)) (hn : n ≤ 1000) :
    Calls Tryd.prog 28 #[.int .i64 N, .slice (some ⟨b, off, none⟩) n c, .int .i64 want] w fun e w' => e = .returned (.int .i64 (celErr N l want)) ∧ w' = w := by
  have HR := hide hR
  have hlt := hR.lt
  clear hR
  obtain ⟨r, hr⟩ : ∃ r, r = celErr N l want := ⟨_, rfl⟩
  have Hr := hide hr
  rw [← hr]
  clear hr
  by_cases c1 : N < 0
  · have e : Hid (r = 2) := by show _ = _; rw [Hr.out]; unfold celErr; rw [if_pos (.inl c1)]
    go_enter Tryd.func28, Tryd.ntmps28
    go_wp2
    go_ret
    exact ⟨ret_int (by rw [e.out]), rfl⟩
  by_cases c2 : 4 < N
  · have e : Hid (r = 2) := by show _ = _; rw [Hr.out]; unfold celErr; rw [if_pos (.inr c2)]
    go_enter Tryd.func28, Tryd.ntmps28
    go_wp2
    go_ret
    exact ⟨ret_int (by rw [e.out]), rfl⟩
  by_cases c3 : (n : Int) = want
  · have e : Hid (r = if l.any badC = true then 3 else if l.any (farC 1099511627776) = true then 2 else 0) := by
      show _ = _; rw [Hr.out]; unfold celErr; rw [if_neg (by omega), if_neg (by rw [← hl.out]; omega)]
    subst c3
    clear Hr
    go_enter Tryd.func28, Tryd.ntmps28
    go_wp2_with fail
    go_loop [7, 8] (fun lv i => ∃ (k : Nat) (g : Bool), k ≤ n ∧ i = .int .i64 k ∧ lv = .bool g ∧ Hid ((l.take k).any badC = false) ∧ Hid ((l.take k).any (farC 1099511627776) = g)) (fun _ i => n - (intOf i).toNat)
    case atStart => exact ⟨0, false, Nat.zero_le _, rfl, rfl, rfl, rfl⟩
    case round =>
      obtain ⟨k, g, hk, rfl, rfl, HB, HL⟩ := hrel
      by_cases hlt' : k < n
      · have hkl : k < l.length := by rw [← hl.out]; exact hlt'
        obtain ⟨y, hy⟩ : ∃ y, y = (l.getD k ceZ).m := ⟨_, rfl⟩
        obtain ⟨q, hq⟩ : ∃ q, q = (l.getD k ceZ).h := ⟨_, rfl⟩
        have hc : w.cell? ⟨b, off + k * 2 + 1, none⟩ = some (.int .i64 y) := by rw [hy]; exact HR.out.most k hkl
        have hc0 : w.cell? ⟨b, off + k * 2, none⟩ = some (.bool q) := by rw [hq]; exact HR.out.has k hkl
        have Hy := hide hy
        have Hq := hide hq
        clear hy hq
        obtain ⟨fy, hfy⟩ : ∃ f, f = farB y 1099511627776 := ⟨_, rfl⟩
        have hF : Hid (∀ W : World, Calls Tryd.prog 15 #[.int .i64 y, .int .i64 1099511627776] W fun e w' => e = .returned (.bool fy) ∧ w' = W) := fun W => by rw [hfy]; exact far_any y _ W (by omega) (by omega)
        have Hfy := hide hfy
        clear hfy
        by_cases hbad : q = false ∧ y ≠ 0
        · obtain ⟨rfl, hy0⟩ := hbad
          have hyb : (y != 0) = true := by simp [hy0]
          have ee : Hid (r = 3) := by
            show _ = _; rw [e.out, if_pos]
            exact any_yes hkl (by unfold badC; rw [← Hq.out, ← Hy.out]; simp [hy0])
          go_wp2_with fail
          go_ret
          exact ⟨ret_int (by rw [ee.out]), rfl⟩
        · have hb2 : Hid (badC (l.getD k ceZ) = false) := by
            show _ = _; unfold badC; rw [← Hq.out, ← Hy.out]
            cases q
            · simp at hbad; simp [hbad]
            · rfl
          have hyz : q = true ∨ (q = false ∧ y = 0) := by
            cases q
            · simp at hbad; exact .inr ⟨rfl, hbad⟩
            · exact .inl rfl
          clear hbad
          rcases hyz with rfl | ⟨rfl, rfl⟩
          all_goals
            go_wp2_with fail
            refine (hF.out _).mono ?_
            rintro e' w' ⟨rfl, hw⟩
            rw [hw]
            cases g
            all_goals
              go_wp2_with fail
              go_round
              case rel => exact ⟨k + 1, _, by omega, by go_num, rfl, (by show _ = _; rw [any_snoc hkl, HB.out, hb2.out]; rfl), (by show _ = _; rw [any_snoc hkl, HL.out]; unfold farC; rw [← Hy.out, ← Hfy.out]; simp)⟩
              case measure => simp [intOf]; omega
      · have hke : Hid (l.take k = l) := take_all (by rw [← hl.out]; omega)
        have ee : Hid (r = if g = true then 2 else 0) := by
          show _ = _
          have h1 := HB.out
          have h2 := HL.out
          rw [hke.out] at h1 h2
          rw [e.out, h1, h2]; simp
        cases g
        all_goals
          go_wp2_with fail
          go_ret
          exact ⟨ret_int (by rw [ee.out]; rfl), rfl⟩
  · have e : Hid (r = 3) := by show _ = _; rw [Hr.out]; unfold celErr; rw [if_neg (by omega), if_pos (by rw [← hl.out]; exact c3)]
    have c3b : ((n : Int) != want) = true := by simp [c3]
    go_enter Tryd.func28, Tryd.ntmps28
    go_wp2
    go_ret
    exact ⟨ret_int (by rw [e.out]), rfl⟩

end Go.Proofs.YtmdbgmkbkmckfaaDoor
