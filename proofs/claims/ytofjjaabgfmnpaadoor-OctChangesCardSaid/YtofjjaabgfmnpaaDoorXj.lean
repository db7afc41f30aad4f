/- Zones: the reference's numbers of a variable, and its widening of cells. -/
import Derived.Test.YtofjjaabgfmnpaaDoorXd
import Derived.Test.YtofjjaabgfmnpaaDoorZk
import Derived.Test.YtofjjaabgfmnpaaDoorZq
namespace Go.Proofs.YtofjjaabgfmnpaaDoor
open Go.RowKit
set_option linter.unusedVariables false

/-- The numbers between a bound up and one of the opposite. -/
def rngV (u l : Ce) : Value := .agg #[.bool (!l.h), .bool (!u.h), .int .i64 (if l.h = true then -l.m else 0), .int .i64 (if u.h = true then u.m else 0)]
set_option maxRecDepth 20000 in
set_option maxHeartbeats 2000000 in
theorem rangeOf_any (uh lh : Bool) (um lm : Int) (w : World) (h : -4611686018427387904 ≤ lm ∧ lm ≤ 4611686018427387904) :
    Calls Tryd.prog 42 #[(Value.agg #[.bool uh, .int .i64 um]), (Value.agg #[.bool lh, .int .i64 lm])] w fun e w' => e = .returned (rngV ⟨uh, um⟩ ⟨lh, lm⟩) ∧ Below w.heap.size w w' := by
  have hwr : wrap64 (-lm) = -lm := by unfold wrap64; omega
  go_enter Tryd.func42, Tryd.ntmps42
  cases uh <;> cases lh <;> go_wp2_with fail
  · refine bodyPost_ret (v := rngV ⟨false, um⟩ ⟨false, lm⟩) (by simp [results, Tryd.results42, go_sem, rngV]) rfl ⟨rfl, ?_⟩
    repeat' (first | exact Below.refl _ _ | refine Below.setCell ?_ (by first | (simp; done) | (simp; omega)) _ | refine Below.alloc ?_ (by first | (simp; done) | (simp; omega)) _)
  · refine bodyPost_ret (v := rngV ⟨false, um⟩ ⟨true, lm⟩) (by simp [results, Tryd.results42, go_sem, rngV]) rfl ⟨rfl, ?_⟩
    repeat' (first | exact Below.refl _ _ | refine Below.setCell ?_ (by first | (simp; done) | (simp; omega)) _ | refine Below.alloc ?_ (by first | (simp; done) | (simp; omega)) _)
  · refine bodyPost_ret (v := rngV ⟨true, um⟩ ⟨false, lm⟩) (by simp [results, Tryd.results42, go_sem, rngV]) rfl ⟨rfl, ?_⟩
    repeat' (first | exact Below.refl _ _ | refine Below.setCell ?_ (by first | (simp; done) | (simp; omega)) _ | refine Below.alloc ?_ (by first | (simp; done) | (simp; omega)) _)
  · refine bodyPost_ret (v := rngV ⟨true, um⟩ ⟨true, lm⟩) (by simp [results, Tryd.results42, go_sem, rngV]) rfl ⟨rfl, ?_⟩
    repeat' (first | exact Below.refl _ _ | refine Below.setCell ?_ (by first | (simp; done) | (simp; omega)) _ | refine Below.alloc ?_ (by first | (simp; done) | (simp; omega)) _)

/-- A cell widened. -/
def widC (a b : Ce) : Ce := if a.h = true ∧ (b.h = false ∨ a.m < b.m) then ceZ else a
def widK (A B : List Ce) : Nat → List Ce
  | 0 => []
  | k + 1 => widK A B k ++ [widC (A.getD k ceZ) (B.getD k ceZ)]
theorem widK_len (A B : List Ce) (k : Nat) : (widK A B k).length = k := by
  induction k with
  | zero => rfl
  | succ k ih => unfold widK; simp [ih]
theorem widK_at (A B : List Ce) (k i : Nat) (h : i < k) : (widK A B k).getD i ceZ = widC (A.getD i ceZ) (B.getD i ceZ) := by
  induction k with
  | zero => omega
  | succ k ih =>
    unfold widK
    rw [List.getD_eq_getElem?_getD, List.getElem?_append]
    by_cases e : i = k
    · subst e
      rw [if_neg (by rw [widK_len]; omega), widK_len, Nat.sub_self]
      rfl
    · rw [if_pos (by rw [widK_len]; omega), ← List.getD_eq_getElem?_getD]
      exact ih (by omega)
theorem cellsV_snoc (l : List Ce) (c : Ce) : cellsV (l ++ [c]) = cellsV l ++ [.bool c.h, .int .i64 c.m] := by simp [cellsV]
theorem ownsN {W : World} {base e size n : Nat} {v : Value} {xs : List Value} (h : W.ownsRow base e size v n xs) (k : Nat) : (W.drewN k).ownsRow base e size v n xs := h

theorem Tryd.infoCellW : (Tryd.prog.info? 69).map (fun i => (i.zero, i.size, i.bytes)) = some (some (.agg #[.bool false, .int .i64 0]), 2, 16) := by kernel_rfl
set_option maxRecDepth 20000 in
set_option maxHeartbeats 4000000 in
theorem widenedCells_any (b off c b' off' c' len : Nat) (A B : List Ce) (w : World) (hR : RowC w b off A) (hQ : RowC w b' off' B) (hA : Hid (len = A.length)) (hB : Hid (len = B.length)) (hlen : len ≤ 1000) :
    Calls Tryd.prog 43 #[.slice (some ⟨b, off, none⟩) len c, .slice (some ⟨b', off', none⟩) len c'] w fun e w' => ∃ v, e = .returned v ∧ w'.ownsRow w.heap.size 69 2 v len (cellsV (widK A B len)) ∧ Below w.heap.size w w' := by
  obtain ⟨i0, hi0, hz0, hz1, hz2⟩ := info_parts Tryd.infoCellW
  go_enter Tryd.func43, Tryd.ntmps43
  go_wp2_with fail
  go_loopg [5, 6] len (fun gh ov iv wr => ∃ (k cp : Nat) (x : Option Addr), k + gh = len ∧ ov = .slice x k cp ∧ iv = .int .i64 k ∧ wr.ownsRow w.heap.size 69 2 (.slice x k cp) k (cellsV (widK A B k)) ∧ Below w.heap.size w wr)
  case atStart => exact ⟨0, 0, none, by omega, rfl, rfl, World.ownsRow_nil _ _ _ _, Below.refl _ _⟩
  case round =>
    obtain ⟨k, cp, x, hkg, rfl, rfl, own, hbel⟩ := hrel
    have hsz := hbel.size
    by_cases hk : k < len
    · have hkn : (k : Int) < (len : Int) := by omega
      have hkA : k < A.length := by rw [← hA.out]; exact hk
      have hkB : k < B.length := by rw [← hB.out]; exact hk
      have R := hR.below hbel
      have Q := hQ.below hbel
      have hlt := R.lt
      have hlq := Q.lt
      obtain ⟨⟨ah, am⟩, ha⟩ : ∃ C, C = A.getD k ceZ := ⟨_, rfl⟩
      obtain ⟨⟨bh, bm⟩, hb⟩ : ∃ C, C = B.getD k ceZ := ⟨_, rfl⟩
      have c1 := R.has k hkA
      have c2 := R.most k hkA
      have c3 := Q.has k hkB
      have c4 := Q.most k hkB
      rw [← ha] at c1 c2
      rw [← hb] at c3 c4
      have HT : Hid (∀ C, widC ⟨ah, am⟩ ⟨bh, bm⟩ = C → cellsV (widK A B (k + 1)) = cellsV (widK A B k) ++ [.bool C.h, .int .i64 C.m]) := by
        rintro C rfl
        show cellsV (widK A B k ++ [widC (A.getD k ceZ) (B.getD k ceZ)]) = _
        rw [cellsV_snoc, ← ha, ← hb]
      obtain ⟨zs, hzs⟩ : ∃ zs, zs = cellsV (widK A B k) := ⟨_, rfl⟩
      rw [← hzs] at own HT
      clear ha hb hzs R Q
      cases ah
      · have H1 := HT.out ⟨false, am⟩ (by simp [widC])
        have H2 := hide H1
        clear H1 HT
        go_wp2_with fail
        go_quiet (fail)
        (go_wp2_with (at_builtin; refine wpList_append_lies _ rfl _ _ 22 rfl w.heap.size 69 i0 _ 2 16 Tryd.underlying22 hi0 hz0 hz1 hz2 rfl (by decide) _ _ _ rfl ((ownsN own nq).alloc _) ⟨wr.heap.size, 0, none⟩ 1 1 [.bool false, .int .i64 am] rfl rfl (cell_two_new _ _ _ _) (by intro u hu; simp at hu; rcases hu with rfl | rfl <;> rfl) (by omega) (by unfold maxLen; omega) (by omega) (by simp; omega) (wr.heap.size + 1) (by simp) ?_))
        (intro g1 c1' w2 own1' hgrow hat hlt'; have B2 := ((belowN hbel nq).alloc hsz (.cells #[.bool false, .int .i64 am] 69)).grown hgrow (by simp; omega) (fun j hj => (own.lt j hj).1))
        rw [← H2.out] at own1'
        go_wp2_with fail
        go_roundg (len - (k + 1))
        case measure => omega
        case rel => exact ⟨k + 1, c1', some ⟨g1, 0, none⟩, by omega, rfl, by go_num, own1', B2⟩
      · cases bh
        · have H1 := HT.out ⟨false, 0⟩ (by simp [widC, ceZ])
          have H2 := hide H1
          clear H1 HT
          go_wp2_with fail
          go_quiet (fail)
          (go_wp2_with (at_builtin; refine wpList_append_lies _ rfl _ _ 22 rfl w.heap.size 69 i0 _ 2 16 Tryd.underlying22 hi0 hz0 hz1 hz2 rfl (by decide) _ _ _ rfl ((ownsN own nq).alloc _) ⟨wr.heap.size, 0, none⟩ 1 1 [.bool false, .int .i64 0] rfl rfl (cell_two_new _ _ _ _) (by intro u hu; simp at hu; rcases hu with rfl | rfl <;> rfl) (by omega) (by unfold maxLen; omega) (by omega) (by simp; omega) (wr.heap.size + 1) (by simp) ?_))
          (intro g1 c1' w2 own1' hgrow hat hlt'; have B2 := ((belowN hbel nq).alloc hsz (.cells #[.bool false, .int .i64 0] 69)).grown hgrow (by simp; omega) (fun j hj => (own.lt j hj).1))
          rw [← H2.out] at own1'
          go_wp2_with fail
          go_roundg (len - (k + 1))
          case measure => omega
          case rel => exact ⟨k + 1, c1', some ⟨g1, 0, none⟩, by omega, rfl, by go_num, own1', B2⟩
        · by_cases hgt : am < bm
          · have H1 := HT.out ⟨false, 0⟩ (by simp [widC, ceZ, hgt])
            have H2 := hide H1
            clear H1 HT
            go_wp2_with fail
            go_quiet (fail)
            (go_wp2_with (at_builtin; refine wpList_append_lies _ rfl _ _ 22 rfl w.heap.size 69 i0 _ 2 16 Tryd.underlying22 hi0 hz0 hz1 hz2 rfl (by decide) _ _ _ rfl ((ownsN own nq).alloc _) ⟨wr.heap.size, 0, none⟩ 1 1 [.bool false, .int .i64 0] rfl rfl (cell_two_new _ _ _ _) (by intro u hu; simp at hu; rcases hu with rfl | rfl <;> rfl) (by omega) (by unfold maxLen; omega) (by omega) (by simp; omega) (wr.heap.size + 1) (by simp) ?_))
            (intro g1 c1' w2 own1' hgrow hat hlt'; have B2 := ((belowN hbel nq).alloc hsz (.cells #[.bool false, .int .i64 0] 69)).grown hgrow (by simp; omega) (fun j hj => (own.lt j hj).1))
            rw [← H2.out] at own1'
            go_wp2_with fail
            go_roundg (len - (k + 1))
            case measure => omega
            case rel => exact ⟨k + 1, c1', some ⟨g1, 0, none⟩, by omega, rfl, by go_num, own1', B2⟩
          · have H1 := HT.out ⟨true, am⟩ (by simp [widC, hgt])
            have H2 := hide H1
            clear H1 HT
            go_wp2_with fail
            go_quiet (fail)
            (go_wp2_with (at_builtin; refine wpList_append_lies _ rfl _ _ 22 rfl w.heap.size 69 i0 _ 2 16 Tryd.underlying22 hi0 hz0 hz1 hz2 rfl (by decide) _ _ _ rfl ((ownsN own nq).alloc _) ⟨wr.heap.size, 0, none⟩ 1 1 [.bool true, .int .i64 am] rfl rfl (cell_two_new _ _ _ _) (by intro u hu; simp at hu; rcases hu with rfl | rfl <;> rfl) (by omega) (by unfold maxLen; omega) (by omega) (by simp; omega) (wr.heap.size + 1) (by simp) ?_))
            (intro g1 c1' w2 own1' hgrow hat hlt'; have B2 := ((belowN hbel nq).alloc hsz (.cells #[.bool true, .int .i64 am] 69)).grown hgrow (by simp; omega) (fun j hj => (own.lt j hj).1))
            rw [← H2.out] at own1'
            go_wp2_with fail
            go_roundg (len - (k + 1))
            case measure => omega
            case rel => exact ⟨k + 1, c1', some ⟨g1, 0, none⟩, by omega, rfl, by go_num, own1', B2⟩
    · have hke : k = len := by omega
      subst hke
      have hkn : ¬ (k : Int) < (k : Int) := by omega
      go_wp2_with fail
      go_ret
      exact ⟨.slice x k cp, rfl, own, hbel⟩
end Go.Proofs.YtofjjaabgfmnpaaDoor
