/- Zones: the reference's joins, meets, and what lies in what: walks over any closing. -/
import Derived.Test.YtbafkjhlogkllaaGreatDoorZg
import Derived.Test.YtbafkjhlogkllaaGreatDoorZoO
import Derived.BigQuiet
import Derived.Deep.CutBlock
namespace Go.Proofs.YtbafkjhlogkllaaGreatDoor.Oc
open Go.RowKit
set_option linter.unusedVariables false

/-- What closing answers: nothing, or a new zone of these cells. -/
def NrPost (w : World) (Ni : Int) (len : Nat) (ok : Prop) (L : List Ce) (e : Ending) (w' : World) : Prop :=
  Below w.heap.size w w' ∧ ((¬ ok ∧ e = .returned (.tuple #[(.agg #[.int .i64 0, .slice none 0 0]), .bool false])) ∨
    (ok ∧ ∃ (g cap : Nat), e = .returned (.tuple #[(.agg #[.int .i64 Ni, (.slice (some ⟨g, 0, none⟩) len cap)]), .bool true]) ∧ w.heap.size ≤ g ∧ (∀ o, w'.frozen? ⟨g, o, none⟩ = false) ∧ RowC w' g 0 L))

/-- Two cells joined. -/
def joinC (a b : Ce) : Ce := if a.h = true ∧ b.h = true then (if a.m < b.m then b else a) else ceZ
def joinK (A B : List Ce) : Nat → List Ce
  | 0 => A
  | k + 1 => (joinK A B k).set k (joinC (A.getD k ceZ) (B.getD k ceZ))
theorem joinK_len (A B : List Ce) (k : Nat) : (joinK A B k).length = A.length := by
  induction k with
  | zero => rfl
  | succ k ih => unfold joinK; rw [List.length_set, ih]
theorem joinK_at (A B : List Ce) (k i : Nat) (hk : k ≤ A.length) : (joinK A B k).getD i ceZ = if i < k then joinC (A.getD i ceZ) (B.getD i ceZ) else A.getD i ceZ := by
  induction k with
  | zero => rw [if_neg (by omega)]; rfl
  | succ k ih =>
    unfold joinK
    rw [getD_set (by rw [joinK_len]; omega)]
    by_cases e : i = k
    · subst e; rw [if_pos rfl, if_pos (by omega)]
    · rw [if_neg e, ih (by omega)]
      by_cases c : i < k
      · rw [if_pos c, if_pos (by omega)]
      · rw [if_neg c, if_neg (by omega)]

end Go.Proofs.YtbafkjhlogkllaaGreatDoor.Oc

/- Zones: the reference's meets, and what lies in what. -/
namespace Go.Proofs.YtbafkjhlogkllaaGreatDoor.Oc
open Go.RowKit
set_option linter.unusedVariables false

/-- Cells lowered by others, up to k. -/
def metC (a b : Ce) : Ce := if b.h = true then lowC a b.m else a
def metK (A B : List Ce) : Nat → List Ce
  | 0 => A
  | k + 1 => (metK A B k).set k (metC (A.getD k ceZ) (B.getD k ceZ))
theorem metK_len (A B : List Ce) (k : Nat) : (metK A B k).length = A.length := by
  induction k with
  | zero => rfl
  | succ k ih => unfold metK; rw [List.length_set, ih]
theorem metK_at (A B : List Ce) (k i : Nat) (hk : k ≤ A.length) : (metK A B k).getD i ceZ = if i < k then metC (A.getD i ceZ) (B.getD i ceZ) else A.getD i ceZ := by
  induction k with
  | zero => rw [if_neg (by omega)]; rfl
  | succ k ih =>
    unfold metK
    rw [getD_set (by rw [metK_len]; omega)]
    by_cases e : i = k
    · subst e; rw [if_pos rfl, if_pos (by omega)]
    · rw [if_neg e, ih (by omega)]
      by_cases c : i < k
      · rw [if_pos c, if_pos (by omega)]
      · rw [if_neg c, if_neg (by omega)]

theorem Tryz.infoCellM : (Tryz.prog.info? 56).map (fun i => (i.zero, i.size, i.bytes)) = some (some (.agg #[.bool false, .int .i64 0]), 2, 16) := by kernel_rfl
def MtPost (w : World) (Ni : Int) (len : Nat) (L : List Ce) (e : Ending) (w' : World) : Prop :=
  Below w.heap.size w w' ∧ ∃ (g cap : Nat), e = .returned (.agg #[.int .i64 Ni, (.slice (some ⟨g, 0, none⟩) len cap)]) ∧ RowC w' g 0 L
end Go.Proofs.YtbafkjhlogkllaaGreatDoor.Oc
