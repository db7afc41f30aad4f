/- Zones: what the laws' walks keep: errors and any many slices of cells; what a closed zone is again. -/
import Derived.Test.YtmdbgmkbkmckfaaDoorYp
import Derived.Test.YtmdbgmkbkmckfaaDoorYq
import Derived.Test.YtmdbgmkbkmckfaaDoorYm
import Derived.Test.YtmdbgmkbkmckfaaDoorZn
namespace Go.Proofs.YtmdbgmkbkmckfaaDoor
open Go.RowKit
set_option linter.unusedVariables false

theorem near_size {l : List Ce} {B : Int} (h : nearL l B = true) : ∀ i, i < l.length → (l.getD i ceZ).m.natAbs ≤ B.natAbs := by
  intro i hi
  have e : l.getD i ceZ = l[i] := by simp [hi]
  rw [e]
  unfold nearL at h
  simp only [Bool.not_eq_true', List.any_eq_false] at h
  have := h l[i] (List.getElem_mem hi)
  simp [farC, farB] at this
  omega
theorem St.setP {w W : World} {Z : World → Prop} {L : List (Nat × Nat × Value)} (h : St w W Z L) {p : Addr} (hb : w.heap.size ≤ p.block) (ap : Apart p.block L) (v : Value) : St w (W.setCell p v) Z L := by
  have b : Below w.heap.size W (W.setCell p v) := (Below.refl _ _).setCell hb _
  exact ⟨h.bel.trans b, h.hold.setCell ap v, h.cl _ _ h.sent b, h.cl⟩
theorem St.twoP {w W W2 : World} {Z : World → Prop} {L : List (Nat × Nat × Value)} {b : Nat} {v0 v1 : Value} (h : St w W Z L) (k : Holds W2 L) (hw : w.heap.size ≤ W2.heap.size) (hb : W2.heap.size ≤ b) : St w ((W.setCell ⟨b, 0, none⟩ v0).setCell ⟨b, 1, none⟩ v1) Z L :=
  (h.setP (p := ⟨b, 0, none⟩) (by dsimp only; omega) (k.apart_ge hb) v0).setP (p := ⟨b, 1, none⟩) (by dsimp only; omega) (k.apart_ge hb) v1

/-- The errors that are laid (the empty one, where the Bool says so), and slices of cells. -/
def Zs (em : Bool) (a : Nat → Addr) (cs : List (Option Addr × List Ce)) (W : World) : Prop := (ErrS W a ∧ (em = true → ErrAt W a 3)) ∧ ∀ p ∈ cs, CsAt W p.1 p.2
theorem St.startZs {w : World} {em : Bool} {a : Nat → Addr} {cs : List (Option Addr × List Ce)} (h : ErrS w a) (h3 : em = true → ErrAt w a 3) (k : ∀ p ∈ cs, CsAt w p.1 p.2) : St w w (Zs em a cs) [] :=
  ⟨Below.refl _ _, trivial, ⟨⟨h, h3⟩, k⟩, fun _ _ q hb => ⟨⟨h.stays q.1.1 hb, fun e => (hb.cell (World.block_lt_of_cell? w _ (h3 e))).trans (q.1.2 e)⟩, fun p hp => (k p hp).stays (q.2 p hp) hb⟩⟩
theorem St.more {w W : World} {em : Bool} {a : Nat → Addr} {cs : List (Option Addr × List Ce)} {L : List (Nat × Nat × Value)} (h : St w W (Zs em a cs) L) {y : Option Addr} {m : List Ce} (k : CsAt W y m) : St W W (Zs em a ((y, m) :: cs)) L := by
  have s := St.startZs (em := em) (a := a) (cs := (y, m) :: cs) h.sent.1.1 h.sent.1.2 (by
    intro p hp
    rcases List.mem_cons.1 hp with rfl | hp
    · exact k
    · exact h.sent.2 p hp)
  exact ⟨s.bel, h.hold, s.sent, s.cl⟩
theorem keepZs {w W : World} {em : Bool} {a : Nat → Addr} {cs : List (Option Addr × List Ce)} (L : List (Nat × Nat × Value)) (h : CellsAnd W L (St w W (Zs em a cs) L)) : Zs em a cs W := h.last.sent
theorem Zs.e {em : Bool} {a : Nat → Addr} {cs : List (Option Addr × List Ce)} {W : World} (h : Zs em a cs W) : ErrS W a := h.1.1
theorem Zs.c {em : Bool} {a : Nat → Addr} {cs : List (Option Addr × List Ce)} {W : World} (h : Zs em a cs W) {y : Option Addr} {m : List Ce} (hp : (y, m) ∈ cs) : CsAt W y m := h.2 (y, m) hp

theorem Tryd.stoodZC : Tryd.prog.stoodInHeld 49 = false := by kernel_rfl
theorem Tryd.fieldsZC : Tryd.prog.underlying 49 = some (.struct (Tryd.prog.fieldsOf 49)) := by kernel_rfl
theorem eqZC (h : Bool) (m : Int) (h' : Bool) (m' : Int) (W : World) : (binOp .eql 49 (.agg #[.bool h, .int .i64 m]) (.agg #[.bool h', .int .i64 m'])).run Tryd.prog W = .ok (.bool (decide (h = h') && decide (m = m'))) W := by
  rw [run_eql_struct, run_equalIn_struct W 9999 _ _ _ Tryd.fieldsZC Tryd.stoodZC]
  simp [Program.fieldsOf, Tryd.underlying49, go_sem, Tryd.underlying3, Tryd.underlying4]
  by_cases h1 : h = h' <;> by_cases h2 : m = m' <;> simp [h1, h2]
theorem neZC (h : Bool) (m : Int) (h' : Bool) (m' : Int) (W : World) : (binOp .neq 49 (.agg #[.bool h, .int .i64 m]) (.agg #[.bool h', .int .i64 m'])).run Tryd.prog W = .ok (.bool (!(decide (h = h') && decide (m = m')))) W := by
  have hh := eqZC h m h' m' W
  rw [run_eql_struct] at hh
  rw [run_neq_struct]
  cases hq : (Op.equalIn 10000 49 (.agg #[.bool h, .int .i64 m]) (.agg #[.bool h', .int .i64 m'])).run Tryd.prog W with
  | ok b w' => rw [hq] at hh; simp only [Result.andThen_ok, Result.ok.injEq, Value.bool.injEq] at hh ⊢; exact ⟨by rw [hh.1], hh.2⟩
  | halt x w' => rw [hq] at hh; simp [Result.andThen] at hh

/-- A told row is right. -/
theorem tell_right {N : Int} {n : Nat} (hN : N + 1 = n) (hn : 1 ≤ n ∧ n ≤ 5) (d : Mat) : zErr N (tellL n d) = 0 := by
  unfold zErr celErr
  rw [if_neg (by omega), if_neg (by rw [tellL_len, hN]; simp)]
  have h1 : (tellL n d).any badC = false := by
    rw [List.any_eq_false]
    intro c hc
    obtain ⟨p, _, rfl⟩ := List.mem_map.1 hc
    cases d (p / n) (p % n) with
    | none => simp [tellC, badC]
    | some m => simp only [tellC]; split <;> simp [badC]
  have h2 : (tellL n d).any (farC 1099511627776) = false := by
    rw [List.any_eq_false]
    intro c hc
    obtain ⟨p, _, rfl⟩ := List.mem_map.1 hc
    cases d (p / n) (p % n) with
    | none => simp [tellC, farC, farB]
    | some m =>
      simp only [tellC]; split
      · simp [farC, farB]
      · split <;> simp [farC, farB] <;> omega
  rw [h1, h2]; simp

theorem nOf_is {N : Int} {n : Nat} (hN : N + 1 = n) : nOf N = n := by unfold nOf; omega

/-- What a closed zone of near bounds is. -/
structure CloNear (n : Nat) (m : Mat) : Prop where
  hn : 1 ≤ n ∧ n ≤ 5
  sz : Sz n 1048576 m
  ok : NoNeg n (fw m n)
theorem CloNear.small {n : Nat} {m : Mat} (h : CloNear n m) : Sz n 33554432 (fw m n) := h.sz.fw5 h.hn.2 (Nat.le_refl n)
theorem CloNear.row {n : Nat} {m : Mat} (h : CloNear n m) : tellL n (fw m n) = rowOf n (fw m n) := tellL_near (h.small.mono (by omega))
theorem CloNear.at {n : Nat} {m : Mat} (h : CloNear n m) {i j : Nat} (hi : i < n) (hj : j < n) : (tellL n (fw m n)).getD (i * n + j) ceZ = ceOf (fw m n i j) := by rw [h.row, rowOf_at hi hj]
theorem CloNear.mat {n : Nat} {m : Mat} (h : CloNear n m) {i j : Nat} (hi : i < n) (hj : j < n) : matOf n (tellL n (fw m n)) i j = fw m n i j := by rw [h.row, mat_row hi hj]
theorem CloNear.again {n : Nat} {m : Mat} (h : CloNear n m) : ∀ i j, i < n → j < n → fw (matOf n (tellL n (fw m n))) n i j = fw m n i j := by
  intro i j hi hj
  rw [fw_congr (fun i j hi hj => h.mat hi hj) n (Nat.le_refl n) i j hi hj]
  obtain ⟨x, hx⟩ := fw_some.2 h.ok
  exact fw_same (fw_closed h.ok) ⟨x, (fw_pt (Nat.le_refl n)).2 hx⟩ hi hj
theorem CloNear.tell_again {n : Nat} {m : Mat} (h : CloNear n m) : tellL n (fw (matOf n (tellL n (fw m n))) n) = tellL n (fw m n) := tellL_congr h.again
theorem CloNear.ok_again {n : Nat} {m : Mat} (h : CloNear n m) : NoNeg n (fw (matOf n (tellL n (fw m n))) n) := fun i hi => by rw [h.again i i hi hi]; exact h.ok i hi
theorem CloNear.join {n : Nat} {m : Mat} (h : CloNear n m) : tellL n (joinM n m m) = tellL n (fw m n) := by
  rw [joinM_ab h.ok h.ok]
  apply tellL_congr
  intro i j _ _
  cases fw m n i j <;> simp [maxB]
theorem min_self (b : Bd) : minB b b = b := by cases b <;> simp [minB]
theorem with_min_self (m : Mat) : With2 minB m m = m := by funext i j; exact min_self _

end Go.Proofs.YtmdbgmkbkmckfaaDoor
