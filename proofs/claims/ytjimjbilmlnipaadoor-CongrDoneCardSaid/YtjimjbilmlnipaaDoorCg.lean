/- Congruences: what a statement asks of an answer; the two numbers handed over. -/
import Derived.Test.YtjimjbilmlnipaaDoorCf
namespace Go.Proofs.YtjimjbilmlnipaaDoor
open Go.RowKit
set_option linter.unusedVariables false

theorem Tryd.stoodCg : Tryd.prog.stoodInHeld 31 = false := by kernel_rfl

theorem Tryd.fieldsCg : Tryd.prog.underlying 31 = some (.struct (Tryd.prog.fieldsOf 31)) := by kernel_rfl
theorem eqCg (r m r' m' : Int) (W : World) : (binOp .eql 31 (.agg #[.int .i64 r, .int .i64 m]) (.agg #[.int .i64 r', .int .i64 m'])).run Tryd.prog W = .ok (.bool (decide (r = r') && decide (m = m'))) W := by
  rw [run_eql_struct, run_equalIn_struct W 9999 _ _ _ Tryd.fieldsCg Tryd.stoodCg]
  simp [Program.fieldsOf, Tryd.underlying31, go_sem, Tryd.underlying3]
  by_cases h1 : r = r' <;> by_cases h2 : m = m' <;> simp [h1, h2]

theorem neCg (r m r' m' : Int) (W : World) : (binOp .neq 31 (.agg #[.int .i64 r, .int .i64 m]) (.agg #[.int .i64 r', .int .i64 m'])).run Tryd.prog W = .ok (.bool (!(decide (r = r') && decide (m = m')))) W := by
  have h := eqCg r m r' m' W
  rw [run_eql_struct] at h
  rw [run_neq_struct]
  cases hh : (Op.equalIn 10000 31 (.agg #[.int .i64 r, .int .i64 m]) (.agg #[.int .i64 r', .int .i64 m'])).run Tryd.prog W with
  | ok b w' => rw [hh] at h; simp only [Result.andThen_ok, Result.ok.injEq, Value.bool.injEq] at h ⊢; exact ⟨by rw [h.1], h.2⟩
  | halt x w' => rw [hh] at h; simp [Result.andThen] at h

set_option maxHeartbeats 1000000 in
theorem isCongr_err (r m r' m' e : Int) (h1 : 0 < e) (h2 : e ≤ 8) (a : Nat → Addr) (w : World) (hS : Sents w a) (v : Value) (hv : Hid (v = errV a e)) :
    Calls Tryd.prog 21 #[(.agg #[.int .i64 r, .int .i64 m]), v, (.agg #[.int .i64 r', .int .i64 m']), .int .i64 e] w fun x w' => x = .returned (.bool (decide (r = 0) && decide (m = 0))) ∧ Below w.heap.size w w' := by
  have hE := fun W => eqCg r m 0 0 W
  have HC : Hid (∀ W : World, Sents W a → Calls Tryd.prog 12 #[v, .int .i64 e] W fun x w' => x = .returned (.bool true) ∧ Below W.heap.size W w') := by
    intro W h
    rw [hv.out]
    exact coded_errV e (by omega) h2 a W h
  go_enter Tryd.func21, Tryd.ntmps21
  go_wp2_with fail
  have s0 := ((St.start hS).box2 31 (.int .i64 r) (.int .i64 m)).box2 23 (.int .i64 r') (.int .i64 m')
  simp only [World.size_alloc] at s0
  refine (HC.out _ s0.sents).mono ?_
  rintro x w1 ⟨rfl, hb⟩
  have s1 := s0.call hb
  have q1 := s1.hold
  simp only [Holds, and_true] at q1
  clear s0 hb
  go_wp2_with fail
  go_ret
  exact ⟨ret_bool (by simp), s1.bel⟩

set_option maxHeartbeats 2000000 in
theorem isCongr_ok (r m r' m' : Int) (w : World) :
    Calls Tryd.prog 21 #[(.agg #[.int .i64 r, .int .i64 m]), .nilIface, (.agg #[.int .i64 r', .int .i64 m']), .int .i64 0] w fun x w' => x = .returned (.bool (decide (r = r') && decide (m = m'))) ∧ Below w.heap.size w w' := by
  have hE := fun W => eqCg r m r' m' W
  have HO : Hid (∀ W : World, Calls Tryd.prog 14 #[(.agg #[.int .i64 r', .int .i64 m'])] W fun e w' => e = .returned (.agg #[.int .i64 r', .int .i64 m']) ∧ Below W.heap.size W w') := own_any r' m'
  have s00 : St w w (fun _ => True) [] := ⟨Below.refl _ _, trivial, trivial, fun _ _ _ _ => trivial⟩
  go_enter Tryd.func21, Tryd.ntmps21
  go_wp2_with fail
  have s0 := (s00.box2 31 (.int .i64 r) (.int .i64 m)).box2 23 (.int .i64 r') (.int .i64 m')
  simp only [World.size_alloc] at s0
  clear s00
  go_region_held3 (fun w' => w'.cell? ⟨w.heap.size + 1, 0, none⟩ = some (.int .i64 r') ∧ w'.cell? ⟨w.heap.size + 1, 1, none⟩ = some (.int .i64 m') ∧ w'.cell? ⟨w.heap.size, 0, none⟩ = some (.int .i64 r) ∧ w'.cell? ⟨w.heap.size, 1, none⟩ = some (.int .i64 m) ∧ St w w' (fun _ => True) ((w.heap.size + 1, 0, Value.int .i64 r') :: (w.heap.size + 1, 1, Value.int .i64 m') :: (w.heap.size, 0, Value.int .i64 r) :: (w.heap.size, 1, Value.int .i64 m) :: [])) (first | (exact keepSt (((w.heap.size + 1, 0, Value.int .i64 r') :: (w.heap.size + 1, 1, Value.int .i64 m') :: (w.heap.size, 0, Value.int .i64 r) :: (w.heap.size, 1, Value.int .i64 m) :: [])) (by assumption) (by assumption)) | (exact keepSt (((w.heap.size + 1, 0, Value.int .i64 r') :: (w.heap.size + 1, 1, Value.int .i64 m') :: (w.heap.size, 0, Value.int .i64 r) :: (w.heap.size, 1, Value.int .i64 m) :: [])) (Below.refl _ _).drew (by assumption)) | (exact keepSt0 (((w.heap.size + 1, 0, Value.int .i64 r') :: (w.heap.size + 1, 1, Value.int .i64 m') :: (w.heap.size, 0, Value.int .i64 r) :: (w.heap.size, 1, Value.int .i64 m) :: [])) (St.drew (by assumption))) | (exact keepSt0 (((w.heap.size + 1, 0, Value.int .i64 r') :: (w.heap.size + 1, 1, Value.int .i64 m') :: (w.heap.size, 0, Value.int .i64 r) :: (w.heap.size, 1, Value.int .i64 m) :: [])) (by assumption)))
    (first
      | (go_at_call 14; refine (HO.out _).mono ?_; rintro e w2 ⟨rfl, hb2⟩))
  go_wp2_with fail
  go_ret
  exact ⟨ret_bool (by simp), keepSt_bel (((w.heap.size + 1, 0, Value.int .i64 r') :: (w.heap.size + 1, 1, Value.int .i64 m') :: (w.heap.size, 0, Value.int .i64 r) :: (w.heap.size, 1, Value.int .i64 m) :: [])) (by assumption)⟩

theorem isCongr_errZ (e : Int) (h1 : 0 < e) (h2 : e ≤ 8) (a : Nat → Addr) (r' m' : Int) (w : World) (hS : Sents w a) :
    Calls Tryd.prog 21 #[(.agg #[.int .i64 0, .int .i64 0]), errV a e, (.agg #[.int .i64 r', .int .i64 m']), .int .i64 e] w fun x w' => x = .returned (.bool true) ∧ Below w.heap.size w w' := by
  refine (isCongr_err 0 0 r' m' e h1 h2 a w hS _ rfl).mono ?_
  rintro x w' ⟨rfl, hb⟩
  exact ⟨by simp, hb⟩
theorem isCongr_same (r m : Int) (w : World) :
    Calls Tryd.prog 21 #[(.agg #[.int .i64 r, .int .i64 m]), .nilIface, (.agg #[.int .i64 r, .int .i64 m]), .int .i64 0] w fun x w' => x = .returned (.bool true) ∧ Below w.heap.size w w' := by
  refine (isCongr_ok r m r m w).mono ?_
  rintro x w' ⟨rfl, hb⟩
  exact ⟨by simp, hb⟩

end Go.Proofs.YtjimjbilmlnipaaDoor
