/- Intervals: join, meet, order, as the reference has them. -/
import Derived.Test.YtegibkjopkakhaaDoorIa
import Derived.Test.YtegibkjopkakhaaDoorEc
namespace Go.Proofs.YtegibkjopkakhaaDoor
open Go.RowKit

def joined (a b : Iv) : Iv where
  d := if b.d || (!a.d && decide (b.lo < a.lo)) then b.d else a.d
  u := if b.u || (!a.u && decide (a.hi < b.hi)) then b.u else a.u
  lo := if b.d || (!a.d && decide (b.lo < a.lo)) then b.lo else a.lo
  hi := if b.u || (!a.u && decide (a.hi < b.hi)) then b.hi else a.hi

def metRaw (a b : Iv) : Iv where
  d := if !b.d && (a.d || decide (a.lo < b.lo)) then false else a.d
  u := if !b.u && (a.u || decide (b.hi < a.hi)) then false else a.u
  lo := if !b.d && (a.d || decide (a.lo < b.lo)) then b.lo else a.lo
  hi := if !b.u && (a.u || decide (b.hi < a.hi)) then b.hi else a.hi

def metB (a b : Iv) : Bool := !(!(metRaw a b).d && !(metRaw a b).u && decide ((metRaw a b).hi < (metRaw a b).lo))
def met (a b : Iv) : Iv := if metB a b then metRaw a b else ⟨false, false, 0, 0⟩

theorem ret_iv {d u : Bool} {lo hi : Int} {X : Iv} (h : X = ⟨d, u, lo, hi⟩) : Ending.returned (.agg #[.bool d, .bool u, .int .i64 lo, .int .i64 hi]) = .returned X.v := by rw [h]; rfl
theorem ret_ivb {d u : Bool} {lo hi : Int} {X : Iv} {b c : Bool} (h : X = ⟨d, u, lo, hi⟩) (hb : c = b) : Ending.returned (.tuple #[(.agg #[.bool d, .bool u, .int .i64 lo, .int .i64 hi]), .bool b]) = .returned (.tuple #[X.v, .bool c]) := by rw [h, hb]; rfl

def twoErr (a b : Iv) : Int := if ivErr a.d a.u a.lo a.hi = 0 then ivErr b.d b.u b.lo b.hi else ivErr a.d a.u a.lo a.hi

/-- An interval in a box. -/
def IvAt (w : World) (b : Nat) (a : Iv) : Prop := w.cell? ⟨b, 0, none⟩ = some (.bool a.d) ∧ w.cell? ⟨b, 1, none⟩ = some (.bool a.u) ∧ w.cell? ⟨b, 2, none⟩ = some (.int .i64 a.lo) ∧ w.cell? ⟨b, 3, none⟩ = some (.int .i64 a.hi)

theorem IvAt.below {w w' : World} {b : Nat} {a : Iv} {n : Nat} (h : IvAt w b a) (hb : Below n w w') (hn : b < n) : IvAt w' b a :=
  ⟨(hb.cell (p := ⟨b, 0, none⟩) hn).trans h.1, (hb.cell (p := ⟨b, 1, none⟩) hn).trans h.2.1, (hb.cell (p := ⟨b, 2, none⟩) hn).trans h.2.2.1, (hb.cell (p := ⟨b, 3, none⟩) hn).trans h.2.2.2⟩

theorem IvAt.new {w : World} {t : TypeId} {b : Nat} {d u : Bool} {lo hi : Int} (hb : b = w.heap.size) : IvAt (w.alloc (.cells #[.bool d, .bool u, .int .i64 lo, .int .i64 hi] t)) b ⟨d, u, lo, hi⟩ := by
  subst hb; exact ⟨by simp, by simp, by simp, by simp⟩

theorem IvAt.alloc {w : World} {b : Nat} {a : Iv} (h : IvAt w b a) (hb : b < w.heap.size) (x : Obj) : IvAt (w.alloc x) b a :=
  h.below ((Below.refl w.heap.size w).alloc (Nat.le_refl _) x) hb

set_option maxHeartbeats 1000000 in
theorem twoErr_any (d u d' u' : Bool) (lo hi lo' hi' : Int) (w : World) :
    Calls Tryd.prog 8 #[(.agg #[.bool d, .bool u, .int .i64 lo, .int .i64 hi]), (.agg #[.bool d', .bool u', .int .i64 lo', .int .i64 hi'])] w fun e w' => e = .returned (.int .i64 (twoErr ⟨d, u, lo, hi⟩ ⟨d', u', lo', hi'⟩)) ∧ Below w.heap.size w w' := by
  obtain ⟨x, hx⟩ : ∃ x, x = ivErr d u lo hi := ⟨_, rfl⟩
  obtain ⟨y, hy⟩ : ∃ y, y = ivErr d' u' lo' hi' := ⟨_, rfl⟩
  have Hx := hide hx
  have Hy := hide hy
  clear hx hy
  go_enter Tryd.func8, Tryd.ntmps8
  go_wp2_with fail
  refine (ivErr_any d u lo hi _).mono ?_
  rintro e w1 ⟨rfl, hb1⟩
  rw [← Hx.out]
  have hbw1 : Below w.heap.size w w1 := (((Below.refl _ _).alloc (Nat.le_refl _) _).alloc (by simp) _).trans (hb1.mono (by simp; omega))
  obtain ⟨q0, q1, q2, q3⟩ := (IvAt.new (w := w.alloc (.cells #[.bool d, .bool u, .int .i64 lo, .int .i64 hi] 23)) (t := 23) (b := w.heap.size + 1) (d := d') (u := u') (lo := lo') (hi := hi') (by simp)).below hb1 (by simp)
  dsimp only at q0 q1 q2 q3
  by_cases h0 : x = 0
  · go_wp2_with fail
    refine (ivErr_any d' u' lo' hi' _).mono ?_
    rintro e w2 ⟨rfl, hb2⟩
    rw [← Hy.out]
    go_wp2_with fail
    go_ret
    exact ⟨ret_int (by unfold twoErr; dsimp only; rw [← Hx.out, ← Hy.out, if_pos h0]), hbw1.trans (hb2.mono hbw1.size)⟩
  · go_wp2_with fail
    go_ret
    exact ⟨ret_int (by unfold twoErr; dsimp only; rw [← Hx.out, if_neg h0]), hbw1⟩

set_option maxHeartbeats 2000000 in
theorem joined_any (d u d' u' : Bool) (lo hi lo' hi' : Int) (w : World) :
    Calls Tryd.prog 35 #[(.agg #[.bool d, .bool u, .int .i64 lo, .int .i64 hi]), (.agg #[.bool d', .bool u', .int .i64 lo', .int .i64 hi'])] w fun e w' => e = .returned (joined ⟨d, u, lo, hi⟩ ⟨d', u', lo', hi'⟩).v ∧ Below w.heap.size w w' := by
  go_enter Tryd.func35, Tryd.ntmps35
  go_wp2
  all_goals
    refine bodyPost_ret (v := (joined ⟨d, u, lo, hi⟩ ⟨d', u', lo', hi'⟩).v) ?_ rfl ⟨rfl, ?_⟩
    · simp [results, Tryd.results35, go_sem, Iv.v]
      grind [joined]
    · (repeat' (first | exact Below.refl _ _ | refine Below.setCell ?_ (by first | (simp; done) | (simp; omega)) _ | refine Below.alloc ?_ (by first | (simp; done) | (simp; omega)) _ | refine Below.drew ?_))

end Go.Proofs.YtegibkjopkakhaaDoor

/- Intervals: order; what a statement asks of an answer. -/
namespace Go.Proofs.YtegibkjopkakhaaDoor
open Go.RowKit

theorem Tryd.fieldsIv : Tryd.prog.underlying 23 = some (.struct (Tryd.prog.fieldsOf 23)) := by kernel_rfl
theorem Tryd.stoodIv : Tryd.prog.stoodInHeld 23 = false := by kernel_rfl

/-- '==' of two intervals. -/
theorem eqIv (d u d' u' : Bool) (lo hi lo' hi' : Int) (W : World) : (binOp .eql 23 (.agg #[.bool d, .bool u, .int .i64 lo, .int .i64 hi]) (.agg #[.bool d', .bool u', .int .i64 lo', .int .i64 hi'])).run Tryd.prog W = .ok (.bool (decide (d = d') && (decide (u = u') && (decide (lo = lo') && decide (hi = hi'))))) W := by
  rw [run_eql_struct, run_equalIn_struct W 9999 _ _ _ Tryd.fieldsIv Tryd.stoodIv]
  simp [Program.fieldsOf, Tryd.underlying23, go_sem, Tryd.underlying4, Tryd.underlying3]
  by_cases h1 : d = d' <;> by_cases h2 : u = u' <;> by_cases h3 : lo = lo' <;> by_cases h4 : hi = hi' <;> simp [h1, h2, h3, h4]

theorem neIv (d u d' u' : Bool) (lo hi lo' hi' : Int) (W : World) : (binOp .neq 23 (.agg #[.bool d, .bool u, .int .i64 lo, .int .i64 hi]) (.agg #[.bool d', .bool u', .int .i64 lo', .int .i64 hi'])).run Tryd.prog W = .ok (.bool (!(decide (d = d') && (decide (u = u') && (decide (lo = lo') && decide (hi = hi')))))) W := by
  have h := eqIv d u d' u' lo hi lo' hi' W
  rw [run_eql_struct] at h
  rw [run_neq_struct]
  cases hh : (Op.equalIn 10000 23 (.agg #[.bool d, .bool u, .int .i64 lo, .int .i64 hi]) (.agg #[.bool d', .bool u', .int .i64 lo', .int .i64 hi'])).run Tryd.prog W with
  | ok b w' => rw [hh] at h; simp only [Result.andThen_ok, Result.ok.injEq, Value.bool.injEq] at h ⊢; exact ⟨by rw [h.1], h.2⟩
  | halt x w' => rw [hh] at h; simp [Result.andThen] at h

set_option maxHeartbeats 2000000 in
theorem inside_any (d u d' u' : Bool) (lo hi lo' hi' : Int) (w : World) :
    Calls Tryd.prog 18 #[(.agg #[.bool d, .bool u, .int .i64 lo, .int .i64 hi]), (.agg #[.bool d', .bool u', .int .i64 lo', .int .i64 hi'])] w fun e w' => e = .returned (.bool (decide (joined ⟨d', u', lo', hi'⟩ ⟨d, u, lo, hi⟩ = ⟨d', u', lo', hi'⟩))) ∧ Below w.heap.size w w' := by
  have hB0 : Below w.heap.size w ((w.alloc (.cells #[.bool d, .bool u, .int .i64 lo, .int .i64 hi] 23)).alloc (.cells #[.bool d', .bool u', .int .i64 lo', .int .i64 hi'] 23)) := ((Below.refl _ _).alloc (Nat.le_refl _) _).alloc (by simp) _
  obtain ⟨⟨jd, ju, jl, jh⟩, hj⟩ : ∃ J, J = joined ⟨d', u', lo', hi'⟩ ⟨d, u, lo, hi⟩ := ⟨_, rfl⟩
  have hJ : ∀ W : World, Calls Tryd.prog 35 #[(.agg #[.bool d', .bool u', .int .i64 lo', .int .i64 hi']), (.agg #[.bool d, .bool u, .int .i64 lo, .int .i64 hi])] W fun e w' => e = .returned (.agg #[.bool jd, .bool ju, .int .i64 jl, .int .i64 jh]) ∧ Below W.heap.size W w' := by
    intro W
    have := joined_any d' u' d u lo' hi' lo hi W
    rw [← hj] at this
    exact this
  have hE := fun W => eqIv jd ju d' u' jl jh lo' hi' W
  rw [← hj]
  have Hj := hide hj
  have HJ := hide hJ
  clear hj hJ
  go_enter Tryd.func18, Tryd.ntmps18
  go_wp2_with fail
  have hSn : _ := keepC (W0 := (w.alloc (.cells #[.bool d, .bool u, .int .i64 lo, .int .i64 hi] 23)).alloc (.cells #[.bool d', .bool u', .int .i64 lo', .int .i64 hi'] 23)) (C := w.heap.size + 1 + 1) (B := w.heap.size + 1 + 1) (w := w) (Below.refl _ _) ⟨fun _ _ _ => rfl, fun _ _ _ => rfl, by omega, by simp, hB0⟩
  go_region_held3 (fun w' => (∀ b' o', b' < w.heap.size + 1 + 1 → w'.cell? ⟨b', o', none⟩ = ((w.alloc (.cells #[.bool d, .bool u, .int .i64 lo, .int .i64 hi] 23)).alloc (.cells #[.bool d', .bool u', .int .i64 lo', .int .i64 hi'] 23)).cell? ⟨b', o', none⟩) ∧ (∀ b' o', b' < w.heap.size + 1 + 1 → w'.frozen? ⟨b', o', none⟩ = ((w.alloc (.cells #[.bool d, .bool u, .int .i64 lo, .int .i64 hi] 23)).alloc (.cells #[.bool d', .bool u', .int .i64 lo', .int .i64 hi'] 23)).frozen? ⟨b', o', none⟩) ∧ w.heap.size + 1 + 1 ≤ w.heap.size + 1 + 1 ∧ w.heap.size + 1 + 1 ≤ w'.heap.size ∧ Below w.heap.size w w') (first | (exact keepC (by assumption) (by assumption)) | (exact keepD (by assumption)) | (exact keepE (by dsimp only; omega) (by dsimp only; omega) (by assumption)) | (exact keepE (by dsimp only; omega) (by dsimp only; omega) (keepE (by dsimp only; omega) (by dsimp only; omega) (by assumption))) | (exact ⟨fun _ _ _ => rfl, fun _ _ _ => rfl, by omega, by simp, Below.drew (by assumption)⟩))
    (first
      | (go_at_call 35; refine (HJ.out _).mono ?_; rintro e w2 ⟨rfl, hb2⟩))
  go_wp2_with fail
  go_ret
  exact ⟨ret_bool (by simp), S_bel (by assumption)⟩

/-- An error as it is told: none, or the one of that number. -/
def errV (a : Nat → Addr) (e : Int) : Value := if e = 0 then .nilIface else .iface 103 (.pointer (some (a (e.toNat - 1))))

theorem coded_errV (e : Int) (h1 : 0 ≤ e) (h2 : e ≤ 8) (a : Nat → Addr) (w : World) (hS : Sents w a) :
    Calls Tryd.prog 33 #[errV a e, .int .i64 e] w fun x w' => x = .returned (.bool true) ∧ Below w.heap.size w w' := by
  by_cases h : e = 0
  · subst h
    exact coded_nil 0 w
  · rw [errV, if_neg h]
    refine (coded_sent (e.toNat - 1) (by omega) e a _ rfl w hS).mono ?_
    rintro x w' ⟨rfl, hb⟩
    exact ⟨by rw [decide_eq_true (by omega)], hb⟩

set_option maxHeartbeats 1000000 in
theorem isSpan_err (d u d' u' : Bool) (lo hi lo' hi' e : Int) (h1 : 0 < e) (h2 : e ≤ 8) (a : Nat → Addr) (w : World) (hS : Sents w a) (v : Value) (hv : Hid (v = errV a e)) :
    Calls Tryd.prog 14 #[(.agg #[.bool d, .bool u, .int .i64 lo, .int .i64 hi]), v, (.agg #[.bool d', .bool u', .int .i64 lo', .int .i64 hi']), .int .i64 e] w fun x w' => x = .returned (.bool (decide (d = false) && (decide (u = false) && (decide (lo = 0) && decide (hi = 0))))) ∧ Below w.heap.size w w' := by
  have hE := fun W => eqIv d u false false lo hi 0 0 W
  have hC : ∀ W : World, Sents W a → Calls Tryd.prog 33 #[v, .int .i64 e] W fun x w' => x = .returned (.bool true) ∧ Below W.heap.size W w' := by
    intro W h
    rw [hv.out]
    exact coded_errV e (by omega) h2 a W h
  have HC := hide hC
  clear hC
  go_enter Tryd.func14, Tryd.ntmps14
  go_wp2_with fail
  refine (HC.out _ (hS.below (((Below.refl _ _).alloc (Nat.le_refl _) _).alloc (by simp) _))).mono ?_
  rintro x w1 ⟨rfl, hb1⟩
  have hbw1 : Below w.heap.size w w1 := (((Below.refl _ _).alloc (Nat.le_refl _) _).alloc (by simp) _).trans (hb1.mono (by simp; omega))
  obtain ⟨q0, q1, q2, q3⟩ := ((IvAt.new (w := w) (t := 23) (b := w.heap.size) (d := d) (u := u) (lo := lo) (hi := hi) rfl).alloc (by simp) (.cells #[.bool d', .bool u', .int .i64 lo', .int .i64 hi'] 23)).below hb1 (by simp; omega)
  dsimp only at q0 q1 q2 q3
  go_wp2_with fail
  go_ret
  exact ⟨ret_bool (by simp), hbw1⟩

set_option maxHeartbeats 1000000 in
theorem isSpan_ok (d u d' u' : Bool) (lo hi lo' hi' : Int) (w : World) :
    Calls Tryd.prog 14 #[(.agg #[.bool d, .bool u, .int .i64 lo, .int .i64 hi]), .nilIface, (.agg #[.bool d', .bool u', .int .i64 lo', .int .i64 hi']), .int .i64 0] w fun x w' => x = .returned (.bool (decide (d = d') && (decide (u = u') && (decide (lo = lo') && decide (hi = hi'))))) ∧ Below w.heap.size w w' := by
  have hE := fun W => eqIv d u d' u' lo hi lo' hi' W
  go_enter Tryd.func14, Tryd.ntmps14
  go_wp2_with fail
  go_ret
  exact ⟨ret_bool (by simp), ((Below.refl _ _).alloc (Nat.le_refl _) _).alloc (by simp) _⟩

end Go.Proofs.YtegibkjopkakhaaDoor
