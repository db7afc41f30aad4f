/- Intervals: join, meet, order, as the reference has them. -/
import Derived.Test.YtijbjahedfmfgabDoorIa
namespace Go.Proofs.YtijbjahedfmfgabDoor
open Go.RowKit

def joined (a b : Iv) : Iv where
  d := if b.d || (!a.d && decide (b.lo < a.lo)) then b.d else a.d
  u := if b.u || (!a.u && decide (a.hi < b.hi)) then b.u else a.u
  lo := if b.d || (!a.d && decide (b.lo < a.lo)) then b.lo else a.lo
  hi := if b.u || (!a.u && decide (a.hi < b.hi)) then b.hi else a.hi

def metRaw (a b : Iv) : Iv where
  d := if !b.d && (a.d || decide (a.lo < b.lo)) then false else a.d
  u := if !b.u && (a.u || decide (b.hi < a.hi)) then false else a.u
  lo := if !b.d && (a.d || decide (a.lo < b.lo)) then b.lo else a.lo
  hi := if !b.u && (a.u || decide (b.hi < a.hi)) then b.hi else a.hi

def metB (a b : Iv) : Bool := !(!(metRaw a b).d && !(metRaw a b).u && decide ((metRaw a b).hi < (metRaw a b).lo))
def met (a b : Iv) : Iv := if metB a b then metRaw a b else ⟨false, false, 0, 0⟩

theorem ret_iv {d u : Bool} {lo hi : Int} {X : Iv} (h : X = ⟨d, u, lo, hi⟩) : Ending.returned (.agg #[.bool d, .bool u, .int .i64 lo, .int .i64 hi]) = .returned X.v := by rw [h]; rfl
theorem ret_ivb {d u : Bool} {lo hi : Int} {X : Iv} {b c : Bool} (h : X = ⟨d, u, lo, hi⟩) (hb : c = b) : Ending.returned (.tuple #[(.agg #[.bool d, .bool u, .int .i64 lo, .int .i64 hi]), .bool b]) = .returned (.tuple #[X.v, .bool c]) := by rw [h, hb]; rfl

def twoErr (a b : Iv) : Int := if ivErr a.d a.u a.lo a.hi = 0 then ivErr b.d b.u b.lo b.hi else ivErr a.d a.u a.lo a.hi

/-- An interval in a box. -/
def IvAt (w : World) (b : Nat) (a : Iv) : Prop := w.cell? ⟨b, 0, none⟩ = some (.bool a.d) ∧ w.cell? ⟨b, 1, none⟩ = some (.bool a.u) ∧ w.cell? ⟨b, 2, none⟩ = some (.int .i64 a.lo) ∧ w.cell? ⟨b, 3, none⟩ = some (.int .i64 a.hi)

theorem IvAt.below {w w' : World} {b : Nat} {a : Iv} {n : Nat} (h : IvAt w b a) (hb : Below n w w') (hn : b < n) : IvAt w' b a :=
  ⟨(hb.cell (p := ⟨b, 0, none⟩) hn).trans h.1, (hb.cell (p := ⟨b, 1, none⟩) hn).trans h.2.1, (hb.cell (p := ⟨b, 2, none⟩) hn).trans h.2.2.1, (hb.cell (p := ⟨b, 3, none⟩) hn).trans h.2.2.2⟩

theorem IvAt.new {w : World} {t : TypeId} {b : Nat} {d u : Bool} {lo hi : Int} (hb : b = w.heap.size) : IvAt (w.alloc (.cells #[.bool d, .bool u, .int .i64 lo, .int .i64 hi] t)) b ⟨d, u, lo, hi⟩ := by
  subst hb; exact ⟨by simp, by simp, by simp, by simp⟩

theorem IvAt.alloc {w : World} {b : Nat} {a : Iv} (h : IvAt w b a) (hb : b < w.heap.size) (x : Obj) : IvAt (w.alloc x) b a :=
  h.below ((Below.refl w.heap.size w).alloc (Nat.le_refl _) x) hb

set_option maxHeartbeats 1000000 in
theorem twoErr_any (d u d' u' : Bool) (lo hi lo' hi' : Int) (w : World) :
    Calls Tryd.prog 8 #[(.agg #[.bool d, .bool u, .int .i64 lo, .int .i64 hi]), (.agg #[.bool d', .bool u', .int .i64 lo', .int .i64 hi'])] w fun e w' => e = .returned (.int .i64 (twoErr ⟨d, u, lo, hi⟩ ⟨d', u', lo', hi'⟩)) ∧ Below w.heap.size w w' := by
  obtain ⟨x, hx⟩ : ∃ x, x = ivErr d u lo hi := ⟨_, rfl⟩
  obtain ⟨y, hy⟩ : ∃ y, y = ivErr d' u' lo' hi' := ⟨_, rfl⟩
  have Hx := hide hx
  have Hy := hide hy
  clear hx hy
  go_enter Tryd.func8, Tryd.ntmps8
  go_wp2_with fail
  refine (ivErr_any d u lo hi _).mono ?_
  rintro e w1 ⟨rfl, hb1⟩
  rw [← Hx.out]
  have hbw1 : Below w.heap.size w w1 := (((Below.refl _ _).alloc (Nat.le_refl _) _).alloc (by simp) _).trans (hb1.mono (by simp; omega))
  obtain ⟨q0, q1, q2, q3⟩ := (IvAt.new (w := w.alloc (.cells #[.bool d, .bool u, .int .i64 lo, .int .i64 hi] 23)) (t := 23) (b := w.heap.size + 1) (d := d') (u := u') (lo := lo') (hi := hi') (by simp)).below hb1 (by simp)
  dsimp only at q0 q1 q2 q3
  by_cases h0 : x = 0
  · go_wp2_with fail
    refine (ivErr_any d' u' lo' hi' _).mono ?_
    rintro e w2 ⟨rfl, hb2⟩
    rw [← Hy.out]
    go_wp2_with fail
    go_ret
    exact ⟨ret_int (by unfold twoErr; dsimp only; rw [← Hx.out, ← Hy.out, if_pos h0]), hbw1.trans (hb2.mono hbw1.size)⟩
  · go_wp2_with fail
    go_ret
    exact ⟨ret_int (by unfold twoErr; dsimp only; rw [← Hx.out, if_neg h0]), hbw1⟩

end Go.Proofs.YtijbjahedfmfgabDoor
