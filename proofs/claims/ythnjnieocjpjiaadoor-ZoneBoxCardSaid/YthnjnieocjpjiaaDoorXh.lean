/- Zones: a closed one's own bounds, put to it, change nothing; a point's numbers are of them. -/
import Derived.Test.YthnjnieocjpjiaaDoorXb
import Derived.Test.YthnjnieocjpjiaaDoorYs
import Derived.Test.YthnjnieocjpjiaaDoorZv
namespace Go.Proofs.YthnjnieocjpjiaaDoor
open Go.RowKit
set_option linter.unusedVariables false

/-- What is right of an interval. -/
structure IvOk (d u : Bool) (lo hi : Int) : Prop where
  d0 : d = true → lo = 0
  u0 : u = true → hi = 0
  le : d = false → u = false → lo ≤ hi
  fl : lo.natAbs ≤ 1099511627776
  fh : hi.natAbs ≤ 1099511627776
theorem not_far {x : Int} (h : x.natAbs ≤ 1099511627776) : farB x 1099511627776 = false := by
  unfold farB; simp; omega

set_option maxHeartbeats 2000000 in
theorem zival_any (d u : Bool) (lo hi : Int) (h : IvOk d u lo hi) (w : World) :
    Calls Tryd.prog 79 #[(.agg #[.bool d, .bool u, .int .i64 lo, .int .i64 hi])] w fun e w' => e = .returned .nilIface ∧ Below w.heap.size w w' := by
  have HF : Hid (∀ (x : Int) (W : World), x.natAbs ≤ 1099511627776 → Calls Tryd.prog 56 #[.int .i64 x] W fun e w' => e = .returned (.bool false) ∧ w' = W) := fun x W k => by have := bfar_any x W; rw [not_far k] at this; exact this
  have f1 := h.fl
  have f2 := h.fh
  have h1 := h.d0
  have h2 := h.u0
  have h3 := h.le
  clear h
  cases d <;> cases u
  · have h4 : ¬ hi < lo := by have := h3 rfl rfl; omega
    clear h1 h2 h3
    go_enter Tryd.func79, Tryd.ntmps79
    go_wp2_with (go_at_call 56; refine (HF.out _ _ (by assumption)).mono ?_; rintro e w' ⟨rfl, rfl⟩)
    all_goals
      go_ret
      exact ⟨rfl, by (repeat' (first | exact s1.bel | refine Below.alloc ?_ (by first | (simp; done) | (simp; omega)) _ | refine Below.drew ?_ | exact Below.refl _ _))⟩
  · have h4 : hi = 0 := h2 rfl
    subst h4
    clear h1 h2 h3
    go_enter Tryd.func79, Tryd.ntmps79
    go_wp2_with (go_at_call 56; refine (HF.out _ _ (by assumption)).mono ?_; rintro e w' ⟨rfl, rfl⟩)
    all_goals
      go_ret
      exact ⟨rfl, by (repeat' (first | exact s1.bel | refine Below.alloc ?_ (by first | (simp; done) | (simp; omega)) _ | refine Below.drew ?_ | exact Below.refl _ _))⟩
  · have h4 : lo = 0 := h1 rfl
    subst h4
    clear h1 h2 h3
    go_enter Tryd.func79, Tryd.ntmps79
    go_wp2_with (go_at_call 56; refine (HF.out _ _ (by assumption)).mono ?_; rintro e w' ⟨rfl, rfl⟩)
    all_goals
      go_ret
      exact ⟨rfl, by (repeat' (first | exact s1.bel | refine Below.alloc ?_ (by first | (simp; done) | (simp; omega)) _ | refine Below.drew ?_ | exact Below.refl _ _))⟩
  · have h4 : lo = 0 := h1 rfl
    have h5 : hi = 0 := h2 rfl
    subst h4 h5
    clear h1 h2 h3
    go_enter Tryd.func79, Tryd.ntmps79
    go_wp2_with (go_at_call 56; refine (HF.out _ _ (by assumption)).mono ?_; rintro e w' ⟨rfl, rfl⟩)
    all_goals
      go_ret
      exact ⟨rfl, by (repeat' (first | exact s1.bel | refine Below.alloc ?_ (by first | (simp; done) | (simp; omega)) _ | refine Below.drew ?_ | exact Below.refl _ _))⟩

set_option maxHeartbeats 2000000 in
theorem zihas_any (d u : Bool) (lo hi n : Int) (h : IvOk d u lo hi) (h1 : d = false → lo ≤ n) (h2 : u = false → n ≤ hi) (w : World) :
    Calls Tryd.prog 44 #[(.agg #[.bool d, .bool u, .int .i64 lo, .int .i64 hi]), .int .i64 n] w fun e w' => e = .returned (.bool true) ∧ Below w.heap.size w w' := by
  have HV : Hid (∀ W : World, Calls Tryd.prog 79 #[(.agg #[.bool d, .bool u, .int .i64 lo, .int .i64 hi])] W fun e w' => e = .returned .nilIface ∧ Below W.heap.size W w') := fun W => zival_any d u lo hi h W
  clear h
  cases d <;> cases u
  all_goals
    try have k1 := h1 rfl
    try have k2 := h2 rfl
    clear h1 h2
    go_enter Tryd.func44, Tryd.ntmps44
    go_wp2_with (go_at_call 79; refine (HV.out _).mono ?_; rintro e w1 ⟨rfl, hb⟩; have s1 := ((St.start1' w).box4 _ _ _ _ _).call hb; have q1 := s1.hold; simp only [Holds, and_true] at q1; clear hb)
    all_goals
      go_ret
      first | exact ⟨rfl, s1.bel⟩ | exact ⟨ret_bool (by simp; omega), s1.bel⟩ | (exfalso; omega)

/-- A bound of its own changes no closed square. -/
theorem grd_own {n : Nat} {c d : Mat} (h : ∀ p q, p < n → q < n → c p q = d p q) {i j : Nat} (hi : i < n) (hj : j < n) {v : Int} (hv : d i j = some v) : ∀ p q, p < n → q < n → grdM c i j v p q = d p q := by
  intro p q hp hq
  unfold grdM setM
  split
  · rename_i e
    obtain ⟨rfl, rfl⟩ := e
    rw [h p q hp hq, hv]
    simp [minB]
  · exact h p q hp hq
theorem box_own {n : Nat} {m : Mat} (h : CloNear n m) {i j : Nat} (hi : i < n) (hj : j < n) {v : Int} (hv : fw m n i j = some v) :
    NoNeg n (fw (grdM (matOf n (tellL n (fw m n))) i j v) n) ∧ tellL n (fw (grdM (matOf n (tellL n (fw m n))) i j v) n) = tellL n (fw m n) := by
  have e1 := grd_own (c := matOf n (tellL n (fw m n))) (d := fw m n) (fun p q hp hq => h.mat hp hq) hi hj hv
  have e2 : ∀ p q, p < n → q < n → fw (grdM (matOf n (tellL n (fw m n))) i j v) n p q = fw m n p q := by
    intro p q hp hq
    rw [fw_congr e1 n (Nat.le_refl n) p q hp hq]
    exact fw_same (fw_closed h.ok) (by obtain ⟨x, hx⟩ := fw_some.2 h.ok; exact ⟨x, (fw_pt (Nat.le_refl n)).2 hx⟩) hp hq
  exact ⟨fun k hk => by rw [e2 k k hk hk]; exact h.ok k hk, tellL_congr e2⟩
/-- What Bounds tells of a closed square. -/
theorem tellI_near {n : Nat} {m : Mat} (h : CloNear n m) {i j : Nat} (hi : i < n) (hj : j < n) : tellI (encM (fw m n) i j) = ceOf (fw m n i j) := by
  unfold encM
  rw [tell_enc]
  exact tell_near fun v hv => by have := h.small i j hi hj v hv; omega
/-- The interval of a variable in a closed square that has a point. -/
theorem box_iv {n : Nat} {m : Mat} (h : CloNear n m) {x : Nat} (hx : x < n) {y : Nat → Int} (hy : Pt n (fw m n) y) (h0 : y 0 = 0) :
    ∃ (d u : Bool) (lo hi : Int), spanV (encM (fw m n) x 0) (encM (fw m n) 0 x) = (.agg #[.bool d, .bool u, .int .i64 lo, .int .i64 hi]) ∧ IvOk d u lo hi ∧ (d = false → lo ≤ y x ∧ fw m n x 0 = some (-lo)) ∧ (u = false → y x ≤ hi ∧ fw m n 0 x = some hi) := by
  have hn0 : 0 < n := by omega
  have a1 := hy x 0 hx hn0
  have a2 := hy 0 x hn0 hx
  have b1 := h.small x 0 hx hn0
  have b2 := h.small 0 x hn0 hx
  unfold spanV
  rw [tellI_near h hx hn0, tellI_near h hn0 hx]
  generalize fw m n x 0 = p at *
  generalize fw m n 0 x = q at *
  cases p with
  | none =>
    cases q with
    | none => exact ⟨true, true, 0, 0, rfl, ⟨by simp, by simp, by simp, by simp, by simp⟩, by simp, by simp⟩
    | some v =>
      have c2 := b2 v rfl
      simp only [okB] at a2
      exact ⟨true, false, 0, v, rfl, ⟨by simp, by simp, by simp, by simp, by omega⟩, by simp, fun _ => ⟨by omega, rfl⟩⟩
  | some u =>
    have c1 := b1 u rfl
    simp only [okB] at a1
    cases q with
    | none => exact ⟨false, true, -u, 0, rfl, ⟨by simp, by simp, by simp, by omega, by simp⟩, fun _ => ⟨by omega, by simp⟩, by simp⟩
    | some v =>
      have c2 := b2 v rfl
      simp only [okB] at a2
      exact ⟨false, false, -u, v, rfl, ⟨by simp, by simp, fun _ _ => by omega, by omega, by omega⟩, fun _ => ⟨by omega, by simp⟩, fun _ => ⟨by omega, rfl⟩⟩
/-- A closed zone guarded by a bound of its own. -/
theorem guard_own (N i j v : Int) (n len : Nat) (m : Mat) (h : CloNear n m) (hN : N + 1 = n) (hll : len = n * n) (hi : 0 ≤ i ∧ i ≤ N) (hj : 0 ≤ j ∧ j ≤ N) (hv : fw m n i.toNat j.toNat = some v) (z : Option Addr) (cz : Nat) (a : Nat → Addr) (W : World) (hS : ErrS W a) (hA : CsAt W z (tellL n (fw m n))) :
    Calls Tryd.prog 35 #[(.agg #[.int .i64 N, (.slice z len cz)]), .int .i64 i, .int .i64 j, .int .i64 v] W fun e w' => ∃ g cp, e = .returned (.tuple #[(.agg #[.int .i64 N, (.slice (some ⟨g, 0, none⟩) len cp)]), .bool true, .nilIface]) ∧ W.heap.size ≤ g ∧ RowC w' g 0 (tellL n (fw m n)) ∧ Below W.heap.size W w' := by
  have hlen : len ≤ 25 := by
    have := Nat.mul_le_mul h.hn.2 h.hn.2
    omega
  have hi' : i.toNat < n := by omega
  have hj' : j.toNat < n := by omega
  have hb := box_own h hi' hj' hv
  have hs := h.small _ _ hi' hj' v hv
  have h0 : guErr N (tellL n (fw m n)) i j v = 0 := by
    unfold guErr
    rw [firstE_0, firstE_0, firstE_0, firstE_0]
    refine ⟨tell_right hN h.hn _, ?_, ?_, ?_, rfl⟩
    · unfold varErr; rw [if_neg (by omega)]
    · unfold varErr; rw [if_neg (by omega)]
    · unfold numErr; rw [not_far (by omega)]; rfl
  refine (guard_any N i j v z cz len (tellL n (fw m n)) a W hS hA (by show _ = _; rw [tellL_len]; exact hll) (by omega)).mono ?_
  rw [nOf_is hN]
  rintro e w' ⟨hbl, k | k | ⟨_, _, g, cp, k, hg, hR⟩⟩
  · exact absurd h0 k.1
  · exact absurd hb.1 k.2.1
  · rw [hb.2] at hR
    exact ⟨g, cp, k, hg, hR, hbl⟩
end Go.Proofs.YthnjnieocjpjiaaDoor
