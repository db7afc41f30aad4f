/- The octagon of a zone: its points are the zone's: plain facts. -/
import Derived.Test.YtbafkjhlogkllaaGreatDoorO1
import Derived.Test.YtbafkjhlogkllaaGreatDoorYa
import Derived.Test.YtbafkjhlogkllaaGreatDoorYi
import Derived.Test.YtbafkjhlogkllaaGreatDoorObO
import Derived.Test.YtbafkjhlogkllaaGreatDoorYj
import Derived.Laws.EntriesVeiled
import Derived.Test.YtbafkjhlogkllaaGreatDoorYjO
import Derived.Test.YtbafkjhlogkllaaGreatDoorOkO
import Derived.Deep.CutBlock
import Derived.Deep.Cut
import Derived.Deep.DeepCutAuto
import Derived.BigQuiet
import Derived.Test.YtbafkjhlogkllaaGreatDoorYv
import Derived.Test.YtbafkjhlogkllaaGreatDoorYvO
import Derived.Test.YtbafkjhlogkllaaGreatDoorYsO
import Derived.Test.YtbafkjhlogkllaaGreatDoorOoO
import Derived.Test.YtbafkjhlogkllaaGreatDoorZqO
import Derived.Test.YtbafkjhlogkllaaGreatDoorZq
import Derived.Test.YtbafkjhlogkllaaGreatDoorZo
namespace Go.Proofs.YtbafkjhlogkllaaGreatDoor
set_option linter.unusedVariables false

def dblB (b : Bd) : Bd := b.map fun v => 2 * v
/-- What a zone says of its variables and their opposites. -/
def zbM (d : Mat) : Mat := fun i j =>
  if i % 2 = 0 ∧ j % 2 = 0 then d (i / 2 + 1) (j / 2 + 1)
  else if i % 2 = 1 ∧ j % 2 = 1 then d (j / 2 + 1) (i / 2 + 1)
  else if i = bar j ∧ j % 2 = 0 then dblB (d 0 (i / 2 + 1))
  else if i = bar j then dblB (d (i / 2 + 1) 0)
  else none
/-- A zone's point of an octagon's, and back. -/
def xOf (y : Nat → Int) (k : Nat) : Int := if k = 0 then 0 else y (2 * (k - 1))
def yOf (x : Nat → Int) (i : Nat) : Int := if i % 2 = 0 then x (i / 2 + 1) - x 0 else x 0 - x (i / 2 + 1)

theorem ok_dbl {v : Int} {b : Bd} : okB (v + v) (dblB b) ↔ okB v b := by
  cases b <;> simp [okB, dblB]; omega
theorem yOf_bar (x : Nat → Int) (i : Nat) : yOf x (bar i) = - yOf x i := by
  unfold yOf bar
  by_cases h : i % 2 = 0
  · rw [if_pos h, if_neg (by omega), if_pos h, show (i + 1) / 2 = i / 2 by omega]; omega
  · rw [if_neg h, if_pos (by omega), if_neg h, show (i - 1) / 2 = i / 2 by omega]; omega
theorem xOf_yOf (x : Nat → Int) (k : Nat) : xOf (yOf x) k = x k - x 0 := by
  unfold xOf yOf
  by_cases h : k = 0
  · subst h; simp
  · rw [if_neg h, if_pos (by omega), show 2 * (k - 1) / 2 + 1 = k by omega]

theorem bar_ev {i : Nat} (h : i % 2 = 0) : bar i = i + 1 := by unfold bar; rw [if_pos h]
theorem bar_od {i : Nat} (h : i % 2 = 1) : bar i = i - 1 := by unfold bar; rw [if_neg (by omega)]

theorem zb_ee (d : Mat) {i j : Nat} (a : i % 2 = 0) (b : j % 2 = 0) : zbM d i j = d (i / 2 + 1) (j / 2 + 1) := by unfold zbM; rw [if_pos ⟨a, b⟩]
theorem zb_oo (d : Mat) {i j : Nat} (a : i % 2 = 1) (b : j % 2 = 1) : zbM d i j = d (j / 2 + 1) (i / 2 + 1) := by unfold zbM; rw [if_neg (by omega), if_pos ⟨a, b⟩]
theorem zb_eo (d : Mat) {i j : Nat} (a : i % 2 = 0) (b : j % 2 = 1) : zbM d i j = if i + 1 = j then dblB (d (i / 2 + 1) 0) else none := by
  unfold zbM
  rw [if_neg (by omega), if_neg (by omega), if_neg (by omega), bar_od b]
  by_cases c : i + 1 = j
  · rw [if_pos c, if_pos (by omega)]
  · rw [if_neg c, if_neg (by omega)]
theorem zb_oe (d : Mat) {i j : Nat} (a : i % 2 = 1) (b : j % 2 = 0) : zbM d i j = if i = j + 1 then dblB (d 0 (i / 2 + 1)) else none := by
  unfold zbM
  rw [if_neg (by omega), if_neg (by omega), bar_ev b]
  by_cases c : i = j + 1
  · rw [if_pos ⟨c, b⟩, if_pos c]
  · rw [if_neg (by omega), if_neg c, if_neg c]
theorem zb_coh (n : Nat) (d : Mat) : Coh n (zbM d) := by
  intro i j hi hj
  rcases Nat.mod_two_eq_zero_or_one i with a | a <;> rcases Nat.mod_two_eq_zero_or_one j with b | b
  · rw [bar_ev a, bar_ev b, zb_ee d a b, zb_oo d (by omega) (by omega), show (i + 1) / 2 = i / 2 by omega, show (j + 1) / 2 = j / 2 by omega]
  · rw [bar_ev a, bar_od b, zb_eo d a b, zb_eo d (by omega) (by omega)]
    by_cases c : i + 1 = j
    · rw [if_pos c, if_pos (by omega), show (j - 1) / 2 = i / 2 by omega]
    · rw [if_neg c, if_neg (by omega)]
  · rw [bar_od a, bar_ev b, zb_oe d a b, zb_oe d (by omega) (by omega)]
    by_cases c : i = j + 1
    · rw [if_pos c, if_pos (by omega), show (j + 1) / 2 = i / 2 by omega]
    · rw [if_neg c, if_neg (by omega)]
  · rw [bar_od a, bar_od b, zb_oo d a b, zb_ee d (by omega) (by omega), show (i - 1) / 2 = i / 2 by omega, show (j - 1) / 2 = j / 2 by omega]

/-- Its points, by the bounds of the zone. -/
def ZonP (N : Nat) (d : Mat) (y : Nat → Int) : Prop := ∀ i j, i ≤ N → j ≤ N → ¬ (i = 0 ∧ j = 0) → okB (xOf y j - xOf y i) (d i j)
theorem xOf_succ (y : Nat → Int) (k : Nat) : xOf y (k + 1) = y (2 * k) := by unfold xOf; rw [if_neg (by omega)]; rfl
theorem xOf_zero (y : Nat → Int) : xOf y 0 = 0 := by unfold xOf; rw [if_pos rfl]
theorem y_even {y : Nat → Int} {i : Nat} (h : i % 2 = 0) : y i = xOf y (i / 2 + 1) := by rw [xOf_succ, show 2 * (i / 2) = i by omega]
theorem y_odd {y : Nat → Int} (hs : ∀ i, y (bar i) = - y i) {i : Nat} (h : i % 2 = 1) : y i = - xOf y (i / 2 + 1) := by
  have := hs (2 * (i / 2))
  rw [bar_ev (by omega), show 2 * (i / 2) + 1 = i by omega] at this
  rw [xOf_succ, this]
theorem zb_pt {N : Nat} {d : Mat} {y : Nat → Int} (hs : ∀ i, y (bar i) = - y i) : Pt (2 * N) (zbM d) y ↔ ZonP N d y := by
  constructor
  · intro h i j hi hj h0
    rcases Nat.eq_zero_or_pos i with a | a <;> rcases Nat.eq_zero_or_pos j with b | b
    · exact absurd ⟨a, b⟩ h0
    · subst a
      have k := h (2 * (j - 1) + 1) (2 * (j - 1)) (by omega) (by omega)
      rw [zb_oe d (by omega) (by omega), if_pos (by omega), show (2 * (j - 1) + 1) / 2 + 1 = j by omega] at k
      have e := y_odd hs (i := 2 * (j - 1) + 1) (by omega)
      have e2 := y_even (y := y) (i := 2 * (j - 1)) (by omega)
      rw [show (2 * (j - 1) + 1) / 2 + 1 = j by omega] at e
      rw [show 2 * (j - 1) / 2 + 1 = j by omega] at e2
      rw [e, e2, show xOf y j - -xOf y j = xOf y j + xOf y j by omega, ok_dbl] at k
      rw [xOf_zero, Int.sub_zero]; exact k
    · subst b
      have k := h (2 * (i - 1)) (2 * (i - 1) + 1) (by omega) (by omega)
      rw [zb_eo d (by omega) (by omega), if_pos (by omega), show (2 * (i - 1)) / 2 + 1 = i by omega] at k
      have e := y_odd hs (i := 2 * (i - 1) + 1) (by omega)
      have e2 := y_even (y := y) (i := 2 * (i - 1)) (by omega)
      rw [show (2 * (i - 1) + 1) / 2 + 1 = i by omega] at e
      rw [show 2 * (i - 1) / 2 + 1 = i by omega] at e2
      rw [e, e2, show -xOf y i - xOf y i = -xOf y i + -xOf y i by omega, ok_dbl] at k
      rw [xOf_zero, Int.zero_sub]; exact k
    · have k := h (2 * (i - 1)) (2 * (j - 1)) (by omega) (by omega)
      rw [zb_ee d (by omega) (by omega), show (2 * (i - 1)) / 2 + 1 = i by omega, show (2 * (j - 1)) / 2 + 1 = j by omega] at k
      rw [y_even (y := y) (i := 2 * (i - 1)) (by omega), y_even (y := y) (i := 2 * (j - 1)) (by omega), show (2 * (i - 1)) / 2 + 1 = i by omega, show (2 * (j - 1)) / 2 + 1 = j by omega] at k
      exact k
  · intro h i j hi hj
    rcases Nat.mod_two_eq_zero_or_one i with a | a <;> rcases Nat.mod_two_eq_zero_or_one j with b | b
    · rw [zb_ee d a b, y_even (y := y) a, y_even (y := y) b]
      exact h _ _ (by omega) (by omega) (by omega)
    · rw [zb_eo d a b]
      by_cases c : i + 1 = j
      · rw [if_pos c, y_even (y := y) a, y_odd hs b]
        rw [show j / 2 = i / 2 by omega]
        have k := h (i / 2 + 1) 0 (by omega) (by omega) (by omega)
        rw [xOf_zero, Int.zero_sub] at k
        rw [show ∀ u : Int, -u - u = -u + -u by omega, ok_dbl]; exact k
      · rw [if_neg c]; trivial
    · rw [zb_oe d a b]
      by_cases c : i = j + 1
      · rw [if_pos c, y_even (y := y) b, y_odd hs a]
        rw [show j / 2 = i / 2 by omega]
        have k := h 0 (i / 2 + 1) (by omega) (by omega) (by omega)
        rw [xOf_zero, Int.sub_zero] at k
        rw [show ∀ u : Int, u - -u = u + u by omega, ok_dbl]; exact k
      · rw [if_neg c]; trivial
    · rw [zb_oo d a b, y_odd hs a, y_odd hs b]
      have k := h (j / 2 + 1) (i / 2 + 1) (by omega) (by omega) (by omega)
      rw [show ∀ u v : Int, -v - -u = u - v by omega]
      exact k

/-- Nothing is said below 0 of a variable and itself. -/
def NoRound (N : Nat) (d : Mat) : Prop := ∀ i, i ≤ N → okB 0 (d i i)
/-- The bounds between unlike variables of those pairs alone. -/
def ZonS (N : Nat) (d : Mat) (S : Nat → Nat → Prop) (y : Nat → Int) : Prop := ∀ i j, i ≤ N → j ≤ N → i ≠ j → S i j → okB (xOf y j - xOf y i) (d i j)
theorem zon_all {N : Nat} {d : Mat} (hR : NoRound N d) {y : Nat → Int} : ZonP N d y ↔ ZonS N d (fun _ _ => True) y := by
  constructor
  · intro h i j hi hj hne _
    exact h i j hi hj (by omega)
  · intro h i j hi hj _
    by_cases e : i = j
    · subst e; rw [Int.sub_self]; exact hR i hi
    · exact h i j hi hj e trivial
theorem zon_pt {N : Nat} {d : Mat} {y : Nat → Int} : Pt (N + 1) d (xOf y) ↔ ZonP N d y ∧ okB 0 (d 0 0) := by
  constructor
  · intro h
    refine ⟨fun i j hi hj _ => h i j (by omega) (by omega), ?_⟩
    have := h 0 0 (by omega) (by omega)
    rw [Int.sub_self] at this; exact this
  · rintro ⟨h, k⟩ i j hi hj
    by_cases e : i = 0 ∧ j = 0
    · obtain ⟨rfl, rfl⟩ := e; rw [Int.sub_self]; exact k
    · exact h i j (by omega) (by omega) e
theorem pt_round {N : Nat} {d : Mat} {x : Nat → Int} (h : Pt (N + 1) d x) : NoRound N d := fun i hi => by
  have := h i i (by omega) (by omega)
  rw [Int.sub_self] at this; exact this
theorem pt_shift {n : Nat} {d : Mat} {x : Nat → Int} {c : Int} : Pt n d (fun i => x i - c) ↔ Pt n d x := by
  constructor
  · intro h i j hi hj
    have := h i j hi hj
    rw [show x j - c - (x i - c) = x j - x i by omega] at this; exact this
  · intro h i j hi hj
    show okB (x j - c - (x i - c)) _
    rw [show x j - c - (x i - c) = x j - x i by omega]; exact h i j hi hj
theorem pt_yOf {N : Nat} {d : Mat} {x : Nat → Int} (h : Pt (N + 1) d x) : OPt (2 * N) (zbM d) (yOf x) := by
  refine ⟨(zb_pt (yOf_bar x)).2 ?_, yOf_bar x⟩
  refine (zon_pt.1 ?_).1
  have e : xOf (yOf x) = fun i => x i - x 0 := by funext i; exact xOf_yOf x i
  rw [e]; exact pt_shift.2 h

/-- The reference's square m has the points of the bounds between unlike variables: it is the program's, where nothing goes round below 0. -/
theorem zone_oct {N : Nat} {d m : Mat} (hm : Coh (2 * N) m) (h : ∀ y, (∀ i, y (bar i) = - y i) → (Pt (2 * N) m y ↔ ZonS N d (fun _ _ => True) y)) :
    (NoNeg (N + 1) (fw d (N + 1)) ∧ NoNeg (2 * N) (tg (2 * N) (zbM d)) ↔ NoRound N d ∧ NoNeg (2 * N) (tg (2 * N) m)) ∧
    (NoRound N d → NoNeg (2 * N) (tg (2 * N) m) → ∀ i j, i < 2 * N → j < 2 * N → tg (2 * N) (zbM d) i j = tg (2 * N) m i j) ∧
    (NoNeg (N + 1) (fw d (N + 1)) → NoNeg (2 * N) (tg (2 * N) (zbM d))) := by
  have he : 2 * N % 2 = 0 := by omega
  have hz := zb_coh (2 * N) d
  have same : NoRound N d → ∀ y, OPt (2 * N) m y ↔ OPt (2 * N) (zbM d) y := by
    intro hR y
    constructor
    · rintro ⟨a, b⟩; exact ⟨(zb_pt b).2 ((zon_all hR).2 ((h y b).1 a)), b⟩
    · rintro ⟨a, b⟩; exact ⟨(h y b).2 ((zon_all hR).1 ((zb_pt b).1 a)), b⟩
  refine ⟨⟨?_, ?_⟩, ?_, ?_⟩
  · rintro ⟨a, b⟩
    obtain ⟨x, hx⟩ := fw_some.2 a
    have hR := pt_round hx
    exact ⟨hR, (tg_some he hm).1 ⟨_, (same hR _).2 (pt_yOf hx)⟩⟩
  · rintro ⟨hR, b⟩
    obtain ⟨y, hy⟩ := (tg_some he hm).2 b
    have hy2 := (same hR y).1 hy
    refine ⟨fw_some.1 ⟨xOf y, zon_pt.2 ⟨(zb_pt hy2.2).1 hy2.1, hR 0 (by omega)⟩⟩, (tg_some he hz).1 ⟨y, hy2⟩⟩
  · intro hR hN i j hi hj
    have hz2 : NoNeg (2 * N) (tg (2 * N) (zbM d)) := by
      obtain ⟨y, hy⟩ := (tg_some he hm).2 hN
      exact (tg_some he hz).1 ⟨y, (same hR y).1 hy⟩
    exact (tg_tight he hz hz2).unique (tg_tight he hm hN) (fun y => by rw [tg_pt he, tg_pt he]; exact (same hR y).symm) hi hj
  · intro a
    obtain ⟨x, hx⟩ := fw_some.2 a
    exact (tg_some he hz).1 ⟨_, pt_yOf hx⟩
/-- It has a point just if the zone has. -/
theorem zone_oct_has {N : Nat} {d : Mat} {y : Nat → Int} (hs : ∀ i, y (bar i) = - y i) (h0 : okB 0 (d 0 0)) : Pt (2 * N) (tg (2 * N) (zbM d)) y ↔ Pt (N + 1) d (xOf y) := by
  have he : 2 * N % 2 = 0 := by omega
  have key := tg_pt he (c := zbM d) (x := y)
  rw [zon_pt]
  constructor
  · intro h
    exact ⟨(zb_pt hs).1 (key.1 ⟨h, hs⟩).1, h0⟩
  · intro h
    exact (key.2 ⟨(zb_pt hs).2 h.1, hs⟩).1
theorem sz_zb {N m : Nat} {d : Mat} (h : Sz (N + 1) m d) : Sz (2 * N) (2 * m) (zbM d) := by
  intro i j hi hj v hv
  have dbl : ∀ p q, p ≤ N → q ≤ N → dblB (d p q) = some v → v.natAbs ≤ 2 * m := by
    intro p q hp hq e
    cases k : d p q with
    | none => rw [k] at e; simp [dblB] at e
    | some u =>
      rw [k] at e
      simp [dblB] at e
      have := h p q (by omega) (by omega) u k
      omega
  unfold zbM at hv
  split at hv
  · have := h _ _ (by omega) (by omega) v hv; omega
  split at hv
  · have := h _ _ (by omega) (by omega) v hv; omega
  split at hv
  · exact dbl _ _ (by omega) (by omega) hv
  split at hv
  · exact dbl _ _ (by omega) (by omega) hv
  · simp at hv
end Go.Proofs.YtbafkjhlogkllaaGreatDoor

/- The octagon of a zone: the bounds (octagon.zoneBounds). -/
namespace Go.Proofs.YtbafkjhlogkllaaGreatDoor
open Go.RowKit
set_option linter.unusedVariables false

/-- A bound so often, as the program writes it. -/
def mostI (t : Int) (b : Bd) : Int := encB (b.map fun v => t * v)
theorem most_1 (b : Bd) : mostI 1 b = encB b := by cases b <;> simp [mostI]
theorem most_2 (b : Bd) : mostI 2 b = encB (dblB b) := rfl

set_option maxRecDepth 20000 in
set_option maxHeartbeats 2000000 in
theorem most_one (Ni t : Int) (n b off c len bz row col : Nat) (l : List Ce) (W : World) (R : RowC W b off l) (h0 : W.cell? ⟨bz, 0, none⟩ = some (.int .i64 Ni)) (h1 : W.cell? ⟨bz, 1, none⟩ = some (.slice (some ⟨b, off, none⟩) len c)) (hl : Hid (len = l.length)) (hll : Hid (len = n * n)) (hn : n ≤ 5) (hN : Ni + 1 = n) (hi : row < n) (hj : col < n) (ht : t = 1 ∨ t = 2) (hm : Hid (∀ i, i < l.length → (l.getD i ceZ).m.natAbs ≤ 1099511627776)) :
    Calls Tryz.prog 45 #[.int .i64 row, .int .i64 col, .int .i64 t, .pointer (some ⟨bz, 0, none⟩)] W fun e w' => e = .returned (.int .i64 (mostI t (matOf n l row col))) ∧ Below W.heap.size W w' := by
  obtain ⟨ik, hik⟩ : ∃ m : Nat, m = row * n := ⟨_, rfl⟩
  obtain ⟨x1, hx1⟩ : ∃ m : Nat, m = ik + col := ⟨_, rfl⟩
  have a1 : (row : Int) * (n : Int) = (ik : Int) := by rw [hik, Int.natCast_mul]
  have a3 : (ik : Int) + (col : Int) = (x1 : Int) := by omega
  have b1 : x1 < len := by rw [hll.out, hx1, hik]; exact idx_in hi hj
  have b2 : len ≤ 25 := by
    have := Nat.mul_le_mul hn hn
    have := hll.out
    omega
  have b4 : (x1 : Int) < (len : Int) := by omega
  obtain ⟨⟨ch, cm⟩, hc⟩ : ∃ C, C = l.getD x1 ceZ := ⟨_, rfl⟩
  have hxl : x1 < l.length := by rw [← hl.out]; exact b1
  have c1 : W.cell? ⟨b, off + x1 * 2, none⟩ = some (.bool ch) := by have := R.has x1 hxl; rw [← hc] at this; exact this
  have c2 : W.cell? ⟨b, off + x1 * 2 + 1, none⟩ = some (.int .i64 cm) := by have := R.most x1 hxl; rw [← hc] at this; exact this
  have hcm : -1099511627776 ≤ cm ∧ cm ≤ 1099511627776 := by
    have := hm.out x1 hxl
    rw [← hc] at this
    have : cm.natAbs ≤ 1099511627776 := this
    omega
  have hbl := R.lt
  obtain ⟨z, hz⟩ : ∃ z, z = mostI t (matOf n l row col) := ⟨_, rfl⟩
  rw [← hz]
  have Hz : Hid (z = if ch = true then t * cm else 9223372036854775807) := by
    show _ = _
    rw [hz]
    show mostI t ((l.getD (row * n + col) ceZ).bd) = _
    rw [← hik, ← hx1, ← hc]
    cases ch <;> rfl
  have hrow : (row : Int) ≤ 5 := by omega
  have hnn : (n : Int) ≤ 5 := by omega
  clear hz hl hll hik hx1 hc R hm
  rcases ht with rfl | rfl
  all_goals
    cases ch
    all_goals
      go_enter Tryz.func45, Tryz.ntmps45
      go_wp2_with fail
      go_ret
      exact ⟨ret_int (by rw [Hz.out]; first | rfl | (simp; done) | (simp; omega)), (Below.refl _ _).alloc (Nat.le_refl _) _⟩

theorem enters_zb : Enters 47 := enters_of Tryz.func47 (by kernel_rfl) rfl

set_option maxRecDepth 20000 in
set_option maxHeartbeats 4000000 in
theorem zb_asks (Ni : Int) (k n b off c len bz bf : Nat) (l : List Ce) (w : World) (s : St w w (RZ b off l) ((bf, 0, (Value.func (.func 45) #[] #[.pointer (some ⟨bz, 0, none⟩)])) :: (bz, 0, Value.int .i64 Ni) :: (bz, 1, Value.slice (some ⟨b, off, none⟩) len c) :: [])) (hl : Hid (len = l.length)) (hll : Hid (len = n * n)) (hn : n ≤ 5) (hk : k + 1 = n) (hN : Ni + 1 = n) (hm : Hid (∀ i, i < l.length → (l.getD i ceZ).m.natAbs ≤ 1099511627776)) :
    Asks 47 #[.pointer (some ⟨bf, 0, none⟩)] w (2 * k) (encM (zbM (matOf n l))) := by
  intro W i j hb hi hj
  have sW := (s.call hb).re
  have q0 := sW.hold
  simp only [Holds, and_true] at q0
  have HM : Hid (∀ (W : World) (r cl : Nat) (t rv cv : Int), rv = r → cv = cl → r < n → cl < n → (t = 1 ∨ t = 2) → RowC W b off l → W.cell? ⟨bz, 0, none⟩ = some (.int .i64 Ni) → W.cell? ⟨bz, 1, none⟩ = some (.slice (some ⟨b, off, none⟩) len c) → Calls Tryz.prog 45 #[.int .i64 rv, .int .i64 cv, .int .i64 t, .pointer (some ⟨bz, 0, none⟩)] W fun e w' => e = .returned (.int .i64 (mostI t (matOf n l r cl))) ∧ Below W.heap.size W w') := by
    intro W r cl t rv cv e1 e2 h1 h2 h3 h4 h5 h6
    subst e1 e2
    exact most_one Ni t n b off c len bz r cl l W h4 h5 h6 hl hll hn hN h1 h2 h3 hm
  have HO : Hid (∀ W : World, Calls Tryz.prog 48 #[.int .i64 j] W fun e w' => e = .returned (.int .i64 (bar j)) ∧ w' = W) := fun W => Oc.opposite_any j (by omega) W
  obtain ⟨ai, hai⟩ : ∃ a, a = i / 2 := ⟨_, rfl⟩
  obtain ⟨aj, haj⟩ : ∃ a, a = j / 2 := ⟨_, rfl⟩
  have e1 : (i : Int) / 2 = (ai : Int) := by omega
  have e2 : (j : Int) / 2 = (aj : Int) := by omega
  have ai4 : ai < k := by omega
  have aj4 : aj < k := by omega
  have hi8 : i ≤ 8 := by omega
  have hj8 : j ≤ 8 := by omega
  obtain ⟨z, hz⟩ : ∃ z, z = encM (zbM (matOf n l)) i j := ⟨_, rfl⟩
  show Calls _ _ #[.int .i64 i, .int .i64 j, .pointer (some ⟨bf, 0, none⟩)] _ fun e w' => e = .returned (.int .i64 (encM (zbM (matOf n l)) i j)) ∧ _
  rw [← hz]
  obtain ⟨bj, hbj⟩ : ∃ x, x = bar j := ⟨_, rfl⟩
  rw [← hbj] at HO
  have hR : RowC W b off l := sW.sent
  rcases Nat.mod_two_eq_zero_or_one i with hI | hI <;> rcases Nat.mod_two_eq_zero_or_one j with hJ | hJ
  · have h1 : (i : Int) % 2 = 0 := by omega
    have h2 : (j : Int) % 2 = 0 := by omega
    have Hz : Hid (z = mostI 1 (matOf n l (ai + 1) (aj + 1))) := by show _ = _; rw [hz, most_1, hai, haj]; show encB _ = _; rw [zb_ee _ hI hJ]
    clear hz hbj hai haj hI hJ s hb hl hll hm
    go_enter Tryz.func47, Tryz.ntmps47
    go_wp2_with fail
    refine (HM.out _ (ai + 1) (aj + 1) 1 _ _ (by first | rfl | omega) (by first | rfl | omega) (by omega) (by omega) (.inl rfl) hR q0.2.1.1 q0.2.2.1).mono ?_
    (rintro e w1 ⟨rfl, hb1⟩; go_wp2_with fail; go_ret; exact ⟨ret_int Hz.out.symm, hb1⟩)
  · have h1 : (i : Int) % 2 = 0 := by omega
    have h2 : (j : Int) % 2 = 1 := by omega
    by_cases hc : i + 1 = j
    · have h3 : (i : Int) = (bj : Int) := by rw [hbj, bar_od hJ]; omega
      have Hz : Hid (z = mostI 2 (matOf n l (ai + 1) 0)) := by show _ = _; rw [hz, most_2, hai]; show encB _ = _; rw [zb_eo _ hI hJ, if_pos hc]
      clear hz hbj hai haj hI hJ s hb hl hll hm hc
      go_enter Tryz.func47, Tryz.ntmps47
      go_wp2_with fail
      (refine (HO.out _).mono ?_; rintro e w1 ⟨rfl, hw1⟩; rw [hw1]; clear hw1 w1; go_wp2_with fail)
      (refine (HO.out _).mono ?_; rintro e w1 ⟨rfl, hw1⟩; rw [hw1]; clear hw1 w1; go_wp2_with fail)
      refine (HM.out _ (ai + 1) 0 2 _ _ (by first | rfl | omega) (by first | rfl | omega) (by omega) (by omega) (.inr rfl) hR q0.2.1.1 q0.2.2.1).mono ?_
      (rintro e w1 ⟨rfl, hb1⟩; go_wp2_with fail; go_ret; exact ⟨ret_int Hz.out.symm, hb1⟩)
    · have h3 : ¬ (i : Int) = (bj : Int) := by rw [hbj, bar_od hJ]; omega
      have Hz : Hid (z = 9223372036854775807) := by show _ = _; rw [hz]; show encB _ = _; rw [zb_eo _ hI hJ, if_neg hc]; rfl
      clear hz hbj hai haj hI hJ s hb hl hll hm hc
      go_enter Tryz.func47, Tryz.ntmps47
      go_wp2_with fail
      (refine (HO.out _).mono ?_; rintro e w1 ⟨rfl, hw1⟩; rw [hw1]; clear hw1 w1; go_wp2_with fail)
      (refine (HO.out _).mono ?_; rintro e w1 ⟨rfl, hw1⟩; rw [hw1]; clear hw1 w1; go_wp2_with fail)
      go_ret
      exact ⟨ret_int Hz.out.symm, Below.refl _ _⟩
  · have h1 : (i : Int) % 2 = 1 := by omega
    have h2 : (j : Int) % 2 = 0 := by omega
    by_cases hc : i = j + 1
    · have h3 : (i : Int) = (bj : Int) := by rw [hbj, bar_ev hJ]; omega
      have Hz : Hid (z = mostI 2 (matOf n l 0 (ai + 1))) := by show _ = _; rw [hz, most_2, hai]; show encB _ = _; rw [zb_oe _ hI hJ, if_pos hc]
      clear hz hbj hai haj hI hJ s hb hl hll hm hc
      go_enter Tryz.func47, Tryz.ntmps47
      go_wp2_with fail
      (refine (HO.out _).mono ?_; rintro e w1 ⟨rfl, hw1⟩; rw [hw1]; clear hw1 w1; go_wp2_with fail)
      refine (HM.out _ 0 (ai + 1) 2 _ _ (by first | rfl | omega) (by first | rfl | omega) (by omega) (by omega) (.inr rfl) hR q0.2.1.1 q0.2.2.1).mono ?_
      (rintro e w1 ⟨rfl, hb1⟩; go_wp2_with fail; go_ret; exact ⟨ret_int Hz.out.symm, hb1⟩)
    · have h3 : ¬ (i : Int) = (bj : Int) := by rw [hbj, bar_ev hJ]; omega
      have Hz : Hid (z = 9223372036854775807) := by show _ = _; rw [hz]; show encB _ = _; rw [zb_oe _ hI hJ, if_neg hc]; rfl
      clear hz hbj hai haj hI hJ s hb hl hll hm hc
      go_enter Tryz.func47, Tryz.ntmps47
      go_wp2_with fail
      (refine (HO.out _).mono ?_; rintro e w1 ⟨rfl, hw1⟩; rw [hw1]; clear hw1 w1; go_wp2_with fail)
      (refine (HO.out _).mono ?_; rintro e w1 ⟨rfl, hw1⟩; rw [hw1]; clear hw1 w1; go_wp2_with fail)
      go_ret
      exact ⟨ret_int Hz.out.symm, Below.refl _ _⟩
  · have h1 : (i : Int) % 2 = 1 := by omega
    have h2 : (j : Int) % 2 = 1 := by omega
    have Hz : Hid (z = mostI 1 (matOf n l (aj + 1) (ai + 1))) := by show _ = _; rw [hz, most_1, hai, haj]; show encB _ = _; rw [zb_oo _ hI hJ]
    clear hz hbj hai haj hI hJ s hb hl hll hm
    go_enter Tryz.func47, Tryz.ntmps47
    go_wp2_with fail
    refine (HM.out _ (aj + 1) (ai + 1) 1 _ _ (by first | rfl | omega) (by first | rfl | omega) (by omega) (by omega) (.inl rfl) hR q0.2.1.1 q0.2.2.1).mono ?_
    (rintro e w1 ⟨rfl, hb1⟩; go_wp2_with fail; go_ret; exact ⟨ret_int Hz.out.symm, hb1⟩)

set_option maxRecDepth 20000 in
set_option maxHeartbeats 2000000 in
theorem zoneBounds_any (Ni : Int) (k n b off c len m len2 : Nat) (l : List Ce) (w : World) (hR : RowC w b off l) (hl : Hid (len = l.length)) (hll : Hid (len = n * n)) (hn : n ≤ 5) (hk : k + 1 = n) (hN : Ni + 1 = n) (hm : Hid (∀ i, i < l.length → (l.getD i ceZ).m.natAbs ≤ 1099511627776)) (hm2 : 2 * k = m) (hl2 : Hid (len2 = m * m)) :
    Calls Tryz.prog 22 #[(.agg #[.int .i64 Ni, (.slice (some ⟨b, off, none⟩) len c)])] w fun e w' => GrPost w m len2 (encM (zbM (matOf n l))) e w' := by
  have s0 := (((St.startR hR).box2 37 (.int .i64 Ni) (.slice (some ⟨b, off, none⟩) len c)).box2 62 (.int .i64 0) (.slice none 0 0)).box1 86 (.func (.func 45) #[] #[.pointer (some ⟨w.heap.size, 0, none⟩)])
  simp only [World.size_alloc] at s0
  obtain ⟨F, hF⟩ : ∃ F, F = encM (zbM (matOf n l)) := ⟨_, rfl⟩
  have HO : Hid (∀ W : World, St W W (RZ b off l) [(w.heap.size + 1 + 1, 0, (.func (.func 45) #[] #[.pointer (some ⟨w.heap.size, 0, none⟩)])), (w.heap.size + 1, 0, Value.int .i64 0), (w.heap.size + 1, 1, Value.slice none 0 0), (w.heap.size, 0, Value.int .i64 Ni), (w.heap.size, 1, (.slice (some ⟨b, off, none⟩) len c))] → Calls Tryz.prog 46 #[.int .i64 m, .func (.func 47) #[] #[.pointer (some ⟨w.heap.size + 1 + 1, 0, none⟩)]] W fun e w' => GrPost W m len2 F e w') := by
    intro W h
    rw [hF]
    subst hm2
    refine of_any _ _ (2 * k) len2 _ W hl2 (by omega) enters_zb (zb_asks Ni k n b off c len w.heap.size (w.heap.size + 1 + 1) l W ⟨h.bel, ?_, h.sent, h.cl⟩ hl hll hn hk hN hm)
    have := h.hold
    exact ⟨this.1, this.2.2.2.1, this.2.2.2.2.1, trivial⟩
  rw [← hF]
  have hN4 : 0 ≤ Ni ∧ Ni ≤ 4 := by omega
  have hm3 : 2 * Ni = (m : Int) := by omega
  clear hF hR hl hll hm hm2 hl2 hk hN
  go_enter Tryz.func22, Tryz.ntmps22
  go_wp2_with fail
  refine (HO.out _ s0.re).mono ?_
  rintro e w1 ⟨g1, cp1, rfl, hg1, hG1, hb1⟩
  have s1 := s0.call hb1
  have q1 := s1.hold
  simp only [Holds, and_true] at q1
  simp only [World.size_alloc] at hg1
  clear s0 hb1
  go_wp2_with fail
  refine bodyPost_ret (v := (.agg #[.int .i64 m, (.slice (some ⟨g1, 0, none⟩) len2 cp1)])) (by simp [results, Tryz.results22, go_sem, q1]) rfl ⟨g1, cp1, rfl, by omega, ?_, ?_⟩
  · exact (hG1.other (by show w.heap.size + 1 ≠ g1; omega) _).other (by show w.heap.size + 1 ≠ g1; omega) _
  · iterate 2 refine Below.setCell ?_ (by first | (simp; done) | (simp; omega)) _
    exact s1.bel
end Go.Proofs.YtbafkjhlogkllaaGreatDoor

/- The octagon of a zone (octagon.OfZone). -/
namespace Go.Proofs.YtbafkjhlogkllaaGreatDoor
open Go.RowKit
set_option linter.unusedVariables false

/-- Two that must hold, as one word. -/
def ozOk (k : Nat) (d : Mat) : Prop := NoNeg (k + 1) (fw d (k + 1)) ∧ NoNeg (2 * k) (tg (2 * k) (zbM d))
def ozL (k : Nat) (d : Mat) : List Ce := tellL (2 * k) (tg (2 * k) (zbM d))

set_option maxRecDepth 20000 in
set_option maxHeartbeats 4000000 in
theorem ofZone_any (N : Int) (x : Option Addr) (c len k len2 : Nat) (l : List Ce) (a : Nat → Addr) (w : World) (hS : ErrS w a) (hA : CsAt w x l) (hl : Hid (len = l.length)) (hlen : len ≤ 1000) (hk : Hid (k = N.toNat)) (hl2 : Hid (len2 = (2 * k) * (2 * k))) :
    Calls Tryz.prog 6 #[(.agg #[.int .i64 N, (.slice x len c)])] w fun e w' => ZrPost w a (zErr N l) N len2 (ozOk k (matOf (k + 1) l)) (ozL k (matOf (k + 1) l)) e w' := by
  have s0 := ((St.startEC hS hA).box2 37 (.int .i64 N) (.slice x len c)).box2 30 (.int .i64 0) (.slice none 0 0)
  simp only [World.size_alloc] at s0
  have q0 := s0.hold
  simp only [Holds, and_true] at q0
  have HC : Hid (∀ W : World, ErrS W a → CsAt W x l → Calls Tryz.prog 20 #[(.agg #[.int .i64 N, (.slice x len c)])] W fun e w' => ZrPost W a (zErr N l) N len (NoNeg (nOf N) (fw (matOf (nOf N) l) (nOf N))) (tellL (nOf N) (fw (matOf (nOf N) l) (nOf N))) e w') := fun W h1 h2 => close_any N x c len l a W h1 h2 hl hlen
  by_cases hz : zErr N l = 0
  · obtain ⟨z1, z2, z3, z4, z5, z6⟩ := zErr_0 hz
    obtain ⟨n, hn⟩ : ∃ n, n = nOf N := ⟨_, rfl⟩
    rw [← hn] at z1 z2 z3 z4 HC
    have hkn : k + 1 = n := by have := hk.out; omega
    have hll : Hid (len = n * n) := by show _ = _; rw [hl.out]; exact z4
    obtain ⟨m, hm⟩ : ∃ m, m = 2 * k := ⟨_, rfl⟩
    have hlm : Hid (len2 = m * m) := by show _ = _; rw [hm]; exact hl2.out
    have HB : Hid (∀ W : World, CsAt W x l → Calls Tryz.prog 22 #[(.agg #[.int .i64 N, (.slice x len c)])] W fun e w' => GrPost W m len2 (encM (zbM (matOf n l))) e w') := by
      intro W h
      obtain ⟨b, off, rfl, hR⟩ := h.rowOf (by rw [z4]; exact Nat.mul_le_mul z2 z2)
      exact zoneBounds_any N k n b off c len m len2 l W hR hl hll z3 hkn z1 z6 hm.symm hlm
    have hsz : Sz m 2199023255552 (zbM (matOf n l)) := by
      rw [hm]
      have := sz_zb (N := k) (m := 1099511627776) (d := matOf n l) (by rw [hkn]; exact sz_mat z4 z6)
      exact this
    have HT : Hid (∀ (W : World) (g cp : Nat), GrI W g m (encM (zbM (matOf n l))) → Calls Tryz.prog 21 #[(.agg #[.int .i64 m, (.slice (some ⟨g, 0, none⟩) len2 cp)])] W fun e w' => Oc.ZaPost W N len2 (NoNeg m (tg m (zbM (matOf n l)))) (ozL k (matOf n l)) e w') := by
      intro W g cp h
      have := Oc.tellClosed_any N m g cp len2 2199023255552 (zbM (matOf n l)) W h hlm ⟨by omega, by omega⟩ (by omega) hsz (by omega)
      unfold ozL
      rw [← hm]
      exact this
    have Hok : Hid (ozOk k (matOf (k + 1) l) ↔ NoNeg n (fw (matOf n l) n) ∧ NoNeg m (tg m (zbM (matOf n l)))) := by
      show _ ↔ _
      unfold ozOk
      rw [hkn, hm]
    rw [hkn] at Hok ⊢
    obtain ⟨OK, hOK⟩ : ∃ P, P = ozOk k (matOf n l) := ⟨_, rfl⟩
    obtain ⟨o1, ho1⟩ : ∃ P, P = NoNeg n (fw (matOf n l) n) := ⟨_, rfl⟩
    obtain ⟨o2, ho2⟩ : ∃ P, P = NoNeg m (tg m (zbM (matOf n l))) := ⟨_, rfl⟩
    obtain ⟨L1, hL1⟩ : ∃ P, P = tellL n (fw (matOf n l) n) := ⟨_, rfl⟩
    obtain ⟨L2, hL2⟩ : ∃ P, P = ozL k (matOf n l) := ⟨_, rfl⟩
    obtain ⟨f, hf⟩ : ∃ f, f = encM (zbM (matOf n l)) := ⟨_, rfl⟩
    rw [← ho1, ← ho2, ← hOK] at Hok
    rw [← hOK, ← hL2, hz]
    rw [hz, ← ho1, ← hL1] at HC
    rw [← hf, ← ho2, ← hL2] at HT
    rw [← hf] at HB
    clear hOK ho1 ho2 hL1 hL2 hf hsz hlm hm hll hkn hz z1 z2 z3 z4 z5 z6 hn hl2 hk hl hA hS
    go_enter Tryz.func6, Tryz.ntmps6
    go_wp2_with fail
    refine (HC.out _ s0.sent.1 s0.sent.2).mono ?_
    rintro e w1 ⟨hb1, h1⟩
    have s1 := s0.call hb1
    have q1 := s1.hold
    simp only [Holds, and_true] at q1
    clear s0 hb1 q0
    rcases h1 with ⟨h, _⟩ | ⟨_, hno, rfl⟩ | ⟨_, hyes, g1, cp1, rfl, hg1, hR1⟩
    · exact absurd rfl h
    · go_wp2_with fail
      refine bodyPost_ret (v := .tuple #[(.agg #[.int .i64 0, .slice none 0 0]), .bool false, .nilIface]) (by simp [results, Tryz.results6, go_sem, q1]) rfl ⟨?_, .inr (.inl ⟨rfl, fun h => hno (Hok.out.1 h).1, rfl⟩)⟩
      repeat' (first | exact s1.bel | refine Below.setCell ?_ (by first | (simp; done) | (simp; omega)) _ | refine Below.alloc ?_ (by first | (simp; done) | (simp; omega)) _)
    · have s2 := s1.box2 37 (.int .i64 N) (.slice (some ⟨g1, 0, none⟩) len cp1)
      clear hR1 hg1 s1
      go_wp2_with fail
      refine (HB.out _ s2.sent.2).mono ?_
      rintro e w3 ⟨g3, cp3, rfl, hg3, hG3, hb3⟩
      have s3 := s2.call hb3
      clear s2 hb3 q1
      have q3 := s3.hold
      simp only [Holds, and_true] at q3
      go_wp2_with fail
      refine (HT.out _ g3 cp3 hG3).mono ?_
      rintro e w4 ⟨hb4, h4⟩
      have s4 := s3.call hb4
      have q4 := s4.hold
      simp only [Holds, and_true] at q4
      have szw : w.heap.size + 1 < w3.heap.size := q3.2.2.1.2.1
      clear s3 hb4 q3
      rcases h4 with ⟨hno, rfl⟩ | ⟨hyes2, g4, cp4, rfl, hg4, hR4⟩
      · go_wp2_with fail
        refine bodyPost_ret (v := .tuple #[(.agg #[.int .i64 0, .slice none 0 0]), .bool false, .nilIface]) (by simp [results, Tryz.results6, go_sem, q4]) rfl ⟨?_, .inr (.inl ⟨rfl, fun h => hno (Hok.out.1 h).2, rfl⟩)⟩
        repeat' (first | exact s4.bel | refine Below.setCell ?_ (by first | (simp; done) | (simp; omega)) _ | refine Below.alloc ?_ (by first | (simp; done) | (simp; omega)) _)
      · go_wp2_with fail
        refine bodyPost_ret (v := .tuple #[(.agg #[.int .i64 N, (.slice (some ⟨g4, 0, none⟩) len2 cp4)]), .bool true, .nilIface]) (by simp [results, Tryz.results6, go_sem, q4]) rfl ⟨?_, .inr (.inr ⟨rfl, Hok.out.2 ⟨hyes, hyes2⟩, g4, cp4, rfl, by omega, ?_⟩)⟩
        · repeat' (first | exact s4.bel | refine Below.setCell ?_ (by first | (simp; done) | (simp; omega)) _ | refine Below.alloc ?_ (by first | (simp; done) | (simp; omega)) _)
        · exact (hR4.other (by show w.heap.size + 1 ≠ g4; omega) _).other (by show w.heap.size + 1 ≠ g4; omega) _
  · obtain ⟨r, hr⟩ : ∃ r, r = zErr N l := ⟨_, rfl⟩
    rw [← hr] at hz HC ⊢
    have Hz := hide hz
    obtain ⟨o1, ho1⟩ : ∃ P, P = NoNeg (nOf N) (fw (matOf (nOf N) l) (nOf N)) := ⟨_, rfl⟩
    obtain ⟨L1, hL1⟩ : ∃ P, P = tellL (nOf N) (fw (matOf (nOf N) l) (nOf N)) := ⟨_, rfl⟩
    rw [← ho1, ← hL1] at HC
    clear hr hS hA hl hl2 hk ho1 hL1 hz
    go_enter Tryz.func6, Tryz.ntmps6
    go_wp2_with fail
    refine (HC.out _ s0.sent.1 s0.sent.2).mono ?_
    rintro e w1 ⟨hb1, h1⟩
    have s1 := s0.call hb1
    have q1 := s1.hold
    simp only [Holds, and_true] at q1
    clear s0 hb1 q0
    rcases h1 with ⟨_, rfl⟩ | ⟨h, _⟩ | ⟨h, _⟩
    · rw [erV_ne Hz.out]
      go_wp2_with fail
      refine bodyPost_ret (v := .tuple #[(.agg #[.int .i64 0, .slice none 0 0]), .bool false, .iface 146 (.pointer (some (a (r.toNat - 1))))]) (by simp [results, Tryz.results6, go_sem, q1]) rfl ⟨?_, .inl ⟨Hz.out, by rw [erV_ne Hz.out]⟩⟩
      repeat' (first | exact s1.bel | refine Below.setCell ?_ (by first | (simp; done) | (simp; omega)) _ | refine Below.alloc ?_ (by first | (simp; done) | (simp; omega)) _)
    · exact absurd h Hz.out
    · exact absurd h Hz.out
end Go.Proofs.YtbafkjhlogkllaaGreatDoor

/- The octagon of a zone: the reference (OfZone, RoundZone). -/
namespace Go.Proofs.YtbafkjhlogkllaaGreatDoor.Oc
open Go.RowKit
set_option linter.unusedVariables false

/-- A new row of cells that say nothing. -/
theorem mk_row (w : World) (n : Nat) (hn : n ≤ 1000) : RowC (w.alloc (Obj.cells (madeCells #[Value.bool false, .int .i64 0] (n * 2)) 56)) w.heap.size 0 (List.replicate n ceZ) := by
  have own := World.ownsRow_lit (base := w.heap.size) (e := 56) (size := 2) w (madeCells #[Value.bool false, .int .i64 0] (n * 2)) n (Nat.le_refl _) (by unfold maxLen; omega) (by simp [madeCells])
  rw [zerosV] at own
  exact (RowC.of_own own (by simp) (by simp)).1
theorem mk_cells (n : Nat) (hn : n ≤ 1000) (w : World) : (Instr.makeSlice 22 (.int .i64 (n : Int)) (.int .i64 (n : Int))).run Tryz.prog w = .ok (.slice (some ⟨w.heap.size, 0, none⟩) n n) (w.alloc (Obj.cells (madeCells #[Value.bool false, .int .i64 0] (n * 2)) 56)) := by
  obtain ⟨i0, hi, hz0, hz1, hz2⟩ := info_parts Tryz.infoCellM
  have := run_make (P := Tryz.prog) w 22 56 i0 _ Tryz.underlying22 hi hz0 .i64 .i64 (n : Int) (n : Int) (by omega) (Int.le_refl _) (by rw [hz2]; omega) (by omega)
  simp only [Int.toNat_natCast, hz1] at this
  exact this
theorem row_ne_box {W : World} {g b : Nat} {L : List Ce} (h : RowC W g 0 L) (h1 : 1 ≤ L.length) {k : IntKind} {v : Int} (hc : W.cell? ⟨b, 0, none⟩ = some (.int k v)) : b ≠ g := by
  intro e
  have := h.has 0 (by omega)
  rw [← e] at this
  simp only [Nat.zero_mul, Nat.zero_add] at this
  rw [hc] at this
  cases this

theorem NearP.bd {n : Nat} {l : List Ce} (h : NearP n l) {i j : Nat} (hi : i < n) (hj : j < n) {c : Int} (hc : c.natAbs ≤ 4194304) : NearP n (bdL n l i j c) := by
  have k1 : bar j * n + i < l.length := by rw [h.len]; exact idx_in (bar_lt h.he hj) hi
  have k2 : bar i * n + j < (lowL l (bar j * n + i) c).length := by rw [lowL_len, h.len]; exact idx_in (bar_lt h.he hi) hj
  obtain ⟨a1, a2⟩ := low_near k1 hc (fun i hi => Nat.le_trans (h.small i hi) (by omega)) h.good
  obtain ⟨b1, b2⟩ := low_near k2 hc a1 a2
  refine ⟨h.he, h.hn, by rw [bdL_len]; exact h.len, b2, b1, fun p q hp hq => ?_⟩
  rw [mat_bd h.he h.len hi hj c p q hp hq, mat_bd h.he h.len hi hj c _ _ (bar_lt h.he hq) (bar_lt h.he hp)]
  exact coh_gd h.coh p q hp hq
theorem opt_bd {n : Nat} {l : List Ce} (h : NearP n l) {i j : Nat} (hi : i < n) (hj : j < n) {c : Int} {y : Nat → Int} : OPt n (matOf n (bdL n l i j c)) y ↔ OPt n (matOf n l) y ∧ y i - y (bar j) ≤ c := by
  have e : OPt n (matOf n (bdL n l i j c)) y ↔ OPt n (gdM (matOf n l) (bar j) i c) y := by
    constructor
    · rintro ⟨a, b⟩; exact ⟨(pt_congr (fun p q hp hq => mat_bd h.he h.len hi hj c p q hp hq)).1 a, b⟩
    · rintro ⟨a, b⟩; exact ⟨(pt_congr (fun p q hp hq => mat_bd h.he h.len hi hj c p q hp hq)).2 a, b⟩
  rw [e]
  exact opt_gr h.he (bar_lt h.he hj) hi

/-- What the reference's row is when the pairs in S are put to it. -/
structure OzI (k : Nat) (d : Mat) (S : Nat → Nat → Prop) (R : List Ce) : Prop where
  near : NearP (2 * k) R
  pts : ∀ y, (∀ i, y (bar i) = - y i) → (Pt (2 * k) (matOf (2 * k) R) y ↔ ZonS k d S y)
def upTo (i j : Nat) (p q : Nat) : Prop := p < i ∨ p = i ∧ q < j

theorem zon_step {k : Nat} {d : Mat} {i j : Nat} (hi : i ≤ k) (hj : j ≤ k) {y : Nat → Int} : ZonS k d (upTo i (j + 1)) y ↔ ZonS k d (upTo i j) y ∧ (i ≠ j → okB (xOf y j - xOf y i) (d i j)) := by
  constructor
  · intro h
    exact ⟨fun p q hp hq hne hS => h p q hp hq hne (by unfold upTo at hS ⊢; omega), fun hne => h i j hi hj hne (by unfold upTo; omega)⟩
  · rintro ⟨h, g⟩ p q hp hq hne hS
    by_cases e : p = i ∧ q = j
    · obtain ⟨rfl, rfl⟩ := e; exact g hne
    · exact h p q hp hq hne (by unfold upTo at hS ⊢; omega)
theorem OzI.stay {k : Nat} {d : Mat} {i j : Nat} {R : List Ce} (h : OzI k d (upTo i j) R) (hi : i ≤ k) (hj : j ≤ k) (e : i = j ∨ d i j = none) : OzI k d (upTo i (j + 1)) R := by
  refine ⟨h.near, fun y hy => ?_⟩
  rw [h.pts y hy, zon_step hi hj]
  constructor
  · intro a
    refine ⟨a, fun hne => ?_⟩
    rcases e with e | e
    · exact absurd e hne
    · rw [e]; trivial
  · exact fun a => a.1
theorem OzI.bd {k : Nat} {d : Mat} {i j i' j' : Nat} {R : List Ce} {v c : Int} (h : OzI k d (upTo i j) R) (hi : i ≤ k) (hj : j ≤ k) (hne : i ≠ j) (e : d i j = some v) (h1 : i' < 2 * k) (h2 : j' < 2 * k) (hc : c.natAbs ≤ 4194304) (hy : ∀ y : Nat → Int, (∀ i, y (bar i) = - y i) → (y i' - y (bar j') ≤ c ↔ xOf y j - xOf y i ≤ v)) : OzI k d (upTo i (j + 1)) (bdL (2 * k) R i' j' c) := by
  refine ⟨h.near.bd h1 h2 hc, fun y hs => ?_⟩
  have key := opt_bd h.near h1 h2 (c := c) (y := y)
  have p1 := h.pts y hs
  rw [zon_step hi hj, ← p1]
  have q := hy y hs
  constructor
  · intro a
    have b := key.1 ⟨a, hs⟩
    exact ⟨b.1.1, fun _ => by rw [e]; exact q.1 b.2⟩
  · rintro ⟨a, b⟩
    have := b hne
    rw [e] at this
    exact (key.2 ⟨⟨a, hs⟩, q.2 this⟩).1
theorem OzI.next {k : Nat} {d : Mat} {i : Nat} {R : List Ce} (h : OzI k d (upTo i (k + 1)) R) : OzI k d (upTo (i + 1) 0) R := by
  refine ⟨h.near, fun y hs => ?_⟩
  rw [h.pts y hs]
  constructor
  · intro a p q hp hq hne hS; exact a p q hp hq hne (by unfold upTo at hS ⊢; omega)
  · intro a p q hp hq hne hS; exact a p q hp hq hne (by unfold upTo at hS ⊢; omega)
theorem OzI.done {k : Nat} {d : Mat} {R : List Ce} (h : OzI k d (upTo (k + 1) 0) R) : OzI k d (fun _ _ => True) R := by
  refine ⟨h.near, fun y hs => ?_⟩
  rw [h.pts y hs]
  constructor
  · intro a p q hp hq hne hS; exact a p q hp hq hne (by unfold upTo; omega)
  · intro a p q hp hq hne hS; exact a p q hp hq hne trivial
theorem rep_at (n i : Nat) : (List.replicate n ceZ).getD i ceZ = ceZ := by
  by_cases h : i < n
  · simp [h]
  · simp [Nat.le_of_not_lt h]
theorem OzI.start {k : Nat} {d : Mat} (hk : k ≤ 4) : OzI k d (upTo 0 0) (List.replicate ((2 * k) * (2 * k)) ceZ) := by
  refine ⟨⟨by omega, by omega, by simp, fun i hi => by rw [rep_at]; rfl, fun i hi => by rw [rep_at]; decide, fun i j hi hj => by unfold matOf; rw [rep_at, rep_at]⟩, fun y hs => ?_⟩
  constructor
  · intro a p q hp hq hne hS; unfold upTo at hS; omega
  · intro a p q hp hq; unfold matOf; rw [rep_at]; trivial

/-- The three ways to put a bound. -/
theorem OzI.row0 {k : Nat} {d : Mat} {j x : Nat} {R : List Ce} {v : Int} (h : OzI k d (upTo 0 j) R) (hj : j ≤ k) (hx : x + 1 = j) (e : d 0 j = some v) (hv : v.natAbs ≤ 1048576) : OzI k d (upTo 0 (j + 1)) (bdL (2 * k) R (bd1 1 x 0 x) (bd2 1 x 0 x) (bdC 1 0 v)) := by
  have a1 : bd1 1 x 0 x = 2 * x := by unfold bd1 bdI; rw [if_neg (by omega), if_neg (by omega)]
  have a2 : bd2 1 x 0 x = 2 * x := by unfold bd2; rw [if_pos rfl, a1]
  have a3 : bdC 1 0 v = 2 * v := by unfold bdC; rw [if_pos (.inr rfl)]
  rw [a1, a2, a3]
  refine h.bd (by omega) hj (by omega) e (by omega) (by omega) (by omega) (fun y hs => ?_)
  subst hx
  rw [hs, xOf_succ, xOf_zero]
  omega
theorem OzI.col0 {k : Nat} {d : Mat} {i x : Nat} {R : List Ce} {v : Int} (h : OzI k d (upTo i 0) R) (hi : i ≤ k) (hx : x + 1 = i) (e : d i 0 = some v) (hv : v.natAbs ≤ 1048576) : OzI k d (upTo i 1) (bdL (2 * k) R (bd1 (-1) x 0 x) (bd2 (-1) x 0 x) (bdC (-1) 0 v)) := by
  have a1 : bd1 (-1) x 0 x = 2 * x + 1 := by unfold bd1 bdI; rw [if_neg (by omega), if_pos (by omega)]
  have a2 : bd2 (-1) x 0 x = 2 * x + 1 := by unfold bd2; rw [if_pos rfl, a1]
  have a3 : bdC (-1) 0 v = 2 * v := by unfold bdC; rw [if_pos (.inr rfl)]
  rw [a1, a2, a3]
  refine h.bd hi (by omega) (by omega) e (by omega) (by omega) (by omega) (fun y hs => ?_)
  subst hx
  have := hs (2 * x)
  rw [bar_ev (by omega)] at this
  rw [hs, xOf_succ, xOf_zero, this]
  omega
theorem OzI.inner {k : Nat} {d : Mat} {i j x z : Nat} {R : List Ce} {v : Int} (h : OzI k d (upTo i j) R) (hi : i ≤ k) (hj : j ≤ k) (hx : x + 1 = j) (hz : z + 1 = i) (hne : i ≠ j) (e : d i j = some v) (hv : v.natAbs ≤ 1048576) : OzI k d (upTo i (j + 1)) (bdL (2 * k) R (bd1 1 x (-1) z) (bd2 1 x (-1) z) (bdC 1 (-1) v)) := by
  have a1 : bd1 1 x (-1) z = 2 * x := by unfold bd1 bdI; rw [if_neg (by omega), if_neg (by omega)]
  have a2 : bd2 1 x (-1) z = 2 * z + 1 := by unfold bd2 bdI; rw [if_neg (by omega), if_pos (by omega)]
  have a3 : bdC 1 (-1) v = v := by unfold bdC; rw [if_neg (by omega)]
  rw [a1, a2, a3]
  refine h.bd hi hj hne e (by omega) (by omega) (by omega) (fun y hs => ?_)
  subst hx hz
  rw [bar_od (by omega), xOf_succ, xOf_succ]
  exact Iff.rfl

set_option maxRecDepth 20000 in
set_option maxHeartbeats 4000000 in
/-- Is a way from a variable to itself below 0? -/
theorem roundZone_any (Ni : Int) (n b off c len : Nat) (l : List Ce) (w : World) (hR : RowC w b off l) (hl : Hid (len = l.length)) (hll : Hid (len = n * n)) (hn : 1 ≤ n) (hn5 : n ≤ 5) (hN : Ni + 1 = (n : Int)) :
    Calls Tryz.prog 13 #[(.agg #[.int .i64 Ni, (.slice (some ⟨b, off, none⟩) len c)])] w fun e w' => e = .returned (.bool (!tnB n (matOf n l))) ∧ Below w.heap.size w w' := by
  have s0 := (St.startR hR).box2 24 (.int .i64 Ni) (.slice (some ⟨b, off, none⟩) len c)
  have hbel := hR.lt
  have hlen : len ≤ 25 := by
    have := hll.out
    have h1 := Nat.mul_le_mul hn5 hn5
    omega
  have hNb : 0 ≤ Ni ∧ Ni ≤ 4 := by omega
  obtain ⟨rb, hrb⟩ : ∃ rb, rb = !tnB n (matOf n l) := ⟨_, rfl⟩
  rw [← hrb]
  have Hno : Hid (∀ i v, i < n → matOf n l i i = some v → v < 0 → rb = true) := by
    intro i v hi hv h0
    rw [hrb]
    cases h : tnB n (matOf n l) with
    | false => rfl
    | true =>
      have := tnB_iff.1 h i hi
      rw [hv] at this
      simp [leB] at this
      omega
  have Hyes : Hid ((∀ i, i < n → leB (some 0) (matOf n l i i)) → rb = false) := by
    intro h
    rw [hrb, tnB_iff.2 h]; rfl
  clear hrb
  go_enter Tryz.func13, Tryz.ntmps13
  go_wp2_with fail
  go_loopg [3] n (fun gh iv wr => ∃ i : Nat, i + gh = n ∧ iv = .int .i64 i ∧ Hid (∀ p, p < i → leB (some 0) (matOf n l p p)) ∧ St w wr (RZ b off l) [(w.heap.size, 0, Value.int .i64 Ni), (w.heap.size, 1, Value.slice (some ⟨b, off, none⟩) len c)])
  case atStart => exact ⟨0, by omega, rfl, fun p h => by omega, s0⟩
  case round =>
    clear s0
    obtain ⟨i, hig, rfl, hpos, s1⟩ := hrel
    have q1 := s1.hold
    simp only [Holds, and_true] at q1
    by_cases hi : i < n
    · have hi' : (i : Int) ≤ Ni := by omega
      obtain ⟨ik, hik⟩ : ∃ m : Nat, m = i * n := ⟨_, rfl⟩
      obtain ⟨x1, hx1⟩ : ∃ m : Nat, m = ik + i := ⟨_, rfl⟩
      have a1 : (i : Int) * (n : Int) = (ik : Int) := by rw [hik, Int.natCast_mul]
      have a3 : (ik : Int) + (i : Int) = (x1 : Int) := by omega
      have b1 : x1 < len := by rw [hll.out, hx1, hik]; exact idx_in hi hi
      have b4 : (x1 : Int) < (len : Int) := by omega
      obtain ⟨⟨ch, cm⟩, hc⟩ : ∃ C, C = l.getD x1 ceZ := ⟨_, rfl⟩
      have hxl : x1 < l.length := by rw [← hl.out]; exact b1
      have R : RowC wr b off l := s1.sent
      have c1 : wr.cell? ⟨b, off + x1 * 2, none⟩ = some (.bool ch) := by have := R.has x1 hxl; rw [← hc] at this; exact this
      have c2 : wr.cell? ⟨b, off + x1 * 2 + 1, none⟩ = some (.int .i64 cm) := by have := R.most x1 hxl; rw [← hc] at this; exact this
      have hbl := R.lt
      have Hd : Hid (matOf n l i i = if ch = true then some cm else none) := by
        show (l.getD (i * n + i) ceZ).bd = _
        rw [← hik, ← hx1, ← hc]; rfl
      have hn5' : (n : Int) ≤ 5 := by omega
      have s2 := s1.box2 56 (.bool ch) (.int .i64 cm)
      clear hik hx1 hc R
      cases ch
      · go_wp2_with fail
        go_roundg (n - (i + 1))
        case measure => omega
        case rel =>
          refine ⟨i + 1, by omega, by go_num, fun p hp => ?_, s1.alloc _⟩
          by_cases e : p = i
          · subst e; rw [Hd.out]; trivial
          · exact hpos.out p (by omega)
      · by_cases hneg : cm < 0
        · have hr := Hno.out i cm hi (by rw [Hd.out]; rfl) hneg
          subst hr
          go_wp2_with fail
          go_ret
          exact ⟨rfl, s1.bel.alloc s1.bel.size _⟩
        · go_wp2_with fail
          go_roundg (n - (i + 1))
          case measure => omega
          case rel =>
            refine ⟨i + 1, by omega, by go_num, fun p hp => ?_, s1.alloc _⟩
            by_cases e : p = i
            · subst e; rw [Hd.out]; simp [leB]; omega
            · exact hpos.out p (by omega)
    · have hi' : ¬ (i : Int) ≤ Ni := by omega
      have hr := Hyes.out (fun p hp => hpos.out p (by omega))
      subst hr
      go_wp2_with fail
      go_ret
      exact ⟨rfl, s1.bel⟩
end Go.Proofs.YtbafkjhlogkllaaGreatDoor.Oc

/- The octagon of a zone: the reference's walk (OfZone). -/
namespace Go.Proofs.YtbafkjhlogkllaaGreatDoor.Oc
open Go.RowKit
set_option linter.unusedVariables false

/-- What OfZone answers. -/
def OzPost (w : World) (k ml : Nat) (d : Mat) (e : Ending) (w' : World) : Prop :=
  Below w.heap.size w w' ∧ ∃ (R : List Ce) (g cap : Nat), e = .returned (.agg #[.int .i64 (k : Int), (.slice (some ⟨g, 0, none⟩) ml cap)]) ∧ RowC w' g 0 R ∧ OzI k d (fun _ _ => True) R
/-- How it stands at a pair. -/
def OzAt (w : World) (k n b off c len ml bb : Nat) (l : List Ce) (i j : Nat) (wr : World) : Prop :=
  ∃ (R : List Ce) (g cap : Nat), OzI k (matOf n l) (upTo i j) R ∧ RowC wr g 0 R ∧ (bb ≠ g ∧ w.heap.size + 1 ≠ g) ∧ St w wr (RZ b off l) ((bb, 0, Value.int .i64 k) :: (bb, 1, Value.slice (some ⟨g, 0, none⟩) ml cap) :: [(w.heap.size + 1, 0, Value.int .i64 0), (w.heap.size + 1, 1, Value.slice none 0 0), (w.heap.size, 0, Value.int .i64 k), (w.heap.size, 1, Value.slice (some ⟨b, off, none⟩) len c)])

set_option maxRecDepth 20000 in
set_option maxHeartbeats 8000000 in
theorem ofZoneR_any (k n b off c len ml : Nat) (l : List Ce) (w : World) (hR : RowC w b off l) (hl : Hid (len = l.length)) (hll : Hid (len = n * n)) (hk : k + 1 = n) (hk4 : k ≤ 4) (hml : Hid (ml = (2 * k) * (2 * k))) (hs : Hid (∀ i, i < l.length → (l.getD i ceZ).m.natAbs ≤ 1048576)) :
    Calls Tryz.prog 12 #[(.agg #[.int .i64 (k : Int), (.slice (some ⟨b, off, none⟩) len c)])] w fun e w' => OzPost w k ml (matOf n l) e w' := by
  have s0 := ((St.startR hR).box2 24 (.int .i64 k) (.slice (some ⟨b, off, none⟩) len c)).box2 42 (.int .i64 0) (.slice none 0 0)
  simp only [World.size_alloc] at s0
  have q0 := s0.hold
  simp only [Holds, and_true] at q0
  have hbel := hR.lt
  have hlen : len ≤ 25 := by
    have := hll.out
    have h1 := Nat.mul_le_mul (show n ≤ 5 by omega) (show n ≤ 5 by omega)
    omega
  obtain ⟨kk, hkk⟩ : ∃ m : Nat, m = 4 * k := ⟨_, rfl⟩
  have e1 : (4 : Int) * (k : Int) = (kk : Int) := by omega
  have e2 : (kk : Int) * (k : Int) = (ml : Int) := by
    rw [hml.out, hkk]
    clear s0 q0 hR hl hll hml hs
    rcases (by omega : k = 0 ∨ k = 1 ∨ k = 2 ∨ k = 3 ∨ k = 4) with rfl | rfl | rfl | rfl | rfl <;> rfl
  have hmlb : ml ≤ 64 := by
    have h1 := Nat.mul_le_mul (show 2 * k ≤ 8 by omega) (show 2 * k ≤ 8 by omega)
    have := hml.out
    omega
  have hkkb : kk ≤ 16 := by omega
  have hmk := mk_cells ml (by omega)
  obtain ⟨M, hM⟩ : ∃ M, M = (Obj.cells (madeCells #[Value.bool false, .int .i64 0] (ml * 2)) 56) := ⟨_, rfl⟩
  rw [← hM] at hmk
  have HM : Hid (∀ W : World, RowC (W.alloc M) W.heap.size 0 (List.replicate ((2 * k) * (2 * k)) ceZ)) := fun W => by
    rw [hM, ← hml.out]; exact mk_row W ml (by omega)
  have HB : Hid (∀ (W : World) (g cap x y : Nat) (av bv cv xv yv : Int) (R : List Ce), RowC W g 0 R → R.length = (2 * k) * (2 * k) → xv = x → yv = y → x < k → y < k → cv.natAbs ≤ 1048576 → Calls Tryz.prog 29 #[(.agg #[.int .i64 (k : Int), (.slice (some ⟨g, 0, none⟩) ml cap)]), .int .i64 av, .int .i64 xv, .int .i64 bv, .int .i64 yv, .int .i64 cv] W fun e w' => MtPost W k ml (bdL (2 * k) R (bd1 av x bv y) (bd2 av x bv y) (bdC av bv cv)) e w') := by
    intro W g cap x y av bv cv xv yv R h1 h2 h3 h4 h5 h6 h7
    subst h3 h4
    exact boundOct_any k av bv cv x y (2 * k) g 0 cap ml R W h1 (by show _ = _; rw [h2]; exact hml.out) hml (by omega) (by omega) (by omega) (by omega) (by omega) (by omega)
  clear hM hR hml hkk
  go_enter Tryz.func12, Tryz.ntmps12
  go_upto_region 1 with fail
  go_cut [3] (fun t wx => ∃ bb : Nat, t = .pointer (some ⟨bb, 0, none⟩) ∧ w.heap.size + 1 < bb ∧ OzAt w k n b off c len ml bb l 0 0 wx)
  case first =>
    go_region
    all_goals
      go_wp2_with fail
      go_meet
      case rel => first
        | (refine ⟨w.heap.size + 1 + 1 + 1, rfl, by omega, _, w.heap.size + 1 + 1, ml, OzI.start hk4, ?_, ⟨by omega, by omega⟩, ?_⟩
           · have h := HM.out ((w.alloc (.cells #[.int .i64 k, .slice (some ⟨b, off, none⟩) len c] 24)).alloc (.cells #[.int .i64 0, .slice none 0 0] 42))
             simp only [World.size_alloc] at h
             exact (h.below ((Below.refl _ _).alloc (Nat.le_refl _) _)).below (Below.refl _ _).drew
           · have h := ((s0.alloc M).box2 42 (.int .i64 k) (.slice (some ⟨w.heap.size + 1 + 1, 0, none⟩) ml ml)).drew
             simp only [World.size_alloc] at h
             exact h)
        | (refine ⟨w.heap.size + 1 + 1, rfl, by omega, _, w.heap.size + 1 + 1 + 1, ml, OzI.start hk4, ?_, ⟨by omega, by omega⟩, ?_⟩
           · have h := HM.out (((w.alloc (.cells #[.int .i64 k, .slice (some ⟨b, off, none⟩) len c] 24)).alloc (.cells #[.int .i64 0, .slice none 0 0] 42)).alloc (.cells #[.int .i64 k, .slice (some ⟨w.heap.size + 1 + 1 + 1, 0, none⟩) ml ml] 42))
             simp only [World.size_alloc] at h
             exact h.below (Below.refl _ _).drew
           · have h := ((s0.box2 42 (.int .i64 k) (.slice (some ⟨w.heap.size + 1 + 1 + 1, 0, none⟩) ml ml)).alloc M).drew
             simp only [World.size_alloc] at h
             exact h)
  case rest =>
  clear s0 q0 HM hmk e1 e2
  obtain ⟨bb, rfl, hbb, A0⟩ := hcut
  go_wp2_with fail
  go_loopg [4] n (fun gh iv wr => ∃ i : Nat, i + gh = n ∧ iv = .int .i64 i ∧ OzAt w k n b off c len ml bb l i 0 wr)
  case atStart => exact ⟨0, by omega, rfl, A0⟩
  case round =>
    clear A0
    obtain ⟨i, hig, rfl, A1⟩ := hrel
    by_cases hi : i < n
    · have hi' : (i : Int) ≤ (k : Int) := by omega
      have q1 : wr.cell? ⟨w.heap.size, 0, none⟩ = some (.int .i64 k) := by
        obtain ⟨R, g, cap, _, _, _, s⟩ := A1
        have q := s.hold
        simp only [Holds, and_true] at q
        exact q.2.2.2.2.1.1
      go_wp2_with fail
      go_loopg [5] n (fun gh jv wr => ∃ j : Nat, j + gh = n ∧ jv = .int .i64 j ∧ OzAt w k n b off c len ml bb l i j wr)
      case atStart => exact ⟨0, by omega, rfl, A1⟩
      case round =>
        clear A1 q1
        obtain ⟨j, hjg, rfl, R, g, cap, hO, hRR, hne, s1⟩ := hrel
        have q1 := s1.hold
        simp only [Holds, and_true] at q1
        by_cases hj : j < n
        · have hj' : (j : Int) ≤ (k : Int) := by omega
          obtain ⟨ik, hik⟩ : ∃ m : Nat, m = i * n := ⟨_, rfl⟩
          obtain ⟨x1, hx1⟩ : ∃ m : Nat, m = ik + j := ⟨_, rfl⟩
          have a1 : (i : Int) * (n : Int) = (ik : Int) := by rw [hik, Int.natCast_mul]
          have a3 : (ik : Int) + (j : Int) = (x1 : Int) := by omega
          have b1 : x1 < len := by rw [hll.out, hx1, hik]; exact idx_in hi hj
          have b4 : (x1 : Int) < (len : Int) := by omega
          obtain ⟨⟨ch, cm⟩, hc⟩ : ∃ C, C = l.getD x1 ceZ := ⟨_, rfl⟩
          have hxl : x1 < l.length := by rw [← hl.out]; exact b1
          have Rz : RowC wr b off l := s1.sent
          have c1 : wr.cell? ⟨b, off + x1 * 2, none⟩ = some (.bool ch) := by have := Rz.has x1 hxl; rw [← hc] at this; exact this
          have c2 : wr.cell? ⟨b, off + x1 * 2 + 1, none⟩ = some (.int .i64 cm) := by have := Rz.most x1 hxl; rw [← hc] at this; exact this
          have hbl := Rz.lt
          have hcm : cm.natAbs ≤ 1048576 := by have := hs.out x1 hxl; rw [← hc] at this; exact this
          have Hd : Hid (matOf n l i j = if ch = true then some cm else none) := by
            show (l.getD (i * n + j) ceZ).bd = _
            rw [← hik, ← hx1, ← hc]; rfl
          have hki : (k : Int) + 1 = (n : Int) := by omega
          have hn5 : (n : Int) ≤ 5 := by omega
          have s2 := s1.box2 56 (.bool ch) (.int .i64 cm)
          have hR2 := hRR.below ((Below.refl _ _).alloc (Nat.le_refl _) (.cells #[.bool ch, .int .i64 cm] 56))
          clear hik hx1 hc Rz
          cases ch
          · go_wp2_with fail
            go_roundg (n - (j + 1))
            case measure => omega
            case rel => exact ⟨j + 1, by omega, by go_num, R, g, cap, hO.stay (by omega) (by omega) (.inr (by rw [Hd.out]; rfl)), hR2, hne, s1.alloc _⟩
          · by_cases hij : i = j
            · subst hij
              go_wp2_with fail
              go_roundg (n - (i + 1))
              case measure => omega
              case rel => exact ⟨i + 1, by omega, by go_num, R, g, cap, hO.stay (by omega) (by omega) (.inl rfl), hR2, hne, s1.alloc _⟩
            · have hij' : ¬ (i : Int) = (j : Int) := by omega
              have hd : matOf n l i j = some cm := by rw [Hd.out]; rfl
              have Hd2 := hide hd
              clear Hd hd hRR
              by_cases h0 : i = 0
              · subst h0
                obtain rfl : ik = 0 := by simpa using a1.symm
                obtain rfl : j = x1 := by omega
                clear a1 a3
                obtain ⟨x, hx⟩ : ∃ x, x + 1 = j := ⟨j - 1, by omega⟩
                have hxi : (j : Int) - 1 = (x : Int) := by omega
                have hO2 := hO.row0 (by omega) hx Hd2.out hcm
                have hO3 := hide hO2
                clear hO2
                go_wp2_with fail
                refine (HB.out _ g cap x x 1 0 cm _ _ R hR2 hO.near.len (by first | rfl | omega) (by first | rfl | omega) (by omega) (by omega) hcm).mono ?_
                (rintro e w3 ⟨hb3, g3, c3, rfl, R3⟩; have u3 := (s1.alloc (.cells #[.bool true, .int .i64 cm] 56)).call hb3; have q3 := u3.hold; simp only [Holds, and_true] at q3; have ne3 : bb ≠ g3 := row_ne_box R3 (by rw [hO3.out.near.len]; exact Nat.mul_le_mul (show 1 ≤ 2 * k by omega) (show 1 ≤ 2 * k by omega)) q3.1.1; have nf3 : w.heap.size + 1 ≠ g3 := row_ne_box R3 (by rw [hO3.out.near.len]; exact Nat.mul_le_mul (show 1 ≤ 2 * k by omega) (show 1 ≤ 2 * k by omega)) q3.2.2.1.1; have s3 := (u3.put20 (by omega) ⟨by dsimp only; omega, by dsimp only; omega, by dsimp only; omega, by dsimp only; omega, trivial⟩ (.int .i64 k)).put21 (by omega) ⟨by dsimp only; omega, by dsimp only; omega, by dsimp only; omega, by dsimp only; omega, trivial⟩ (.slice (some ⟨g3, 0, none⟩) ml c3); have R3' := (R3.other (p := ⟨bb, 0, none⟩) (by show bb ≠ g3; exact ne3) (.int .i64 k)).other (p := ⟨bb, 1, none⟩) (by show bb ≠ g3; exact ne3) (.slice (some ⟨g3, 0, none⟩) ml c3); clear s1 q1 s2 hR2 R3 u3; go_wp2_with fail; go_roundg (n - (j + 1)); (case measure => omega); (case rel => exact ⟨j + 1, by omega, by go_num, _, g3, c3, hO3.out, R3', ⟨ne3, nf3⟩, s3⟩))
              · have h0' : ¬ (i : Int) = 0 := by omega
                by_cases h1 : j = 0
                · subst h1
                  obtain rfl : x1 = ik := by omega
                  clear a3
                  obtain ⟨x, hx⟩ : ∃ x, x + 1 = i := ⟨i - 1, by omega⟩
                  have hxi : (i : Int) - 1 = (x : Int) := by omega
                  have hO2 := hO.col0 (by omega) hx Hd2.out hcm
                  have hO3 := hide hO2
                  clear hO2
                  go_wp2_with fail
                  refine (HB.out _ g cap x x (-1) 0 cm _ _ R hR2 hO.near.len (by first | rfl | omega) (by first | rfl | omega) (by omega) (by omega) hcm).mono ?_
                  (rintro e w3 ⟨hb3, g3, c3, rfl, R3⟩; have u3 := (s1.alloc (.cells #[.bool true, .int .i64 cm] 56)).call hb3; have q3 := u3.hold; simp only [Holds, and_true] at q3; have ne3 : bb ≠ g3 := row_ne_box R3 (by rw [hO3.out.near.len]; exact Nat.mul_le_mul (show 1 ≤ 2 * k by omega) (show 1 ≤ 2 * k by omega)) q3.1.1; have nf3 : w.heap.size + 1 ≠ g3 := row_ne_box R3 (by rw [hO3.out.near.len]; exact Nat.mul_le_mul (show 1 ≤ 2 * k by omega) (show 1 ≤ 2 * k by omega)) q3.2.2.1.1; have s3 := (u3.put20 (by omega) ⟨by dsimp only; omega, by dsimp only; omega, by dsimp only; omega, by dsimp only; omega, trivial⟩ (.int .i64 k)).put21 (by omega) ⟨by dsimp only; omega, by dsimp only; omega, by dsimp only; omega, by dsimp only; omega, trivial⟩ (.slice (some ⟨g3, 0, none⟩) ml c3); have R3' := (R3.other (p := ⟨bb, 0, none⟩) (by show bb ≠ g3; exact ne3) (.int .i64 k)).other (p := ⟨bb, 1, none⟩) (by show bb ≠ g3; exact ne3) (.slice (some ⟨g3, 0, none⟩) ml c3); clear s1 q1 s2 hR2 R3 u3; go_wp2_with fail; go_roundg (n - (0 + 1)); (case measure => omega); (case rel => exact ⟨0 + 1, by omega, by go_num, _, g3, c3, hO3.out, R3', ⟨ne3, nf3⟩, s3⟩))
                · have h1' : ¬ (j : Int) = 0 := by omega
                  obtain ⟨x, hx⟩ : ∃ x, x + 1 = j := ⟨j - 1, by omega⟩
                  obtain ⟨z, hz⟩ : ∃ x, x + 1 = i := ⟨i - 1, by omega⟩
                  have hxi : (j : Int) - 1 = (x : Int) := by omega
                  have hzi : (i : Int) - 1 = (z : Int) := by omega
                  have hO2 := hO.inner (by omega) (by omega) hx hz hij Hd2.out hcm
                  have hO3 := hide hO2
                  clear hO2
                  go_wp2_with fail
                  refine (HB.out _ g cap x z 1 (-1) cm _ _ R hR2 hO.near.len (by first | rfl | omega) (by first | rfl | omega) (by omega) (by omega) hcm).mono ?_
                  (rintro e w3 ⟨hb3, g3, c3, rfl, R3⟩; have u3 := (s1.alloc (.cells #[.bool true, .int .i64 cm] 56)).call hb3; have q3 := u3.hold; simp only [Holds, and_true] at q3; have ne3 : bb ≠ g3 := row_ne_box R3 (by rw [hO3.out.near.len]; exact Nat.mul_le_mul (show 1 ≤ 2 * k by omega) (show 1 ≤ 2 * k by omega)) q3.1.1; have nf3 : w.heap.size + 1 ≠ g3 := row_ne_box R3 (by rw [hO3.out.near.len]; exact Nat.mul_le_mul (show 1 ≤ 2 * k by omega) (show 1 ≤ 2 * k by omega)) q3.2.2.1.1; have s3 := (u3.put20 (by omega) ⟨by dsimp only; omega, by dsimp only; omega, by dsimp only; omega, by dsimp only; omega, trivial⟩ (.int .i64 k)).put21 (by omega) ⟨by dsimp only; omega, by dsimp only; omega, by dsimp only; omega, by dsimp only; omega, trivial⟩ (.slice (some ⟨g3, 0, none⟩) ml c3); have R3' := (R3.other (p := ⟨bb, 0, none⟩) (by show bb ≠ g3; exact ne3) (.int .i64 k)).other (p := ⟨bb, 1, none⟩) (by show bb ≠ g3; exact ne3) (.slice (some ⟨g3, 0, none⟩) ml c3); clear s1 q1 s2 hR2 R3 u3; go_wp2_with fail; go_roundg (n - (j + 1)); (case measure => omega); (case rel => exact ⟨j + 1, by omega, by go_num, _, g3, c3, hO3.out, R3', ⟨ne3, nf3⟩, s3⟩))
        · have hj' : ¬ (j : Int) ≤ (k : Int) := by omega
          go_wp2_with fail
          go_roundg (n - (i + 1))
          case measure => omega
          case rel => exact ⟨i + 1, by omega, by go_num, R, g, cap, (show j = k + 1 by omega) ▸ hO |>.next, hRR, hne, s1⟩
    · have hi' : ¬ (i : Int) ≤ (k : Int) := by omega
      obtain ⟨R, g, cap, hO, hRR, hne, s1⟩ := A1
      have q1 := s1.hold
      simp only [Holds, and_true] at q1
      obtain rfl : i = k + 1 := by omega
      go_wp2_with fail
      refine bodyPost_ret (v := (.agg #[.int .i64 (k : Int), (.slice (some ⟨g, 0, none⟩) ml cap)])) (by simp [results, Tryz.results12, go_sem, q1]) rfl ⟨?_, R, g, cap, rfl, ?_, hO.done⟩
      · repeat' (first | exact s1.bel | refine Below.setCell ?_ (by first | (simp; done) | (simp; omega)) _)
      · have ng := hne.2
        exact (hRR.other (by show w.heap.size + 1 ≠ g; exact ng) _).other (by show w.heap.size + 1 ≠ g; exact ng) _
end Go.Proofs.YtbafkjhlogkllaaGreatDoor.Oc

/- The octagon of a zone: program and reference tell the same; what has a point. -/
namespace Go.Proofs.YtbafkjhlogkllaaGreatDoor
open Go.RowKit
set_option linter.unusedVariables false

theorem noround_iff {k : Nat} {d : Mat} : NoRound k d ↔ tnB (k + 1) d = true := by
  rw [tnB_iff]
  constructor
  · intro h i hi; exact leB_some.2 (h i (by omega))
  · intro h i hi; exact leB_some.1 (h i (by omega))
theorem oz_sz {k : Nat} {d : Mat} (hk4 : k ≤ 4) (hs : Sz (k + 1) 1048576 d) : Sz (2 * k) 1099511627776 (tg (2 * k) (zbM d)) :=
  (Oc.sz_tg (sz_zb hs) (by omega) (by omega)).mono (by omega)
theorem oz_same {k : Nat} {d : Mat} {R : List Ce} (hk4 : k ≤ 4) (hs : Sz (k + 1) 1048576 d) (hO : Oc.OzI k d (fun _ _ => True) R) :
    (ozOk k d ↔ tnB (k + 1) d = true ∧ NoNeg (2 * k) (tg (2 * k) (matOf (2 * k) R))) ∧ (ozOk k d → ozL k d = rowOf (2 * k) (tg (2 * k) (matOf (2 * k) R))) := by
  obtain ⟨h1, h2, _⟩ := zone_oct (N := k) (d := d) (m := matOf (2 * k) R) hO.near.coh hO.pts
  have h3 : ozOk k d ↔ tnB (k + 1) d = true ∧ NoNeg (2 * k) (tg (2 * k) (matOf (2 * k) R)) := by
    unfold ozOk; rw [h1, noround_iff]
  refine ⟨h3, fun h => ?_⟩
  have h4 := h3.1 h
  unfold ozL
  rw [tellL_near (oz_sz hk4 hs)]
  have e := h2 (noround_iff.2 h4.1) h4.2
  unfold rowOf
  apply List.map_congr_left
  intro p hp
  have hp := List.mem_range.1 hp
  have h0 : 0 < 2 * k := Nat.pos_of_ne_zero (fun e => by rw [e] at hp; simp at hp)
  rw [e _ _ (Nat.div_lt_of_lt_mul hp) (Nat.mod_lt _ h0)]
theorem ptF_barO (p : List Int) (i : Nat) : Oc.ptF p (bar i) = - Oc.ptF p i := by
  unfold Oc.ptF bar
  by_cases h : i % 2 = 0
  · rw [if_pos h, if_pos (by omega), if_neg (by omega), show (i + 1) / 2 = i / 2 by omega]
  · rw [if_neg h, if_neg (by omega), if_pos (by omega), show (i - 1) / 2 = i / 2 by omega]; omega
theorem xOf_ptF (p : List Int) : xOf (Oc.ptF p) = ptF p := by
  funext i
  unfold xOf ptF
  by_cases h : i = 0
  · rw [if_pos h, if_pos h]
  · rw [if_neg h, if_neg h]
    unfold Oc.ptF
    rw [if_neg (by omega), show 2 * (i - 1) / 2 = i - 1 by omega]
theorem oz_has {k : Nat} {d : Mat} {p : List Int} (hk4 : k ≤ 4) (hs : Sz (k + 1) 1048576 d) (hok : ozOk k d) (hp : ∀ v ∈ p, v.natAbs ≤ 1099511627776) :
    Oc.inB (2 * k) (Oc.ptD p) (encM (matOf (2 * k) (ozL k d))) = inB (k + 1) (ptD p) (encM d) := by
  have h0 : okB 0 (d 0 0) := by
    obtain ⟨x, hx⟩ := fw_some.2 hok.1
    exact pt_round hx 0 (by omega)
  have e1 := Oc.inB_pt (n := 2 * k) (m := matOf (2 * k) (ozL k d)) hp
  have e2 := inB_pt (n := k + 1) (m := d) hp
  have e3 : Pt (2 * k) (matOf (2 * k) (ozL k d)) (Oc.ptF p) ↔ Pt (2 * k) (tg (2 * k) (zbM d)) (Oc.ptF p) := by
    apply pt_congr
    intro i j hi hj
    unfold ozL
    rw [tellL_near (oz_sz hk4 hs), mat_row hi hj]
  rw [e3, zone_oct_has (ptF_barO p) h0, xOf_ptF, ← e2] at e1
  exact Bool.eq_iff_iff.2 e1
end Go.Proofs.YtbafkjhlogkllaaGreatDoor

/- The octagon of a zone: the law's walk (OctZone). -/
namespace Go.Proofs.YtbafkjhlogkllaaGreatDoor
open Go.RowKit
set_option linter.unusedVariables false

theorem coded_erU (e : Int) (h1 : 0 ≤ e) (h2 : e ≤ 8) (a : Nat → Addr) (w : World) (hS : Sents w a) :
    Calls Tryz.prog 8 #[erV a e, .int .i64 e] w fun x w' => x = .returned (.bool true) ∧ Below w.heap.size w w' := by
  by_cases h : e = 0
  · subst h
    rw [erV_0]
    refine (coded_nil 0 w).mono ?_
    rintro x w' ⟨rfl, hb⟩
    exact ⟨by simp, hb⟩
  · rw [erV_ne h]
    refine (coded_sent (e.toNat - 1) (by omega) e a (a (e.toNat - 1)) rfl w hS).mono ?_
    rintro x w' ⟨rfl, hb⟩
    refine ⟨?_, hb⟩
    have : ((e.toNat - 1 : Nat) : Int) + 1 = e := by omega
    rw [decide_eq_true this]
def SCU (a : Nat → Addr) (x : Option Addr) (l : List Ce) (y : Option Addr) (p : List Int) (W : World) : Prop := Sents W a ∧ CsAt W x l ∧ IntsAt W y p
theorem St.startSCU {w : World} {a : Nat → Addr} {x y : Option Addr} {l : List Ce} {p : List Int} (h : Sents w a) (k : CsAt w x l) (k' : IntsAt w y p) : St w w (SCU a x l y p) [] :=
  ⟨Below.refl _ _, trivial, ⟨h, k, k'⟩, fun _ _ q hb => ⟨h.stays q.1 hb, k.stays q.2.1 hb, k'.stays q.2.2 hb⟩⟩
theorem near_sizeU {l : List Ce} {B : Int} (h : nearL l B = true) : ∀ i, i < l.length → (l.getD i ceZ).m.natAbs ≤ B.natAbs := by
  intro i hi
  have e : l.getD i ceZ = l[i] := by simp [hi]
  rw [e]
  unfold nearL at h
  simp only [Bool.not_eq_true', List.any_eq_false] at h
  have := h l[i] (List.getElem_mem hi)
  simp [farC, farB] at this
  omega

/-- What is kept at the end. -/
def ZU (a : Nat → Addr) (x : Option Addr) (l : List Ce) (y : Option Addr) (p : List Int) (x4 x5 : Option Addr) (L4 : List Ce) (W : World) : Prop := (SCU a x l y p W ∧ CsAt W x4 L4) ∧ CsAt W x5 L4
theorem keepZU {w W : World} {a : Nat → Addr} {x : Option Addr} {l : List Ce} {y : Option Addr} {p : List Int} {x4 x5 : Option Addr} {L4 : List Ce} (L : List (Nat × Nat × Value)) (h : CellsAnd W L (St w W (ZU a x l y p x4 x5 L4) L)) : ZU a x l y p x4 x5 L4 W := h.last.sent

/-- What ClosedOct of OfZone answers, in letters. -/
def CoU (k : Nat) (ok : Prop) (L : List Ce) (W : World) (e : Ending) (w' : World) : Prop :=
  Below W.heap.size W w' ∧ ∃ (N5 : Int) (x5 : Option Addr) (k5 c5 : Nat) (b5 : Bool) (L5 : List Ce), e = .returned (.tuple #[(.agg #[.int .i64 N5, (.slice x5 k5 c5)]), .bool b5]) ∧ CsAt w' x5 L5 ∧ k5 = L5.length ∧ ((b5 = false ∧ N5 = 0 ∧ L5 = [] ∧ ¬ ok) ∨ (b5 = true ∧ N5 = k ∧ L5 = L ∧ ok))
theorem closedU (k ml g cap : Nat) (R : List Ce) (d : Mat) (W : World) (hk4 : k ≤ 4) (hO : Oc.OzI k d (fun _ _ => True) R) (hml : ml = R.length) (hR : RowC W g 0 R) :
    Calls Tryz.prog 11 #[(.agg #[.int .i64 (k : Int), (.slice (some ⟨g, 0, none⟩) ml cap)])] W fun e w' => CoU k (NoNeg (2 * k) (tg (2 * k) (matOf (2 * k) R))) (rowOf (2 * k) (tg (2 * k) (matOf (2 * k) R))) W e w' := by
  rcases Nat.eq_zero_or_pos k with h0 | h0
  · subst h0
    obtain rfl : ml = 0 := by rw [hml, hO.near.len]
    refine (Oc.closedOct_zero _ cap W).mono ?_
    rintro e w' ⟨x5, c5, rfl, hb⟩
    exact ⟨hb, 0, x5, 0, c5, true, [], rfl, .inl rfl, rfl, .inr ⟨rfl, rfl, rfl, fun i hi => by omega⟩⟩
  · refine (Oc.closedNearP k (2 * k) ml cap (some ⟨g, 0, none⟩) R W (by omega) (by omega) hO.near hml (.inr ⟨g, 0, rfl, hR⟩)).mono ?_
    rintro e w' ⟨hb, ⟨hno, rfl⟩ | ⟨hyes, g5, c5, rfl, _, _, hR5⟩⟩
    · exact ⟨hb, 0, none, 0, 0, false, [], rfl, .inl rfl, rfl, .inl ⟨rfl, rfl, rfl, hno⟩⟩
    · exact ⟨hb, k, some ⟨g5, 0, none⟩, ml, c5, true, _, rfl, .inr ⟨g5, 0, rfl, hR5⟩, by rw [hml, hO.near.len]; simp [rowOf], .inr ⟨rfl, rfl, rfl, hyes⟩⟩

set_option maxRecDepth 20000 in
set_option maxHeartbeats 8000000 in
theorem octZone_by (N : Int) (x : Option Addr) (c0 len : Nat) (l : List Ce) (y : Option Addr) (c1 m : Nat) (p : List Int) (a : Nat → Addr) (w : World) (hS : Sents w a) (hA : CsAt w x l) (hI : IntsAt w y p) (hl : Hid (len = l.length)) (hlen : len ≤ 9223372036854775807) (hm : Hid (m = p.length)) (hml : m ≤ 9223372036854775807) (hN64 : -9223372036854775808 ≤ N ∧ N ≤ 9223372036854775807) :
    Calls Tryz.prog 3 #[(.agg #[.int .i64 N, (.slice x len c0)]), .slice y m c1] w fun e w' => e = .returned (.bool true) ∧ Below w.heap.size w w' := by
  have s0 := (St.startSCU hS hA hI).box2 24 (.int .i64 N) (.slice x len c0)
  go_enter Tryz.func3, Tryz.ntmps3
  go_wp2_with fail
  refine (Oc.free_any a _ s0.sent.1.errs).mono ?_
  rintro e w1 ⟨rfl, hb1⟩
  (have s1 := s0.call hb1; have q1 := s1.hold; simp only [Holds, and_true] at q1; clear s0 hb1; try clear q0)
  clear hS hA hI
  by_cases h100 : len ≤ 100
  rotate_left
  · have h100' : (100 : Int) < (len : Int) := by omega
    go_wp2_with fail
    go_ret
    exact ⟨rfl, s1.bel⟩
  have h100' : ¬ (100 : Int) < (len : Int) := by omega
  by_cases k100 : m ≤ 20
  rotate_left
  · have k100' : (20 : Int) < (m : Int) := by omega
    go_wp2_with fail
    go_ret
    exact ⟨rfl, s1.bel⟩
  have k100' : ¬ (20 : Int) < (m : Int) := by omega
  obtain ⟨E, hE⟩ : ∃ E, E = zErr N l := ⟨_, rfl⟩
  have hEr : 0 ≤ E ∧ E ≤ 8 := by rw [hE]; exact zoErr_range N l
  have HE : Hid (∀ W : World, CsAt W x l → Calls Tryz.prog 5 #[(.agg #[.int .i64 N, (.slice x len c0)])] W fun e w' => e = .returned (.int .i64 E) ∧ Below W.heap.size W w') := fun W h => by rw [hE]; exact zoneError_any N x c0 len l W hN64 h hl (by omega)
  have HZ : Hid (∀ W : World, CsAt W x l → Calls Tryz.prog 7 #[(.agg #[.int .i64 N, (.slice x len c0)])] W fun e w' => ∃ y cap, e = .returned (.agg #[.int .i64 N, (.slice y len cap)]) ∧ CsAt w' y l ∧ Below W.heap.size W w') := fun W h => zoneOf_any N x c0 len l W h hl (by omega)
  have HI : Hid (∀ W : World, IntsAt W y p → Calls Tryz.prog 16 #[.slice y m c1] W fun e w' => ∃ y' cap, e = .returned (.slice y' m cap) ∧ IntsAt w' y' p ∧ Below W.heap.size W w') := fun W h => intsCopy_as y m c1 p W h hm (by omega)
  obtain ⟨k, hk⟩ : ∃ k, k = N.toNat := ⟨_, rfl⟩
  obtain ⟨len2, hl2⟩ : ∃ k', k' = (2 * k) * (2 * k) := ⟨_, rfl⟩
  obtain ⟨OK, hOK⟩ : ∃ P, P = ozOk k (matOf (k + 1) l) := ⟨_, rfl⟩
  obtain ⟨OL, hOL⟩ : ∃ P, P = ozL k (matOf (k + 1) l) := ⟨_, rfl⟩
  have HO : Hid (∀ (W : World) (z : Option Addr) (cz : Nat), ErrS W a → CsAt W z l → Calls Tryz.prog 6 #[(.agg #[.int .i64 N, (.slice z len cz)])] W fun e w' => ZrPost W a E N len2 OK OL e w') := fun W z cz h1 h2 => by
    rw [hE, hOK, hOL]; exact ofZone_any N z cz len k len2 l a W h1 h2 hl (by omega) hk hl2
  have HD : Hid (∀ (W : World), Sents W a → Calls Tryz.prog 8 #[erV a E, .int .i64 E] W fun e w' => e = .returned (.bool true) ∧ Below W.heap.size W w') := fun W h => coded_erU E hEr.1 hEr.2 a W h
  have HEq := hide hE
  have HOK := hide hOK
  have HOL := hide hOL
  have Hk := hide hk
  have Hl2 := hide hl2
  clear hE hOK hOL hk hl2
  go_wp2_with fail
  refine (HE.out _ s1.sent.2.1).mono ?_
  rintro e w2 ⟨rfl, hb2⟩
  (have s2 := s1.call hb2; have q2 := s2.hold; simp only [Holds, and_true] at q2; clear s1 hb2; try clear q1)
  go_wp2_with fail
  refine (HZ.out _ s2.sent.2.1).mono ?_
  rintro e w3 ⟨y3, d3, rfl, hy3, hb3⟩
  (have s3 := s2.call hb3; have q3 := s3.hold; simp only [Holds, and_true] at q3; clear s2 hb3; try clear q2)
  go_wp2_with fail
  refine (HO.out _ y3 d3 s3.sent.1.errs hy3).mono ?_
  rintro e w4 ⟨hb4, h4⟩
  (have s4 := s3.call hb4; have q4 := s4.hold; simp only [Holds, and_true] at q4; clear s3 hb4; try clear q3)
  obtain ⟨N4, x4, k4, c4, is, L4, rfl, hx4, hk4, h4'⟩ : ∃ (N4 : Int) (x4 : Option Addr) (k4 c4 : Nat) (is : Bool) (L4 : List Ce), e = .returned (.tuple #[(.agg #[.int .i64 N4, (.slice x4 k4 c4)]), .bool is, erV a E]) ∧ CsAt w4 x4 L4 ∧ k4 = L4.length ∧ ((E ≠ 0 ∧ is = false ∧ N4 = 0 ∧ L4 = []) ∨ (E = 0 ∧ is = false ∧ N4 = 0 ∧ L4 = [] ∧ ¬ OK) ∨ (E = 0 ∧ is = true ∧ N4 = N ∧ OK ∧ L4 = OL)) := by
    rcases h4 with ⟨h, rfl⟩ | ⟨h, h', rfl⟩ | ⟨h, h', g, cp, rfl, _, hR⟩
    · exact ⟨0, none, 0, 0, false, [], rfl, .inl rfl, rfl, .inl ⟨h, rfl, rfl, rfl⟩⟩
    · exact ⟨0, none, 0, 0, false, [], by rw [h, erV_0], .inl rfl, rfl, .inr (.inl ⟨h, rfl, rfl, rfl, h'⟩)⟩
    · exact ⟨N, some ⟨g, 0, none⟩, len2, cp, true, _, by rw [h, erV_0], .inr ⟨g, 0, rfl, hR⟩, by rw [HOL.out, ozL, tellL_len]; exact Hl2.out, .inr (.inr ⟨h, rfl, rfl, h', rfl⟩)⟩
  have H4 := hide h4'
  have Hk4 := hide hk4
  clear h4 h4' hy3 hk4 HE HO
  have s5 := s4.box2 30 (.int .i64 N4) (.slice x4 k4 c4)
  have hx5 := hx4.below ((Below.refl _ _).alloc (Nat.le_refl _) (.cells #[.int .i64 N4, .slice x4 k4 c4] 30))
  have q5 := s5.hold
  simp only [Holds, and_true] at q5
  have hbW := s5.bel
  have s6 := s5.re.both (Y := fun W => CsAt W x4 L4) hx5 (fun _ _ q hb => CsAt.stays hx5 q hb)
  have hfin : ∀ W : World, Below (w4.alloc (.cells #[.int .i64 N4, .slice x4 k4 c4] 30)).heap.size (w4.alloc (.cells #[.int .i64 N4, .slice x4 k4 c4] 30)) W → Below w.heap.size w W := fun W h => hbW.trans (h.mono hbW.size)
  have Hfin := hide hfin
  clear s5 hx4 hx5 hfin hbW
  by_cases hE0 : E = 0
  rotate_left
  · have hEp : 0 < E := by omega
    obtain ⟨rfl, rfl, rfl⟩ : is = false ∧ N4 = 0 ∧ L4 = [] := by
      rcases H4.out with h | h | h
      · exact ⟨h.2.1, h.2.2.1, h.2.2.2⟩
      · exact absurd h.1 hE0
      · exact absurd h.1 hE0
    obtain rfl : k4 = 0 := Hk4.out
    have HNo : Hid (∀ W : World, Calls Tryz.prog 9 #[(.agg #[.int .i64 0, (.slice x4 0 c4)])] W fun e w' => e = .returned (.bool true) ∧ Below W.heap.size W w') := fun W => (Oc.noZone_any 0 x4 0 c4 W).mono fun e w' h => ⟨h.1, h.2⟩
    clear HEq hEr
    go_wp2_with fail
    refine (HD.out _ s6.sent.1.1).mono ?_
    rintro e w7 ⟨rfl, hb7⟩
    (have s7 := s6.call hb7; have q7 := s7.hold; simp only [Holds, and_true] at q7; clear s6 hb7; try clear q6)
    go_wp2_with fail
    refine (HNo.out _).mono ?_
    rintro e w8 ⟨rfl, hb8⟩
    (have s8 := s7.call hb8; have q8 := s8.hold; simp only [Holds, and_true] at q8; clear s7 hb8; try clear q7)
    go_wp2_with fail
    go_ret
    exact ⟨rfl, Hfin.out _ s8.bel⟩
  subst hE0
  rw [erV_0]
  obtain ⟨z1, z2, z3, z4, z5, z6⟩ := zErr_0 HEq.out.symm
  obtain ⟨n, hn⟩ : ∃ n, n = nOf N := ⟨_, rfl⟩
  rw [← hn] at z1 z2 z3 z4
  have hkn : k + 1 = n := by have := Hk.out; omega
  have hkN : N = (k : Int) := by omega
  subst hkN
  have hk4' : k ≤ 4 := by omega
  have hll : Hid (len = n * n) := by show _ = _; rw [hl.out]; exact z4
  obtain ⟨nr, hnr⟩ : ∃ b, b = nearL l 1048576 := ⟨_, rfl⟩
  have HNr : Hid (∀ W : World, CsAt W x l → Calls Tryz.prog 10 #[.slice x len c0] W fun e w' => e = .returned (.bool nr) ∧ w' = W) := fun W h => by
    refine (near_law x c0 len l W h hl (by omega)).mono ?_
    rintro e w' ⟨rfl, rfl⟩
    exact ⟨by rw [decide_eq_true (by omega), hnr]; rfl, rfl⟩
  cases nr
  · clear hnr z5 z6
    go_wp2_with fail
    refine (HNr.out _ s6.sent.1.2.1).mono ?_
    rintro e w7 ⟨rfl, hw7⟩
    rw [hw7]
    go_wp2_with fail
    go_ret
    exact ⟨rfl, Hfin.out _ s6.bel⟩
  have hsm : ∀ i, i < l.length → (l.getD i ceZ).m.natAbs ≤ 1048576 := near_sizeU hnr.symm
  have hsz : Sz (k + 1) 1048576 (matOf (k + 1) l) := by rw [hkn]; exact sz_mat z4 hsm
  have HU : Hid (∀ W : World, CsAt W x l → Calls Tryz.prog 12 #[(.agg #[.int .i64 (k : Int), (.slice x len c0)])] W fun e w' => Oc.OzPost W k len2 (matOf n l) e w') := by
    intro W h
    obtain ⟨b, off, rfl, hR⟩ := h.rowOf (by rw [z4]; exact Nat.mul_le_mul z2 z2)
    exact Oc.ofZoneR_any k n b off c0 len len2 l W hR hl hll hkn hk4' Hl2 hsm
  have HRd : Hid (∀ W : World, CsAt W x l → Calls Tryz.prog 13 #[(.agg #[.int .i64 (k : Int), (.slice x len c0)])] W fun e w' => e = .returned (.bool (!tnB n (matOf n l))) ∧ Below W.heap.size W w') := by
    intro W h
    obtain ⟨b, off, rfl, hR⟩ := h.rowOf (by rw [z4]; exact Nat.mul_le_mul z2 z2)
    exact Oc.roundZone_any k n b off c0 len l W hR hl hll z2 z3 z1
  obtain ⟨tb, htb⟩ : ∃ b, b = tnB n (matOf n l) := ⟨_, rfl⟩
  rw [← htb] at HRd
  have HC : Hid (∀ (W : World) (g cap : Nat) (R : List Ce), Oc.OzI k (matOf n l) (fun _ _ => True) R → RowC W g 0 R → Calls Tryz.prog 11 #[(.agg #[.int .i64 (k : Int), (.slice (some ⟨g, 0, none⟩) len2 cap)])] W fun e w' => Below W.heap.size W w' ∧ ∃ (N5 : Int) (x5 : Option Addr) (k5 c5 : Nat) (b5 : Bool) (L5 : List Ce), e = .returned (.tuple #[(.agg #[.int .i64 N5, (.slice x5 k5 c5)]), .bool b5]) ∧ CsAt w' x5 L5 ∧ k5 = L5.length ∧ L5.length ≤ 64 ∧ ((tb = true ∧ is = b5 ∧ N5 = N4 ∧ L5 = L4) ∨ (tb = false ∧ is = false ∧ N4 = 0 ∧ L4 = []))) := by
    intro W g cap R hO hR
    refine (closedU k len2 g cap R (matOf n l) W hk4' hO (by rw [hO.near.len]; exact Hl2.out) hR).mono ?_
    rintro e w' ⟨hb, N5, x5, k5, c5, b5, L5, rfl, hx, hk5, h5⟩
    rw [← hkn] at hO
    obtain ⟨o1, o2⟩ := oz_same hk4' hsz hO
    rw [hkn, ← htb] at o1
    have hOK := HOK.out
    have hOL := HOL.out
    rw [hkn] at hOK hOL o2
    rw [← hOK] at o1 o2
    rw [← hOL] at o2
    have hL5 : L5.length ≤ 64 := by
      rcases h5 with h | h
      · rw [h.2.2.1]; simp
      · rw [h.2.2.1]
        have : (rowOf (2 * k) (tg (2 * k) (matOf (2 * k) R))).length = (2 * k) * (2 * k) := by simp [rowOf]
        rw [this]
        exact Nat.mul_le_mul (show 2 * k ≤ 8 by omega) (show 2 * k ≤ 8 by omega)
    refine ⟨hb, N5, x5, k5, c5, b5, L5, rfl, hx, hk5, hL5, ?_⟩
    rcases H4.out with h4 | h4 | h4
    · exact absurd rfl h4.1
    · obtain ⟨_, rfl, rfl, rfl, hno⟩ := h4
      cases htb' : tb with
      | false => exact .inr ⟨rfl, rfl, rfl, rfl⟩
      | true =>
        rcases h5 with h | h
        · exact .inl ⟨rfl, h.1.symm, h.2.1, h.2.2.1⟩
        · exact absurd (o1.2 ⟨htb', h.2.2.2⟩) hno
    · obtain ⟨_, rfl, rfl, hyes, rfl⟩ := h4
      obtain ⟨t1, t2⟩ := o1.1 hyes
      rcases h5 with h | h
      · exact absurd t2 h.2.2.2
      · exact .inl ⟨t1, h.1.symm, h.2.1, by rw [h.2.2.1, o2 hyes]⟩
  have Hhas : Hid (is = true → (∀ v ∈ p, v.natAbs ≤ 1099511627776) → N4 = (k : Int) ∧ Oc.inB (Oc.nOf N4) (Oc.ptD p) (encM (matOf (Oc.nOf N4) L4)) = inB n (ptD p) (encM (matOf n l))) := by
    intro h1 h2
    rcases H4.out with h4 | h4 | h4
    · exact absurd rfl h4.1
    · rw [h4.2.1] at h1; cases h1
    · obtain ⟨_, _, rfl, hyes, rfl⟩ := h4
      have e : Oc.nOf (k : Int) = 2 * k := by unfold Oc.nOf; omega
      rw [e, ← hkn, HOL.out]
      exact ⟨rfl, oz_has hk4' hsz (by rw [← HOK.out]; exact hyes) h2⟩
  have HH1 : Hid (∀ (W : World) (z y' : Option Addr) (cz cy : Nat), ErrS W a → CsAt W z l → IntsAt W y' p → Calls Tryz.prog 15 #[(.agg #[.int .i64 (k : Int), (.slice z len cz)]), .slice y' m cy] W fun e w' => HasPost W a (hasErr (k : Int) l p) (inB n (ptD p) (encM (matOf n l))) e w') := by
    intro W z y' cz cy h1 h2 h3
    rw [hn]
    exact has_any (k : Int) z len cz l y' m cy p a W h1 h2 h3 hl (by omega) hm (by omega)
  have HH2 : Hid (k4 ≤ 1000 → ∀ (W : World) (y' : Option Addr) (cy : Nat), ErrS W a → CsAt W x4 L4 → IntsAt W y' p → Calls Tryz.prog 17 #[(.agg #[.int .i64 N4, (.slice x4 k4 c4)]), .slice y' m cy] W fun e w' => Oc.HasPost W a (Oc.hasErr N4 L4 p) (Oc.inB (Oc.nOf N4) (Oc.ptD p) (encM (matOf (Oc.nOf N4) L4))) e w') := by
    intro h0 W y' cy h1 h2 h3
    exact Oc.has_any N4 x4 k4 c4 L4 y' m cy p a W h1 h2 h3 Hk4 h0 hm (by omega)
  have HIs : Hid (∀ (W : World) (x5 : Option Addr) (c5 k5 : Nat), k5 = L4.length → k4 ≤ 1000 → CsAt W x4 L4 → CsAt W x5 L4 → Calls Tryz.prog 14 #[(.agg #[.int .i64 N4, (.slice x4 k4 c4)]), (.agg #[.int .i64 N4, (.slice x5 k5 c5)])] W fun e w' => e = .returned (.bool true) ∧ Below W.heap.size W w') := by
    intro W x5 c5 k5 hk5 h0 h1 h2
    refine (Oc.isZone_any N4 N4 x4 x5 k4 c4 k5 c5 L4 L4 W h1 h2 Hk4 hk5 h0).mono ?_
    rintro e w' ⟨rfl, hb⟩
    exact ⟨by simp, hb⟩
  have hk4b : k4 ≤ 1000 := by
    rw [Hk4.out]
    rcases H4.out with h4 | h4 | h4
    · exact absurd rfl h4.1
    · rw [h4.2.2.2.1]; simp
    · rw [h4.2.2.2.2, HOL.out, ozL, tellL_len]
      have := Nat.mul_le_mul (show 2 * k ≤ 8 by omega) (show 2 * k ≤ 8 by omega)
      omega
  have Hpe : Hid (hasErr (k : Int) l p = 0 → ∀ v ∈ p, v.natAbs ≤ 1099511627776) := by
    intro h
    have h2 : ptErr (k : Int) p = 0 := by
      unfold hasErr at h
      rw [← HEq.out] at h
      simp [firstE] at h
      exact Classical.byContradiction fun c => c (h c)
    exact (ptErr_0 h2).2
  have Htb := hide htb
  have Hnr := hide hnr
  clear htb hnr hsm hsz H4 HOK HOL Hk Hl2 HEq hn z1 z2 z3 z4 z5 z6 hll hkn HD hEr
  go_wp2_with fail
  refine (HNr.out _ s6.sent.1.2.1).mono ?_
  rintro e w7 ⟨rfl, hw7⟩
  rw [hw7]
  clear hw7 w7 HNr
  go_wp2_with fail
  refine (HU.out _ s6.sent.1.2.1).mono ?_
  rintro e w8 ⟨hb8, R, g8, cap8, rfl, hR8, hO8⟩
  have HO8 := hide hO8
  clear hO8
  (have s8 := s6.call hb8; have q8 := s8.hold; simp only [Holds, and_true] at q8; clear s6 hb8; try clear q6)
  go_wp2_with fail
  refine (HC.out _ g8 cap8 R HO8.out hR8).mono ?_
  rintro e w9 ⟨hb9, N5, x5, k5, c5, b5, L5, rfl, hx9, hk5, hL5, h5⟩
  have H5 := hide h5
  have Hk5 := hide hk5
  clear h5 hk5 HU HC HO8 hR8
  (have s9 := s8.call hb9; have q9 := s9.hold; simp only [Holds, and_true] at q9; clear s8 hb9; try clear q8)
  have s10 := s9.box2 42 (.int .i64 N5) (.slice x5 k5 c5)
  have hx10 := hx9.below ((Below.refl _ _).alloc (Nat.le_refl _) (.cells #[.int .i64 N5, .slice x5 k5 c5] 42))
  have hbW := s10.bel
  have s11 := s10.re.both (Y := fun W => CsAt W x5 L5) hx10 (fun _ _ q hb => CsAt.stays hx10 q hb)
  have hfin : ∀ W : World, Below (w9.alloc (.cells #[.int .i64 N5, .slice x5 k5 c5] 42)).heap.size (w9.alloc (.cells #[.int .i64 N5, .slice x5 k5 c5] 42)) W → Below w.heap.size w W := fun W h => Hfin.out _ (hbW.trans (h.mono hbW.size))
  have Hfin2 := hide hfin
  have Hbw := hide hbW
  clear hx9 hx10 hfin hbW s9
  go_wp2_with fail
  refine (HRd.out _ s11.sent.1.1.2.1).mono ?_
  rintro e w12 ⟨rfl, hb12⟩
  cases tb
  · obtain ⟨rfl, rfl, rfl⟩ : is = false ∧ N4 = 0 ∧ L4 = [] := by
      rcases H5.out with h | h
      · cases h.1
      · exact h.2
    have s12 := s10.call hb12
    have q12 := s12.hold
    simp only [Holds, and_true] at q12
    have b4 : w4.heap.size < w9.heap.size := q9.1.2.1
    have b0 : w.heap.size < w9.heap.size := q9.2.2.1.2.1
    have s13 := (s12.put20 (by simp only [World.size_alloc]; omega) ⟨by dsimp only; omega, by dsimp only; omega, by dsimp only; omega, by dsimp only; omega, trivial⟩ (.int .i64 0)).put21 (by simp only [World.size_alloc]; omega) ⟨by dsimp only; omega, by dsimp only; omega, by dsimp only; omega, by dsimp only; omega, trivial⟩ (.slice none 0 0)
    clear s10 s11 hb12 H5 q9 s12 HZ HI HH1 HH2 Hhas Hpe
    have q13 := s13.hold
    simp only [Holds, and_true] at q13
    by_cases hmk : (m : Int) = (k : Int)
    all_goals
      go_wp2_with fail
      refine (HIs.out _ none 0 0 rfl hk4b s13.sent.2 (.inl rfl)).mono ?_
      rintro e w14 ⟨rfl, hb14⟩
      have s14 := s13.call hb14
      have q14 := s14.hold
      simp only [Holds, and_true] at q14
      go_wp2_with fail
      go_ret
      exact ⟨rfl, Hfin.out _ s14.bel⟩
  · obtain ⟨rfl, rfl, rfl⟩ : is = b5 ∧ N4 = N5 ∧ L4 = L5 := by
      rcases H5.out with h | h
      · exact ⟨h.2.1, h.2.2.1.symm, h.2.2.2.symm⟩
      · cases h.1
    have s12 := s11.call hb12
    have q12 := s12.hold
    simp only [Holds, and_true] at q12
    clear s10 s11 hb12 H5 q9 Hbw Hfin
    have HIs2 : Hid (∀ W : World, CsAt W x4 L4 → CsAt W x5 L4 → Calls Tryz.prog 14 #[(.agg #[.int .i64 N4, (.slice x4 k4 c4)]), (.agg #[.int .i64 N4, (.slice x5 k5 c5)])] W fun e w' => e = .returned (.bool true) ∧ Below W.heap.size W w') := fun W h1 h2 => HIs.out W x5 c5 k5 Hk5.out hk4b h1 h2
    clear HIs Hk5
    by_cases hmk : (m : Int) = (k : Int)
    rotate_left
    · cases is
      all_goals
        go_wp2_with fail
        refine (HIs2.out _ s12.sent.1.2 s12.sent.2).mono ?_
        rintro e w14 ⟨rfl, hb14⟩
        have s14 := s12.call hb14
        have q14 := s14.hold
        simp only [Holds, and_true] at q14
        go_wp2_with fail
        go_ret
        exact ⟨rfl, Hfin2.out _ s14.bel⟩
    cases is
    · go_wp2_with fail
      refine (HIs2.out _ s12.sent.1.2 s12.sent.2).mono ?_
      rintro e w14 ⟨rfl, hb14⟩
      have s14 := s12.call hb14
      have q14 := s14.hold
      simp only [Holds, and_true] at q14
      go_wp2_with fail
      go_ret
      exact ⟨rfl, Hfin2.out _ s14.bel⟩
    have HH3 : Hid (∀ (W : World) (y' : Option Addr) (cy : Nat), ErrS W a → CsAt W x4 L4 → IntsAt W y' p → Calls Tryz.prog 17 #[(.agg #[.int .i64 N4, (.slice x4 k4 c4)]), .slice y' m cy] W fun e w' => ∃ (b2 : Bool) (e2 : Int), e = .returned (.tuple #[.bool b2, erV a e2]) ∧ Below W.heap.size W w' ∧ (e2 = 0 → b2 = Oc.inB (Oc.nOf N4) (Oc.ptD p) (encM (matOf (Oc.nOf N4) L4)))) := by
      intro W y' cy h1 h2 h3
      refine (HH2.out hk4b W y' cy h1 h2 h3).mono ?_
      rintro e w' ⟨hb, ⟨h, rfl⟩ | ⟨h, rfl⟩⟩
      · exact ⟨false, _, rfl, hb, fun h' => absurd h' h⟩
      · exact ⟨_, 0, by rw [erV_0], hb, fun _ => rfl⟩
    clear HH2
    obtain ⟨B1, hB1⟩ : ∃ B, B = inB n (ptD p) (encM (matOf n l)) := ⟨_, rfl⟩
    obtain ⟨B2, hB2⟩ : ∃ B, B = Oc.inB (Oc.nOf N4) (Oc.ptD p) (encM (matOf (Oc.nOf N4) L4)) := ⟨_, rfl⟩
    rw [← hB1] at HH1 Hhas
    rw [← hB2] at HH3 Hhas
    clear hB1 hB2
    go_wp2_with fail
    refine (HIs2.out _ s12.sent.1.2 s12.sent.2).mono ?_
    rintro e w14 ⟨rfl, hb14⟩
    (have s14 := s12.call hb14; have q14 := s14.hold; simp only [Holds, and_true] at q14; clear s12 hb14; try clear q12)
    go_wp2_with fail
    refine (HZ.out _ s14.sent.1.1.2.1).mono ?_
    rintro e w15 ⟨y15, d15, rfl, hy15, hb15⟩
    (have s15 := s14.call hb15; have q15 := s15.hold; simp only [Holds, and_true] at q15; clear s14 hb15; try clear q14)
    go_wp2_with fail
    refine (HI.out _ s15.sent.1.1.2.2).mono ?_
    rintro e w16 ⟨y16, d16, rfl, hy16, hb16⟩
    have hy15' := hy15.below hb16
    (have s16 := s15.call hb16; have q16 := s16.hold; simp only [Holds, and_true] at q16; clear s15 hb16; try clear q15)
    go_wp2_with fail
    refine (HH1.out _ y15 y16 d15 d16 s16.sent.1.1.1.errs hy15' hy16).mono ?_
    rintro e w17 ⟨hb17, h17⟩
    (have s17 := s16.call hb17; have q17 := s17.hold; simp only [Holds, and_true] at q17; clear s16 hb17; try clear q16)
    clear hy15 hy15' hy16
    obtain ⟨b1, e1, rfl, h1⟩ : ∃ (b1 : Bool) (e1 : Int), e = .returned (.tuple #[.bool b1, erV a e1]) ∧ (e1 = 0 → b1 = B1 ∧ hasErr (k : Int) l p = 0) := by
      rcases h17 with ⟨h, rfl⟩ | ⟨h, rfl⟩
      · exact ⟨false, _, rfl, fun h' => absurd h' h⟩
      · exact ⟨B1, 0, by rw [erV_0], fun _ => ⟨rfl, h⟩⟩
    have H1 := hide h1
    clear h1 h17 HZ HH1 HIs2
    obtain ⟨W10, hW10⟩ : ∃ W, W = w9.alloc (.cells #[.int .i64 N4, .slice x5 k5 c5] 42) := ⟨_, rfl⟩
    rw [← hW10] at s17 Hfin2
    clear hW10
    have s18 : St W10 w17 (ZU a x l y p x4 x5 L4) [(w9.heap.size, 0, Value.int .i64 N4), (w9.heap.size, 1, Value.slice x5 k5 c5), (w4.heap.size, 0, Value.int .i64 N4), (w4.heap.size, 1, Value.slice x4 k4 c4), (w.heap.size, 0, Value.int .i64 k), (w.heap.size, 1, Value.slice x len c0)] := s17
    clear s17
    go_upto_region 20 with fail
    go_region_held3 (fun w' => w'.cell? ⟨w9.heap.size, 0, none⟩ = some (.int .i64 N4) ∧ w'.cell? ⟨w9.heap.size, 1, none⟩ = some (.slice x5 k5 c5) ∧ w'.cell? ⟨w4.heap.size, 0, none⟩ = some (.int .i64 N4) ∧ w'.cell? ⟨w4.heap.size, 1, none⟩ = some (.slice x4 k4 c4) ∧ w'.cell? ⟨w.heap.size, 0, none⟩ = some (.int .i64 k) ∧ w'.cell? ⟨w.heap.size, 1, none⟩ = some (.slice x len c0) ∧ St W10 w' (ZU a x l y p x4 x5 L4) [(w9.heap.size, 0, Value.int .i64 N4), (w9.heap.size, 1, Value.slice x5 k5 c5), (w4.heap.size, 0, Value.int .i64 N4), (w4.heap.size, 1, Value.slice x4 k4 c4), (w.heap.size, 0, Value.int .i64 k), (w.heap.size, 1, Value.slice x len c0)]) (first | (exact keepSt0 [(w9.heap.size, 0, Value.int .i64 N4), (w9.heap.size, 1, Value.slice x5 k5 c5), (w4.heap.size, 0, Value.int .i64 N4), (w4.heap.size, 1, Value.slice x4 k4 c4), (w.heap.size, 0, Value.int .i64 k), (w.heap.size, 1, Value.slice x len c0)] s18.drew) | (exact keepSt [(w9.heap.size, 0, Value.int .i64 N4), (w9.heap.size, 1, Value.slice x5 k5 c5), (w4.heap.size, 0, Value.int .i64 N4), (w4.heap.size, 1, Value.slice x4 k4 c4), (w.heap.size, 0, Value.int .i64 k), (w.heap.size, 1, Value.slice x len c0)] (by assumption) (by assumption)) | assumption)
      (first
        | (go_at_call 16; refine (HI.out _ (keepZU (w := W10) (a := a) (x := x) (l := l) (y := y) (p := p) (x4 := x4) (x5 := x5) (L4 := L4) [(w9.heap.size, 0, Value.int .i64 N4), (w9.heap.size, 1, Value.slice x5 k5 c5), (w4.heap.size, 0, Value.int .i64 N4), (w4.heap.size, 1, Value.slice x4 k4 c4), (w.heap.size, 0, Value.int .i64 k), (w.heap.size, 1, Value.slice x len c0)] (by assumption)).1.1.2.2).mono ?_; rintro e w19 ⟨y19, d19, rfl, hy19, hb19⟩)
        | (go_at_call 17; refine (HH3.out _ _ _ (keepZU (w := W10) (a := a) (x := x) (l := l) (y := y) (p := p) (x4 := x4) (x5 := x5) (L4 := L4) [(w9.heap.size, 0, Value.int .i64 N4), (w9.heap.size, 1, Value.slice x5 k5 c5), (w4.heap.size, 0, Value.int .i64 N4), (w4.heap.size, 1, Value.slice x4 k4 c4), (w.heap.size, 0, Value.int .i64 k), (w.heap.size, 1, Value.slice x len c0)] (by assumption)).1.1.1.errs (keepZU (w := W10) (a := a) (x := x) (l := l) (y := y) (p := p) (x4 := x4) (x5 := x5) (L4 := L4) [(w9.heap.size, 0, Value.int .i64 N4), (w9.heap.size, 1, Value.slice x5 k5 c5), (w4.heap.size, 0, Value.int .i64 N4), (w4.heap.size, 1, Value.slice x4 k4 c4), (w.heap.size, 0, Value.int .i64 k), (w.heap.size, 1, Value.slice x len c0)] (by assumption)).1.2 hy19).mono ?_; rintro e w20 ⟨b2, e2, rfl, hb20, h2⟩))
    all_goals
      have hbe := keepSt_bel (w := W10) (W := w20) (Z := ZU a x l y p x4 x5 L4) [(w9.heap.size, 0, Value.int .i64 N4), (w9.heap.size, 1, Value.slice x5 k5 c5), (w4.heap.size, 0, Value.int .i64 N4), (w4.heap.size, 1, Value.slice x4 k4 c4), (w.heap.size, 0, Value.int .i64 k), (w.heap.size, 1, Value.slice x len c0)] (by assumption)
      have H2 := hide h2
      clear h2
      by_cases he1 : e1 = 0
      · subst he1
        by_cases he2 : e2 = 0
        · subst he2
          obtain ⟨rfl, hz⟩ := H1.out (by first | rfl | trivial)
          obtain rfl := H2.out (by first | rfl | trivial)
          have hv := Hpe.out hz
          obtain ⟨_, hbb⟩ := Hhas.out (by first | rfl | trivial) hv
          subst hbb
          rw [erV_0]
          clear H1 H2 Hpe Hhas hv hz
          cases b2
          all_goals
            go_wp2_with fail
            go_ret
            exact ⟨rfl, Hfin2.out _ hbe⟩
        · rw [erV_0, erV_ne he2]
          go_wp2_with fail
          go_ret
          exact ⟨rfl, Hfin2.out _ hbe⟩
      · rw [erV_ne he1]
        go_wp2_with fail
        go_ret
        exact ⟨rfl, Hfin2.out _ hbe⟩

theorem octZone_true (N : Int) (x : Option Addr) (c0 : Nat) (l : List Ce) (y : Option Addr) (c1 k : Nat) (p : List Int) (a : Nat → Addr) (w : World) (hS : Sents w a) (hN : -9223372036854775808 ≤ N ∧ N ≤ 9223372036854775807) (hA : CsAt w x l) (hlen : l.length ≤ 9223372036854775807) (hm : ∀ A ∈ l, -9223372036854775808 ≤ A.m ∧ A.m ≤ 9223372036854775807)
    (hI : IntsAt w y p) (hk : k = p.length) (hkl : k ≤ 9223372036854775807) (hw : ∀ v ∈ p, -9223372036854775808 ≤ v ∧ v ≤ 9223372036854775807) :
    Calls Tryz.prog 3 #[(.agg #[.int .i64 N, (.slice x l.length c0)]), .slice y k c1] w fun e w' => e = .returned (.bool true) ∧ Below w.heap.size w w' :=
  octZone_by N x c0 l.length l y c1 k p a w hS hA hI rfl hlen hk hkl hN
end Go.Proofs.YtbafkjhlogkllaaGreatDoor
