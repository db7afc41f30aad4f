/- Small intervals: sums and products in any order. -/
import Derived.Test.YtegibkjopkakhaaDoorIt
namespace Go.Proofs.YtegibkjopkakhaaDoor

/-- Bounds, and both at most m in size. -/
def Fin (A : Iv) (m : Int) : Prop := A.d = false ∧ A.u = false ∧ -m ≤ A.lo ∧ A.lo ≤ A.hi ∧ A.hi ≤ m

theorem Fin.mem {A : Iv} {m : Int} (h : Fin A m) (n : Int) : inI A n ↔ A.lo ≤ n ∧ n ≤ A.hi := by
  unfold inI; rw [h.1, h.2.1]; simp

theorem least_fin {S : Int → Prop} {R : Iv} (h : LeastOf S R) (hb : ∀ n, S n → -1000000000 ≤ n ∧ n ≤ 1000000000) :
    R.d = false ∧ R.u = false ∧ S R.lo ∧ S R.hi ∧ (∀ n, S n → R.lo ≤ n ∧ n ≤ R.hi) := by
  have hu : R.u = false := by
    cases hu : R.u with
    | false => rfl
    | true => obtain ⟨n, h1, h2⟩ := h.up hu; have := hb n h1; omega
  have hd : R.d = false := by
    cases hd : R.d with
    | false => rfl
    | true => obtain ⟨n, h1, h2⟩ := h.dn hd; have := hb n h1; omega
  refine ⟨hd, hu, ?_, ?_, ?_⟩
  · obtain ⟨n, h1, h2 | h2⟩ := h.lo hd
    · rwa [← h2]
    · have := hb n h1; omega
  · obtain ⟨n, h1, h2 | h2⟩ := h.hi hu
    · rwa [← h2]
    · have := hb n h1; omega
  · intro n hn
    have := h.sound n hn
    unfold inI at this
    rw [hd, hu] at this
    simpa using this

theorem sum_fin {A B R : Iv} {m k : Int} (hA : Fin A m) (hB : Fin B k) (hm : m + k ≤ 1000000000) (h : LeastOf (sums A B) R) : R = ⟨false, false, A.lo + B.lo, A.hi + B.hi⟩ := by
  have mA := hA.mem
  have mB := hB.mem
  obtain ⟨_, _, a1, a2, a3⟩ := hA
  obtain ⟨_, _, b1, b2, b3⟩ := hB
  obtain ⟨h1, h2, ⟨x, y, hx, hy, e1⟩, ⟨x', y', hx', hy', e2⟩, h5⟩ := least_fin h (by
    rintro n ⟨x, y, hx, hy, rfl⟩
    have := (mA x).1 hx
    have := (mB y).1 hy
    omega)
  have hx := (mA x).1 hx
  have hy := (mB y).1 hy
  have hx' := (mA x').1 hx'
  have hy' := (mB y').1 hy'
  have k1 := h5 (A.lo + B.lo) ⟨A.lo, B.lo, (mA _).2 ⟨by omega, by omega⟩, (mB _).2 ⟨by omega, by omega⟩, rfl⟩
  have k2 := h5 (A.hi + B.hi) ⟨A.hi, B.hi, (mA _).2 ⟨by omega, by omega⟩, (mB _).2 ⟨by omega, by omega⟩, rfl⟩
  obtain ⟨d, u, lo, hi⟩ := R
  dsimp only at *
  rw [h1, h2, show lo = A.lo + B.lo by omega, show hi = A.hi + B.hi by omega]

theorem diff_fin {A B R : Iv} {m k : Int} (hA : Fin A m) (hB : Fin B k) (hm : m + k ≤ 1000000000) (h : LeastOf (diffs A B) R) : R = ⟨false, false, A.lo - B.hi, A.hi - B.lo⟩ := by
  have mA := hA.mem
  have mB := hB.mem
  obtain ⟨_, _, a1, a2, a3⟩ := hA
  obtain ⟨_, _, b1, b2, b3⟩ := hB
  obtain ⟨h1, h2, ⟨x, y, hx, hy, e1⟩, ⟨x', y', hx', hy', e2⟩, h5⟩ := least_fin h (by
    rintro n ⟨x, y, hx, hy, rfl⟩
    have := (mA x).1 hx
    have := (mB y).1 hy
    omega)
  have hx := (mA x).1 hx
  have hy := (mB y).1 hy
  have hx' := (mA x').1 hx'
  have hy' := (mB y').1 hy'
  have k1 := h5 (A.lo - B.hi) ⟨A.lo, B.hi, (mA _).2 ⟨by omega, by omega⟩, (mB _).2 ⟨by omega, by omega⟩, rfl⟩
  have k2 := h5 (A.hi - B.lo) ⟨A.hi, B.lo, (mA _).2 ⟨by omega, by omega⟩, (mB _).2 ⟨by omega, by omega⟩, rfl⟩
  obtain ⟨d, u, lo, hi⟩ := R
  dsimp only at *
  rw [h1, h2, show lo = A.lo - B.hi by omega, show hi = A.hi - B.lo by omega]

theorem mul_bd {x y m k : Int} (h1 : -m ≤ x) (h2 : x ≤ m) (h3 : -k ≤ y) (h4 : y ≤ k) : -(m * k) ≤ x * y ∧ x * y ≤ m * k := by
  have h5 := Int.mul_le_mul (show (x.natAbs : Int) ≤ m by omega) (show (y.natAbs : Int) ≤ k by omega) (by omega) (by omega)
  have h6 : ((x * y).natAbs : Int) = (x.natAbs : Int) * (y.natAbs : Int) := by rw [Int.natAbs_mul]; simp
  omega

theorem prods_comm (A B : Iv) (n : Int) : prods A B n ↔ prods B A n :=
  ⟨fun ⟨x, y, h1, h2, e⟩ => ⟨y, x, h2, h1, by rw [e, Int.mul_comm]⟩, fun ⟨x, y, h1, h2, e⟩ => ⟨y, x, h2, h1, by rw [e, Int.mul_comm]⟩⟩
theorem sums_comm (A B : Iv) (n : Int) : sums A B n ↔ sums B A n :=
  ⟨fun ⟨x, y, h1, h2, e⟩ => ⟨y, x, h2, h1, by rw [e, Int.add_comm]⟩, fun ⟨x, y, h1, h2, e⟩ => ⟨y, x, h2, h1, by rw [e, Int.add_comm]⟩⟩

theorem LeastOf.congr {S T : Int → Prop} {R : Iv} (h : LeastOf S R) (e : ∀ n, S n ↔ T n) : LeastOf T R :=
  ⟨h.ok, fun n hn => h.sound n ((e n).2 hn), fun k => let ⟨n, h1, h2⟩ := h.up k; ⟨n, (e n).1 h1, h2⟩, fun k => let ⟨n, h1, h2⟩ := h.hi k; ⟨n, (e n).1 h1, h2⟩, fun k => let ⟨n, h1, h2⟩ := h.dn k; ⟨n, (e n).1 h1, h2⟩, fun k => let ⟨n, h1, h2⟩ := h.lo k; ⟨n, (e n).1 h1, h2⟩⟩

theorem prod_fin {A B R : Iv} {m k : Int} (hA : Fin A m) (hB : Fin B k) (hm : m * k ≤ 1000000000) (h : LeastOf (prods A B) R) :
    Fin R (m * k) ∧ prods A B R.lo ∧ prods A B R.hi ∧ (∀ n, prods A B n → R.lo ≤ n ∧ n ≤ R.hi) := by
  have mA := hA.mem
  have mB := hB.mem
  obtain ⟨_, _, a1, a2, a3⟩ := hA
  obtain ⟨_, _, b1, b2, b3⟩ := hB
  have bd : ∀ n, prods A B n → -(m * k) ≤ n ∧ n ≤ m * k := by
    rintro n ⟨x, y, hx, hy, rfl⟩
    have := (mA x).1 hx
    have := (mB y).1 hy
    exact mul_bd (by omega) (by omega) (by omega) (by omega)
  obtain ⟨h1, h2, h3, h4, h5⟩ := least_fin h (fun n hn => by have := bd n hn; omega)
  exact ⟨⟨h1, h2, (bd _ h3).1, (h5 _ h4).1, (bd _ h4).2⟩, h3, h4, h5⟩

def triple (A B C : Iv) (n : Int) : Prop := ∃ x y z, inI A x ∧ inI B y ∧ inI C z ∧ n = x * y * z

theorem triple_least {A B C X U : Iv} (hA : Fin A 1000) (hB : Fin B 1000) (hC : Fin C 1000) (hX : LeastOf (prods A B) X) (hU : LeastOf (prods X C) U) : LeastOf (triple A B C) U := by
  obtain ⟨fX, ⟨x0, y0, hx0, hy0, e0⟩, ⟨x1, y1, hx1, hy1, e1⟩, bX⟩ := prod_fin hA hB (by omega) hX
  obtain ⟨fU, ⟨p0, z0, hp0, hz0, f0⟩, ⟨p1, z1, hp1, hz1, f1⟩, bU⟩ := prod_fin fX hC (by omega) hU
  have snd : ∀ n, triple A B C n → U.lo ≤ n ∧ n ≤ U.hi := by
    rintro n ⟨x, y, z, hx, hy, hz, rfl⟩
    exact bU _ ⟨x * y, z, (fX.mem _).2 (bX _ ⟨x, y, hx, hy, rfl⟩), hz, rfl⟩
  have hlo : ∃ n, triple A B C n ∧ n = U.lo := by
    have hp := (fX.mem _).1 hp0
    rcases Int.le_total 0 z0 with hz | hz
    · have t : triple A B C (x0 * y0 * z0) := ⟨x0, y0, z0, hx0, hy0, hz0, rfl⟩
      have := Int.mul_le_mul_of_nonneg_right hp.1 hz
      exact ⟨_, t, by have := (snd _ t).1; rw [← e0] at *; omega⟩
    · have t : triple A B C (x1 * y1 * z0) := ⟨x1, y1, z0, hx1, hy1, hz0, rfl⟩
      have := Int.mul_le_mul_of_nonpos_right hp.2 hz
      exact ⟨_, t, by have := (snd _ t).1; rw [← e1] at *; omega⟩
  have hhi : ∃ n, triple A B C n ∧ n = U.hi := by
    have hp := (fX.mem _).1 hp1
    rcases Int.le_total 0 z1 with hz | hz
    · have t : triple A B C (x1 * y1 * z1) := ⟨x1, y1, z1, hx1, hy1, hz1, rfl⟩
      have := Int.mul_le_mul_of_nonneg_right hp.2 hz
      exact ⟨_, t, by have := (snd _ t).2; rw [← e1] at *; omega⟩
    · have t : triple A B C (x0 * y0 * z1) := ⟨x0, y0, z1, hx0, hy0, hz1, rfl⟩
      have := Int.mul_le_mul_of_nonpos_right hp.1 hz
      exact ⟨_, t, by have := (snd _ t).2; rw [← e0] at *; omega⟩
  exact ⟨hU.ok, fun n hn => (fU.mem n).2 (snd n hn), fun h => by (rw [fU.2.1] at h; cases h), fun _ => let ⟨n, h1, h2⟩ := hhi; ⟨n, h1, .inl h2⟩, fun h => by (rw [fU.1] at h; cases h), fun _ => let ⟨n, h1, h2⟩ := hlo; ⟨n, h1, .inl h2⟩⟩

theorem prod_assoc {A B C X Z U V : Iv} (hA : Fin A 1000) (hB : Fin B 1000) (hC : Fin C 1000) (hX : LeastOf (prods A B) X) (hU : LeastOf (prods X C) U) (hZ : LeastOf (prods B C) Z) (hV : LeastOf (prods A Z) V) : U = V := by
  refine (triple_least hA hB hC hX hU).unique (triple_least hB hC hA hZ (hV.congr (prods_comm _ _))) fun n => ⟨?_, ?_⟩
  · rintro ⟨x, y, z, hx, hy, hz, rfl⟩; exact ⟨y, z, x, hy, hz, hx, by rw [Int.mul_assoc, Int.mul_comm]⟩
  · rintro ⟨y, z, x, hy, hz, hx, rfl⟩; exact ⟨x, y, z, hx, hy, hz, by rw [Int.mul_comm (y * z) x, Int.mul_assoc]⟩

theorem sum_assoc {A B C X Z U V : Iv} (hA : Fin A 1000) (hB : Fin B 1000) (hC : Fin C 1000) (hX : LeastOf (sums A B) X) (hU : LeastOf (sums X C) U) (hZ : LeastOf (sums B C) Z) (hV : LeastOf (sums A Z) V) : U = V := by
  have eX := sum_fin hA hB (by omega) hX
  have eZ := sum_fin hB hC (by omega) hZ
  have fX : Fin X 2000 := by subst eX; obtain ⟨_, _, _, _, _⟩ := hA; obtain ⟨_, _, _, _, _⟩ := hB; exact ⟨rfl, rfl, by dsimp only; omega, by dsimp only; omega, by dsimp only; omega⟩
  have fZ : Fin Z 2000 := by subst eZ; obtain ⟨_, _, _, _, _⟩ := hC; obtain ⟨_, _, _, _, _⟩ := hB; exact ⟨rfl, rfl, by dsimp only; omega, by dsimp only; omega, by dsimp only; omega⟩
  rw [sum_fin fX hC (by omega) hU, sum_fin hA fZ (by omega) hV, eX, eZ]
  dsimp only
  rw [Int.add_assoc, Int.add_assoc]

theorem meet_join {A B : Iv} (hA : Fin A 1000) (hB : Fin B 1000) : metB A (joined A B) = true ∧ met A (joined A B) = A := by
  obtain ⟨d, u, lo, hi⟩ := A
  obtain ⟨d', u', lo', hi'⟩ := B
  obtain ⟨h1, h2, h3, h4, h5⟩ := hA
  obtain ⟨g1, g2, g3, g4, g5⟩ := hB
  dsimp only at *
  subst h1 h2 g1 g2
  constructor
  · simp [metB, metRaw, joined]; grind
  · simp [met, metB, metRaw, joined]; grind

theorem join_self {A : Iv} (hA : Fin A 1000) : joined A A = A := by
  obtain ⟨d, u, lo, hi⟩ := A
  obtain ⟨h1, h2, h3, h4, h5⟩ := hA
  dsimp only at *
  subst h1 h2
  simp [joined]

theorem join_meet {A B : Iv} (hA : Fin A 1000) (hB : Fin B 1000) (h : metB A B = true) : joined A (met A B) = A ∧ okI (met A B) := by
  obtain ⟨d, u, lo, hi⟩ := A
  obtain ⟨d', u', lo', hi'⟩ := B
  obtain ⟨h1, h2, h3, h4, h5⟩ := hA
  obtain ⟨g1, g2, g3, g4, g5⟩ := hB
  dsimp only at *
  subst h1 h2 g1 g2
  rw [met, if_pos h]
  simp [metB, metRaw] at h
  constructor
  · simp [metRaw, joined]; grind
  · unfold okI metRaw; dsimp only; simp; grind

end Go.Proofs.YtegibkjopkakhaaDoor
