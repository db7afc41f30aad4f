/- Zones: the first error of several. -/
import Derived.Test.YtbafkjhlogkllaaGreatDoorYeO
import Derived.Test.YtbafkjhlogkllaaGreatDoorYc
import Derived.Test.YtbafkjhlogkllaaGreatDoorYgO
import Derived.Test.YtbafkjhlogkllaaGreatDoorYjO
namespace Go.Proofs.YtbafkjhlogkllaaGreatDoor.Oc
open Go.RowKit
set_option linter.unusedVariables false

def firstE : List Int → Int
  | [] => 0
  | x :: l => if x ≠ 0 then x else firstE l
theorem firstE_take {es : List Int} : ∀ k, (∀ i, i < k → es.getD i 0 = 0) → k < es.length → es.getD k 0 ≠ 0 → firstE es = es.getD k 0 := by
  induction es with
  | nil => intro k _ hk; simp at hk
  | cons x es ih =>
    intro k h hk hne
    cases k with
    | zero => simp at hne; simp [firstE, hne]
    | succ k =>
      have h0 := h 0 (by omega)
      simp at h0
      subst h0
      have := ih k (fun i hi => by have := h (i + 1) (by omega); simpa using this) (by simpa using hk) (by simpa using hne)
      simp only [firstE]
      rw [if_neg (by simp), this]; simp
theorem firstE_none {es : List Int} (h : ∀ i, i < es.length → es.getD i 0 = 0) : firstE es = 0 := by
  induction es with
  | nil => rfl
  | cons x es ih =>
    have h0 := h 0 (by simp)
    simp at h0
    subst h0
    simp only [firstE]
    rw [if_neg (by simp)]
    exact ih (fun i hi => by have := h (i + 1) (by simpa using hi); simpa using this)

set_option maxRecDepth 20000 in
set_option maxHeartbeats 2000000 in
theorem firstOf_any (b n c : Nat) (es : List Int) (a : Nat → Addr) (w : World) (hl : Hid (n = es.length)) (hn : n ≤ 10) (hc : Hid (∀ i, i < n → w.cell? ⟨b, i, none⟩ = some (erV a (es.getD i 0)))) :
    Calls Tryz.prog 32 #[.slice (some ⟨b, 0, none⟩) n c] w fun e w' => e = .returned (erV a (firstE es)) ∧ w' = w := by
  obtain ⟨r, hr⟩ : ∃ r, r = firstE es := ⟨_, rfl⟩
  rw [← hr]
  have Hr := hide hr
  clear hr
  go_enter Tryz.func32, Tryz.ntmps32
  go_wp2_with fail
  go_loopg [7] n (fun gh iv wr => ∃ k : Nat, k + gh = n ∧ iv = .int .i64 k ∧ wr = w ∧ Hid (∀ i, i < k → es.getD i 0 = 0))
  case atStart => exact ⟨0, by omega, rfl, rfl, fun i h => by omega⟩
  case round =>
    rename_i wr
    obtain ⟨k, hkg, rfl, rfl, HL⟩ := hrel
    by_cases hk : k < n
    · have hkn : (k : Int) < (n : Int) := by omega
      have hck := hc.out k hk
      obtain ⟨z, hz⟩ : ∃ z, z = es.getD k 0 := ⟨_, rfl⟩
      rw [← hz] at hck
      have Hz := hide hz
      clear hz
      by_cases h0 : z = 0
      · subst h0
        rw [erV_0] at hck
        go_wp2_with fail
        go_roundg (n - (k + 1))
        case measure => omega
        case rel =>
          refine ⟨k + 1, by omega, by go_num, rfl, fun i hi => ?_⟩
          by_cases e : i = k
          · subst e; exact Hz.out.symm
          · exact HL.out i (by omega)
      · rw [erV_ne h0] at hck
        have hre : Hid (r = z) := by show _ = _; rw [Hr.out, firstE_take k HL.out (by rw [← hl.out]; exact hk) (by rw [← Hz.out]; exact h0), ← Hz.out]
        have H0 := hide h0
        clear h0
        go_wp2_with fail
        go_ret
        exact ⟨by rw [hre.out, erV_ne H0.out]; rfl, rfl⟩
    · have hkn : ¬ (k : Int) < (n : Int) := by omega
      have hre : Hid (r = 0) := by show _ = _; rw [Hr.out]; exact firstE_none fun i hi => HL.out i (by rw [← hl.out] at hi; omega)
      go_wp2_with fail
      go_ret
      exact ⟨by rw [hre.out]; rfl, rfl⟩

theorem erV_cells (a : Nat → Addr) (x : Int) : (erV a x).cells = #[erV a x] := by unfold erV; split <;> rfl
theorem first4 (a : Nat → Addr) (e1 e2 e3 e4 : Int) (t : TypeId) (W : World) :
    Calls Tryz.prog 32 #[.slice (some ⟨W.heap.size, 0, none⟩) 4 4] (W.alloc (.cells #[erV a e1, erV a e2, erV a e3, erV a e4] t)) fun e w' => e = .returned (erV a (firstE [e1, e2, e3, e4])) ∧ w' = (W.alloc (.cells #[erV a e1, erV a e2, erV a e3, erV a e4] t)) := by
  refine firstOf_any W.heap.size 4 4 [e1, e2, e3, e4] a _ rfl (by omega) ?_
  intro i hi
  rcases (by omega : i = 0 ∨ i = 1 ∨ i = 2 ∨ i = 3) with rfl | rfl | rfl | rfl <;> simp
theorem first3 (a : Nat → Addr) (e1 e2 e3 : Int) (t : TypeId) (W : World) :
    Calls Tryz.prog 32 #[.slice (some ⟨W.heap.size, 0, none⟩) 3 3] (W.alloc (.cells #[erV a e1, erV a e2, erV a e3] t)) fun e w' => e = .returned (erV a (firstE [e1, e2, e3])) ∧ w' = (W.alloc (.cells #[erV a e1, erV a e2, erV a e3] t)) := by
  refine firstOf_any W.heap.size 3 3 [e1, e2, e3] a _ rfl (by omega) ?_
  intro i hi
  rcases (by omega : i = 0 ∨ i = 1 ∨ i = 2) with rfl | rfl | rfl <;> simp
theorem first2 (a : Nat → Addr) (e1 e2 : Int) (t : TypeId) (W : World) :
    Calls Tryz.prog 32 #[.slice (some ⟨W.heap.size, 0, none⟩) 2 2] (W.alloc (.cells #[erV a e1, erV a e2] t)) fun e w' => e = .returned (erV a (firstE [e1, e2])) ∧ w' = (W.alloc (.cells #[erV a e1, erV a e2] t)) := by
  refine firstOf_any W.heap.size 2 2 [e1, e2] a _ rfl (by omega) ?_
  intro i hi
  rcases (by omega : i = 0 ∨ i = 1) with rfl | rfl <;> simp

def varErr (N first x : Int) : Int := if x < first ∨ N < x then 3 else 0
def numErr (c : Int) : Int := if farB c 1099511627776 = true then 2 else 0
end Go.Proofs.YtbafkjhlogkllaaGreatDoor.Oc

/- Zones: one bound more (zone.guarded). -/
namespace Go.Proofs.YtbafkjhlogkllaaGreatDoor.Oc
open Go.RowKit
set_option linter.unusedVariables false

def guF (f : Nat → Nat → Int) (i j : Nat) (c : Int) (p q : Nat) : Int := if p = i ∧ q = j then minI (f i j) c else f p q
def grdM (d : Mat) (i j : Nat) (c : Int) : Mat := setM d i j (minB (d i j) (some c))
theorem gu_enc {n m : Nat} {d : Mat} (hS : Sz n m d) (hm : m ≤ 2305843009213693952) {i j : Nat} (hi : i < n) (hj : j < n) {c : Int} (hc : c.natAbs ≤ 2305843009213693952) (p q : Nat) : guF (encM d) i j c p q = encM (grdM d i j c) p q := by
  show (if p = i ∧ q = j then minI (encB (d i j)) c else encB (d p q)) = encB (setM d i j (minB (d i j) (some c)) p q)
  unfold setM
  split
  · rw [enc_min (hS.ok hm hi hj) (fun v hv => by simp at hv; subst hv; exact hc)]
    rfl
  · rfl
theorem sz_grd {n m : Nat} {d : Mat} (hS : Sz n m d) {i j : Nat} (hi : i < n) (hj : j < n) {c : Int} (hc : c.natAbs ≤ m) : Sz n m (grdM d i j c) := by
  intro p q hp hq v hv
  unfold grdM setM at hv
  split at hv
  · rcases minB_cases (d i j) (some c) with e | e
    · rw [e] at hv; exact hS i j hi hj v hv
    · rw [e] at hv
      obtain rfl : c = v := by simpa using hv
      exact hc
  · exact hS p q hp hq v hv

end Go.Proofs.YtbafkjhlogkllaaGreatDoor.Oc

/- Zones: one bound more, told (zone.Guard). -/
namespace Go.Proofs.YtbafkjhlogkllaaGreatDoor.Oc
open Go.RowKit
set_option linter.unusedVariables false

theorem keepEC1 {w W : World} {a : Nat → Addr} {x : Option Addr} {l : List Ce} (L : List (Nat × Nat × Value)) (h : CellsAnd W L (St w W (EC a x l) L)) : ErrS W a := h.last.sent.1
theorem keepEC2 {w W : World} {a : Nat → Addr} {x : Option Addr} {l : List Ce} (L : List (Nat × Nat × Value)) (h : CellsAnd W L (St w W (EC a x l) L)) : CsAt W x l := h.last.sent.2

theorem firstE_0 {e : Int} {l : List Int} : firstE (e :: l) = 0 ↔ e = 0 ∧ firstE l = 0 := by
  by_cases h : e = 0
  · subst h; simp [firstE]
  · simp [firstE, h]

def guErr (N : Int) (l : List Ce) (i j c : Int) : Int := firstE [zErr N l, varErr N 0 i, varErr N 0 j, numErr c]
theorem varErr_0 {N first x : Int} (h : varErr N first x = 0) : first ≤ x ∧ x ≤ N := by
  unfold varErr at h
  by_cases k : x < first ∨ N < x
  · rw [if_pos k] at h; omega
  · omega
theorem numErr_0 {c : Int} (h : numErr c = 0) : c.natAbs ≤ 1099511627776 := by
  unfold numErr at h
  by_cases k : farB c 1099511627776 = true
  · rw [if_pos k] at h; omega
  · simp [farB] at k; omega

end Go.Proofs.YtbafkjhlogkllaaGreatDoor.Oc

/- Octagons: what may be wrong; indexes. -/

namespace Go.Proofs.YtbafkjhlogkllaaGreatDoor.Oc
open Go.RowKit
set_option linter.unusedVariables false

def voErr (N : Int) (ms : List Int) : Int := firstE (ms.map fun v => varErr (wrap64 (N - 1)) 0 v)
def siErr (ms : List Int) : Int := firstE (ms.map fun v => if v < -1 ∨ 1 < v then 3 else 0)
def saErr (x y : Int) : Int := if x = y then 3 else 0

def idxI (sign x : Int) : Int := if sign = 1 then 2 * x else if sign = -1 then 2 * x + 1 else -1
end Go.Proofs.YtbafkjhlogkllaaGreatDoor.Oc

/- Octagons: one bound more (octagon.guarded). -/
namespace Go.Proofs.YtbafkjhlogkllaaGreatDoor.Oc
open Go.RowKit
set_option linter.unusedVariables false

def idxN (s : Int) (x : Nat) : Nat := if s = 1 then 2 * x else 2 * x + 1
/-- From where, to where, and how much a bound says. -/
def gFr (a : Int) (x : Nat) (b : Int) (y : Nat) : Nat := if a = 0 ∧ b = 0 then 2 * x else if b = 0 then bar (idxN a x) else idxN (-b) y
def gTo (a : Int) (x : Nat) (b : Int) (y : Nat) : Nat := if a = 0 ∧ b = 0 then 2 * x else if b = 0 then idxN a x else if a = 0 then bar (idxN (-b) y) else idxN a x
def gC (a b c : Int) : Int := if (a = 0 ∧ b ≠ 0) ∨ (a ≠ 0 ∧ b = 0) then 2 * c else c
def gdF (f : Nat → Nat → Int) (p q : Nat) (c : Int) : Nat → Nat → Int := guF (guF f p q c) (bar q) (bar p) c
theorem idxN_lt {n x : Nat} {s : Int} (h : 2 * (x + 1) ≤ n) : idxN s x < n := by unfold idxN; split <;> omega
theorem gFr_lt {n x y : Nat} {a b : Int} (he : n % 2 = 0) (hx : 2 * (x + 1) ≤ n) (hy : 2 * (y + 1) ≤ n) : gFr a x b y < n := by
  unfold gFr; split
  · omega
  · split
    · exact bar_lt he (idxN_lt hx)
    · exact idxN_lt hy
theorem gTo_lt {n x y : Nat} {a b : Int} (he : n % 2 = 0) (hx : 2 * (x + 1) ≤ n) (hy : 2 * (y + 1) ≤ n) : gTo a x b y < n := by
  unfold gTo; split
  · omega
  · split
    · exact idxN_lt hx
    · split
      · exact bar_lt he (idxN_lt hy)
      · exact idxN_lt hx

end Go.Proofs.YtbafkjhlogkllaaGreatDoor.Oc
