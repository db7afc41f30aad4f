/- Congruences: the greatest common divisor, a few numbers, the least congruence of some: the reference. -/
import Derived.Test.YtjimjbilmlnipaaDoorCc
import Derived.Test.YtjimjbilmlnipaaDoorKu
import Derived.Test.YtjimjbilmlnipaaDoorKy
namespace Go.Proofs.YtjimjbilmlnipaaDoor
open Go.RowKit
set_option linter.unusedVariables false

set_option maxRecDepth 20000 in
set_option maxHeartbeats 4000000 in
theorem common_any (x y : Int) (hx : -9223372036854775807 ≤ x ∧ x ≤ 9223372036854775807) (hy : -9223372036854775807 ≤ y ∧ y ≤ 9223372036854775807) (w : World) :
    Calls Tryd.prog 38 #[.int .i64 x, .int .i64 y] w fun e w' => e = .returned (.int .i64 (Int.gcd x y)) ∧ Below w.heap.size w w' := by
  obtain ⟨D, hD⟩ : ∃ D : Nat, Int.gcd x y = D := ⟨_, rfl⟩
  obtain ⟨X, hX⟩ : ∃ X : Nat, X = x.natAbs := ⟨_, rfl⟩
  obtain ⟨Y, hY⟩ : ∃ Y : Nat, Y = y.natAbs := ⟨_, rfl⟩
  have HD : Hid (Nat.gcd X Y = D) := by show _ = _; rw [hX, hY, ← hD]; rfl
  have HX := hide hX
  have HY := hide hY
  have hX2 : X ≤ 9223372036854775807 := by omega
  have hY2 : Y ≤ 9223372036854775807 := by omega
  rw [hD]
  clear hX hY hD
  go_enter Tryd.func38, Tryd.ntmps38
  go_upto_if 6 with fail
  go_cut [0] (fun s0 wx => s0 = .int .i64 X ∧ w = wx)
  case first =>
    by_cases h : x < 0
    all_goals
      go_wp2_with fail
      go_meet
      case rel => exact ⟨by have := HX.out; congr 1; omega, rfl⟩
  case rest =>
  obtain ⟨rfl, rfl⟩ := hcut
  go_upto_if 10 with fail
  go_cut [1] (fun s1 wx => s1 = .int .i64 Y ∧ w = wx)
  case first =>
    by_cases h : y < 0
    all_goals
      go_wp2_with fail
      go_meet
      case rel => exact ⟨by have := HY.out; congr 1; omega, rfl⟩
  case rest =>
  obtain ⟨rfl, rfl⟩ := hcut
  go_wp2_with fail
  go_loopg [0, 1] Y (fun k gv hv wr => ∃ (G H : Nat), gv = .int .i64 G ∧ hv = .int .i64 H ∧ Hid (H = k) ∧ Hid (Nat.gcd G H = D) ∧ G ≤ 9223372036854775807 ∧ H ≤ 9223372036854775807 ∧ Below w.heap.size w wr)
  case atStart => exact ⟨X, Y, rfl, rfl, rfl, HD, hX2, hY2, Below.refl _ _⟩
  case round =>
    obtain ⟨G, H, rfl, rfl, hHk, hgcd, hG, hH, hbel⟩ := hrel
    by_cases hH0 : H = 0
    · subst hH0
      have hGg : G = D := by rw [← hgcd.out, Nat.gcd_zero_right]
      subst hGg
      clear hgcd HD
      go_wp2_with fail
      go_ret
      exact ⟨rfl, hbel⟩
    · have hH0' : (0 : Int) < (H : Int) := by omega
      have hH1 : ¬ (H : Int) = 0 := by omega
      have e1 : ((G : Int).tmod (H : Int)) = ((G % H : Nat) : Int) := rfl
      have hlt : G % H < H := Nat.mod_lt _ (by omega)
      have hgs : Hid (Nat.gcd H (G % H) = D) := by show _ = _; rw [gcd_step]; exact hgcd.out
      clear hgcd
      go_wp2_with fail
      go_region
      all_goals go_wp2_with fail
      go_roundg (G % H)
      case measure => have := hHk.out; omega
      case rel => exact ⟨H, G % H, rfl, by first | rfl | (rw [e1]) | (simp [e1]), rfl, hgs, by omega, by omega, hbel.drew⟩

theorem owns_base {W : World} {base base' e size n : Nat} {v : Value} {xs : List Value} (h : W.ownsRow base e size v n xs) (hb : base' ≤ base) : W.ownsRow base' e size v n xs := by
  obtain ⟨h1, h2⟩ := h
  refine ⟨h1, ?_⟩
  rcases h2 with h2 | ⟨g, cap, cur, e1, e2, e3, e4⟩
  · exact .inl h2
  · exact .inr ⟨g, cap, cur, e1, by omega, e3, e4⟩

/-- So many numbers of a congruence. -/
def firstL (r m : Int) (k : Nat) (h : Int) : List Int := (List.range k).map fun (i : Nat) => r + ((i : Int) - h) * m

theorem firstL_succ (r m : Int) (k : Nat) (h : Int) : firstL r m (k + 1) h = firstL r m k h ++ [r + ((k : Int) - h) * m] := by
  unfold firstL; rw [List.range_succ]; simp

theorem first_small {i h m : Int} (hi : -5 ≤ i - h ∧ i - h ≤ 5) (hm : 0 ≤ m ∧ m ≤ 1048576) : -5242880 ≤ (i - h) * m ∧ (i - h) * m ≤ 5242880 := by
  have h1 : ((i - h) * m).natAbs ≤ 5 * 1048576 := by rw [Int.natAbs_mul]; exact Nat.mul_le_mul (by omega) (by omega)
  omega

def FirstPost (B : Nat) (r m : Int) (k : Nat) (h : Int) (e : Ending) (w' : World) : Prop := ∃ (v : Value), e = .returned v ∧ w'.ownsRow B 3 1 v k ((firstL r m k h).map (Value.int .i64))

set_option maxRecDepth 20000 in
set_option maxHeartbeats 4000000 in
theorem first_any (r m : Int) (many : Nat) (h : Int) (hh : Hid (h = (many : Int).tdiv 2)) (hr : -1099511627776 ≤ r ∧ r ≤ 1099511627776) (hm : 0 ≤ m ∧ m ≤ 1048576) (h5 : many ≤ 5) (w : World) :
    Calls Tryd.prog 19 #[(.agg #[.int .i64 r, .int .i64 m]), .int .i64 many] w fun e w' => FirstPost w.heap.size r m many h e w' ∧ Below w.heap.size w w' := by
  obtain ⟨i0, hi0, hz0, hz1, hz2⟩ := info_parts Tryd.info3
  have hh5 : 0 ≤ h ∧ h ≤ 2 := by rw [hh.out]; rcases (show many = 0 ∨ many = 1 ∨ many = 2 ∨ many = 3 ∨ many = 4 ∨ many = 5 by omega) with rfl | rfl | rfl | rfl | rfl | rfl <;> decide
  have hq : (many : Int).tdiv 2 = h := hh.out.symm
  have s0 := ((⟨Below.refl _ _, trivial, trivial, fun _ _ _ _ => trivial⟩ : St w w (fun _ => True) []).box2 23 (.int .i64 r) (.int .i64 m))
  obtain ⟨W0, hW0⟩ : ∃ W0, W0 = w.alloc (.cells #[.int .i64 r, .int .i64 m] 23) := ⟨_, rfl⟩
  rw [← hW0] at s0
  have HW0 := hide hW0
  clear hW0 hh
  go_enter Tryd.func19, Tryd.ntmps19
  go_wp2_with fail
  rw [← HW0.out]
  go_loopg [5, 6] many (fun g out iv wr => ∃ (k : Nat), k + g = many ∧ iv = .int .i64 k ∧ wr.ownsRow W0.heap.size 3 1 out k ((firstL r m k h).map (Value.int .i64)) ∧ Below W0.heap.size W0 wr)
  case atStart => exact ⟨0, by omega, rfl, World.ownsRow_nil _ _ _ _, Below.refl _ _⟩
  case round =>
    obtain ⟨k, hkg, rfl, hown, hbel⟩ := hrel
    have s1 := s0.call hbel
    have q1 := s1.hold
    simp only [Holds, and_true] at q1
    by_cases hlt : k < many
    · have hkn : (k : Int) < (many : Int) := by omega
      have hsz := hbel.size
      have hsm := first_small (i := k) (h := h) (m := m) (by omega) hm
      have HT : Hid ((firstL r m (k + 1) h).map (Value.int .i64) = (firstL r m k h).map (Value.int .i64) ++ [.int .i64 (r + ((k : Int) - h) * m)]) := by show _ = _; rw [firstL_succ]; simp
      obtain ⟨zs, hzs⟩ : ∃ zs, zs = (firstL r m k h).map (Value.int .i64) := ⟨_, rfl⟩
      rw [← hzs] at hown HT
      clear hzs
      go_wp2_with (at_builtin; refine wpList_append_own _ rfl _ _ 38 rfl W0.heap.size 3 i0 (.int .i64 0) 1 8 Tryd.underlying38 hi0 hz0 hz1 hz2 rfl (by decide) _ _ _ rfl (hown.alloc _) ⟨wr.heap.size, 0, none⟩ 1 1 [.int .i64 (r + ((k : Int) - h) * m)] rfl rfl (cell_one_new _ _ _) (by intro u hu; simp at hu; subst hu; rfl) (by unfold maxLen; omega) (by omega) (by simp; omega) ?_)
      intro v' w1 hown' hgrow _
      have hbel3 := (hbel.alloc hsz _).grown hgrow (by simp; omega) (fun j hj => (hown.lt j hj).1)
      rw [← HT.out] at hown'
      clear hown hgrow
      go_wp2_with fail
      go_roundg (many - (k + 1))
      case measure => omega
      case rel => exact ⟨k + 1, by omega, by go_num, hown', hbel3⟩
    · have hke : k = many := by omega
      subst hke
      have hbw : Below w.heap.size w wr := s1.bel
      have hown' := owns_base hown s0.bel.size
      clear hown
      go_wp2_with fail
      go_ret
      exact ⟨⟨_, rfl, hown'⟩, hbw⟩

theorem firstL_bound {r m : Int} {k : Nat} {h : Int} (hr : -1099511627776 ≤ r ∧ r ≤ 1099511627776) (hm : 0 ≤ m ∧ m ≤ 1048576) (hk : k ≤ 5) (hh : 0 ≤ h ∧ h ≤ 2) : ∀ s ∈ firstL r m k h, -2305843009213693952 ≤ s ∧ s ≤ 2305843009213693952 := by
  intro s hs
  unfold firstL at hs
  obtain ⟨i, hi, rfl⟩ := List.mem_map.1 hs
  have := List.mem_range.1 hi
  have := first_small (i := i) (h := h) (m := m) (by omega) hm
  omega

theorem okC_b {R : Cg} (h : okC R) : (-1099511627776 ≤ R.r ∧ R.r ≤ 1099511627776) ∧ (0 ≤ R.m ∧ R.m ≤ 1048576) := by
  obtain ⟨h1, h2, h3, h4⟩ := h
  by_cases h : R.m = 0
  · have := h3 h; omega
  · have := h4 (by omega); omega

end Go.Proofs.YtjimjbilmlnipaaDoor
