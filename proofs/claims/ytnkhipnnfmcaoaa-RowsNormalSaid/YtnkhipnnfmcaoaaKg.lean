/- What the statement itself calls: great numbers, lists that are the same, the document's own row. -/
import Derived.Test.YtnkhipnnfmcaoaaKf
namespace Go.Proofs.Ytnkhipnnfmcaoaa
open Go.RowKit

def largeB (l : List Int) : Bool := l.any fun x => decide (2147483648 < x ∨ x < -2147483648)

theorem largeB_false {l : List Int} (h : largeB l = false) : ∀ x ∈ l, -2147483648 ≤ x ∧ x ≤ 2147483648 := by
  intro x hx
  simp only [largeB, List.any_eq_false, decide_eq_true_eq] at h
  have := h x hx
  omega

theorem largeB_take_succ (l : List Int) (k : Nat) (h : k < l.length) (h1 : largeB (l.take k) = false) (h2 : -2147483648 ≤ l.getD k 0) (h3 : l.getD k 0 ≤ 2147483648) : largeB (l.take (k + 1)) = false := by
  rw [take_succ_getD l k h]
  simp only [largeB, List.any_append, Bool.or_eq_false_iff]
  refine ⟨h1, ?_⟩
  simp; simp at h2 h3; omega

theorem largeB_of_get (l : List Int) (k : Nat) (h : k < l.length) (h2 : 2147483648 < l.getD k 0 ∨ l.getD k 0 < -2147483648) : largeB l = true := by
  simp only [largeB, List.any_eq_true, decide_eq_true_eq]
  exact ⟨l.getD k 0, by simp [h], h2⟩

theorem ret_bool {a b : Bool} (h : a = b) : Ending.returned (.bool a) = .returned (.bool b) := by rw [h]

set_option maxHeartbeats 400000 in
theorem large_none (a : Option Addr) (c : Nat) (w : World) :
    Calls Try.prog 5 #[.slice a 0 c] w fun e w' => e = .returned (.bool false) ∧ Below w.heap.size w w' := by
  go_enter Try.func5, Try.ntmps5
  go_wp2_with fail
  refine wp_loop_rounds 1 ?_
  rw [rounds_succ]
  go_wp2_with fail
  go_ret
  exact ⟨rfl, Below.refl _ _⟩

set_option maxHeartbeats 1000000 in
theorem large_some (b off c : Nat) (l : List Int) (w : World) (hb : b < w.heap.size) (hc : ∀ i, i < l.length → w.cell? ⟨b, off + i, none⟩ = some (.int .i64 (l.getD i 0))) (hn : l.length ≤ 4611686018427387903) :
    Calls Try.prog 5 #[.slice (some ⟨b, off, none⟩) l.length c] w fun e w' => e = .returned (.bool (largeB l)) ∧ Below w.heap.size w w' := by
  obtain ⟨n, hnl⟩ : ∃ n, n = l.length := ⟨_, rfl⟩
  rw [← hnl] at hn ⊢
  have Hn := hide hnl
  clear hnl
  go_enter Try.func5, Try.ntmps5
  go_wp2_with fail
  go_loopw [3] (fun i wr => ∃ k : Nat, k ≤ n ∧ i = .int .i64 k ∧ largeB (l.take k) = false ∧ Below w.heap.size w wr) (fun i _ => n - (intOf i).toNat)
  case atStart => exact ⟨0, Nat.zero_le _, rfl, rfl, Below.refl _ _⟩
  case round =>
    obtain ⟨k, hk, rfl, hl, hbel⟩ := hrel
    have HL := hide hl
    clear hl
    by_cases hlt : k < n
    · have hkl : k < l.length := by rw [← Hn.out]; exact hlt
      obtain ⟨x, hxe⟩ : ∃ x, x = l.getD k 0 := ⟨_, rfl⟩
      have hcx : wr.cell? ⟨b, off + k, none⟩ = some (.int .i64 x) := by rw [hxe, hbel.cell (p := ⟨b, off + k, none⟩) hb]; exact hc k hkl
      have Hx := hide hxe
      clear hxe
      rcases (show 2147483648 < x ∨ x < -2147483648 ∨ (-2147483648 ≤ x ∧ x ≤ 2147483648) by omega) with h | h | ⟨h, h'⟩
      · have hr : Hid (largeB l = true) := largeB_of_get l k hkl (by rw [← Hx.out]; exact .inl h)
        go_wp2_with fail
        go_ret
        exact ⟨ret_bool hr.out.symm, hbel⟩
      · have hr : Hid (largeB l = true) := largeB_of_get l k hkl (by rw [← Hx.out]; exact .inr h)
        go_wp2_with fail
        go_ret
        exact ⟨ret_bool hr.out.symm, hbel⟩
      · go_wp2_with fail
        go_roundw
        case rel => exact ⟨k + 1, by omega, by go_num, largeB_take_succ l k hkl HL.out (by rw [← Hx.out]; exact h) (by rw [← Hx.out]; exact h'), hbel⟩
        case measure => simp [intOf]; omega
    · have hke : Hid (l.take k = l) := List.take_of_length_le (by rw [← Hn.out]; omega)
      go_wp2_with fail
      go_ret
      exact ⟨ret_bool (by rw [← HL.out, hke.out]), hbel⟩

theorem large_any (a : Option Addr) (c : Nat) (l : List Int) (w : World) (hA : IntsAt w a l) (hn : l.length ≤ 4611686018427387903) :
    Calls Try.prog 5 #[.slice a l.length c] w fun e w' => e = .returned (.bool (largeB l)) ∧ Below w.heap.size w w' := by
  rcases hA with rfl | ⟨b, off, rfl, hb, hc⟩
  · exact large_none a c w
  · exact large_some b off c l w hb hc hn

set_option maxHeartbeats 1000000 in
theorem refgcd_any (x y : Int) (w : World) (hx : -9223372036854775808 < x) (hx' : x ≤ 9223372036854775807) (hy : -9223372036854775808 < y) (hy' : y ≤ 9223372036854775807) :
    Calls Try.prog 13 #[.int .i64 x, .int .i64 y] w fun e w' => e = .returned (.int .i64 (Int.gcd x y)) ∧ Below w.heap.size w w' := by
  obtain ⟨xa, hxa⟩ : ∃ n : Nat, n = x.natAbs := ⟨_, rfl⟩
  obtain ⟨ya, hya⟩ : ∃ n : Nat, n = y.natAbs := ⟨_, rfl⟩
  have Hg : Hid (Int.gcd x y = Nat.gcd xa ya) := by rw [hxa, hya]; exact rfl
  have hxb : xa < 9223372036854775808 := by omega
  have hyb : ya < 9223372036854775808 := by omega
  rcases Int.lt_or_le x 0 with hx0 | hx0 <;> rcases Int.lt_or_le y 0 with hy0 | hy0
  all_goals
    go_enter Try.func13, Try.ntmps13
    go_wp2_with fail
    go_loopw [0, 1] (fun p q wr => ∃ a b : Nat, a < 9223372036854775808 ∧ b < 9223372036854775808 ∧ p = .int .i64 a ∧ q = .int .i64 b ∧ Nat.gcd a b = Nat.gcd xa ya ∧ Below w.heap.size w wr) (fun _ q _ => (intOf q).toNat)
    case atStart => exact ⟨xa, ya, hxb, hyb, by congr 1; omega, by congr 1; omega, rfl, Below.refl _ _⟩
    case round =>
      obtain ⟨a, b, ha, hb, rfl, rfl, hg, hbl⟩ := hrel
      have HG : Hid (Nat.gcd a b = Nat.gcd xa ya) := hg
      clear hg
      by_cases h0 : b = 0
      · subst h0
        go_wp2_with fail
        go_ret
        exact ⟨ret_int (by rw [Hg.out, ← HG.out]; simp), hbl⟩
      · have hb0 : (0 : Int) < (b : Int) := by omega
        have hbz : ¬ ((b : Int) = 0) := by omega
        go_wp2_with fail
        go_region
        all_goals go_wp2_with fail
        all_goals
          go_roundw
          case rel => exact ⟨b, a % b, hb, by have := Nat.mod_lt a (Nat.pos_of_ne_zero h0); omega, rfl, by go_num, by rw [← HG.out, gcd_step], by exact hbl.drew⟩
          case measure => simp [intOf]; exact Nat.mod_lt _ (Nat.pos_of_ne_zero h0)

end Go.Proofs.Ytnkhipnnfmcaoaa
