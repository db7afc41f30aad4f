/- The document's own Normal row. -/
import Derived.Test.YtdnafkmphcebeaaDoorKi
namespace Go.Proofs.YtdnafkmphcebeaaDoor
open Go.RowKit

set_option maxHeartbeats 1000000 in
theorem refgcd_any (x y : Int) (w : World) (hx : -9223372036854775808 < x) (hx' : x ≤ 9223372036854775807) (hy : -9223372036854775808 < y) (hy' : y ≤ 9223372036854775807) :
    Calls Tryd.prog 48 #[.int .i64 x, .int .i64 y] w fun e w' => e = .returned (.int .i64 (Int.gcd x y)) ∧ Below w.heap.size w w' := by
  obtain ⟨xa, hxa⟩ : ∃ n : Nat, n = x.natAbs := ⟨_, rfl⟩
  obtain ⟨ya, hya⟩ : ∃ n : Nat, n = y.natAbs := ⟨_, rfl⟩
  have Hg : Hid (Int.gcd x y = Nat.gcd xa ya) := by rw [hxa, hya]; exact rfl
  have hxb : xa < 9223372036854775808 := by omega
  have hyb : ya < 9223372036854775808 := by omega
  rcases Int.lt_or_le x 0 with hx0 | hx0 <;> rcases Int.lt_or_le y 0 with hy0 | hy0
  all_goals
    go_enter Tryd.func48, Tryd.ntmps48
    go_wp2_with fail
    go_loopw [0, 1] (fun p q wr => ∃ a b : Nat, a < 9223372036854775808 ∧ b < 9223372036854775808 ∧ p = .int .i64 a ∧ q = .int .i64 b ∧ Nat.gcd a b = Nat.gcd xa ya ∧ Below w.heap.size w wr) (fun _ q _ => (intOf q).toNat)
    case atStart => exact ⟨xa, ya, hxb, hyb, by congr 1; omega, by congr 1; omega, rfl, Below.refl _ _⟩
    case round =>
      obtain ⟨a, b, ha, hb, rfl, rfl, hg, hbl⟩ := hrel
      have HG : Hid (Nat.gcd a b = Nat.gcd xa ya) := hg
      clear hg
      by_cases h0 : b = 0
      · subst h0
        go_wp2_with fail
        go_ret
        exact ⟨ret_int (by rw [Hg.out, ← HG.out]; simp), hbl⟩
      · have hb0 : (0 : Int) < (b : Int) := by omega
        have hbz : ¬ ((b : Int) = 0) := by omega
        go_wp2_with fail
        go_region
        all_goals go_wp2_with fail
        all_goals
          go_roundw
          case rel => exact ⟨b, a % b, hb, by have := Nat.mod_lt a (Nat.pos_of_ne_zero h0); omega, rfl, by go_num, by rw [← HG.out, gcd_step], by exact hbl.drew⟩
          case measure => simp [intOf]; exact Nat.mod_lt _ (Nat.pos_of_ne_zero h0)

set_option maxHeartbeats 1000000 in
theorem normalOf_some (b off c : Nat) (l : List Int) (w : World) (hb : b < w.heap.size) (hc : ∀ i, i < l.length → w.cell? ⟨b, off + i, none⟩ = some (.int .i64 (l.getD i 0))) (hf : Fits l) (hn : l.length ≤ 4398046511104) :
    Calls Tryd.prog 30 #[.slice (some ⟨b, off, none⟩) l.length c] w fun e w' => ∃ a cap, e = .returned (.slice a l.length cap) ∧ IntsAt w' a (l.map (·.tdiv (gcdL l))) ∧ Below w.heap.size w w' := by
  obtain ⟨n, hnl⟩ : ∃ n, n = l.length := ⟨_, rfl⟩
  rw [← hnl] at hn ⊢
  have Hn := hide hnl
  clear hnl
  obtain ⟨i0, hi, hz0, hz1, hz2⟩ := info_parts Tryd.info3
  go_enter Tryd.func30, Tryd.ntmps30
  go_wp2_with fail
  go_loopw [3, 4] (fun g i wr => ∃ k : Nat, k ≤ n ∧ i = .int .i64 k ∧ g = .int .i64 (gcdL (l.take k)) ∧ Below w.heap.size w wr) (fun _ i _ => n - (intOf i).toNat)
  case atStart => exact ⟨0, Nat.zero_le _, rfl, rfl, Below.refl _ _⟩
  case round =>
    obtain ⟨k, hk, rfl, rfl, hbel⟩ := hrel
    by_cases hlt : k < n
    · have hkl : k < l.length := by rw [← Hn.out]; exact hlt
      have hx := hf.get hkl
      obtain ⟨x, hxe⟩ : ∃ x, x = l.getD k 0 := ⟨_, rfl⟩
      obtain ⟨g, hge⟩ : ∃ g, g = gcdL (l.take k) := ⟨_, rfl⟩
      have hcx : wr.cell? ⟨b, off + k, none⟩ = some (.int .i64 x) := by rw [hxe, hbel.cell (p := ⟨b, off + k, none⟩) hb]; exact hc k hkl
      rw [← hxe] at hx
      have hg0 : 0 ≤ g := by rw [hge]; exact gcdL_nonneg _
      have hg1 : g ≤ 9223372036854775807 := by rw [hge]; exact gcdL_bd _ (hf.take k)
      have HG : Hid ((Int.gcd g x : Int) = gcdL (l.take (k + 1))) := by rw [hge, hxe, take_succ_getD l k hkl, gcdL_snoc]; exact rfl
      rw [← hge]
      have Hx := hide hxe
      have Hg := hide hge
      clear hxe hge
      go_wp2_with fail
      refine (refgcd_any g x _ (by omega) (by omega) (by omega) (by omega)).mono ?_
      rintro e w1 ⟨rfl, hb1⟩
      go_wp2_with fail
      go_roundw
      case rel => exact ⟨k + 1, by omega, by go_num, by rw [← HG.out], hbel.trans (hb1.mono hbel.size)⟩
      case measure => simp [intOf]; omega
    · have hke : l.take k = l := List.take_of_length_le (by rw [← Hn.out]; omega)
      rw [hke]
      clear hke
      have hg0 := gcdL_nonneg l
      have hg1 := gcdL_bd l hf
      obtain ⟨g, hge⟩ : ∃ g, g = gcdL l := ⟨_, rfl⟩
      rw [← hge] at hg0 hg1 ⊢
      have Hg := hide hge
      clear hge
      have hsz := hbel.size
      go_wp2_with fail
      go_loopw [5, 6] (fun v i wr2 => ∃ k : Nat, k ≤ n ∧ i = .int .i64 k ∧ wr2.ownsRow w.heap.size 3 1 v k (((l.take k).map (·.tdiv g)).map (Value.int .i64)) ∧ Below w.heap.size w wr2) (fun _ i _ => n - (intOf i).toNat)
      case atStart => exact ⟨0, Nat.zero_le _, rfl, World.ownsRow_nil _ _ _ _, hbel⟩
      case round =>
        obtain ⟨k, hk, rfl, hown, hbel2⟩ := hrel
        have hsz2 := hbel2.size
        by_cases hlt : k < n
        · have hkl : k < l.length := by rw [← Hn.out]; exact hlt
          have hx := hf.get hkl
          obtain ⟨x, hxe⟩ : ∃ x, x = l.getD k 0 := ⟨_, rfl⟩
          have hcx : wr.cell? ⟨b, off + k, none⟩ = some (.int .i64 x) := by rw [hxe, hbel2.cell (p := ⟨b, off + k, none⟩) hb]; exact hc k hkl
          rw [← hxe] at hx
          obtain ⟨xs, hxs⟩ : ∃ xs, xs = ((l.take k).map (·.tdiv g)).map (Value.int .i64) := ⟨_, rfl⟩
          have HT : Hid (∀ y : Int, y = x.tdiv g → ((l.take (k + 1)).map (·.tdiv g)).map (Value.int .i64) = xs ++ [.int .i64 y]) := by
            intro y hy; rw [take_succ_getD l k hkl, hy, hxe, hxs]; simp
          rw [← hxs] at hown
          clear hxe hxs
          rcases (show g = 0 ∨ 0 < g by omega) with hg | hg
          · subst hg
            go_wp2_with (at_builtin; refine wpList_append_own _ rfl _ _ 22 rfl w.heap.size 3 i0 (.int .i64 0) 1 8 Tryd.underlying22 hi hz0 hz1 hz2 rfl (by decide) _ _ _ rfl (hown.alloc _) ⟨wr.heap.size, 0, none⟩ 1 1 [.int .i64 (0)] rfl rfl (cell_one_new _ _ _) (by intro u hu; simp at hu; subst hu; rfl) (by unfold maxLen; omega) (by omega) (by simp; omega) ?_)
            intro v' w1 hown' hgrow _
            rw [← HT.out 0 (by simp)] at hown'
            have hbel3 := (hbel2.alloc hsz2 _).grown hgrow (by simp; omega) (fun j hj => (hown.lt j hj).1)
            clear hown hgrow
            go_wp2_with fail
            go_roundw
            case rel => exact ⟨k + 1, by omega, by go_num, hown', hbel3⟩
            case measure => simp [intOf]; omega
          · have hq : IntKind.i64.wrap (x.tdiv g) = x.tdiv g := IntWalk.i64_quo' x g ⟨by omega, by omega, by omega⟩
            go_wp2_with (at_builtin; refine wpList_append_own _ rfl _ _ 22 rfl w.heap.size 3 i0 (.int .i64 0) 1 8 Tryd.underlying22 hi hz0 hz1 hz2 rfl (by decide) _ _ _ rfl (hown.alloc _) ⟨wr.heap.size, 0, none⟩ 1 1 [.int .i64 (x.tdiv g)] rfl rfl (cell_one_new _ _ _) (by intro u hu; simp at hu; subst hu; rfl) (by unfold maxLen; omega) (by omega) (by simp; omega) ?_)
            intro v' w1 hown' hgrow _
            rw [← HT.out _ rfl] at hown'
            have hbel3 := (hbel2.alloc hsz2 _).grown hgrow (by simp; omega) (fun j hj => (hown.lt j hj).1)
            clear hown hgrow
            go_wp2_with fail
            go_roundw
            case rel => exact ⟨k + 1, by omega, by go_num, hown', hbel3⟩
            case measure => simp [intOf]; omega
        · go_wp2_with fail
          go_ret
          have hke : l.take k = l := List.take_of_length_le (by rw [← Hn.out]; omega)
          have hkn : k = n := by omega
          rw [hke] at hown
          obtain ⟨a, cap, rfl, hI⟩ := IntsAt_of_own hown
          exact ⟨a, cap, by simp [Hn.out], by rw [← Hg.out]; exact hI, hbel2⟩

set_option maxHeartbeats 400000 in
theorem normalOf_none (a : Option Addr) (c : Nat) (w : World) :
    Calls Tryd.prog 30 #[.slice a 0 c] w fun e w' => e = .returned (.slice none 0 0) ∧ Below w.heap.size w w' := by
  go_enter Tryd.func30, Tryd.ntmps30
  go_wp2_with fail
  refine wp_loop_rounds 1 ?_
  rw [rounds_succ]
  go_wp2_with fail
  refine wp_loop_rounds 1 ?_
  rw [rounds_succ]
  go_wp2_with fail
  go_ret
  exact ⟨rfl, Below.refl _ _⟩

theorem normalOf_any (a : Option Addr) (c : Nat) (l : List Int) (w : World) (hA : IntsAt w a l) (hf : Fits l) (hn : l.length ≤ 4398046511104) :
    Calls Tryd.prog 30 #[.slice a l.length c] w fun e w' => ∃ a' cap, e = .returned (.slice a' l.length cap) ∧ IntsAt w' a' (l.map (·.tdiv (gcdL l))) ∧ Below w.heap.size w w' := by
  rcases hA with rfl | ⟨b, off, rfl, hb, hc⟩
  · refine (normalOf_none a c w).mono ?_
    rintro e w' ⟨rfl, h⟩
    exact ⟨none, 0, rfl, .inl rfl, h⟩
  · exact normalOf_some b off c l w hb hc hf hn

theorem normalOf_as (a : Option Addr) (n c : Nat) (l : List Int) (w : World) (hA : IntsAt w a l) (hl : Hid (n = l.length)) (hf : Fits l) (hn : n ≤ 4398046511104) :
    Calls Tryd.prog 30 #[.slice a n c] w fun e w' => ∃ a' cap, e = .returned (.slice a' n cap) ∧ IntsAt w' a' (l.map (·.tdiv (gcdL l))) ∧ Below w.heap.size w w' := by
  have h := hl.out
  subst h
  exact normalOf_any a c l w hA hf hn

end Go.Proofs.YtdnafkmphcebeaaDoor
