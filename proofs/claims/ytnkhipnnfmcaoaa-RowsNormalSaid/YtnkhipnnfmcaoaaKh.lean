/- The document's own Normal row; lists that are the same; copies. -/
import Derived.Test.YtnkhipnnfmcaoaaKg
namespace Go.Proofs.Ytnkhipnnfmcaoaa
open Go.RowKit

theorem IntsAt_of_own {w : World} {base e n : Nat} {v : Value} {l : List Int} (h : w.ownsRow base e 1 v n (l.map (Value.int .i64))) : ∃ a cap, v = .slice a l.length cap ∧ IntsAt w a l := by
  have hl : n = l.length := by have := h.1; simp at this; omega
  subst hl
  rcases h.2 with ⟨rfl, hn⟩ | ⟨g, cap, cur, rfl, _⟩
  · have : l = [] := List.length_eq_zero_iff.1 hn
    subst this
    exact ⟨none, 0, rfl, .inl rfl⟩
  · exact ⟨_, _, rfl, IntsAt_of_owns h rfl⟩

set_option maxHeartbeats 1000000 in
theorem normalOf_some (b off c : Nat) (l : List Int) (w : World) (hb : b < w.heap.size) (hc : ∀ i, i < l.length → w.cell? ⟨b, off + i, none⟩ = some (.int .i64 (l.getD i 0))) (hf : Fits l) (hn : l.length ≤ 4398046511104) :
    Calls Try.prog 9 #[.slice (some ⟨b, off, none⟩) l.length c] w fun e w' => ∃ a cap, e = .returned (.slice a l.length cap) ∧ IntsAt w' a (l.map (·.tdiv (gcdL l))) ∧ Below w.heap.size w w' := by
  obtain ⟨n, hnl⟩ : ∃ n, n = l.length := ⟨_, rfl⟩
  rw [← hnl] at hn ⊢
  have Hn := hide hnl
  clear hnl
  obtain ⟨i0, hi, hz0, hz1, hz2⟩ := info_parts Try.info3
  go_enter Try.func9, Try.ntmps9
  go_wp2_with fail
  go_loopw [3, 4] (fun g i wr => ∃ k : Nat, k ≤ n ∧ i = .int .i64 k ∧ g = .int .i64 (gcdL (l.take k)) ∧ Below w.heap.size w wr) (fun _ i _ => n - (intOf i).toNat)
  case atStart => exact ⟨0, Nat.zero_le _, rfl, rfl, Below.refl _ _⟩
  case round =>
    obtain ⟨k, hk, rfl, rfl, hbel⟩ := hrel
    by_cases hlt : k < n
    · have hkl : k < l.length := by rw [← Hn.out]; exact hlt
      have hx := hf.get hkl
      obtain ⟨x, hxe⟩ : ∃ x, x = l.getD k 0 := ⟨_, rfl⟩
      obtain ⟨g, hge⟩ : ∃ g, g = gcdL (l.take k) := ⟨_, rfl⟩
      have hcx : wr.cell? ⟨b, off + k, none⟩ = some (.int .i64 x) := by rw [hxe, hbel.cell (p := ⟨b, off + k, none⟩) hb]; exact hc k hkl
      rw [← hxe] at hx
      have hg0 : 0 ≤ g := by rw [hge]; exact gcdL_nonneg _
      have hg1 : g ≤ 9223372036854775807 := by rw [hge]; exact gcdL_bd _ (hf.take k)
      have HG : Hid ((Int.gcd g x : Int) = gcdL (l.take (k + 1))) := by rw [hge, hxe, take_succ_getD l k hkl, gcdL_snoc]; exact rfl
      rw [← hge]
      have Hx := hide hxe
      have Hg := hide hge
      clear hxe hge
      go_wp2_with fail
      refine (refgcd_any g x _ (by omega) (by omega) (by omega) (by omega)).mono ?_
      rintro e w1 ⟨rfl, hb1⟩
      go_wp2_with fail
      go_roundw
      case rel => exact ⟨k + 1, by omega, by go_num, by rw [← HG.out], hbel.trans (hb1.mono hbel.size)⟩
      case measure => simp [intOf]; omega
    · have hke : l.take k = l := List.take_of_length_le (by rw [← Hn.out]; omega)
      rw [hke]
      clear hke
      have hg0 := gcdL_nonneg l
      have hg1 := gcdL_bd l hf
      obtain ⟨g, hge⟩ : ∃ g, g = gcdL l := ⟨_, rfl⟩
      rw [← hge] at hg0 hg1 ⊢
      have Hg := hide hge
      clear hge
      have hsz := hbel.size
      go_wp2_with fail
      go_loopw [5, 6] (fun v i wr2 => ∃ k : Nat, k ≤ n ∧ i = .int .i64 k ∧ wr2.ownsRow w.heap.size 3 1 v k (((l.take k).map (·.tdiv g)).map (Value.int .i64)) ∧ Below w.heap.size w wr2) (fun _ i _ => n - (intOf i).toNat)
      case atStart => exact ⟨0, Nat.zero_le _, rfl, World.ownsRow_nil _ _ _ _, hbel⟩
      case round =>
        obtain ⟨k, hk, rfl, hown, hbel2⟩ := hrel
        have hsz2 := hbel2.size
        by_cases hlt : k < n
        · have hkl : k < l.length := by rw [← Hn.out]; exact hlt
          have hx := hf.get hkl
          obtain ⟨x, hxe⟩ : ∃ x, x = l.getD k 0 := ⟨_, rfl⟩
          have hcx : wr.cell? ⟨b, off + k, none⟩ = some (.int .i64 x) := by rw [hxe, hbel2.cell (p := ⟨b, off + k, none⟩) hb]; exact hc k hkl
          rw [← hxe] at hx
          obtain ⟨xs, hxs⟩ : ∃ xs, xs = ((l.take k).map (·.tdiv g)).map (Value.int .i64) := ⟨_, rfl⟩
          have HT : Hid (∀ y : Int, y = x.tdiv g → ((l.take (k + 1)).map (·.tdiv g)).map (Value.int .i64) = xs ++ [.int .i64 y]) := by
            intro y hy; rw [take_succ_getD l k hkl, hy, hxe, hxs]; simp
          rw [← hxs] at hown
          clear hxe hxs
          rcases (show g = 0 ∨ 0 < g by omega) with hg | hg
          · subst hg
            go_wp2_with (at_builtin; refine wpList_append_own _ rfl _ _ 22 rfl w.heap.size 3 i0 (.int .i64 0) 1 8 Try.underlying22 hi hz0 hz1 hz2 rfl (by decide) _ _ _ rfl (hown.alloc _) ⟨wr.heap.size, 0, none⟩ 1 1 [.int .i64 (0)] rfl rfl (cell_one_new _ _ _) (by intro u hu; simp at hu; subst hu; rfl) (by unfold maxLen; omega) (by omega) (by simp; omega) ?_)
            intro v' w1 hown' hgrow _
            rw [← HT.out 0 (by simp)] at hown'
            have hbel3 := (hbel2.alloc hsz2 _).grown hgrow (by simp; omega) (fun j hj => (hown.lt j hj).1)
            clear hown hgrow
            go_wp2_with fail
            go_roundw
            case rel => exact ⟨k + 1, by omega, by go_num, hown', hbel3⟩
            case measure => simp [intOf]; omega
          · have hq : IntKind.i64.wrap (x.tdiv g) = x.tdiv g := IntWalk.i64_quo' x g ⟨by omega, by omega, by omega⟩
            go_wp2_with (at_builtin; refine wpList_append_own _ rfl _ _ 22 rfl w.heap.size 3 i0 (.int .i64 0) 1 8 Try.underlying22 hi hz0 hz1 hz2 rfl (by decide) _ _ _ rfl (hown.alloc _) ⟨wr.heap.size, 0, none⟩ 1 1 [.int .i64 (x.tdiv g)] rfl rfl (cell_one_new _ _ _) (by intro u hu; simp at hu; subst hu; rfl) (by unfold maxLen; omega) (by omega) (by simp; omega) ?_)
            intro v' w1 hown' hgrow _
            rw [← HT.out _ rfl] at hown'
            have hbel3 := (hbel2.alloc hsz2 _).grown hgrow (by simp; omega) (fun j hj => (hown.lt j hj).1)
            clear hown hgrow
            go_wp2_with fail
            go_roundw
            case rel => exact ⟨k + 1, by omega, by go_num, hown', hbel3⟩
            case measure => simp [intOf]; omega
        · go_wp2_with fail
          go_ret
          have hke : l.take k = l := List.take_of_length_le (by rw [← Hn.out]; omega)
          have hkn : k = n := by omega
          rw [hke] at hown
          obtain ⟨a, cap, rfl, hI⟩ := IntsAt_of_own hown
          exact ⟨a, cap, by simp [Hn.out], by rw [← Hg.out]; exact hI, hbel2⟩

set_option maxHeartbeats 400000 in
theorem normalOf_none (a : Option Addr) (c : Nat) (w : World) :
    Calls Try.prog 9 #[.slice a 0 c] w fun e w' => e = .returned (.slice none 0 0) ∧ Below w.heap.size w w' := by
  go_enter Try.func9, Try.ntmps9
  go_wp2_with fail
  refine wp_loop_rounds 1 ?_
  rw [rounds_succ]
  go_wp2_with fail
  refine wp_loop_rounds 1 ?_
  rw [rounds_succ]
  go_wp2_with fail
  go_ret
  exact ⟨rfl, Below.refl _ _⟩

theorem normalOf_any (a : Option Addr) (c : Nat) (l : List Int) (w : World) (hA : IntsAt w a l) (hf : Fits l) (hn : l.length ≤ 4398046511104) :
    Calls Try.prog 9 #[.slice a l.length c] w fun e w' => ∃ a' cap, e = .returned (.slice a' l.length cap) ∧ IntsAt w' a' (l.map (·.tdiv (gcdL l))) ∧ Below w.heap.size w w' := by
  rcases hA with rfl | ⟨b, off, rfl, hb, hc⟩
  · refine (normalOf_none a c w).mono ?_
    rintro e w' ⟨rfl, h⟩
    exact ⟨none, 0, rfl, .inl rfl, h⟩
  · exact normalOf_some b off c l w hb hc hf hn

set_option maxHeartbeats 400000 in
theorem sameInts_unlike (a a' : Option Addr) (n c n' c' : Nat) (w : World) (h : n ≠ n') :
    Calls Try.prog 6 #[.slice a n c, .slice a' n' c'] w fun e w' => e = .returned (.bool false) ∧ Below w.heap.size w w' := by
  have hne : ((n : Int) != (n' : Int)) = true := by rw [bne_iff_ne]; omega
  go_enter Try.func6, Try.ntmps6
  go_wp2_with fail
  go_ret
  exact ⟨rfl, Below.refl _ _⟩

set_option maxHeartbeats 400000 in
theorem sameInts_none (a a' : Option Addr) (c c' : Nat) (w : World) :
    Calls Try.prog 6 #[.slice a 0 c, .slice a' 0 c'] w fun e w' => e = .returned (.bool true) ∧ Below w.heap.size w w' := by
  go_enter Try.func6, Try.ntmps6
  go_wp2_with fail
  refine wp_loop_rounds 1 ?_
  rw [rounds_succ]
  go_wp2_with fail
  go_ret
  exact ⟨rfl, Below.refl _ _⟩

theorem take_eq_step (l m : List Int) (k : Nat) (hl : k < l.length) (hm : k < m.length) (h : l.take k = m.take k) (he : l.getD k 0 = m.getD k 0) : l.take (k + 1) = m.take (k + 1) := by
  rw [take_succ_getD l k hl, take_succ_getD m k hm, h, he]

set_option maxHeartbeats 1000000 in
theorem sameInts_some (b off c b' off' c' : Nat) (l m : List Int) (w : World) (hb : b < w.heap.size) (hc : ∀ i, i < l.length → w.cell? ⟨b, off + i, none⟩ = some (.int .i64 (l.getD i 0)))
    (hb' : b' < w.heap.size) (hc' : ∀ i, i < m.length → w.cell? ⟨b', off' + i, none⟩ = some (.int .i64 (m.getD i 0))) (hlm : l.length = m.length) (hn : l.length ≤ 4611686018427387903) :
    Calls Try.prog 6 #[.slice (some ⟨b, off, none⟩) l.length c, .slice (some ⟨b', off', none⟩) m.length c'] w fun e w' => e = .returned (.bool (decide (l = m))) ∧ Below w.heap.size w w' := by
  obtain ⟨n, hnl⟩ : ∃ n, n = l.length := ⟨_, rfl⟩
  rw [← hlm, ← hnl]
  rw [← hnl] at hn
  have Hn := hide hnl
  have Hm : Hid (n = m.length) := by rw [hnl, hlm]; exact rfl
  clear hnl hlm
  go_enter Try.func6, Try.ntmps6
  go_wp2_with fail
  go_loopw [5] (fun i wr => ∃ k : Nat, k ≤ n ∧ i = .int .i64 k ∧ l.take k = m.take k ∧ Below w.heap.size w wr) (fun i _ => n - (intOf i).toNat)
  case atStart => exact ⟨0, Nat.zero_le _, rfl, rfl, Below.refl _ _⟩
  case round =>
    obtain ⟨k, hk, rfl, ht, hbel⟩ := hrel
    have HT := hide ht
    clear ht
    by_cases hlt : k < n
    · have hkl : k < l.length := by rw [← Hn.out]; exact hlt
      have hkm : k < m.length := by rw [← Hm.out]; exact hlt
      obtain ⟨x, hxe⟩ : ∃ x, x = l.getD k 0 := ⟨_, rfl⟩
      obtain ⟨y, hye⟩ : ∃ y, y = m.getD k 0 := ⟨_, rfl⟩
      have hcx : wr.cell? ⟨b, off + k, none⟩ = some (.int .i64 x) := by rw [hxe, hbel.cell (p := ⟨b, off + k, none⟩) hb]; exact hc k hkl
      have hcy : wr.cell? ⟨b', off' + k, none⟩ = some (.int .i64 y) := by rw [hye, hbel.cell (p := ⟨b', off' + k, none⟩) hb']; exact hc' k hkm
      have Hx := hide hxe
      have Hy := hide hye
      clear hxe hye
      by_cases hxy : x = y
      · have hne : (x != y) = false := by simp [hxy]
        have Hxy := hide hxy
        clear hxy
        go_wp2_with fail
        go_region
        all_goals go_wp2_with fail
        all_goals
          go_roundw
          case rel => exact ⟨k + 1, by omega, by go_num, take_eq_step l m k hkl hkm HT.out (by rw [← Hx.out, ← Hy.out]; exact Hxy.out), hbel.drew⟩
          case measure => simp [intOf]; omega
      · have hne : (x != y) = true := by rw [bne_iff_ne]; exact hxy
        have Hxy := hide hxy
        clear hxy
        go_wp2_with fail
        go_region
        all_goals go_wp2_with fail
        all_goals
          go_ret
          exact ⟨ret_bool (by rw [eq_comm, decide_eq_false_iff_not]; intro h; apply Hxy.out; rw [Hx.out, Hy.out, h]), hbel.drew⟩
    · go_wp2_with fail
      go_ret
      have h := HT.out
      rw [List.take_of_length_le (by rw [← Hn.out]; omega), List.take_of_length_le (by rw [← Hm.out]; omega)] at h
      exact ⟨ret_bool (by simp [h]), hbel⟩

theorem sameInts_any (a a' : Option Addr) (n c n' c' : Nat) (l m : List Int) (w : World) (hA : IntsAt w a l) (hA' : IntsAt w a' m) (hl : n = l.length) (hm : n' = m.length) (hn : n ≤ 4611686018427387903) :
    Calls Try.prog 6 #[.slice a n c, .slice a' n' c'] w fun e w' => e = .returned (.bool (decide (l = m))) ∧ Below w.heap.size w w' := by
  subst hl hm
  by_cases h : l.length = m.length
  · rcases hA with rfl | ⟨b, off, rfl, hb, hc⟩
    · have hm : m = [] := List.length_eq_zero_iff.1 (by simpa using h.symm)
      subst hm
      exact sameInts_none a a' c c' w
    · rcases hA' with rfl | ⟨b', off', rfl, hb', hc'⟩
      · have hl : l = [] := List.length_eq_zero_iff.1 (by simpa using h)
        subst hl
        exact sameInts_none _ _ c c' w
      · exact sameInts_some b off c b' off' c' l m w hb hc hb' hc' h hn
  · have e : decide (l = m) = false := by simp; intro e; exact h (by rw [e])
    rw [e]
    exact sameInts_unlike a a' _ c _ c' w h

end Go.Proofs.Ytnkhipnnfmcaoaa
