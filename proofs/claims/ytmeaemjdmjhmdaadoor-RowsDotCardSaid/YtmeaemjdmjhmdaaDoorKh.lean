/- Lists that are the same. -/
import Derived.Test.YtmeaemjdmjhmdaaDoorKg
namespace Go.Proofs.YtmeaemjdmjhmdaaDoor
open Go.RowKit

set_option maxHeartbeats 400000 in
theorem sameInts_unlike (a a' : Option Addr) (n c n' c' : Nat) (w : World) (h : n ≠ n') :
    Calls Tryd.prog 9 #[.slice a n c, .slice a' n' c'] w fun e w' => e = .returned (.bool false) ∧ Below w.heap.size w w' := by
  have hne : ((n : Int) != (n' : Int)) = true := by rw [bne_iff_ne]; omega
  go_enter Tryd.func9, Tryd.ntmps9
  go_wp2_with fail
  go_ret
  exact ⟨rfl, Below.refl _ _⟩

set_option maxHeartbeats 400000 in
theorem sameInts_none (a a' : Option Addr) (c c' : Nat) (w : World) :
    Calls Tryd.prog 9 #[.slice a 0 c, .slice a' 0 c'] w fun e w' => e = .returned (.bool true) ∧ Below w.heap.size w w' := by
  go_enter Tryd.func9, Tryd.ntmps9
  go_wp2_with fail
  refine wp_loop_rounds 1 ?_
  rw [rounds_succ]
  go_wp2_with fail
  go_ret
  exact ⟨rfl, Below.refl _ _⟩

theorem take_eq_step (l m : List Int) (k : Nat) (hl : k < l.length) (hm : k < m.length) (h : l.take k = m.take k) (he : l.getD k 0 = m.getD k 0) : l.take (k + 1) = m.take (k + 1) := by
  rw [take_succ_getD l k hl, take_succ_getD m k hm, h, he]

set_option maxHeartbeats 1000000 in
theorem sameInts_some (b off c b' off' c' : Nat) (l m : List Int) (w : World) (hb : b < w.heap.size) (hc : ∀ i, i < l.length → w.cell? ⟨b, off + i, none⟩ = some (.int .i64 (l.getD i 0)))
    (hb' : b' < w.heap.size) (hc' : ∀ i, i < m.length → w.cell? ⟨b', off' + i, none⟩ = some (.int .i64 (m.getD i 0))) (hlm : l.length = m.length) (hn : l.length ≤ 4611686018427387903) :
    Calls Tryd.prog 9 #[.slice (some ⟨b, off, none⟩) l.length c, .slice (some ⟨b', off', none⟩) m.length c'] w fun e w' => e = .returned (.bool (decide (l = m))) ∧ Below w.heap.size w w' := by
  obtain ⟨n, hnl⟩ : ∃ n, n = l.length := ⟨_, rfl⟩
  rw [← hlm, ← hnl]
  rw [← hnl] at hn
  have Hn := hide hnl
  have Hm : Hid (n = m.length) := by rw [hnl, hlm]; exact rfl
  clear hnl hlm
  go_enter Tryd.func9, Tryd.ntmps9
  go_wp2_with fail
  go_loopw [5] (fun i wr => ∃ k : Nat, k ≤ n ∧ i = .int .i64 k ∧ l.take k = m.take k ∧ Below w.heap.size w wr) (fun i _ => n - (intOf i).toNat)
  case atStart => exact ⟨0, Nat.zero_le _, rfl, rfl, Below.refl _ _⟩
  case round =>
    obtain ⟨k, hk, rfl, ht, hbel⟩ := hrel
    have HT := hide ht
    clear ht
    by_cases hlt : k < n
    · have hkl : k < l.length := by rw [← Hn.out]; exact hlt
      have hkm : k < m.length := by rw [← Hm.out]; exact hlt
      obtain ⟨x, hxe⟩ : ∃ x, x = l.getD k 0 := ⟨_, rfl⟩
      obtain ⟨y, hye⟩ : ∃ y, y = m.getD k 0 := ⟨_, rfl⟩
      have hcx : wr.cell? ⟨b, off + k, none⟩ = some (.int .i64 x) := by rw [hxe, hbel.cell (p := ⟨b, off + k, none⟩) hb]; exact hc k hkl
      have hcy : wr.cell? ⟨b', off' + k, none⟩ = some (.int .i64 y) := by rw [hye, hbel.cell (p := ⟨b', off' + k, none⟩) hb']; exact hc' k hkm
      have Hx := hide hxe
      have Hy := hide hye
      clear hxe hye
      by_cases hxy : x = y
      · have hne : (x != y) = false := by simp [hxy]
        have Hxy := hide hxy
        clear hxy
        go_wp2_with fail
        go_region
        all_goals go_wp2_with fail
        all_goals
          go_roundw
          case rel => exact ⟨k + 1, by omega, by go_num, take_eq_step l m k hkl hkm HT.out (by rw [← Hx.out, ← Hy.out]; exact Hxy.out), hbel.drew⟩
          case measure => simp [intOf]; omega
      · have hne : (x != y) = true := by rw [bne_iff_ne]; exact hxy
        have Hxy := hide hxy
        clear hxy
        go_wp2_with fail
        go_region
        all_goals go_wp2_with fail
        all_goals
          go_ret
          exact ⟨ret_bool (by rw [eq_comm, decide_eq_false_iff_not]; intro h; apply Hxy.out; rw [Hx.out, Hy.out, h]), hbel.drew⟩
    · go_wp2_with fail
      go_ret
      have h := HT.out
      rw [List.take_of_length_le (by rw [← Hn.out]; omega), List.take_of_length_le (by rw [← Hm.out]; omega)] at h
      exact ⟨ret_bool (by simp [h]), hbel⟩

theorem sameInts_any (a a' : Option Addr) (n c n' c' : Nat) (l m : List Int) (w : World) (hA : IntsAt w a l) (hA' : IntsAt w a' m) (hl : n = l.length) (hm : n' = m.length) (hn : n ≤ 4611686018427387903) :
    Calls Tryd.prog 9 #[.slice a n c, .slice a' n' c'] w fun e w' => e = .returned (.bool (decide (l = m))) ∧ Below w.heap.size w w' := by
  subst hl hm
  by_cases h : l.length = m.length
  · rcases hA with rfl | ⟨b, off, rfl, hb, hc⟩
    · have hm : m = [] := List.length_eq_zero_iff.1 (by simpa using h.symm)
      subst hm
      exact sameInts_none a a' c c' w
    · rcases hA' with rfl | ⟨b', off', rfl, hb', hc'⟩
      · have hl : l = [] := List.length_eq_zero_iff.1 (by simpa using h)
        subst hl
        exact sameInts_none _ _ c c' w
      · exact sameInts_some b off c b' off' c' l m w hb hc hb' hc' h hn
  · have e : decide (l = m) = false := by simp; intro e; exact h (by rw [e])
    rw [e]
    exact sameInts_unlike a a' _ c _ c' w h

end Go.Proofs.YtmeaemjdmjhmdaaDoor
