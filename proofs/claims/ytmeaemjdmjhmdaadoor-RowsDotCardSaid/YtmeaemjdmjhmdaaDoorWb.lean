/- Limbs in memory: trimmed, compared. -/
import Derived.Test.YtmeaemjdmjhmdaaDoorWa
import Derived.Test.YtmeaemjdmjhmdaaDoorKd
namespace Go.Proofs.YtmeaemjdmjhmdaaDoor
open Go.RowKit

/-- A slice of limbs that can be read. -/
def LimbsAt (w : World) (a : Option Addr) (l : List Int) : Prop :=
  l = [] ∨ ∃ b off, a = some ⟨b, off, none⟩ ∧ b < w.heap.size ∧ ∀ i, i < l.length → w.cell? ⟨b, off + i, none⟩ = some (.int .u64 (l.getD i 0))

theorem LimbsAt.below {w w' : World} {a : Option Addr} {l : List Int} (h : LimbsAt w a l) (hb : Below w.heap.size w w') : LimbsAt w' a l := by
  rcases h with h | ⟨b, off, h1, h2, h3⟩
  · exact .inl h
  · exact .inr ⟨b, off, h1, Nat.lt_of_lt_of_le h2 hb.size, fun i hi => (hb.cell (p := ⟨b, off + i, none⟩) h2).trans (h3 i hi)⟩

theorem LimbsAt.take {w : World} {a : Option Addr} {l : List Int} (h : LimbsAt w a l) (k : Nat) (hk : k ≤ l.length) : LimbsAt w a (l.take k) := by
  rcases h with h | ⟨b, off, h1, h2, h3⟩
  · subst h; exact .inl (by simp)
  · refine .inr ⟨b, off, h1, h2, fun i hi => ?_⟩
    have hi' : i < k := by simp at hi; omega
    rw [h3 i (by omega)]
    simp [hi']

/-- What is left when 0 is cut off at the end. -/
def trimLen (l : List Int) (k : Nat) : Prop := k ≤ l.length ∧ lv (l.take k) = lv l ∧ Tr (l.take k)

theorem trim_zero {l : List Int} {k : Nat} (hk : k ≤ l.length) (h0 : 0 < k) (hz : l.getD (k - 1) 0 = 0) (hv : lv (l.take k) = lv l) : lv (l.take (k - 1)) = lv l := by
  have h := lv_take_step l (k - 1) (by omega)
  rw [show k - 1 + 1 = k by omega, hz] at h
  rw [← hv, h]; omega

theorem trim_end {l : List Int} {k : Nat} (hk : k ≤ l.length) (h0 : 0 < k) (hz : l.getD (k - 1) 0 ≠ 0) : Tr (l.take k) := by
  right
  rw [List.length_take, Nat.min_eq_left hk]
  simp only [List.getD_eq_getElem?_getD, List.getElem?_take] at hz ⊢
  rw [if_pos (by omega)]; exact hz

set_option maxHeartbeats 400000 in
theorem trim_none (a : Option Addr) (c : Nat) (w : World) :
    Calls Tryd.prog 53 #[.slice a 0 c] w fun e w' => e = .returned (.slice a 0 c) ∧ Below w.heap.size w w' := by
  go_enter Tryd.func53, Tryd.ntmps53
  go_wp2_with fail
  refine wp_loop_rounds 1 ?_
  rw [rounds_succ]
  go_wp2_with fail
  go_ret
  exact ⟨by simp, Below.refl _ _⟩

set_option maxHeartbeats 1000000 in
theorem trim_some (b off n c : Nat) (l : List Int) (w : World) (hn : Hid (n = l.length)) (hb : b < w.heap.size) (hc : ∀ i, i < l.length → w.cell? ⟨b, off + i, none⟩ = some (.int .u64 (l.getD i 0))) (hnb : n ≤ 4398046511104) (hcap : n ≤ c) :
    Calls Tryd.prog 53 #[.slice (some ⟨b, off, none⟩) n c] w fun e w' => ∃ k, e = .returned (.slice (some ⟨b, off, none⟩) k c) ∧ trimLen l k ∧ Below w.heap.size w w' := by
  go_enter Tryd.func53, Tryd.ntmps53
  go_wp2_with fail
  go_loopw [3] (fun i wr => ∃ k : Nat, k ≤ n ∧ i = .int .i64 k ∧ lv (l.take k) = lv l ∧ Below w.heap.size w wr) (fun i _ => (intOf i).toNat)
  case atStart => exact ⟨n, Nat.le_refl _, rfl, by rw [hn.out, List.take_length], Below.refl _ _⟩
  case round =>
    obtain ⟨k, hk, rfl, hv, hbel⟩ := hrel
    have HV := hide hv
    clear hv
    by_cases h0 : k = 0
    · subst h0
      go_wp2_with fail
      go_ret
      exact ⟨0, by simp, ⟨Nat.zero_le _, HV.out, .inl (by simp)⟩, hbel⟩
    · obtain ⟨j, rfl⟩ : ∃ j, k = j + 1 := ⟨k - 1, by omega⟩
      have hjl : j < l.length := by rw [← hn.out]; omega
      obtain ⟨x, hxe⟩ : ∃ x, x = l.getD j 0 := ⟨_, rfl⟩
      have hcx : wr.cell? ⟨b, off + j, none⟩ = some (.int .u64 x) := by rw [hxe, hbel.cell (p := ⟨b, off + j, none⟩) hb]; exact hc j hjl
      have Hx := hide hxe
      clear hxe
      have hp : (0 : Int) < ((j + 1 : Nat) : Int) := by omega
      by_cases hx0 : x = 0
      · have hxb : (x == 0) = true := by simp [hx0]
        have HX := hide hx0
        clear hx0
        go_wp2_with fail
        go_roundw
        case rel => exact ⟨j, by omega, by go_num, trim_zero (k := j + 1) (by omega) (by omega) (by rw [Nat.add_sub_cancel, ← Hx.out]; exact HX.out) HV.out, hbel⟩
        case measure => simp [intOf]
      · have hxb : (x == 0) = false := by simp [hx0]
        have HX := hide hx0
        clear hx0
        go_wp2_with fail
        go_ret
        exact ⟨j + 1, by simp, ⟨by omega, HV.out, trim_end (by omega) (by omega) (by rw [Nat.add_sub_cancel, ← Hx.out]; exact HX.out)⟩, hbel⟩

theorem trim_any (a : Option Addr) (n c : Nat) (l : List Int) (w : World) (hn : Hid (n = l.length)) (hA : LimbsAt w a l) (hnb : n ≤ 4398046511104) (hcap : n ≤ c) :
    Calls Tryd.prog 53 #[.slice a n c] w fun e w' => ∃ k, e = .returned (.slice a k c) ∧ trimLen l k ∧ Below w.heap.size w w' := by
  rcases hA with rfl | ⟨b, off, rfl, hb, hc⟩
  · have h := hn.out
    subst h
    refine (trim_none a c w).mono ?_
    rintro e w' ⟨rfl, h⟩
    exact ⟨0, rfl, ⟨Nat.le_refl _, rfl, .inl rfl⟩, h⟩
  · exact trim_some b off n c l w hn hb hc hnb hcap

set_option maxHeartbeats 400000 in
theorem isNaNu_any (x : Int) (w : World) :
    Calls Tryd.prog 66 #[.int .u64 x] w fun e w' => e = .returned (.bool false) ∧ w' = w := by
  go_enter Tryd.func66, Tryd.ntmps66
  go_wp2
  go_ret
  exact ⟨by simp, rfl⟩

set_option maxHeartbeats 400000 in
theorem cmpUint_any (x y : Int) (w : World) :
    Calls Tryd.prog 55 #[.int .u64 x, .int .u64 y] w fun e w' => e = .returned (.int .i64 (sgn3 x y)) ∧ w' = w := by
  go_enter Tryd.func55, Tryd.ntmps55
  go_wp2_with (go_at_call 66; refine (isNaNu_any _ _).mono ?_; rintro e w' ⟨rfl, rfl⟩)
  all_goals
    go_ret
    exact ⟨ret_int (by unfold sgn3; split <;> (try split) <;> omega), rfl⟩

theorem sgn3_lt {x y : Int} (h : x < y) : sgn3 x y = -1 := by unfold sgn3; rw [if_pos h]
theorem sgn3_gt {x y : Int} (h : y < x) : sgn3 x y = 1 := by unfold sgn3; rw [if_neg (by omega), if_pos h]
theorem sgn3_eq (x : Int) : sgn3 x x = 0 := by unfold sgn3; rw [if_neg (by omega), if_neg (by omega)]

theorem sgn3_length {l m : List Int} (hl : Limb l) (hm : Limb m) (tl : Tr l) (tm : Tr m) (h : l.length ≠ m.length) : sgn3 l.length m.length = sgn3 (lv l) (lv m) := by
  rcases Nat.lt_or_gt_of_ne h with h | h
  · rw [sgn3_lt (by omega), sgn3_lt (lv_lt_of_length hl hm (by intro e; subst e; simp at h) tm h)]
  · rw [sgn3_gt (by omega), sgn3_gt (lv_lt_of_length hm hl (by intro e; subst e; simp at h) tl h)]

theorem drop_step (l m : List Int) (k : Nat) (hl : k < l.length) (hm : k < m.length) (h : l.drop (k + 1) = m.drop (k + 1)) (he : l.getD k 0 = m.getD k 0) : l.drop k = m.drop k := by
  rw [List.drop_eq_getElem_cons hl, List.drop_eq_getElem_cons hm, h]
  simp [hl, hm] at he
  rw [he]

theorem sgn3_at {l m : List Int} (hl : Limb l) (hm : Limb m) (k : Nat) (kl : k < l.length) (km : k < m.length) (hd : l.drop (k + 1) = m.drop (k + 1)) (h : l.getD k 0 ≠ m.getD k 0) : sgn3 (l.getD k 0) (m.getD k 0) = sgn3 (lv l) (lv m) := by
  rcases Int.lt_or_gt_of_ne h with h | h
  · rw [sgn3_lt h, sgn3_lt (lv_lt_at hl hm k kl km hd h)]
  · rw [sgn3_gt h, sgn3_gt (lv_lt_at hm hl k km kl hd.symm h)]

set_option maxHeartbeats 400000 in
theorem compare_unlike (a a' : Option Addr) (n c n' c' : Nat) (w : World) (h : n ≠ n') :
    Calls Tryd.prog 37 #[.slice a n c, .slice a' n' c'] w fun e w' => e = .returned (.int .i64 (sgn3 n n')) ∧ Below w.heap.size w w' := by
  have hne : ((n : Int) != (n' : Int)) = true := by rw [bne_iff_ne]; omega
  go_enter Tryd.func37, Tryd.ntmps37
  go_wp2_with (go_at_call 33; refine (cmpInt_any _ _ _).mono ?_; rintro e w' ⟨rfl, rfl⟩)
  go_ret
  exact ⟨rfl, Below.refl _ _⟩

set_option maxHeartbeats 400000 in
theorem compare_none (a a' : Option Addr) (c c' : Nat) (w : World) :
    Calls Tryd.prog 37 #[.slice a 0 c, .slice a' 0 c'] w fun e w' => e = .returned (.int .i64 0) ∧ Below w.heap.size w w' := by
  go_enter Tryd.func37, Tryd.ntmps37
  go_wp2_with fail
  refine wp_loop_rounds 1 ?_
  rw [rounds_succ]
  go_wp2_with fail
  go_ret
  exact ⟨rfl, Below.refl _ _⟩

set_option maxHeartbeats 1000000 in
theorem compare_some (b off c b' off' c' n : Nat) (l m : List Int) (w : World) (hb : b < w.heap.size) (hc : ∀ i, i < l.length → w.cell? ⟨b, off + i, none⟩ = some (.int .u64 (l.getD i 0)))
    (hb' : b' < w.heap.size) (hc' : ∀ i, i < m.length → w.cell? ⟨b', off' + i, none⟩ = some (.int .u64 (m.getD i 0))) (hl : Hid (n = l.length)) (hm : Hid (n = m.length)) (ll : Limb l) (lm : Limb m) (hn : n ≤ 4611686018427387903) :
    Calls Tryd.prog 37 #[.slice (some ⟨b, off, none⟩) n c, .slice (some ⟨b', off', none⟩) n c'] w fun e w' => e = .returned (.int .i64 (sgn3 (lv l) (lv m))) ∧ Below w.heap.size w w' := by
  go_enter Tryd.func37, Tryd.ntmps37
  go_wp2_with fail
  go_loopw [5] (fun i wr => ∃ k : Nat, k ≤ n ∧ i = .int .i64 ((k : Int) - 1) ∧ l.drop k = m.drop k ∧ Below w.heap.size w wr) (fun i _ => (intOf i + 1).toNat)
  case atStart => exact ⟨n, Nat.le_refl _, rfl, by rw [List.drop_of_length_le (by rw [hl.out]; omega), List.drop_of_length_le (by rw [hm.out]; omega)], Below.refl _ _⟩
  case round =>
    obtain ⟨k, hk, rfl, hd, hbel⟩ := hrel
    have HD := hide hd
    clear hd
    by_cases h0 : k = 0
    · subst h0
      go_wp2_with fail
      go_ret
      have he : l = m := by simpa using HD.out
      exact ⟨ret_int (by rw [he, sgn3_eq]), hbel⟩
    · obtain ⟨j, rfl⟩ : ∃ j, k = j + 1 := ⟨k - 1, by omega⟩
      have e1 : ((j + 1 : Nat) : Int) - 1 = (j : Int) := by omega
      rw [e1]
      have hjl : j < l.length := by rw [← hl.out]; omega
      have hjm : j < m.length := by rw [← hm.out]; omega
      obtain ⟨x, hxe⟩ : ∃ x, x = l.getD j 0 := ⟨_, rfl⟩
      obtain ⟨y, hye⟩ : ∃ y, y = m.getD j 0 := ⟨_, rfl⟩
      have hcx : wr.cell? ⟨b, off + j, none⟩ = some (.int .u64 x) := by rw [hxe, hbel.cell (p := ⟨b, off + j, none⟩) hb]; exact hc j hjl
      have hcy : wr.cell? ⟨b', off' + j, none⟩ = some (.int .u64 y) := by rw [hye, hbel.cell (p := ⟨b', off' + j, none⟩) hb']; exact hc' j hjm
      have Hx := hide hxe
      have Hy := hide hye
      have hjn : (j : Int) < (n : Int) := by omega
      clear hxe hye e1
      by_cases hxy : x = y
      · have hne : (x != y) = false := by simp [hxy]
        have Hxy := hide hxy
        clear hxy
        go_wp2_with fail
        go_region
        all_goals go_wp2_with fail
        all_goals
          go_roundw
          case rel => exact ⟨j, by omega, by go_num, drop_step l m j hjl hjm HD.out (by rw [← Hx.out, ← Hy.out]; exact Hxy.out), hbel.drew⟩
          case measure => simp [intOf]
      · have hne : (x != y) = true := by rw [bne_iff_ne]; exact hxy
        have Hxy := hide hxy
        clear hxy
        go_wp2_with fail
        go_region
        all_goals go_wp2_with fail
        all_goals go_region_held3 (fun w' => w'.cell? ⟨b, off + j, none⟩ = some (.int .u64 x) ∧ w'.cell? ⟨b', off' + j, none⟩ = some (.int .u64 y)) (go_keep) (first | (go_at_call 55; refine (cmpUint_any _ _ _).mono ?_; rintro e w' ⟨rfl, rfl⟩))
        all_goals go_wp2_with fail
        all_goals
          go_ret
          exact ⟨ret_int (by rw [Hx.out, Hy.out]; exact sgn3_at ll lm j hjl hjm HD.out (by rw [← Hx.out, ← Hy.out]; exact Hxy.out)), hbel.drew.drew⟩

theorem compare_any (a a' : Option Addr) (n c n' c' : Nat) (l m : List Int) (w : World) (hA : LimbsAt w a l) (hA' : LimbsAt w a' m) (hl : Hid (n = l.length)) (hm : Hid (n' = m.length)) (ll : Limb l) (lm : Limb m) (tl : Tr l) (tm : Tr m) (hn : n ≤ 4611686018427387903) :
    Calls Tryd.prog 37 #[.slice a n c, .slice a' n' c'] w fun e w' => e = .returned (.int .i64 (sgn3 (lv l) (lv m))) ∧ Below w.heap.size w w' := by
  have h1 := hl.out
  have h2 := hm.out
  by_cases h : l.length = m.length
  · rcases hA with rfl | ⟨b, off, rfl, hb, hc⟩
    · have hm' : m = [] := List.length_eq_zero_iff.1 (by simpa using h.symm)
      subst hm' h1 h2
      exact compare_none a a' c c' w
    · rcases hA' with rfl | ⟨b', off', rfl, hb', hc'⟩
      · have hl' : l = [] := List.length_eq_zero_iff.1 (by simpa using h)
        subst hl' h1 h2
        exact compare_none _ _ c c' w
      · have h3 : n' = n := by rw [h1, h2, h]
        rw [h3]
        exact compare_some b off c b' off' c' n l m w hb hc hb' hc' hl (by rw [← h3]; exact hm) ll lm hn
  · rw [← sgn3_length ll lm tl tm h, ← h1, ← h2]
    exact compare_unlike a a' n c n' c' w (by rw [h1, h2]; exact h)

end Go.Proofs.YtmeaemjdmjhmdaaDoor
