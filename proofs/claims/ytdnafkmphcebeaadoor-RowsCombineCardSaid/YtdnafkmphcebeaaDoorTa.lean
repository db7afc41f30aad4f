/- The document's own: small numbers; so often one row, so often another one. -/
import Derived.Test.YtdnafkmphcebeaaDoorWy
import Derived.Test.YtdnafkmphcebeaaDoorKn
import Derived.Deep.AppendLies
namespace Go.Proofs.YtdnafkmphcebeaaDoor
open Go.RowKit

def tameB (l : List Int) : Bool := l.all fun x => decide (-30 ≤ x ∧ x ≤ 30)

theorem tameB_true {l : List Int} (h : tameB l = true) : ∀ x ∈ l, -30 ≤ x ∧ x ≤ 30 := by
  intro x hx
  simp only [tameB, List.all_eq_true, decide_eq_true_eq] at h
  exact h x hx

theorem tameB_take_succ (l : List Int) (k : Nat) (h : k < l.length) (h1 : tameB (l.take k) = true) (h2 : -30 ≤ l.getD k 0) (h3 : l.getD k 0 ≤ 30) : tameB (l.take (k + 1)) = true := by
  rw [take_succ_getD l k h]
  simp only [tameB, List.all_append, Bool.and_eq_true]
  refine ⟨h1, ?_⟩
  simp; simp at h2 h3; omega

theorem tameB_of_get (l : List Int) (k : Nat) (h : k < l.length) (h2 : 30 < l.getD k 0 ∨ l.getD k 0 < -30) : tameB l = false := by
  cases ht : tameB l with
  | false => rfl
  | true =>
    have := tameB_true ht (l.getD k 0) (by simp [h])
    omega

set_option maxHeartbeats 400000 in
theorem tame_none (a : Option Addr) (c : Nat) (w : World) :
    Calls Tryd.prog 15 #[.slice a 0 c] w fun e w' => e = .returned (.bool true) ∧ Below w.heap.size w w' := by
  go_enter Tryd.func15, Tryd.ntmps15
  go_wp2_with fail
  refine wp_loop_rounds 1 ?_
  rw [rounds_succ]
  go_wp2_with fail
  go_ret
  exact ⟨rfl, Below.refl _ _⟩

set_option maxHeartbeats 1000000 in
theorem tame_some (b off c n : Nat) (l : List Int) (w : World) (hl : Hid (n = l.length)) (hb : b < w.heap.size) (hc : ∀ i, i < l.length → w.cell? ⟨b, off + i, none⟩ = some (.int .i64 (l.getD i 0))) (hn : n ≤ 4611686018427387903) :
    Calls Tryd.prog 15 #[.slice (some ⟨b, off, none⟩) n c] w fun e w' => e = .returned (.bool (tameB l)) ∧ Below w.heap.size w w' := by
  go_enter Tryd.func15, Tryd.ntmps15
  go_wp2_with fail
  go_loopw [3] (fun i wr => ∃ k : Nat, k ≤ n ∧ i = .int .i64 k ∧ tameB (l.take k) = true ∧ Below w.heap.size w wr) (fun i _ => n - (intOf i).toNat)
  case atStart => exact ⟨0, Nat.zero_le _, rfl, rfl, Below.refl _ _⟩
  case round =>
    obtain ⟨k, hk, rfl, hL, hbel⟩ := hrel
    have HL := hide hL
    clear hL
    by_cases hlt : k < n
    · have hkl : k < l.length := by rw [← hl.out]; exact hlt
      obtain ⟨x, hxe⟩ : ∃ x, x = l.getD k 0 := ⟨_, rfl⟩
      have hcx : wr.cell? ⟨b, off + k, none⟩ = some (.int .i64 x) := by rw [hxe, hbel.cell (p := ⟨b, off + k, none⟩) hb]; exact hc k hkl
      have Hx := hide hxe
      clear hxe
      rcases (show 30 < x ∨ x < -30 ∨ (-30 ≤ x ∧ x ≤ 30) by omega) with h | h | ⟨h, h'⟩
      · have hr : Hid (tameB l = false) := tameB_of_get l k hkl (by rw [← Hx.out]; exact .inl h)
        go_wp2_with fail
        go_ret
        exact ⟨ret_bool hr.out.symm, hbel⟩
      · have hr : Hid (tameB l = false) := tameB_of_get l k hkl (by rw [← Hx.out]; exact .inr h)
        go_wp2_with fail
        go_ret
        exact ⟨ret_bool hr.out.symm, hbel⟩
      · go_wp2_with fail
        go_roundw
        case rel => exact ⟨k + 1, by omega, by go_num, tameB_take_succ l k hkl HL.out (by rw [← Hx.out]; exact h) (by rw [← Hx.out]; exact h'), hbel⟩
        case measure => simp [intOf]; omega
    · have hke : Hid (l.take k = l) := List.take_of_length_le (by rw [← hl.out]; omega)
      go_wp2_with fail
      go_ret
      exact ⟨ret_bool (by rw [← HL.out, hke.out]), hbel⟩

theorem tame_as (a : Option Addr) (n c : Nat) (l : List Int) (bo : Bool) (w : World) (hA : IntsAt w a l) (hl : Hid (n = l.length)) (hbo : Hid (tameB l = bo)) (hn : n ≤ 4611686018427387903) :
    Calls Tryd.prog 15 #[.slice a n c] w fun e w' => e = .returned (.bool bo) ∧ Below w.heap.size w w' := by
  rw [← hbo.out]
  rcases hA with rfl | ⟨b, off, rfl, hb, hc⟩
  · have h := hl.out
    subst h
    exact tame_none a c w
  · exact tame_some b off c n l w hl hb hc hn

theorem mixL_take (l m : List Int) (i j : Int) (k : Nat) (hk : k < l.length) (hm : k < m.length) : mixL (l.take (k + 1)) (m.take (k + 1)) i j = mixL (l.take k) (m.take k) i j ++ [l.getD k 0 * i + m.getD k 0 * j] := by
  rw [take_succ_getD l k hk, take_succ_getD m k hm]
  unfold mixL
  rw [List.zipWith_append (by simp; omega)]
  rfl

theorem mix_small {x y i j : Int} (h1 : -30 ≤ x ∧ x ≤ 30) (h2 : -30 ≤ y ∧ y ≤ 30) (h3 : -30 ≤ i ∧ i ≤ 30) (h4 : -30 ≤ j ∧ j ≤ 30) : (-900 ≤ x * i ∧ x * i ≤ 900) ∧ (-900 ≤ y * j ∧ y * j ≤ 900) := by
  have a1 := Int.mul_le_mul (show (x.natAbs : Int) ≤ 30 by omega) (show (i.natAbs : Int) ≤ 30 by omega) (by omega) (by omega)
  have a2 := Int.mul_le_mul (show (y.natAbs : Int) ≤ 30 by omega) (show (j.natAbs : Int) ≤ 30 by omega) (by omega) (by omega)
  have e1 : ((x * i).natAbs : Int) = (x.natAbs : Int) * (i.natAbs : Int) := by rw [Int.natAbs_mul]; simp
  have e2 : ((y * j).natAbs : Int) = (y.natAbs : Int) * (j.natAbs : Int) := by rw [Int.natAbs_mul]; simp
  omega

theorem mixL_small (l m : List Int) (i j : Int) (hl : ∀ x ∈ l, -30 ≤ x ∧ x ≤ 30) (hm : ∀ x ∈ m, -30 ≤ x ∧ x ≤ 30) (hi : -30 ≤ i ∧ i ≤ 30) (hj : -30 ≤ j ∧ j ≤ 30) : ∀ z ∈ mixL l m i j, -1800 ≤ z ∧ z ≤ 1800 := by
  intro z hz
  obtain ⟨k, hk, rfl⟩ := List.getElem_of_mem hz
  simp only [mixL, List.length_zipWith] at hk
  have e : (mixL l m i j)[k] = l[k]'(by omega) * i + m[k]'(by omega) * j := by simp [mixL]
  rw [e]
  have := mix_small (hl (l[k]'(by omega)) (List.getElem_mem _)) (hm (m[k]'(by omega)) (List.getElem_mem _)) hi hj
  omega

theorem keepM {w W w1 : World} {b b' o o' : Nat} {x y : Value} (hb : b < w.heap.size) (hb' : b' < w.heap.size) (h : W.cell? ⟨b, o, none⟩ = some x ∧ W.cell? ⟨b', o', none⟩ = some y ∧ Below w.heap.size w W) (hB : Below w.heap.size w w1) : w1.cell? ⟨b, o, none⟩ = some x ∧ w1.cell? ⟨b', o', none⟩ = some y ∧ Below w.heap.size w w1 := by
  obtain ⟨h1, h2, h3⟩ := h
  rw [h3.cell hb] at h1
  rw [h3.cell hb'] at h2
  exact ⟨(hB.cell hb).trans h1, (hB.cell hb').trans h2, hB⟩

set_option maxHeartbeats 4000000 in
set_option maxRecDepth 20000 in
theorem mixOf_some (b off c b' off' c' n : Nat) (l m : List Int) (i j : Int) (w : World) (hl : Hid (n = l.length)) (hm : Hid (n = m.length)) (hb : b < w.heap.size) (hc : ∀ i, i < l.length → w.cell? ⟨b, off + i, none⟩ = some (.int .i64 (l.getD i 0))) (hb' : b' < w.heap.size) (hc' : ∀ i, i < m.length → w.cell? ⟨b', off' + i, none⟩ = some (.int .i64 (m.getD i 0))) (hn : n ≤ 1073741824)
    (tl : Hid (∀ x ∈ l, -30 ≤ x ∧ x ≤ 30)) (tm : Hid (∀ x ∈ m, -30 ≤ x ∧ x ≤ 30)) (ti : Hid (-30 ≤ i ∧ i ≤ 30)) (tj : Hid (-30 ≤ j ∧ j ≤ 30)) :
    Calls Tryd.prog 16 #[.slice (some ⟨b, off, none⟩) n c, .int .i64 i, .slice (some ⟨b', off', none⟩) n c', .int .i64 j] w fun e w' => ∃ a cap, e = .returned (.slice a n cap) ∧ IntsAt w' a (normL (mixL l m i j)) ∧ Below w.heap.size w w' := by
  obtain ⟨i0, hi, hz0, hz1, hz2⟩ := info_parts Tryd.info3
  go_enter Tryd.func16, Tryd.ntmps16
  go_wp2_with fail
  go_loopw [9, 10] (fun v i' wr => ∃ k : Nat, k ≤ n ∧ i' = .int .i64 k ∧ wr.ownsRow w.heap.size 3 1 v k ((mixL (l.take k) (m.take k) i j).map (Value.int .i64)) ∧ Below w.heap.size w wr) (fun _ i' _ => n - (intOf i').toNat)
  case atStart => exact ⟨0, Nat.zero_le _, rfl, World.ownsRow_nil _ _ _ _, Below.refl _ _⟩
  case round =>
    obtain ⟨k, hk, rfl, hown, hbel⟩ := hrel
    have hsz := hbel.size
    by_cases hlt : k < n
    · have hkl : k < l.length := by rw [← hl.out]; exact hlt
      have hkm : k < m.length := by rw [← hm.out]; exact hlt
      obtain ⟨x, hxe⟩ : ∃ x, x = l.getD k 0 := ⟨_, rfl⟩
      obtain ⟨y, hye⟩ : ∃ y, y = m.getD k 0 := ⟨_, rfl⟩
      have hcx : wr.cell? ⟨b, off + k, none⟩ = some (.int .i64 x) := by rw [hxe, hbel.cell (p := ⟨b, off + k, none⟩) hb]; exact hc k hkl
      have hcy : wr.cell? ⟨b', off' + k, none⟩ = some (.int .i64 y) := by rw [hye, hbel.cell (p := ⟨b', off' + k, none⟩) hb']; exact hc' k hkm
      have hbd := mix_small (tl.out x (by rw [hxe]; simp [hkl])) (tm.out y (by rw [hye]; simp [hkm])) ti.out tj.out
      have hze : IntKind.i64.wrap (IntKind.i64.wrap (x * i) + IntKind.i64.wrap (y * j)) = x * i + y * j := by
        rw [wrap_small (x * i) (by omega) (by omega), wrap_small (y * j) (by omega) (by omega)]
        exact wrap_small _ (by omega) (by omega)
      have HT : Hid ((mixL (l.take (k + 1)) (m.take (k + 1)) i j).map (Value.int .i64) = (mixL (l.take k) (m.take k) i j).map (Value.int .i64) ++ [.int .i64 (IntKind.i64.wrap (IntKind.i64.wrap (x * i) + IntKind.i64.wrap (y * j)))]) := by
        unfold Hid; rw [mixL_take l m i j k hkl hkm, hze, hxe, hye]; simp
      obtain ⟨xs, hxs⟩ : ∃ xs, xs = (mixL (l.take k) (m.take k) i j).map (Value.int .i64) := ⟨_, rfl⟩
      rw [← hxs] at hown HT
      clear hxe hye hze hxs hbd
      have h0 : (fun w' => w'.cell? ⟨b, off + k, none⟩ = some (.int .i64 x) ∧ w'.cell? ⟨b', off' + k, none⟩ = some (.int .i64 y) ∧ Below w.heap.size w w') wr := ⟨hcx, hcy, hbel⟩
      go_wp2_with fail
      go_region_held3 (fun w' => w'.cell? ⟨b, off + k, none⟩ = some (.int .i64 x) ∧ w'.cell? ⟨b', off' + k, none⟩ = some (.int .i64 y) ∧ Below w.heap.size w w') (first | (exact keepM hb hb' h0 hbel.drew) | (exact keepM hb hb' h0 (hbel.alloc hsz _).drew) | (exact keepM hb hb' h0 ((hbel.alloc hsz _).drew.grown hgrow (by simp; omega) (fun j hj => (hown.lt j hj).1))))
        (first | (refine step_append_lies _ (by rfl) _ _ 22 (by rfl) w.heap.size 3 i0 (.int .i64 0) 1 8 Tryd.underlying22 hi hz0 hz1 hz2 rfl (by decide) _ k xs (by rfl) ((hown.alloc _).drew) ⟨wr.heap.size, 0, none⟩ 1 1 [.int .i64 (IntKind.i64.wrap (IntKind.i64.wrap (x * i) + IntKind.i64.wrap (y * j)))] (by rfl) rfl (fun j u h => cell_one_new wr _ _ j u h) (by intro u hu; simp at hu; subst hu; rfl) (by omega) (by unfold maxLen; omega) (by omega) (by simp; omega) (wr.heap.size + 1) (by simp) ?_; intro g cap w1 hown' hgrow hat hlt'))
      have hbel3 := (hbel.alloc hsz _).drew.grown hgrow (by simp; omega) (fun j hj => (hown.lt j hj).1)
      rw [← HT.out] at hown'
      clear hown hgrow
      go_wp2_with fail
      go_roundw
      case rel => exact ⟨k + 1, by omega, by go_num, hown', hbel3⟩
      case measure => simp [intOf]; omega
    · have hkn : k = n := by omega
      have e1 : l.take k = l := List.take_of_length_le (by rw [← hl.out]; omega)
      have e2 : m.take k = m := List.take_of_length_le (by rw [← hm.out]; omega)
      rw [e1, e2] at hown
      obtain ⟨a, cap, rfl, hI⟩ := IntsAt_of_own hown
      have hlen : Hid ((mixL l m i j).length = n) := by unfold Hid mixL; rw [List.length_zipWith, ← hl.out, ← hm.out]; simp
      have hfit : Fits (mixL l m i j) := fun z hz => by
        have := mixL_small l m i j tl.out tm.out ti.out tj.out z hz
        omega
      have HF := hide hfit
      rw [hlen.out]
      clear e1 e2 hkn hown hfit
      go_wp2_with fail
      refine (normalOf_as a n cap (mixL l m i j) _ hI (by unfold Hid; exact hlen.out.symm) HF.out (by omega)).mono ?_
      rintro e w2 ⟨a2, cap2, rfl, hI2, hb2⟩
      go_wp2_with fail
      go_ret
      exact ⟨a2, cap2, rfl, hI2, hbel.trans (hb2.mono hbel.size)⟩

set_option maxHeartbeats 1000000 in
theorem mixOf_none (a a' : Option Addr) (c c' : Nat) (i j : Int) (w : World) :
    Calls Tryd.prog 16 #[.slice a 0 c, .int .i64 i, .slice a' 0 c', .int .i64 j] w fun e w' => ∃ a cap, e = .returned (.slice a 0 cap) ∧ IntsAt w' a [] ∧ Below w.heap.size w w' := by
  go_enter Tryd.func16, Tryd.ntmps16
  go_wp2_with fail
  refine wp_loop_rounds 1 ?_
  rw [rounds_succ]
  go_wp2_with fail
  refine (normalOf_none _ _ _).mono ?_
  rintro e w2 ⟨rfl, hb2⟩
  go_wp2_with fail
  go_ret
  exact ⟨none, 0, rfl, .inl rfl, hb2⟩

theorem mixOf_any (a a' : Option Addr) (c c' n : Nat) (l m : List Int) (i j : Int) (w : World) (hA : IntsAt w a l) (hB : IntsAt w a' m) (hl : Hid (n = l.length)) (hm : Hid (n = m.length)) (hn : n ≤ 1073741824)
    (tl : Hid (∀ x ∈ l, -30 ≤ x ∧ x ≤ 30)) (tm : Hid (∀ x ∈ m, -30 ≤ x ∧ x ≤ 30)) (ti : Hid (-30 ≤ i ∧ i ≤ 30)) (tj : Hid (-30 ≤ j ∧ j ≤ 30)) :
    Calls Tryd.prog 16 #[.slice a n c, .int .i64 i, .slice a' n c', .int .i64 j] w fun e w' => ∃ a cap, e = .returned (.slice a n cap) ∧ IntsAt w' a (normL (mixL l m i j)) ∧ Below w.heap.size w w' := by
  by_cases h0 : n = 0
  · subst h0
    have e1 : l = [] := List.eq_nil_of_length_eq_zero hl.out.symm
    subst e1
    exact mixOf_none a a' c c' i j w
  · rcases hA with rfl | ⟨b, off, rfl, hb, hc⟩
    · exact absurd hl.out (by simpa using h0)
    · rcases hB with rfl | ⟨b', off', rfl, hb', hc'⟩
      · exact absurd hm.out (by simpa using h0)
      · exact mixOf_some b off c b' off' c' n l m i j w hl hm hb hc hb' hc' hn tl tm ti tj

end Go.Proofs.YtdnafkmphcebeaaDoor
