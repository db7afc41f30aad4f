/- Limbs over limbs, where both are one limb at most. -/
import Derived.Test.YtdnafkmphcebeaaDoorWn
namespace Go.Proofs.YtdnafkmphcebeaaDoor
open Go.RowKit

theorem wrapU' (x : Int) (h0 : 0 ≤ x) (h1 : x < 18446744073709551616) : IntKind.u64.wrap x = x := by rw [IntKind.wrap_u64]; omega

set_option maxHeartbeats 1000000 in
theorem div64_low (lo y : Int) (w : World) (h0 : 0 ≤ lo) (h1 : lo < 18446744073709551616) (hy0 : 0 < y) (hy1 : y < 18446744073709551616) (q r : Int) (hq : Hid (q = lo / y)) (hr : Hid (r = lo % y)) :
    Calls Tryd.prog 78 #[.int .u64 0, .int .u64 lo, .int .u64 y] w fun e w' => e = .returned (.tuple #[.int .u64 q, .int .u64 r]) ∧ Below w.heap.size w w' := by
  have hyz : (y == 0) = false := by simp; omega
  have hyz' : ¬ y = 0 := by omega
  have hyn : ¬ y ≤ 0 := by omega
  have hwq : IntKind.u64.wrap (lo.tdiv y) = q := by rw [IntWalk.u64_quo lo y ⟨h0, by omega, by omega⟩, hq.out]
  obtain rfl : r = lo % y := hr.out
  go_enter Tryd.func78, Tryd.ntmps78
  go_wp2_with fail
  go_region
  all_goals go_wp2_with fail
  all_goals
    go_ret2
    exact ⟨rfl, (Below.refl _ _).drew⟩

/-- A block of limbs that was just made. -/
theorem OwnU_made {W : World} {base g n : Nat} (h : W.ownsRow base 109 1 (.slice (some ⟨g, 0, none⟩) n n) n (madeCells #[Value.int .u64 0] n).toList) : OwnU W g (List.replicate n 0) := by
  rcases h.2 with ⟨h, _⟩ | ⟨g', cap, cur, h, _, hh, _, _, hsz, htk⟩
  · cases h
  · simp only [Value.slice.injEq, Option.some.injEq, Addr.mk.injEq, and_true, true_and] at h
    obtain ⟨rfl, rfl⟩ := h
    unfold OwnU
    rw [hh]
    have e : cur = madeCells #[Value.int .u64 0] n := by
      apply Array.toList_inj.1
      have h1 : cur.toList.take (n * 1) = (madeCells #[Value.int .u64 0] n).toList := by first | exact htk | (rw [Nat.mul_one] at htk ⊢; exact htk)
      rw [Nat.mul_one, List.take_of_length_le (by simp; omega)] at h1
      exact h1
    rw [e, made_zeros]

/-- What limbs.over answers. -/
def Quots (w w' : World) (e : Ending) (l m : List Int) : Prop :=
  ∃ (x : Option Addr) (k d : Nat) (q : List Int) (y : Option Addr) (j f : Nat) (r : List Int), e = .returned (.tuple #[.slice x k d, .slice y j f]) ∧ LimbsAt w' x q ∧ k = q.length ∧ Limb q ∧ Tr q ∧ LimbsAt w' y r ∧ j = r.length ∧ Limb r ∧ Tr r ∧ lv l = lv q * lv m + lv r ∧ lv r < lv m ∧ Below w.heap.size w w'

set_option maxHeartbeats 1000000 in
set_option maxRecDepth 20000 in
theorem overOne_one (b off c : Nat) (x y : Int) (w : World) (hb : b < w.heap.size) (hc : w.cell? ⟨b, off, none⟩ = some (.int .u64 x)) (hx0 : 0 ≤ x) (hx1 : x < 18446744073709551616) (hy0 : 0 < y) (hy1 : y < 18446744073709551616) :
    Calls Tryd.prog 71 #[.slice (some ⟨b, off, none⟩) 1 c, .int .u64 y] w fun e w' => Quots w w' e [x] [y] := by
  obtain ⟨i0, hi, hz0, hz1, hz2⟩ := info_parts Tryd.infoU
  go_enter Tryd.func71, Tryd.ntmps71
  go_wp2_with (at_make; refine wpList_make_full _ rfl _ _ 53 rfl w.heap.size 109 i0 (.int .u64 0) 1 Tryd.underlying53 hi hz0 hz1 _ _ _ _ 1 rfl rfl (by omega) (by omega) ?b2 ?b3 (Nat.le_refl _) ?_)
  case b2 => rw [hz2]; omega
  case b3 => unfold maxLen; omega
  intro w0 hown0 hgrow0
  have hbel0 : Below w.heap.size w w0 := (Below.refl _ _).grown hgrow0 (Nat.le_refl _) (fun _ h => by cases h)
  have HU := hide (OwnU_made hown0)
  have hcx : w0.cell? ⟨b, off, none⟩ = some (.int .u64 x) := (hbel0.cell hb).trans hc
  obtain ⟨q, hq⟩ : ∃ q, q = x / y := ⟨_, rfl⟩
  obtain ⟨r, hr⟩ : ∃ r, r = x % y := ⟨_, rfl⟩
  have Hq := hide hq
  have Hr := hide hr
  have hq0 : 0 ≤ q := by rw [hq]; exact Int.ediv_nonneg hx0 (by omega)
  have hq1 : Hid (q < 18446744073709551616) := by unfold Hid; rw [hq]; exact Int.lt_of_le_of_lt (Int.ediv_le_self _ hx0) hx1
  have hr0 : 0 ≤ r := by rw [hr]; exact Int.emod_nonneg _ (by omega)
  have hr1 : Hid (r < y) := by unfold Hid; rw [hr]; exact Int.emod_lt_of_pos _ hy0
  have hval : Hid (x = q * y + r) := by unfold Hid; rw [hq, hr, Int.mul_comm]; exact (Int.mul_ediv_add_emod x y).symm
  clear hown0 hgrow0 hq hr
  go_wp2_with fail
  refine wp_loop_rounds 2 ?_
  rw [rounds_succ]
  go_wp2_with fail
  refine (div64_low x y _ hx0 hx1 hy0 hy1 q r Hq Hr).mono ?_
  rintro e w1 ⟨rfl, hb1⟩
  have hU1 : OwnU w1 w.heap.size [0] := HU.out.below hb1
  have hc1 : w1.cell? ⟨w.heap.size, 0, none⟩ = some (.int .u64 0) := hU1.cell 0 (by simp)
  have hf1 := hU1.frozen 0
  have hU2 := hU1.set 0 q
  have hbel2 := (hbel0.trans (hb1.mono hbel0.size)).setCell (p := ⟨w.heap.size, 0, none⟩) (Nat.le_refl _) (.int .u64 q)
  have HU2 := hide hU2
  clear hU1 hU2 HU hbel0
  go_wp2_with fail
  rw [rounds_succ]
  go_wp2_with fail
  refine (trim_any (some ⟨w.heap.size, 0, none⟩) 1 1 [q] _ (by unfold Hid; rfl) HU2.out.limbs (by omega) (by omega)).mono ?_
  rintro e w2 ⟨k, rfl, ⟨hk1, hk2, hk3⟩, hb2⟩
  have hL2 := hide (HU2.out.limbs.below hb2)
  have hbel3 := hbel2.trans (hb2.mono hbel2.size)
  have Hk2 := hide hk2
  have Hk3 := hide hk3
  clear hk2 hk3
  go_wp2_with fail
  refine (trim_any (some ⟨w2.heap.size, 0, none⟩) 1 1 [r] _ (by unfold Hid; rfl) (.inr ⟨w2.heap.size, 0, rfl, by simp, fun i hi => by match i, hi with | 0, _ => simp⟩) (by omega) (by omega)).mono ?_
  rintro e w3 ⟨j, rfl, ⟨hj1, hj2, hj3⟩, hb3⟩
  have Hj2 := hide hj2
  have Hj3 := hide hj3
  clear hj2 hj3
  go_wp2_with fail
  go_ret2
  have hLr : LimbsAt (w2.alloc (.cells #[.int .u64 r] 109)) (some ⟨w2.heap.size, 0, none⟩) [r] := .inr ⟨w2.heap.size, 0, rfl, by simp, fun i hi => by match i, hi with | 0, _ => simp⟩
  have lq : Limb [q] := fun z hz => by simp at hz; have := hq1.out; omega
  have lr : Limb [r] := fun z hz => by simp at hz; have := hr1.out; omega
  have hb23 := hbel3.alloc hbel3.size (.cells #[.int .u64 r] 109)
  refine ⟨_, k, _, [q].take k, _, j, _, [r].take j, rfl, ((hL2.out.below ((Below.refl _ _).alloc (Nat.le_refl _) _)).below hb3).take k hk1, by rw [List.length_take, Nat.min_eq_left hk1], lq.take k, Hk3.out, (hLr.below hb3).take j hj1, by rw [List.length_take, Nat.min_eq_left hj1], lr.take j, Hj3.out, ?_, ?_, hb23.trans (hb3.mono hb23.size)⟩
  · rw [Hk2.out, Hj2.out]; simp [lv]; exact hval.out
  · rw [Hj2.out]; simp [lv]; exact hr1.out

theorem lv_one {l : List Int} (ll : Limb l) (lt : Tr l) (h : l.length ≤ 1) (h0 : 0 < lv l) : ∃ x, l = [x] ∧ 0 < x ∧ x < 18446744073709551616 := by
  match l, ll, lt, h, h0 with
  | [], _, _, _, h0 => simp [lv] at h0
  | [x], ll, _, _, h0 =>
    have := ll x (by simp)
    exact ⟨x, rfl, by simpa [lv] using h0, this.2⟩
  | x :: y :: r, _, _, h, _ => simp at h

set_option maxHeartbeats 1000000 in
set_option maxRecDepth 20000 in
theorem over_less (a a' : Option Addr) (n c n' c' : Nat) (l m : List Int) (w : World) (hA : LimbsAt w a l) (hA' : LimbsAt w a' m) (hl : Hid (n = l.length)) (hm : Hid (n' = m.length)) (ll : Limb l) (lm : Limb m) (tl : Tr l) (tm : Tr m) (hn : n ≤ 4611686018427387903) (hlt : Hid (lv l < lv m)) :
    Calls Tryd.prog 63 #[.slice a n c, .slice a' n' c'] w fun e w' => Quots w w' e l m := by
  have hs : sgn3 (lv l) (lv m) = -1 := sgn3_lt hlt.out
  go_enter Tryd.func63, Tryd.ntmps63
  go_wp2_with fail
  refine (compare_any a a' n c n' c' l m _ hA hA' hl hm ll lm tl tm hn).mono ?_
  rintro e w1 ⟨rfl, hb1⟩
  go_wp2_with fail
  go_ret2
  exact ⟨none, 0, 0, [], a, n, c, l, rfl, .inl rfl, rfl, fun x hx => by simp at hx, .inl rfl, hA.below hb1, hl.out, ll, tl, by simp [lv], hlt.out, hb1⟩

set_option maxHeartbeats 1000000 in
set_option maxRecDepth 20000 in
theorem over_one (a : Option Addr) (n c : Nat) (b' off' c' : Nat) (l : List Int) (y : Int) (w : World) (hA : LimbsAt w a l) (hb' : b' < w.heap.size) (hc' : w.cell? ⟨b', off', none⟩ = some (.int .u64 y)) (hl : Hid (n = l.length)) (ll : Limb l) (tl : Tr l) (hn : n ≤ 1) (hy0 : 0 < y) (hy1 : Hid (y < 18446744073709551616)) (hge : Hid (y ≤ lv l)) :
    Calls Tryd.prog 63 #[.slice a n c, .slice (some ⟨b', off', none⟩) 1 c'] w fun e w' => Quots w w' e l [y] := by
  have ey : lv [y] = y := by simp [lv]
  have hA' : LimbsAt w (some ⟨b', off', none⟩) [y] := .inr ⟨b', off', rfl, hb', fun i hi => by match i, hi with | 0, _ => simpa using hc'⟩
  have lm : Limb [y] := fun z hz => by simp at hz; have := hy1.out; omega
  have tm : Tr [y] := .inr (by simp; omega)
  obtain ⟨x, rfl, hx0, hx1⟩ := lv_one ll tl (by rw [← hl.out]; exact hn) (by have := hge.out; omega)
  obtain rfl : n = 1 := hl.out
  have hs : ¬ sgn3 (lv [x]) (lv [y]) < 0 := by
    rw [ey]; have := hge.out
    unfold sgn3; rw [if_neg (by omega)]; split <;> omega
  rcases hA with h | ⟨b, off, rfl, hb, hc⟩
  · cases h
  have hcx : w.cell? ⟨b, off, none⟩ = some (.int .u64 x) := by simpa using hc 0 (by simp)
  have hA : LimbsAt w (some ⟨b, off, none⟩) [x] := .inr ⟨b, off, rfl, hb, hc⟩
  have HA := hide hA
  have HA' := hide hA'
  have Hey := hide ey
  have Hx1 := hide hx1
  have Hge := hge
  obtain ⟨s, hse⟩ : ∃ s, s = sgn3 (lv [x]) (lv [y]) := ⟨_, rfl⟩
  rw [← hse] at hs
  have Hse := hide hse
  clear hA hA' hc ey hse hx1
  go_enter Tryd.func63, Tryd.ntmps63
  go_wp2_with fail
  refine (compare_any _ _ 1 c 1 c' [x] [y] _ HA.out HA'.out hl (by unfold Hid; rfl) ll lm tl tm (by omega)).mono ?_
  rintro e w1 ⟨rfl, hb1⟩
  rw [← Hse.out]
  have hcx1 := (hb1.cell (p := ⟨b, off, none⟩) hb).trans hcx
  have hcy1 := (hb1.cell (p := ⟨b', off', none⟩) hb').trans hc'
  clear hcx hc'
  go_wp2_with fail
  refine (overOne_one b off c x y _ (Nat.lt_of_lt_of_le hb hb1.size) hcx1 (by omega) Hx1.out hy0 hy1.out).mono ?_
  rintro e w2 ⟨q1, q2, q3, q4, q5, q6, q7, q8, rfl, h1, h2, h3, h4, h5, h6, h7, h8, h9, h10, hb2⟩
  have HH := hide (And.intro h1 (And.intro h2 (And.intro h3 (And.intro h4 (And.intro h5 (And.intro h6 (And.intro h7 (And.intro h8 (And.intro h9 h10)))))))))
  clear h1 h2 h3 h4 h5 h6 h7 h8 h9 h10
  go_wp2_with fail
  go_ret2
  obtain ⟨h1, h2, h3, h4, h5, h6, h7, h8, h9, h10⟩ := HH.out
  exact ⟨q1, q2, q3, q4, q5, q6, q7, q8, rfl, h1, h2, h3, h4, h5, h6, h7, h8, h9, h10, hb1.trans (hb2.mono hb1.size)⟩

end Go.Proofs.YtdnafkmphcebeaaDoor
