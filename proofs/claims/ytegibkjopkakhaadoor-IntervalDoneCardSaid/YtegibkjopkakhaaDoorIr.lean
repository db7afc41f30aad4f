/- All that comes of two small intervals' numbers: the reference. -/
import Derived.Test.YtegibkjopkakhaaDoorIq
import Derived.Test.YtegibkjopkakhaaDoorEc
namespace Go.Proofs.YtegibkjopkakhaaDoor
open Go.RowKit
set_option linter.unusedVariables false

/-- What comes of two numbers: sums, differences, products, quotients, remainders. -/
def resB (h : Int) (y : Int) : Bool := decide (h = 43 ∨ h = 45 ∨ h = 42) || decide (y ≠ 0)
def resN (h x y : Int) : Int := if h = 43 then x + y else if h = 45 then x - y else if h = 42 then x * y else if y = 0 then 0 else if h = 47 then x.tdiv y else x.tmod y
def isHow (h : Int) : Prop := h = 43 ∨ h = 45 ∨ h = 42 ∨ h = 47 ∨ h = 37

theorem mul_small {x y : Int} (hx : -12 ≤ x ∧ x ≤ 12) (hy : -12 ≤ y ∧ y ≤ 12) : -144 ≤ x * y ∧ x * y ≤ 144 := by
  have h1 : (x * y).natAbs ≤ 12 * 12 := by rw [Int.natAbs_mul]; exact Nat.mul_le_mul (by omega) (by omega)
  omega
theorem tdiv_small {x y : Int} (hx : -12 ≤ x ∧ x ≤ 12) : -12 ≤ x.tdiv y ∧ x.tdiv y ≤ 12 := by
  have h1 : (x.tdiv y).natAbs ≤ 12 := by rw [Int.natAbs_tdiv]; exact Nat.le_trans (Nat.div_le_self _ _) (by omega)
  omega
theorem tmod_small {x y : Int} (hx : -12 ≤ x ∧ x ≤ 12) : -12 ≤ x.tmod y ∧ x.tmod y ≤ 12 := by
  have h1 : (x.tmod y).natAbs ≤ 12 := by rw [Int.natAbs_tmod]; exact Nat.le_trans (Nat.mod_le _ _) (by omega)
  omega

theorem wrap64_small {z : Int} (h : -144 ≤ z ∧ z ≤ 144) : wrap64 z = z := by
  unfold wrap64; omega
theorem wrap64_small12 {z : Int} (h : -12 ≤ z ∧ z ≤ 12) : wrap64 z = z := wrap64_small (by omega)

set_option maxHeartbeats 2000000 in
theorem res_any (h x y : Int) (hh : isHow h) (hx : -12 ≤ x ∧ x ≤ 12) (hy : -12 ≤ y ∧ y ≤ 12) (w : World) :
    Calls Tryd.prog 34 #[.int .i64 x, .int .i64 y, .int .u8 h] w fun e w' => e = .returned (.tuple #[.int .i64 (resN h x y), .bool (resB h y)]) ∧ w' = w := by
  have hm := mul_small hx hy
  have hd := tdiv_small (y := y) hx
  have hr := tmod_small (y := y) hx
  have Hm := hide hm
  have Hd := hide hd
  have Hr := hide hr
  clear hm hd hr
  rcases hh with rfl | rfl | rfl | rfl | rfl
  · go_enter Tryd.func34, Tryd.ntmps34
    go_wp2
    go_ret2
    exact ⟨by simp [resN, resB], rfl⟩
  · go_enter Tryd.func34, Tryd.ntmps34
    go_wp2
    go_ret2
    exact ⟨by simp [resN, resB], rfl⟩
  · go_enter Tryd.func34, Tryd.ntmps34
    go_wp2
    go_ret2
    have := Hm.out
    exact ⟨by simp [resN, resB]; exact wrap64_small this, rfl⟩
  all_goals
    by_cases h0 : y = 0
    · subst h0
      go_enter Tryd.func34, Tryd.ntmps34
      go_wp2
      go_ret2
      exact ⟨by simp [resN, resB], rfl⟩
    · go_enter Tryd.func34, Tryd.ntmps34
      go_wp2
      all_goals
        go_ret2
        have := Hd.out
        have := Hr.out
        exact ⟨by simp [resN, resB, h0]; try (first | exact wrap64_small12 Hd.out | exact wrap64_small12 Hr.out), rfl⟩

def DInv (h lo lo' hi' x y : Int) (xs : List Int) : Prop := ∀ n, n ∈ xs ↔ ∃ p q, lo ≤ p ∧ lo' ≤ q ∧ q ≤ hi' ∧ (p < x ∨ (p = x ∧ q < y)) ∧ resB h q = true ∧ n = resN h p q

theorem DInv.start (h lo lo' hi' : Int) : DInv h lo lo' hi' lo lo' [] := by
  intro n
  constructor
  · intro hn; cases hn
  · rintro ⟨p, q, h1, h2, h3, h4, _⟩; omega

theorem DInv.more {h lo lo' hi' x y : Int} {xs : List Int} (H : DInv h lo lo' hi' x y xs) (hx : lo ≤ x) (hy : lo' ≤ y) (hy2 : y ≤ hi') (hb : resB h y = true) : DInv h lo lo' hi' x (y + 1) (xs ++ [resN h x y]) := by
  intro n
  rw [List.mem_append, H n]
  constructor
  · rintro (⟨p, q, h1, h2, h3, h4, h5, h6⟩ | hn)
    · exact ⟨p, q, h1, h2, h3, by omega, h5, h6⟩
    · simp at hn; exact ⟨x, y, hx, hy, hy2, .inr ⟨rfl, by omega⟩, hb, hn⟩
  · rintro ⟨p, q, h1, h2, h3, h4, h5, h6⟩
    by_cases hq : p = x ∧ q = y
    · right; rw [hq.1, hq.2] at h6; simp [h6]
    · left; exact ⟨p, q, h1, h2, h3, by omega, h5, h6⟩

theorem DInv.none {h lo lo' hi' x y : Int} {xs : List Int} (H : DInv h lo lo' hi' x y xs) (hb : resB h y = false) : DInv h lo lo' hi' x (y + 1) xs := by
  intro n
  rw [H n]
  constructor
  · rintro ⟨p, q, h1, h2, h3, h4, h5, h6⟩
    exact ⟨p, q, h1, h2, h3, by omega, h5, h6⟩
  · rintro ⟨p, q, h1, h2, h3, h4, h5, h6⟩
    refine ⟨p, q, h1, h2, h3, ?_, h5, h6⟩
    by_cases hq : q = y
    · subst hq; rw [hb] at h5; cases h5
    · omega

theorem DInv.line {h lo lo' hi' x y : Int} {xs : List Int} (H : DInv h lo lo' hi' x y xs) (hy : hi' < y) : DInv h lo lo' hi' (x + 1) lo' xs := by
  intro n
  rw [H n]
  constructor
  · rintro ⟨p, q, h1, h2, h3, h4, h5, h6⟩
    exact ⟨p, q, h1, h2, h3, by omega, h5, h6⟩
  · rintro ⟨p, q, h1, h2, h3, h4, h5, h6⟩
    exact ⟨p, q, h1, h2, h3, by omega, h5, h6⟩

/-- All that comes lies in a list. -/
def DonePost (h lo hi lo' hi' : Int) (e : Ending) (w' : World) : Prop := ∃ (a : Option Addr) (n cap : Nat) (xs : List Int), e = .returned (.slice a n cap) ∧ n = xs.length ∧ n ≤ 1000 ∧ IntsAt w' a xs ∧ DInv h lo lo' hi' (hi + 1) lo' xs

set_option maxRecDepth 20000 in
set_option maxHeartbeats 8000000 in
theorem done_any (h : Int) (hh : isHow h) (lo hi lo' hi' : Int) (w : World) (h1 : -12 ≤ lo) (h2 : hi ≤ 12) (h3 : -12 ≤ lo') (h4 : hi' ≤ 12) (h5 : lo ≤ hi) (h6 : lo' ≤ hi') :
    Calls Tryd.prog 17 #[(.agg #[.bool false, .bool false, .int .i64 lo, .int .i64 hi]), (.agg #[.bool false, .bool false, .int .i64 lo', .int .i64 hi']), .int .u8 h] w fun e w' => DonePost h lo hi lo' hi' e w' ∧ Below w.heap.size w w' := by
  obtain ⟨i0, hi0, hz0, hz1, hz2⟩ := info_parts Tryd.info3
  have Hh := hide hh
  have s0 := (((⟨Below.refl _ _, trivial, trivial, fun _ _ _ _ => trivial⟩ : St w w (fun _ => True) []).box4 23 (.bool false) (.bool false) (.int .i64 lo) (.int .i64 hi)).box4 23 (.bool false) (.bool false) (.int .i64 lo') (.int .i64 hi'))
  obtain ⟨W0, hW0⟩ : ∃ W0, W0 = (w.alloc (.cells #[.bool false, .bool false, .int .i64 lo, .int .i64 hi] 23)).alloc (.cells #[.bool false, .bool false, .int .i64 lo', .int .i64 hi'] 23) := ⟨_, rfl⟩
  have hW0s : W0.heap.size = w.heap.size + 1 + 1 := by rw [hW0]; simp
  rw [← hW0] at s0
  simp only [World.size_alloc] at s0
  have HW0 := hide hW0
  have HW0s := hide hW0s
  clear hh hW0 hW0s
  go_enter Tryd.func17, Tryd.ntmps17
  go_wp2_with fail
  rw [← HW0.out]
  go_loopg [7, 8] ((hi + 1 - lo).toNat) (fun g out xv wr => ∃ (x : Int) (xs : List Int) (k : Nat), Hid (x + g = hi + 1) ∧ xv = .int .i64 x ∧ Hid (lo ≤ x) ∧ Hid (k = xs.length) ∧ wr.ownsRow W0.heap.size 3 1 out k (xs.map (Value.int .i64)) ∧ Hid (DInv h lo lo' hi' x lo' xs) ∧ Hid ((k : Int) ≤ 25 * (x - lo)) ∧ Below W0.heap.size W0 wr)
  case atStart => exact ⟨lo, [], 0, (by show lo + _ = hi + 1; omega), rfl, Int.le_refl _, rfl, World.ownsRow_nil _ _ _ _, DInv.start _ _ _ _, (by show ((0 : Nat) : Int) ≤ 25 * (lo - lo); omega), Below.refl _ _⟩
  case round =>
    obtain ⟨x, xs, k, hxg, rfl, hlx, hk, hown, hD, hkb, hbel⟩ := hrel
    have s1 := s0.call hbel
    have q1 := s1.hold
    simp only [Holds, and_true] at q1
    by_cases hx : x ≤ hi
    · go_wp2_with fail
      go_loopg [7, 9] ((hi' + 1 - lo').toNat) (fun g out yv wr => ∃ (y : Int) (xs : List Int) (k : Nat), Hid (y + g = hi' + 1) ∧ yv = .int .i64 y ∧ Hid (lo' ≤ y) ∧ Hid (k = xs.length) ∧ wr.ownsRow W0.heap.size 3 1 out k (xs.map (Value.int .i64)) ∧ Hid (DInv h lo lo' hi' x y xs) ∧ Hid ((k : Int) ≤ 25 * (x - lo) + (y - lo')) ∧ Below W0.heap.size W0 wr)
      case atStart => exact ⟨lo', xs, k, (by show lo' + _ = hi' + 1; omega), rfl, Int.le_refl _, hk, hown, hD, (by have := hkb.out; show (k : Int) ≤ _; omega), hbel⟩
      case round =>
        clear s1 q1 hk hown hD hkb hbel
        obtain ⟨y, xs, k, hyg, rfl, hly, hk, hown, hD, hkb, hbel⟩ := hrel
        have s1 := s0.call hbel
        have q1 := s1.hold
        simp only [Holds, and_true] at q1
        by_cases hy : y ≤ hi'
        · have hyr : -12 ≤ y ∧ y ≤ 12 := by have := hly.out; omega
          have hxr : -12 ≤ x ∧ x ≤ 12 := by have := hlx.out; omega
          have hkk : k ≤ 700 := by have := hkb.out; omega
          obtain ⟨N, hN⟩ : ∃ N, N = resN h x y := ⟨_, rfl⟩
          obtain ⟨bb, hbb⟩ : ∃ bb, bb = resB h y := ⟨_, rfl⟩
          have HR : Hid (∀ W : World, Calls Tryd.prog 34 #[.int .i64 x, .int .i64 y, .int .u8 h] W fun e w' => e = .returned (.tuple #[.int .i64 N, .bool bb]) ∧ w' = W) := by
            intro W; have := res_any h x y Hh.out hxr hyr W; rw [← hN, ← hbb] at this; exact this
          have HN := hide hN
          have Hbb := hide hbb
          clear hN hbb
          go_wp2_with fail
          refine (HR.out _).mono ?_
          rintro e w3 ⟨rfl, rfl⟩
          cases bb
          · have HD2 := hide (hD.out.none Hbb.out.symm)
            go_wp2_with fail
            go_roundg ((hi' - y).toNat)
            case measure => have := hyg.out; omega
            case rel => exact ⟨y + 1, xs, k, (by show y + 1 + _ = hi' + 1; omega), by go_num, (by have := hly.out; show lo' ≤ y + 1; omega), hk, hown, HD2, (by have := hkb.out; show (k : Int) ≤ _; omega), hbel⟩
          · have HD2 := hide (hD.out.more hlx.out hly.out hy Hbb.out.symm)
            have hsz := hbel.size
            have HT : Hid ((xs ++ [resN h x y]).map (Value.int .i64) = xs.map (Value.int .i64) ++ [.int .i64 N]) := by show _ = _; rw [HN.out]; simp
            obtain ⟨zs, hzs⟩ : ∃ zs, zs = xs.map (Value.int .i64) := ⟨_, rfl⟩
            rw [← hzs] at hown HT
            clear hzs
            go_wp2_with (at_builtin; refine wpList_append_own _ rfl _ _ 36 rfl W0.heap.size 3 i0 (.int .i64 0) 1 8 Tryd.underlying36 hi0 hz0 hz1 hz2 rfl (by decide) _ _ _ rfl (hown.alloc _) ⟨w3.heap.size, 0, none⟩ 1 1 [.int .i64 N] rfl rfl (cell_one_new _ _ _) (by intro u hu; simp at hu; subst hu; rfl) (by unfold maxLen; omega) (by omega) (by simp; omega) ?_)
            intro v' w1 hown' hgrow _
            have hbel3 := (hbel.alloc hsz _).grown hgrow (by simp; omega) (fun j hj => (hown.lt j hj).1)
            rw [← HT.out] at hown'
            clear hown hgrow
            go_wp2_with fail
            go_roundg ((hi' - y).toNat)
            case measure => have := hyg.out; omega
            case rel => exact ⟨y + 1, xs ++ [resN h x y], k + 1, (by show y + 1 + _ = hi' + 1; omega), by go_num, (by have := hly.out; show lo' ≤ y + 1; omega), (by have := hk.out; show k + 1 = _; simp [this]), hown', HD2, (by have := hkb.out; show ((k + 1 : Nat) : Int) ≤ _; omega), hbel3⟩
        · have HD2 := hide (hD.out.line (by omega))
          have hxr : -12 ≤ x ∧ x ≤ 12 := by have := hlx.out; omega
          go_wp2_with fail
          go_roundg ((hi - x).toNat)
          case measure => have := hxg.out; omega
          case rel => exact ⟨x + 1, xs, k, (by show x + 1 + _ = hi + 1; omega), by go_num, (by have := hlx.out; show lo ≤ x + 1; omega), hk, hown, HD2, (by have := hkb.out; have := hyg.out; show (k : Int) ≤ _; omega), hbel⟩
    · have hx1 : x = hi + 1 := by have := hxg.out; omega
      have hD2 : DInv h lo lo' hi' (hi + 1) lo' xs := by rw [← hx1]; exact hD.out
      have HD2 := hide hD2
      have hkk : k ≤ 1000 := by have := hkb.out; omega
      obtain ⟨a, cap, rfl, hI⟩ := IntsAt_of_own hown
      have hbw : Below w.heap.size w wr := s1.bel
      have Hk := hk
      clear hown hD hD2 hx1 hk
      have hkl : Hid (xs.length ≤ 1000) := by show xs.length ≤ 1000; rw [← Hk.out]; exact hkk
      go_wp2_with fail
      go_ret
      exact ⟨⟨a, _, cap, xs, rfl, rfl, hkl.out, hI, HD2.out⟩, hbw⟩

end Go.Proofs.YtegibkjopkakhaaDoor
