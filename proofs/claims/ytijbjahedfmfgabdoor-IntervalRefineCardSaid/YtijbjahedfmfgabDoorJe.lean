/- The walk of IntervalRefine, by what is asked of the program's functions. -/
import Derived.Test.YtijbjahedfmfgabDoorJd
import Derived.Deep.DeepCutAuto
import Derived.Deep.LoopGhost
import Derived.Deep.AppendLies
namespace Go.Proofs.YtijbjahedfmfgabDoor
open Go.RowKit
set_option linter.unusedVariables false

set_option maxRecDepth 20000 in
set_option maxHeartbeats 8000000 in
theorem refine_far (a : Nat → Addr) (hT : ThreeC a) (d u d' u' : Bool) (lo hi lo' hi' : Int) (s : ByteArray) (w : World) (hS : Sents w a) (xd xu yd yu is : Bool) (xl xh yl yh : Int) (Hk : Hid (kindOf s ≠ 0)) (hlen : s.size ≤ 100)
    (HR : Hid (∀ W : World, Sents W a → Calls Tryd.prog 9 #[(.agg #[.bool d, .bool u, .int .i64 lo, .int .i64 hi]), (.agg #[.bool d', .bool u', .int .i64 lo', .int .i64 hi']), .string s] W fun x w' => x = .returned (.tuple #[(.agg #[.bool xd, .bool xu, .int .i64 xl, .int .i64 xh]), (.agg #[.bool yd, .bool yu, .int .i64 yl, .int .i64 yh]), .bool is, .nilIface]) ∧ Below W.heap.size W w'))
    (f g : Bool) (hfg : Hid ((f && g) = false))
    (HF : Hid (∀ W : World, Calls Tryd.prog 11 #[(.agg #[.bool d, .bool u, .int .i64 lo, .int .i64 hi]), .int .i64 12] W fun x w' => x = .returned (.bool f) ∧ Below W.heap.size W w'))
    (HG : Hid (∀ W : World, Calls Tryd.prog 11 #[(.agg #[.bool d', .bool u', .int .i64 lo', .int .i64 hi']), .int .i64 12] W fun x w' => x = .returned (.bool g) ∧ Below W.heap.size W w'))
    (HX : Hid (∀ W : World, Calls Tryd.prog 12 #[(.agg #[.bool xd, .bool xu, .int .i64 xl, .int .i64 xh])] W fun x w' => x = .returned (.int .i64 0) ∧ Below W.heap.size W w'))
    (HY : Hid (∀ W : World, Calls Tryd.prog 12 #[(.agg #[.bool yd, .bool yu, .int .i64 yl, .int .i64 yh])] W fun x w' => x = .returned (.int .i64 0) ∧ Below W.heap.size W w'))
    (HE : Hid (∀ W : World, Calls Tryd.prog 8 #[(.agg #[.bool d, .bool u, .int .i64 lo, .int .i64 hi]), (.agg #[.bool d', .bool u', .int .i64 lo', .int .i64 hi'])] W fun x w' => x = .returned (.int .i64 0) ∧ Below W.heap.size W w')) :
    Calls Tryd.prog 3 #[(.agg #[.bool d, .bool u, .int .i64 lo, .int .i64 hi]), (.agg #[.bool d', .bool u', .int .i64 lo', .int .i64 hi']), .string s] w fun x w' => x = .returned (.bool true) ∧ Below w.heap.size w w' := by
  (go_enter Tryd.func3, Tryd.ntmps3; go_wp2_with fail; have s0 := ((St.start hS).box4 23 (.bool d) (.bool u) (.int .i64 lo) (.int .i64 hi)).box4 23 (.bool d') (.bool u') (.int .i64 lo') (.int .i64 hi'); simp only [World.size_alloc] at s0; refine (hT _ s0.sents.errs).mono ?_; (rintro x1 w1 ⟨rfl, hb⟩; have s1 := s0.call hb; have q1 := s1.hold; simp only [Holds, and_true] at q1; clear hb s0; try clear q0); go_wp2_with fail; refine (HE.out _).mono ?_; (rintro x1 w2 ⟨rfl, hb⟩; have s2 := s1.call hb; have q2 := s2.hold; simp only [Holds, and_true] at q2; clear hb s1; try clear q1); go_upto_region 5 with fail)
  go_cut [9] (fun s9 wx => s9 = .bool true ∧ wx = w2)
  case first =>
    have hk6 := kindOf_le s
    have hk0 := Hk.out
    rcases (show kindOf s = 1 ∨ kindOf s = 2 ∨ kindOf s = 3 ∨ kindOf s = 4 ∨ kindOf s = 5 ∨ kindOf s = 6 by omega) with h | h | h | h | h | h
    all_goals
      have hs := kindOf_eq h (by omega)
      simp only [howS] at hs
      clear h hk6 hk0 Hk
      subst hs
      go_wp2_with fail
      go_meet
      case rel => exact ⟨rfl, rfl⟩
  case rest =>
  obtain ⟨rfl, rfl⟩ := hcut
  go_wp2_with fail
  refine (HR.out _ s2.sents).mono ?_
  (rintro x1 w3 ⟨rfl, hb⟩; have s3 := s2.call hb; have q3 := s3.hold; simp only [Holds, and_true] at q3; clear hb s2; try clear q2)
  go_wp2_with fail
  have s4 := (s3.box4 23 (.bool xd) (.bool xu) (.int .i64 xl) (.int .i64 xh)).box4 23 (.bool yd) (.bool yu) (.int .i64 yl) (.int .i64 yh)
  simp only [World.size_alloc] at s4
  refine (HF.out _).mono ?_
  (rintro x1 w5 ⟨rfl, hb⟩; have s5 := s4.call hb; have q5 := s5.hold; simp only [Holds, and_true] at q5; clear hb s4; try clear q4)
  cases f
  · go_wp2_with fail
    refine (HX.out _).mono ?_
    (rintro x1 w6 ⟨rfl, hb⟩; have s6 := s5.call hb; have q6 := s6.hold; simp only [Holds, and_true] at q6; clear hb s5; try clear q5)
    go_wp2_with fail
    refine (HY.out _).mono ?_
    (rintro x1 w7 ⟨rfl, hb⟩; have s7 := s6.call hb; have q7 := s7.hold; simp only [Holds, and_true] at q7; clear hb s6; try clear q6)
    go_wp2_with fail
    go_ret
    exact ⟨ret_bool (by simp), s7.bel⟩
  · go_wp2_with fail
    refine (HG.out _).mono ?_
    (rintro x1 w6 ⟨rfl, hb⟩; have s6 := s5.call hb; have q6 := s6.hold; simp only [Holds, and_true] at q6; clear hb s5; try clear q5)
    have hg : g = false := by have := hfg.out; simpa using this
    subst hg
    go_wp2_with fail
    refine (HX.out _).mono ?_
    (rintro x1 w7 ⟨rfl, hb⟩; have s7 := s6.call hb; have q7 := s7.hold; simp only [Holds, and_true] at q7; clear hb s6; try clear q6)
    go_wp2_with fail
    refine (HY.out _).mono ?_
    (rintro x1 w8 ⟨rfl, hb⟩; have s8 := s7.call hb; have q8 := s8.hold; simp only [Holds, and_true] at q8; clear hb s7; try clear q7)
    go_wp2_with fail
    go_ret
    exact ⟨ret_bool (by simp), s8.bel⟩

set_option maxRecDepth 20000 in
set_option maxHeartbeats 16000000 in
theorem refine_good (a : Nat → Addr) (hT : ThreeC a) (lo hi lo' hi' : Int) (s : ByteArray) (w : World) (hS : Sents w a) (xd xu yd yu is : Bool) (xl xh yl yh : Int) (Hk : Hid (kindOf s ≠ 0)) (hlen : s.size ≤ 100)
    (HR : Hid (∀ W : World, Sents W a → Calls Tryd.prog 9 #[(.agg #[.bool false, .bool false, .int .i64 lo, .int .i64 hi]), (.agg #[.bool false, .bool false, .int .i64 lo', .int .i64 hi']), .string s] W fun x w' => x = .returned (.tuple #[(.agg #[.bool xd, .bool xu, .int .i64 xl, .int .i64 xh]), (.agg #[.bool yd, .bool yu, .int .i64 yl, .int .i64 yh]), .bool is, .nilIface]) ∧ Below W.heap.size W w'))
    (h1 : -12 ≤ lo) (h2 : hi ≤ 12) (h3 : -12 ≤ lo') (h4 : hi' ≤ 12) (h5 : lo ≤ hi) (h6 : lo' ≤ hi') (HRS : Hid (RefS ⟨false, false, lo, hi⟩ ⟨false, false, lo', hi'⟩ (kindOf s) ⟨xd, xu, xl, xh⟩ ⟨yd, yu, yl, yh⟩ is))
    (HF : Hid (∀ W : World, Calls Tryd.prog 11 #[(.agg #[.bool false, .bool false, .int .i64 lo, .int .i64 hi]), .int .i64 12] W fun x w' => x = .returned (.bool true) ∧ Below W.heap.size W w'))
    (HG : Hid (∀ W : World, Calls Tryd.prog 11 #[(.agg #[.bool false, .bool false, .int .i64 lo', .int .i64 hi']), .int .i64 12] W fun x w' => x = .returned (.bool true) ∧ Below W.heap.size W w'))
    (HE : Hid (∀ W : World, Calls Tryd.prog 8 #[(.agg #[.bool false, .bool false, .int .i64 lo, .int .i64 hi]), (.agg #[.bool false, .bool false, .int .i64 lo', .int .i64 hi'])] W fun x w' => x = .returned (.int .i64 0) ∧ Below W.heap.size W w')) :
    Calls Tryd.prog 3 #[(.agg #[.bool false, .bool false, .int .i64 lo, .int .i64 hi]), (.agg #[.bool false, .bool false, .int .i64 lo', .int .i64 hi']), .string s] w fun x w' => x = .returned (.bool true) ∧ Below w.heap.size w w' := by
  obtain ⟨i0, hi0, hz0, hz1, hz2⟩ := info_parts Tryd.info3
  have HST : Hid (∀ (x y : Int) (b : Bool), rel (kindOf s) x y = b → ∀ W : World, Calls Tryd.prog 13 #[.int .i64 x, .string s, .int .i64 y] W fun e w' => e = .returned (.bool b) ∧ Below W.heap.size W w') := by
    intro x y b hb W
    have h := stands_any (kindOf s) (by have := Hk.out; omega) (kindOf_le s) x y W
    rw [← kindOf_eq rfl Hk.out, hb] at h
    exact h
  (go_enter Tryd.func3, Tryd.ntmps3; go_wp2_with fail; have s0 := ((St.start hS).box4 23 (.bool false) (.bool false) (.int .i64 lo) (.int .i64 hi)).box4 23 (.bool false) (.bool false) (.int .i64 lo') (.int .i64 hi'); simp only [World.size_alloc] at s0; refine (hT _ s0.sents.errs).mono ?_; (rintro x1 w1 ⟨rfl, hb⟩; have s1 := s0.call hb; have q1 := s1.hold; simp only [Holds, and_true] at q1; clear hb s0; try clear q0); go_wp2_with fail; refine (HE.out _).mono ?_; (rintro x1 w2 ⟨rfl, hb⟩; have s2 := s1.call hb; have q2 := s2.hold; simp only [Holds, and_true] at q2; clear hb s1; try clear q1); go_upto_region 5 with fail)
  go_cut [9] (fun s9 wx => s9 = .bool true ∧ wx = w2)
  case first =>
    have hk6 := kindOf_le s
    have hk0 := Hk.out
    rcases (show kindOf s = 1 ∨ kindOf s = 2 ∨ kindOf s = 3 ∨ kindOf s = 4 ∨ kindOf s = 5 ∨ kindOf s = 6 by omega) with h | h | h | h | h | h
    all_goals
      have hs := kindOf_eq h (by omega)
      simp only [howS] at hs
      clear h hk6 hk0 Hk
      subst hs
      go_wp2_with fail
      go_meet
      case rel => exact ⟨rfl, rfl⟩
  case rest =>
  obtain ⟨rfl, rfl⟩ := hcut
  go_wp2_with fail
  refine (HR.out _ s2.sents).mono ?_
  (rintro x1 w3 ⟨rfl, hb⟩; have s3 := s2.call hb; have q3 := s3.hold; simp only [Holds, and_true] at q3; clear hb s2; try clear q2)
  go_wp2_with fail
  have s4 := (s3.box4 23 (.bool xd) (.bool xu) (.int .i64 xl) (.int .i64 xh)).box4 23 (.bool yd) (.bool yu) (.int .i64 yl) (.int .i64 yh)
  simp only [World.size_alloc] at s4
  refine (HF.out _).mono ?_
  (rintro x1 w5 ⟨rfl, hb⟩; have s5 := s4.call hb; have q5 := s5.hold; simp only [Holds, and_true] at q5; clear hb s4; try clear q4)
  go_wp2_with fail
  refine (HG.out _).mono ?_
  (rintro x1 w6 ⟨rfl, hb⟩; have s6 := s5.call hb; have q6 := s6.hold; simp only [Holds, and_true] at q6; clear hb s5; try clear q5)
  go_wp2_with fail
  obtain ⟨W0, hW0⟩ : ∃ W0, W0 = w6 := ⟨_, rfl⟩
  subst hW0
  clear q6
  go_loopg [14, 15, 16] ((hi + 1 - lo).toNat) (fun g o1 o2 xv wr => ∃ (x : Int) (xs ys : List Int) (k : Nat), Hid (x + g = hi + 1) ∧ xv = .int .i64 x ∧ Hid (lo ≤ x) ∧ Hid (k = xs.length) ∧ Hid (k = ys.length) ∧ wr.ownsRow W0.heap.size 3 1 o1 k (xs.map (Value.int .i64)) ∧ wr.ownsRow W0.heap.size 3 1 o2 k (ys.map (Value.int .i64)) ∧ Hid (Dis o1 o2) ∧ Hid (FInv (kindOf s) lo lo' hi' x lo' xs ys) ∧ Hid ((k : Int) ≤ 25 * (x - lo)) ∧ Below W0.heap.size W0 wr)
  case atStart => exact ⟨lo, [], [], 0, (by show lo + _ = hi + 1; omega), rfl, Int.le_refl _, rfl, rfl, World.ownsRow_nil _ _ _ _, World.ownsRow_nil _ _ _ _, Dis.nil _, FInv.start _ _ _ _, (by show ((0 : Nat) : Int) ≤ 25 * (lo - lo); omega), Below.refl _ _⟩
  case round =>
    obtain ⟨x, xs, ys, k, hxg, rfl, hlx, hk, hk2, own1, own2, hdis, hF, hkb, hbel⟩ := hrel
    have s7 := s6.call hbel
    have q7 := s7.hold
    simp only [Holds, and_true] at q7
    by_cases hx : x ≤ hi
    · go_wp2_with fail
      go_loopg [14, 15, 17] ((hi' + 1 - lo').toNat) (fun g o1 o2 yv wr => ∃ (y : Int) (xs ys : List Int) (k : Nat), Hid (y + g = hi' + 1) ∧ yv = .int .i64 y ∧ Hid (lo' ≤ y) ∧ Hid (k = xs.length) ∧ Hid (k = ys.length) ∧ wr.ownsRow W0.heap.size 3 1 o1 k (xs.map (Value.int .i64)) ∧ wr.ownsRow W0.heap.size 3 1 o2 k (ys.map (Value.int .i64)) ∧ Hid (Dis o1 o2) ∧ Hid (FInv (kindOf s) lo lo' hi' x y xs ys) ∧ Hid ((k : Int) ≤ 25 * (x - lo) + (y - lo')) ∧ Below W0.heap.size W0 wr)
      case atStart => exact ⟨lo', xs, ys, k, (by show lo' + _ = hi' + 1; omega), rfl, Int.le_refl _, hk, hk2, own1, own2, hdis, hF, (by have := hkb.out; show (k : Int) ≤ _; omega), hbel⟩
      case round =>
        clear s7 q7 hk hk2 own1 own2 hdis hF hkb hbel
        obtain ⟨y, xs, ys, k, hyg, rfl, hly, hk, hk2, own1, own2, hdis, hF, hkb, hbel⟩ := hrel
        have s7 := s6.call hbel
        have q7 := s7.hold
        simp only [Holds, and_true] at q7
        by_cases hy : y ≤ hi'
        · have hyr : -12 ≤ y ∧ y ≤ 12 := by have := hly.out; omega
          have hxr : -12 ≤ x ∧ x ≤ 12 := by have := hlx.out; omega
          have hkk : k ≤ 700 := by have := hkb.out; omega
          obtain ⟨bb, hbb⟩ : ∃ bb, rel (kindOf s) x y = bb := ⟨_, rfl⟩
          have HR2 := hide (HST.out x y bb hbb)
          have Hbb := hide hbb
          clear hbb
          go_wp2_with fail
          refine (HR2.out _).mono ?_
          rintro e w8 ⟨rfl, hb8⟩
          have bel8 := hbel.trans (hb8.mono hbel.size)
          have o1k := owns_below own1 hb8
          have o2k := owns_below own2 hb8
          clear own1 own2 hbel hb8 s7 q7 HR2
          cases bb
          · have HF2 := hide (hF.out.none Hbb.out)
            go_wp2_with fail
            go_roundg ((hi' - y).toNat)
            case measure => have := hyg.out; omega
            case rel => exact ⟨y + 1, xs, ys, k, (by show y + 1 + _ = hi' + 1; omega), by go_num, (by have := hly.out; show lo' ≤ y + 1; omega), hk, hk2, o1k, o2k, hdis, HF2, (by have := hkb.out; show (k : Int) ≤ _; omega), bel8⟩
          · have HF2 := hide (hF.out.more hlx.out hly.out hy Hbb.out)
            have hsz := bel8.size
            have HT1 : Hid ((xs ++ [x]).map (Value.int .i64) = xs.map (Value.int .i64) ++ [.int .i64 x]) := by show _ = _; simp
            have HT2 : Hid ((ys ++ [y]).map (Value.int .i64) = ys.map (Value.int .i64) ++ [.int .i64 y]) := by show _ = _; simp
            obtain ⟨zs1, hzs1⟩ : ∃ zs, zs = xs.map (Value.int .i64) := ⟨_, rfl⟩
            obtain ⟨zs2, hzs2⟩ : ∃ zs, zs = ys.map (Value.int .i64) := ⟨_, rfl⟩
            rw [← hzs1] at o1k HT1
            rw [← hzs2] at o2k HT2
            clear hzs1 hzs2
            go_wp2_with (at_builtin; refine wpList_append_lies _ rfl _ _ 33 rfl W0.heap.size 3 i0 (.int .i64 0) 1 8 Tryd.underlying33 hi0 hz0 hz1 hz2 rfl (by decide) _ _ _ rfl (o1k.alloc _) ⟨w8.heap.size, 0, none⟩ 1 1 [.int .i64 x] rfl rfl (cell_one_new _ _ _) (by intro u hu; simp at hu; subst hu; rfl) (by omega) (by unfold maxLen; omega) (by omega) (by simp; omega) (w8.heap.size + 1) (by simp) ?_)
            intro g1 c1 w9 own1' hgrow1 hat1 hlt1
            have dis1 := hdis.out.grow (n := k + 1) (c := c1) hat1 (fun j hj => by have := (o2k.lt j hj).2; omega)
            have o2k' := (o2k.alloc (.cells #[.int .i64 x] 3)).kept hgrow1 hdis.out.symm.ne
            have bel9 := (bel8.alloc hsz (.cells #[.int .i64 x] 3)).grown hgrow1 (by simp; omega) (fun j hj => (o1k.lt j hj).1)
            rw [← HT1.out] at own1'
            have Hdis1 := hide dis1
            have hsz9 := bel9.size
            clear o1k o2k hgrow1 hat1 dis1 hdis bel8 HT1
            go_wp2_with (at_builtin; refine wpList_append_lies _ rfl _ _ 33 rfl W0.heap.size 3 i0 (.int .i64 0) 1 8 Tryd.underlying33 hi0 hz0 hz1 hz2 rfl (by decide) _ _ _ rfl (o2k'.alloc _) ⟨w9.heap.size, 0, none⟩ 1 1 [.int .i64 y] rfl rfl (cell_one_new _ _ _) (by intro u hu; simp at hu; subst hu; rfl) (by omega) (by unfold maxLen; omega) (by omega) (by simp; omega) (w9.heap.size + 1) (by simp) ?_)
            intro g2 c2 w10 own2' hgrow2 hat2 hlt2
            have dis2 := Hdis1.out.symm.grow (n := k + 1) (c := c2) hat2 (fun j hj => by simp [Value.ownBlock] at hj; omega)
            have own1'' := (own1'.alloc (.cells #[.int .i64 y] 3)).kept hgrow2 Hdis1.out.ne
            have bel10 := (bel9.alloc hsz9 (.cells #[.int .i64 y] 3)).grown hgrow2 (by simp; omega) (fun j hj => (o2k'.lt j hj).1)
            rw [← HT2.out] at own2'
            have Hdis2 := hide dis2.symm
            clear o2k' hgrow2 hat2 dis2 Hdis1 bel9 HT2 own1'
            go_wp2_with fail
            go_roundg ((hi' - y).toNat)
            case measure => have := hyg.out; omega
            case rel => exact ⟨y + 1, xs ++ [x], ys ++ [y], k + 1, (by show y + 1 + _ = hi' + 1; omega), by go_num, (by have := hly.out; show lo' ≤ y + 1; omega), (by have := hk.out; show k + 1 = _; simp [this]), (by have := hk2.out; show k + 1 = _; simp [this]), own1'', own2', Hdis2, HF2, (by have := hkb.out; show ((k + 1 : Nat) : Int) ≤ _; omega), bel10⟩
        · have HF2 := hide (hF.out.line (by omega))
          have hxr : -12 ≤ x ∧ x ≤ 12 := by have := hlx.out; omega
          go_wp2_with fail
          go_roundg ((hi - x).toNat)
          case measure => have := hxg.out; omega
          case rel => exact ⟨x + 1, xs, ys, k, (by show x + 1 + _ = hi + 1; omega), by go_num, (by have := hlx.out; show lo ≤ x + 1; omega), hk, hk2, own1, own2, hdis, HF2, (by have := hkb.out; have := hyg.out; show (k : Int) ≤ _; omega), hbel⟩
    · have hx1 : x = hi + 1 := by have := hxg.out; omega
      have hF2 : FInv (kindOf s) lo lo' hi' (hi + 1) lo' xs ys := by rw [← hx1]; exact hF.out
      have HF2 := hide hF2
      have hkk : k ≤ 1000 := by have := hkb.out; omega
      obtain ⟨a1, cap1, rfl, hI1⟩ := IntsAt_of_own own1
      obtain ⟨a2, cap2, rfl, hI2⟩ := IntsAt_of_own own2
      have hl1 : Hid (xs.length ≤ 1000) := by show xs.length ≤ 1000; rw [← hk.out]; exact hkk
      have hl2 : Hid (ys.length ≤ 1000) := by show ys.length ≤ 1000; rw [← hk2.out]; exact hkk
      clear own1 own2 hF hF2 hx1 hdis hk hk2 hkk hkb
      go_wp2_with fail
      refine (span_as a1 _ cap1 xs _ hI1 rfl (by have := hl1.out; omega)).mono ?_
      rintro e w8 ⟨ud, uu, ul, uh, b1, rfl, hu, hb8⟩
      have s8 := s7.call hb8
      have hI2' := hI2.below hb8
      have Hu := hide hu
      clear s7 q7 hI2 hu hb8 hbel hI1
      go_wp2_with fail
      have s81 := s8.box4 23 (.bool ud) (.bool uu) (.int .i64 ul) (.int .i64 uh)
      have hI3 := hI2'.below ((Below.refl w8.heap.size w8).alloc (Nat.le_refl _) (.cells #[.bool ud, .bool uu, .int .i64 ul, .int .i64 uh] 23))
      refine (span_as a2 _ cap2 ys _ hI3 rfl (by have := hl2.out; omega)).mono ?_
      rintro e w9 ⟨vd, vu, vl, vh, b2, rfl, hv, hb9⟩
      have s9 := s81.call hb9
      have q9 := s9.hold
      simp only [Holds, and_true] at q9
      obtain ⟨e1, e2, e3⟩ := refine_spans ⟨h1, h2⟩ ⟨h3, h4⟩ HRS.out HF2.out Hu.out hv
      obtain ⟨e4, e5, e6, e7⟩ := Iv.mk.inj e2
      obtain ⟨e8, e9, e10, e11⟩ := Iv.mk.inj e3
      subst e1 e4 e5 e6 e7 e8 e9 e10 e11
      have hE1 := fun W => eqIv xd xu xd xu xl xh xl xh W
      have hE2 := fun W => eqIv yd yu yd yu yl yh yl yh W
      clear e2 e3 hv Hu HF2 hI2' hI3 s8 s81 hb9 HRS
      go_wp2_with fail
      go_ret
      exact ⟨ret_bool (by simp), (s9.box4 23 (.bool yd) (.bool yu) (.int .i64 yl) (.int .i64 yh)).bel⟩

set_option maxHeartbeats 1000000 in
theorem refine_long (a : Nat → Addr) (hT : ThreeC a) (d u d' u' : Bool) (lo hi lo' hi' : Int) (s : ByteArray) (w : World) (hS : Sents w a) (hlen : (100 : Int) < (s.size : Int)) :
    Calls Tryd.prog 3 #[(.agg #[.bool d, .bool u, .int .i64 lo, .int .i64 hi]), (.agg #[.bool d', .bool u', .int .i64 lo', .int .i64 hi']), .string s] w fun x w' => x = .returned (.bool true) ∧ Below w.heap.size w w' := by
  go_enter Tryd.func3, Tryd.ntmps3
  go_wp2_with fail
  have s0 := ((St.start hS).box4 23 (.bool d) (.bool u) (.int .i64 lo) (.int .i64 hi)).box4 23 (.bool d') (.bool u') (.int .i64 lo') (.int .i64 hi')
  simp only [World.size_alloc] at s0
  refine (hT _ s0.sents.errs).mono ?_
  (rintro x1 w1 ⟨rfl, hb⟩; have s1 := s0.call hb; have q1 := s1.hold; simp only [Holds, and_true] at q1; clear hb s0; try clear q0)
  go_wp2_with fail
  go_ret
  exact ⟨ret_bool (by simp), s1.bel⟩

theorem intervalRefine_by (a : Nat → Addr) (hT : ThreeC a) (hR : RefineC a) (d u d' u' : Bool) (lo hi lo' hi' : Int) (s : ByteArray) (w : World) (hS : Sents w a) (r1 : (-9223372036854775808 ≤ lo ∧ lo ≤ 9223372036854775807) ∧ (-9223372036854775808 ≤ hi ∧ hi ≤ 9223372036854775807)) (r2 : (-9223372036854775808 ≤ lo' ∧ lo' ≤ 9223372036854775807) ∧ (-9223372036854775808 ≤ hi' ∧ hi' ≤ 9223372036854775807)) :
    Calls Tryd.prog 3 #[(.agg #[.bool d, .bool u, .int .i64 lo, .int .i64 hi]), (.agg #[.bool d', .bool u', .int .i64 lo', .int .i64 hi']), .string s] w fun x w' => x = .returned (.bool true) ∧ Below w.heap.size w w' := by
  by_cases hlen : 100 < s.size
  · exact refine_long a hT d u d' u' lo hi lo' hi' s w hS (by omega)
  have hE := fun W => twoErr_any d u d' u' lo hi lo' hi' W
  have hr := twoErr_range ⟨d, u, lo, hi⟩ ⟨d', u', lo', hi'⟩
  have bad : refErr ⟨d, u, lo, hi⟩ ⟨d', u', lo', hi'⟩ s ≠ 0 → ∀ W : World, Sents W a → Calls Tryd.prog 9 #[(.agg #[.bool d, .bool u, .int .i64 lo, .int .i64 hi]), (.agg #[.bool d', .bool u', .int .i64 lo', .int .i64 hi']), .string s] W fun x w' => x = .returned (.tuple #[(.agg #[.bool false, .bool false, .int .i64 0, .int .i64 0]), (.agg #[.bool false, .bool false, .int .i64 0, .int .i64 0]), .bool false, errV a (refErr ⟨d, u, lo, hi⟩ ⟨d', u', lo', hi'⟩ s)]) ∧ Below W.heap.size W w' := by
    intro h W hs
    refine (hR d u d' u' lo hi lo' hi' s W hs.errt r1 r2).mono ?_
    rintro x w' ⟨⟨X, Y, b, rfl, _, k⟩, hb⟩
    obtain ⟨rfl, rfl, rfl⟩ := k h
    exact ⟨rfl, hb⟩
  have span : ∀ e : Int, 0 < e → e ≤ 8 → ∀ W : World, Sents W a → Calls Tryd.prog 10 #[(.agg #[.bool false, .bool false, .int .i64 0, .int .i64 0]), errV a e, (.agg #[.bool false, .bool false, .int .i64 0, .int .i64 0]), .int .i64 e] W fun x w' => x = .returned (.bool true) ∧ Below W.heap.size W w' := by
    intro e h1 h2 W hs
    refine (isSpan_err false false false false 0 0 0 0 e h1 h2 a W hs _ rfl).mono ?_
    rintro x w' ⟨rfl, hb⟩
    exact ⟨by simp, hb⟩
  by_cases h0 : twoErr ⟨d, u, lo, hi⟩ ⟨d', u', lo', hi'⟩ = 0
  · by_cases hk : kindOf s = 0
    · have e1 : refErr ⟨d, u, lo, hi⟩ ⟨d', u', lo', hi'⟩ s = 1 := by unfold refErr; rw [if_pos h0, if_pos hk]
      have hb := bad (by omega)
      rw [e1] at hb
      refine refine_bad2 a hT d u d' u' lo hi lo' hi' s w hS 1 (errV a 1) false (by rw [hk]; rfl) rfl rfl (by omega) hb (span 1 (by omega) (by omega)) ?_
      intro W; have := hE W; rw [h0] at this; exact this
    · have e0 : refErr ⟨d, u, lo, hi⟩ ⟨d', u', lo', hi'⟩ s = 0 := by unfold refErr; rw [if_pos h0, if_neg hk]
      obtain ⟨k1, k2⟩ := (twoErr_ok _ _).1 h0
      have hE0 : ∀ W : World, Calls Tryd.prog 8 #[(.agg #[.bool d, .bool u, .int .i64 lo, .int .i64 hi]), (.agg #[.bool d', .bool u', .int .i64 lo', .int .i64 hi'])] W fun x w' => x = .returned (.int .i64 0) ∧ Below W.heap.size W w' := by
        intro W; have := hE W; rw [h0] at this; exact this
      -- the answer of Refine: one, by what it is
      obtain ⟨⟨xd, xu, xl, xh⟩, ⟨yd, yu, yl, yh⟩, is, hRS⟩ : ∃ X Y is, RefS ⟨d, u, lo, hi⟩ ⟨d', u', lo', hi'⟩ (kindOf s) X Y is := by
        obtain ⟨_, _, ⟨X, Y, b, _, h1, _⟩, _⟩ := calls_some (hR d u d' u' lo hi lo' hi' s w hS.errt r1 r2)
        exact ⟨X, Y, b, h1 e0⟩
      have hR1 : ∀ W : World, Sents W a → Calls Tryd.prog 9 #[(.agg #[.bool d, .bool u, .int .i64 lo, .int .i64 hi]), (.agg #[.bool d', .bool u', .int .i64 lo', .int .i64 hi']), .string s] W fun x w' => x = .returned (.tuple #[(.agg #[.bool xd, .bool xu, .int .i64 xl, .int .i64 xh]), (.agg #[.bool yd, .bool yu, .int .i64 yl, .int .i64 yh]), .bool is, .nilIface]) ∧ Below W.heap.size W w' := by
        intro W hs
        refine (hR d u d' u' lo hi lo' hi' s W hs.errt r1 r2).mono ?_
        rintro x w' ⟨⟨X, Y, b, rfl, k, _⟩, hb⟩
        obtain ⟨rfl, rfl, rfl⟩ := RefS.unique (k e0) hRS
        rw [e0]
        exact ⟨rfl, hb⟩
      have ok := hRS.ok
      have ex : ∀ (p q : Bool) (r t : Int), okI ⟨p, q, r, t⟩ → ∀ W : World, Calls Tryd.prog 12 #[(.agg #[.bool p, .bool q, .int .i64 r, .int .i64 t])] W fun x w' => x = .returned (.int .i64 0) ∧ Below W.heap.size W w' := by
        intro p q r t h W
        have := ivErr_any p q r t W
        rw [(okI_iff ⟨p, q, r, t⟩).2 h] at this
        exact this
      cases hf : smallB ⟨d, u, lo, hi⟩ 12 with
      | false => exact refine_far a hT d u d' u' lo hi lo' hi' s w hS xd xu yd yu is xl xh yl yh hk (by omega) hR1 false (smallB ⟨d', u', lo', hi'⟩ 12) rfl (by intro W; have := small_any d u lo hi 12 (by omega) (by omega) W; rw [hf] at this; exact this) (fun W => small_any d' u' lo' hi' 12 (by omega) (by omega) W) (ex _ _ _ _ ok.1) (ex _ _ _ _ ok.2) hE0
      | true =>
        cases hg : smallB ⟨d', u', lo', hi'⟩ 12 with
        | false => exact refine_far a hT d u d' u' lo hi lo' hi' s w hS xd xu yd yu is xl xh yl yh hk (by omega) hR1 true false rfl (by intro W; have := small_any d u lo hi 12 (by omega) (by omega) W; rw [hf] at this; exact this) (by intro W; have := small_any d' u' lo' hi' 12 (by omega) (by omega) W; rw [hg] at this; exact this) (ex _ _ _ _ ok.1) (ex _ _ _ _ ok.2) hE0
        | true =>
          obtain ⟨rfl, rfl, a1, a2, a3, a4⟩ := smallB_12 hf
          obtain ⟨rfl, rfl, b1, b2, b3, b4⟩ := smallB_12 hg
          exact refine_good a hT lo hi lo' hi' s w hS xd xu yd yu is xl xh yl yh hk (by omega) hR1 a1 a4 b1 b4 (k1.2.2.1 rfl rfl) (k2.2.2.1 rfl rfl) hRS (fun W => small_as _ _ _ _ hf W) (fun W => small_as _ _ _ _ hg W) hE0
  · have e1 : refErr ⟨d, u, lo, hi⟩ ⟨d', u', lo', hi'⟩ s = twoErr ⟨d, u, lo, hi⟩ ⟨d', u', lo', hi'⟩ := by unfold refErr; rw [if_neg h0]
    have hb := bad (by omega)
    rw [e1] at hb
    exact refine_bad1 a hT d u d' u' lo hi lo' hi' s w hS (twoErr ⟨d, u, lo, hi⟩ ⟨d', u', lo', hi'⟩) _ (decide (kindOf s ≠ 0)) rfl (by omega) (by omega) (by omega) hb (span _ (by omega) (by omega)) hE

end Go.Proofs.YtijbjahedfmfgabDoor
