/- rows.Combine: so often one row, so often another one, or which error. -/
import Derived.Test.YtdnafkmphcebeaaDoorWu
import Derived.Test.YtdnafkmphcebeaaDoorWx
namespace Go.Proofs.YtdnafkmphcebeaaDoor
open Go.RowKit

set_option maxHeartbeats 2000000 in
theorem combine_bad (u v : Option Addr) (c c' : Nat) (l m : List Int) (n n' : Nat) (i j : Int) (a : Nat → Addr) (q : Addr) (w : World) (hS : Sents w a) (hA : IntsAt w u l) (hB : IntsAt w v m) (hl : Hid (n = l.length)) (hm : Hid (n' = m.length)) (hn : n ≤ 1073741824) (hn' : n' ≤ 1073741824) (hp : Hid (pairErr a l m = .iface 48 (.pointer (some q)))) :
    Calls Tryd.prog 14 #[.slice u n c, .int .i64 i, .slice v n' c', .int .i64 j] w fun e w' => e = .returned (.tuple #[.slice none 0 0, .iface 48 (.pointer (some q))]) ∧ Below w.heap.size w w' := by
  go_enter Tryd.func14, Tryd.ntmps14
  go_wp2_with fail
  refine (validPair_any u v c c' l m n n' a _ hS hA hB hl hm (by omega) (by omega)).mono ?_
  rintro e w1 ⟨rfl, hb1⟩
  rw [hp.out]
  go_wp2_with fail
  go_ret2
  exact ⟨rfl, hb1⟩

theorem pair_at (W : World) (i j : Int) : IntsAt (W.alloc (.cells #[.int .i64 i, .int .i64 j] 3)) (some ⟨W.heap.size, 0, none⟩) [i, j] :=
  .inr ⟨W.heap.size, 0, rfl, by simp, fun k hk => by match k, hk with | 0, _ => simp | 1, _ => simp⟩

set_option maxHeartbeats 2000000 in
theorem combine_great (u v : Option Addr) (c c' : Nat) (l m : List Int) (n : Nat) (i j : Int) (a : Nat → Addr) (w : World) (hS : Sents w a) (hA : IntsAt w u l) (hB : IntsAt w v m) (hl : Hid (n = l.length)) (hm : Hid (n = m.length)) (hn : n ≤ 1073741824) (hp : Hid (pairErr a l m = .nilIface)) (hg : Hid (largeB [i, j] = true)) :
    Calls Tryd.prog 14 #[.slice u n c, .int .i64 i, .slice v n c', .int .i64 j] w fun e w' => e = .returned (.tuple #[.slice none 0 0, .iface 48 (.pointer (some (a 1)))]) ∧ Below w.heap.size w w' := by
  go_enter Tryd.func14, Tryd.ntmps14
  go_wp2_with fail
  refine (validPair_any u v c c' l m n n a _ hS hA hB hl hm (by omega) (by omega)).mono ?_
  rintro e w1 ⟨rfl, hb1⟩
  rw [hp.out]
  go_wp2_with fail
  refine (hasGreat_any _ 2 [i, j] 2 true _ (pair_at w1 i j) (by unfold Hid; rfl) hg (by omega)).mono ?_
  rintro e w2 ⟨rfl, hb2⟩
  have hb12 := (hb1.alloc hb1.size (.cells #[.int .i64 i, .int .i64 j] 3)).trans (hb2.mono (by have := hb1.size; simp; omega))
  have q1 : w2.cell? ⟨1, 0, none⟩ = some (.iface 48 (.pointer (some (a 1)))) := (hS.below hb12).cell 1 (by omega)
  go_wp2_with fail
  go_region
  all_goals go_wp2_with fail
  all_goals
    go_ret2
    exact ⟨rfl, hb12.drew⟩

/-- So often one row, so often another one; a row divided by its divisor. -/
def mixL (l m : List Int) (i j : Int) : List Int := List.zipWith (fun x y => x * i + y * j) l m
def normL (l : List Int) : List Int := l.map (·.tdiv (gcdL l))

def Half (z : Int) : Prop := -2147483648 ≤ z ∧ z ≤ 2147483648
def Quarter (z : Int) : Prop := -4611686018427387904 ≤ z ∧ z ≤ 4611686018427387904

theorem half_mul {x y : Int} (hx : Half x) (hy : Half y) : Quarter (x * y) := by
  obtain ⟨h1, h2⟩ := hx
  obtain ⟨h3, h4⟩ := hy
  have h5 := Int.mul_le_mul (show (x.natAbs : Int) ≤ 2147483648 by omega) (show (y.natAbs : Int) ≤ 2147483648 by omega) (by omega) (by omega)
  have h6 : ((x * y).natAbs : Int) = (x.natAbs : Int) * (y.natAbs : Int) := by rw [Int.natAbs_mul]; simp
  unfold Quarter; omega

theorem half_size {x y : Int} (hx : Half x) (hy : Half y) : (x.natAbs : Int) * (y.natAbs : Int) ≤ 9223372036854775807 := by
  obtain ⟨h1, h2⟩ := hx
  obtain ⟨h3, h4⟩ := hy
  have h5 := Int.mul_le_mul (show (x.natAbs : Int) ≤ 2147483648 by omega) (show (y.natAbs : Int) ≤ 2147483648 by omega) (by omega) (by omega)
  omega

theorem NumR_near (w : World) {z : Int} (h : Fit z) : NumR w ⟨z, none, 0, 0⟩ z := NumP_near w h.1 h.2
theorem Half.fit {z : Int} (h : Half z) : Fit z := ⟨by have := h.1; omega, by have := h.2; omega⟩
theorem Quarter.fit {z : Int} (h : Quarter z) : Fit z := ⟨by have := h.1; omega, by have := h.2; omega⟩

theorem two_times_half : Two 38 Half Half (fun a b => a * b) := by
  intro W r x s y hx hy hr hs
  have e1 := NumR.near hr (show Fit x from ⟨by have := hx.1; omega, by have := hx.2; omega⟩)
  have e2 := NumR.near hs (show Fit y from ⟨by have := hy.1; omega, by have := hy.2; omega⟩)
  subst e1 e2
  refine (timesN_small x y W (by have := hx.1; omega) (by have := hx.2; omega) (by have := hy.1; omega) (by have := hy.2; omega) (half_size hx hy)).mono ?_
  rintro e w' ⟨rfl, hb⟩
  have hq := half_mul hx hy
  exact ⟨⟨x * y, none, 0, 0⟩, rfl, NumR_near _ hq.fit, hb⟩

theorem two_plus_quarter : Two 39 Quarter Quarter (fun a b => a + b) := by
  intro W r x s y hx hy hr hs
  have h2 : 340282366920938463463374607431768211456 ≤ pw 1000 := by
    have h := pw_mono (show 2 ≤ 1000 by omega)
    have h2 : pw 2 = 340282366920938463463374607431768211456 := rfl
    omega
  refine (plusN_any r.p r.a r.n r.c x s.p s.a s.n s.c y W hr hs ⟨by have := hx.1; omega, by have := hx.2; omega⟩ ⟨by have := hy.1; omega, by have := hy.2; omega⟩).mono ?_
  rintro e w' ⟨p, a, k, c, rfl, hN, hb⟩
  exact ⟨⟨p, a, k, c⟩, rfl, hN, hb⟩

theorem mix_lim (l m : List Int) (i j : Int) (hl : ∀ x ∈ l, Half x) (hm : ∀ x ∈ m, Half x) (hi : Half i) (hj : Half j) : ∀ x ∈ List.zipWith (fun x y => x * i + y * j) l m, Lim 1 x := by
  intro z hz
  obtain ⟨k, hk, rfl⟩ := List.getElem_of_mem hz
  simp only [List.length_zipWith] at hk
  rw [List.getElem_zipWith]
  have h1 := half_mul (hl (l[k]'(by omega)) (List.getElem_mem _)) hi
  have h2 := half_mul (hm (m[k]'(by omega)) (List.getElem_mem _)) hj
  have h3 : pw 1 = 18446744073709551616 := rfl
  unfold Lim; rw [h3]
  unfold Quarter at h1 h2
  omega

set_option maxHeartbeats 2000000 in
set_option maxRecDepth 20000 in
theorem combine_good (u v : Option Addr) (c c' : Nat) (l m : List Int) (n : Nat) (i j : Int) (a : Nat → Addr) (w : World) (hS : Sents w a) (hA : IntsAt w u l) (hB : IntsAt w v m) (hl : Hid (n = l.length)) (hm : Hid (n = m.length)) (hn : n ≤ 1073741824) (hp : Hid (pairErr a l m = .nilIface)) (hL : Hid (largeB l = false)) (hM : Hid (largeB m = false)) (hg : Hid (largeB [i, j] = false)) :
    Calls Tryd.prog 14 #[.slice u n c, .int .i64 i, .slice v n c', .int .i64 j] w fun e w' => ∃ (x : Option Addr) (k d : Nat), e = .returned (.tuple #[.slice x k d, .nilIface]) ∧ ((∀ z ∈ normL (mixL l m i j), Fit z) → k = n ∧ IntsAt w' x (normL (mixL l m i j))) ∧ Below w.heap.size w w' := by
  go_enter Tryd.func14, Tryd.ntmps14
  go_wp2_with fail
  refine (validPair_any u v c c' l m n n a _ hS hA hB hl hm (by omega) (by omega)).mono ?_
  rintro e w1 ⟨rfl, hb1⟩
  rw [hp.out]
  go_wp2_with fail
  refine (hasGreat_any _ 2 [i, j] 2 false _ (pair_at w1 i j) (by unfold Hid; rfl) hg (by omega)).mono ?_
  rintro e w2 ⟨rfl, hb2⟩
  have hb12 := (hb1.alloc hb1.size (.cells #[.int .i64 i, .int .i64 j] 3)).trans (hb2.mono (by have := hb1.size; simp; omega))
  clear hb1 hb2
  have Hl := hide (largeB_false hL.out)
  have Hm := hide (largeB_false hM.out)
  have Hg := hide (largeB_false hg.out)
  go_wp2_with fail
  refine (rowOf_as u n c l _ (hA.below hb12) hl (by omega)).mono ?_
  rintro e w3 ⟨g3, rfl, hg3, hr3, hb3⟩
  have hb13 := hb12.trans (hb3.mono hb12.size)
  have HR3 := hide hr3
  clear hr3
  go_wp2_with fail
  refine (from_any i _).mono ?_
  rintro e w4 ⟨rfl, hb4⟩
  have hb14 := hb13.trans (hb4.mono hb13.size)
  have HR4 := hide (HR3.out.below hb4)
  go_wp2_with fail
  refine (rowOf_as v n c' m _ (hB.below hb14) hm (by omega)).mono ?_
  rintro e w5 ⟨g5, rfl, hg5, hr5, hb5⟩
  have hb15 := hb14.trans (hb5.mono hb14.size)
  have HR5 := hide hr5
  have HR5' := hide (HR4.out.below hb5)
  clear hr5
  go_wp2_with fail
  refine (from_any j _).mono ?_
  rintro e w6 ⟨rfl, hb6⟩
  have hb16 := hb15.trans (hb6.mono hb15.size)
  have HRl := hide ((HR5'.out.below hb6).nums (fun x hx => by have := Hl.out x hx; omega))
  have HRm := hide ((HR5.out.below hb6).nums (fun x hx => by have := Hm.out x hx; omega))
  have hi := Hg.out i (by simp)
  have hj := Hg.out j (by simp)
  have Hi := hide hi
  have Hj := hide hj
  clear hi hj
  clear hb3 hb4 hb5 hb6 HR3 HR4 HR5 HR5' hb12 hb13 hb14 hb15
  go_wp2_with fail
  refine (rowSum_any Half Quarter two_times_half two_plus_quarter g3 _ g5 _ n l m ⟨i, none, 0, 0⟩ ⟨j, none, 0, 0⟩ i j _ HRl HRm hl hm hn (NumR_near _ (Half.fit Hi.out)) (NumR_near _ (Half.fit Hj.out)) (fun x hx => ⟨Hl.out x hx, half_mul (Hl.out x hx) Hi.out⟩) (fun x hx => ⟨Hm.out x hx, half_mul (Hm.out x hx) Hj.out⟩) Hi Hj).mono ?_
  rintro e w7 ⟨g7, rfl, hg7, hr7, hb7⟩
  have hb17 := hb16.trans (hb7.mono hb16.size)
  have HR7 := hide hr7
  have hlen : Hid (n = (List.zipWith (fun x y => x * i + y * j) l m).length) := by unfold Hid; rw [List.length_zipWith, ← hl.out, ← hm.out]; simp
  clear hr7 hb7 hb16
  go_wp2_with fail
  refine (rowNormal_lim 1 (by omega) overB_one g7 _ n (List.zipWith (fun x y => x * i + y * j) l m) _ HR7 (mix_lim l m i j Hl.out Hm.out Hi.out Hj.out) hlen hn).mono ?_
  rintro e w8 ⟨g8, rfl, hg8, hr8, hb8⟩
  have hb18 := hb17.trans (hb8.mono hb17.size)
  have HR8 := hide hr8
  clear hr8 hb8 hb17 HR7
  go_wp2_with fail
  refine (intsN_any g8 _ n _ _ HR8 (by unfold Hid; rw [List.length_map]; exact hlen.out) hn).mono ?_
  rintro e w9 ⟨x, k, d, ok, rfl, hR, hb9⟩
  have hb19 := hb18.trans (hb9.mono hb18.size)
  have HR := hide hR
  clear hR hb9 hb18 HR8
  go_wp2_with fail
  go_ret2
  refine ⟨x, k, d, rfl, fun hf => ?_, hb19⟩
  rcases HR.out with ⟨_, h2, _, h4⟩ | ⟨_, _, _, _, h5⟩
  · exact ⟨h2, h4⟩
  · exact absurd hf h5

end Go.Proofs.YtdnafkmphcebeaaDoor
