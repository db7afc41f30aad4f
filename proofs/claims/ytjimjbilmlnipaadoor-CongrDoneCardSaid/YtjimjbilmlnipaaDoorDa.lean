/- The program's rests, sizes, divisors, inverses and products. -/
import Derived.Test.YtjimjbilmlnipaaDoorMc
import Derived.Test.YtjimjbilmlnipaaDoorKu
namespace Go.Proofs.YtjimjbilmlnipaaDoor
open Go.RowKit
set_option linter.unusedVariables false

set_option maxHeartbeats 1000000 in
theorem rest_any (n m : Int) (w : World) (hn : (-9223372036854775808 ≤ n ∧ n ≤ 9223372036854775807)) (hm : 0 ≤ m ∧ m ≤ 4611686018427387904) :
    Calls Tryd.prog 34 #[.int .i64 n, .int .i64 m] w fun e w' => e = .returned (.int .i64 (restI n m)) ∧ w' = w := by
  by_cases h0 : m = 0
  · subst h0
    go_enter Tryd.func34, Tryd.ntmps34
    go_wp2
    all_goals
      go_ret
      exact ⟨ret_int (by simp [restI]), rfl⟩
  · have hp : 0 < m := by omega
    have tb := tmod_bd n hp
    have e2 := rest_two n hp
    have hr : restI n m = n % m := by unfold restI; rw [if_neg h0]
    obtain ⟨t, ht⟩ : ∃ t, n.tmod m = t := ⟨_, rfl⟩
    obtain ⟨z, hz⟩ : ∃ z, (t + m).tmod m = z := ⟨_, rfl⟩
    rw [ht] at tb e2
    rw [hz] at e2
    obtain ⟨t1, t2⟩ := tb
    have hzz : z = restI n m := by rw [hr, ← e2]
    rw [← hzz]
    have HZ := hide hzz
    clear hzz hr e2
    go_enter Tryd.func34, Tryd.ntmps34
    go_wp2
    all_goals
      go_ret
      exact ⟨ret_int (by simp [*]), rfl⟩

theorem rest_as (n m z : Int) (hz : Hid (z = restI n m)) (w : World) (hn : (-9223372036854775808 ≤ n ∧ n ≤ 9223372036854775807)) (hm : 0 ≤ m ∧ m ≤ 4611686018427387904) :
    Calls Tryd.prog 34 #[.int .i64 n, .int .i64 m] w fun e w' => e = .returned (.int .i64 z) ∧ w' = w := by
  rw [hz.out]; exact rest_any n m w hn hm

set_option maxHeartbeats 1000000 in
theorem size_any (n : Int) (w : World) (hn : -9223372036854775807 ≤ n ∧ n ≤ 9223372036854775807) :
    Calls Tryd.prog 47 #[.int .i64 n] w fun e w' => e = .returned (.int .i64 n.natAbs) ∧ w' = w := by
  obtain ⟨h1, h2⟩ := hn
  rcases (by omega : 0 ≤ n ∨ n < 0) with sx | sx
  all_goals
    go_enter Tryd.func47, Tryd.ntmps47
    go_wp2
    all_goals
      go_ret
      exact ⟨ret_int (by omega), rfl⟩

theorem size_as (n : Int) (k : Nat) (hk : Hid (k = n.natAbs)) (w : World) (hn : -9223372036854775807 ≤ n ∧ n ≤ 9223372036854775807) :
    Calls Tryd.prog 47 #[.int .i64 n] w fun e w' => e = .returned (.int .i64 k) ∧ w' = w := by
  rw [hk.out]; exact size_any n w hn

theorem IntsAt.get1 {W : World} {b off : Nat} {l : List Int} (h : IntsAt W (some ⟨b, off, none⟩) l) {k : Nat} (hk : k < l.length) {y : Int} (hy : Hid (y = l.getD k 0)) : W.cell? ⟨b, off + k, none⟩ = some (.int .i64 y) := by
  obtain ⟨b', off', e, c⟩ := h.get k hk y hy.out
  obtain ⟨rfl, rfl⟩ : b = b' ∧ off = off' := by simpa using e
  exact c

set_option maxRecDepth 20000 in
set_option maxHeartbeats 4000000 in
theorem divisor_any (b off n c : Nat) (l : List Int) (w : World) (hA : IntsAt w (some ⟨b, off, none⟩) l) (hl : Hid (n = l.length)) (hn : n ≤ 1000) (hb : Hid (∀ s ∈ l, -4611686018427387904 ≤ s ∧ s ≤ 4611686018427387904)) :
    Calls Tryd.prog 45 #[.slice (some ⟨b, off, none⟩) n c] w fun e w' => e = .returned (.int .i64 (gcdT l n)) ∧ Below w.heap.size w w' := by
  have hmem : ∀ k, k < l.length → l.getD k 0 ∈ l := fun k hk => by rw [show l.getD k 0 = l[k] by simp [hk]]; exact List.getElem_mem hk
  have Hmem := hide hmem
  obtain ⟨D, hDD⟩ : ∃ D, D = gcdT l n := ⟨_, rfl⟩
  have HDD := hide hDD
  rw [← hDD]
  clear hmem hDD
  have s0 := St.startI hA
  go_enter Tryd.func45, Tryd.ntmps45
  go_wp2_with fail
  go_loopg [3, 8] n (fun g dv iv wr => ∃ (k E : Nat), k + g = n ∧ dv = .int .i64 E ∧ iv = .int .i64 k ∧ Hid (E = gcdT l k) ∧ E ≤ 4611686018427387904 ∧ St w wr (IZ (some ⟨b, off, none⟩) l) [])
  case atStart => exact ⟨0, 0, by omega, rfl, rfl, rfl, by omega, s0⟩
  case round =>
    clear s0
    obtain ⟨k, E, hkg, rfl, rfl, hE, hE2, s1⟩ := hrel
    by_cases hlt : k < n
    · have hkn : (k : Int) < (n : Int) := by omega
      have hkl : k < l.length := by rw [← hl.out]; exact hlt
      obtain ⟨y, hy⟩ : ∃ y, y = l.getD k 0 := ⟨_, rfl⟩
      have hby : -4611686018427387904 ≤ y ∧ y ≤ 4611686018427387904 := by rw [hy]; exact hb.out _ (Hmem.out k hkl)
      have Hy := hide hy
      obtain ⟨Y, hY⟩ : ∃ Y : Nat, Y = y.natAbs := ⟨_, rfl⟩
      have hY2 : Y ≤ 4611686018427387904 := by omega
      have HY := hide hY
      have hc := s1.ints.get1 hkl Hy
      have hlb : b < wr.heap.size := World.block_lt_of_cell? wr _ hc
      obtain ⟨D', hD'⟩ : ∃ D', D' = gcdT l (k + 1) := ⟨_, rfl⟩
      have HD' : Hid (Nat.gcd E Y = D') := by
        show _ = _; rw [hD', hY, hy]
        show _ = Int.gcd (gcdT l k) (l.getD k 0)
        rw [← hE.out]; simp [Int.gcd]
      have HG : Hid (D' = gcdT l (k + 1)) := hD'
      have HC : Hid (∀ W : World, Calls Tryd.prog 47 #[.int .i64 y] W fun e w' => e = .returned (.int .i64 Y) ∧ w' = W) := fun W => size_as y Y HY W (by omega)
      clear hy hY hD'
      go_wp2_with fail
      refine (HC.out _).mono ?_
      rintro e w2 ⟨rfl, rfl⟩
      go_wp2_with fail
      go_loopg [3, 5] Y (fun j gv hv wr => ∃ (G H : Nat), gv = .int .i64 G ∧ hv = .int .i64 H ∧ Hid (H = j) ∧ Hid (Nat.gcd G H = D') ∧ G ≤ 4611686018427387904 ∧ H ≤ 4611686018427387904 ∧ St w wr (IZ (some ⟨b, off, none⟩) l) [])
      case atStart => exact ⟨E, Y, rfl, rfl, rfl, HD', hE2, hY2, s1⟩
      case round =>
        clear s1 hc hlb
        obtain ⟨G, H, rfl, rfl, hHk, hgcd, hG, hH, s2⟩ := hrel
        by_cases hH0 : H = 0
        · subst hH0
          have hGg : G = D' := by rw [← hgcd.out, Nat.gcd_zero_right]
          subst hGg
          clear hgcd HD'
          go_wp2_with fail
          go_roundg (n - (k + 1))
          case measure => omega
          case rel => exact ⟨k + 1, G, by omega, rfl, by go_num, HG, hG, s2⟩
        · have hH0' : (0 : Int) < (H : Int) := by omega
          have hH1 : ¬ (H : Int) = 0 := by omega
          have e1 : ((G : Int).tmod (H : Int)) = ((G % H : Nat) : Int) := rfl
          have hlt' : G % H < H := Nat.mod_lt _ (by omega)
          have hgs : Hid (Nat.gcd H (G % H) = D') := by
            show _ = _; rw [← hgcd.out, Nat.gcd_comm H, ← Nat.gcd_rec, Nat.gcd_comm]
          clear hgcd
          go_wp2_with fail
          go_region
          all_goals go_wp2_with fail
          go_roundg (G % H)
          case measure => have := hHk.out; omega
          case rel => exact ⟨H, G % H, rfl, by first | rfl | (rw [e1]) | (simp [e1]), rfl, hgs, by omega, by omega, s2.drew⟩
    · have hkn : ¬ (k : Int) < (n : Int) := by omega
      have hke : k = n := by omega
      subst hke
      go_wp2_with fail
      go_ret
      exact ⟨(by rw [HDD.out, ← hE.out]; rfl), s1.bel⟩

set_option maxRecDepth 20000 in
set_option maxHeartbeats 4000000 in
theorem inverse_as (n M I : Int) (hI : Hid (I = invV n M)) (w : World) (hM : 1 ≤ M ∧ M ≤ 1048576) (hn : 0 ≤ n ∧ n ≤ 1048576) (hg : Int.gcd n M = 1) :
    Calls Tryd.prog 46 #[.int .i64 n, .int .i64 M] w fun e w' => e = .returned (.int .i64 I) ∧ w' = w := by
  obtain ⟨z, hz⟩ : ∃ z, z = restI n M := ⟨_, rfl⟩
  have I0 : InvS M n M z 0 1 := InvS.start hM.1 (by rw [hz]; unfold restI; rw [if_neg (by omega)]) hg
  have HC : Hid (∀ W : World, Calls Tryd.prog 34 #[.int .i64 n, .int .i64 M] W fun e w' => e = .returned (.int .i64 z) ∧ w' = W) := fun W => rest_as n M z hz W (by omega) (by omega)
  have HI := hide I0
  have z0 := I0.y0
  have HF : Hid (invF z.toNat M z 0 1 = I) := by show _ = _; rw [hI.out, hz]; rfl
  clear hz I0 hI
  go_enter Tryd.func46, Tryd.ntmps46
  go_wp2_with fail
  refine (HC.out _).mono ?_
  rintro e w2 ⟨rfl, rfl⟩
  go_wp2_with fail
  go_loopg [5, 6, 7, 8] z.toNat (fun g xv yv xsv ysv wr => ∃ (x y xs ys : Int) (f : Nat), xv = .int .i64 x ∧ yv = .int .i64 y ∧ xsv = .int .i64 xs ∧ ysv = .int .i64 ys ∧ Hid (InvS M n x y xs ys) ∧ Hid (y.toNat = g) ∧ Hid (y.toNat ≤ f ∧ invF f x y xs ys = I) ∧ wr = w2)
  case atStart => exact ⟨M, z, 0, 1, z.toNat, rfl, rfl, rfl, rfl, HI, rfl, ⟨Nat.le_refl _, HF.out⟩, rfl⟩
  case round =>
    clear HI HF
    obtain ⟨x, y, xs, ys, f, rfl, rfl, rfl, rfl, hI, hyg, hf, rfl⟩ := hrel
    have i1 := hI.out.x0
    have i2 := hI.out.y0
    have i3 := hI.out.xM
    have i4 := hI.out.yM
    have i5 := hI.out.b
    have i6 := hI.out.by
    by_cases hy0 : y = 0
    · subst hy0
      have hxs : xs = I := by
        have := hf.out.2
        cases f with
        | zero => exact this
        | succ f => simpa [invF] using this
      subst hxs
      go_wp2_with fail
      go_ret
      exact ⟨rfl, rfl⟩
    · obtain ⟨q, hq⟩ : ∃ q, q = x / y := ⟨_, rfl⟩
      have hqt : x.tdiv y = q := by rw [hq]; exact Int.tdiv_eq_ediv_of_nonneg (by omega)
      obtain ⟨N, ⟨b1, b2⟩, ⟨b3, b4⟩, b5, b6⟩ := hI.out.step hy0 hq
      have b7 := N.by
      have n2 := N.y0
      have hf2 : ∃ f' : Nat, (x - q * y).toNat ≤ f' ∧ invF f' y (x - q * y) ys (xs - q * ys) = I := by
        have h1 := hf.out.1
        have h2 := hf.out.2
        cases f with
        | zero => omega
        | succ f =>
          refine ⟨f, by omega, ?_⟩
          rw [← h2, hq]
          show _ = if y = 0 then xs else _
          rw [if_neg hy0]
      obtain ⟨f', hf'⟩ := hf2
      have hq2 : q ≤ 1048576 := by
        have : q ≤ x := by rw [hq]; exact Int.ediv_le_self _ (by omega)
        omega
      obtain ⟨qy, hqy⟩ : ∃ v, q * y = v := ⟨_, rfl⟩
      obtain ⟨qs, hqs⟩ : ∃ v, q * ys = v := ⟨_, rfl⟩
      rw [hqy] at N b1 b2 b5 n2 hf'
      rw [hqs] at N b3 b4 b7 hf'
      have HN := hide N
      have HF' := hide hf'
      clear hq N hf'
      go_wp2_with fail
      go_roundg ((x - qy).toNat)
      case measure => have := hyg.out; omega
      case rel => exact ⟨y, x - qy, ys, xs - qs, f', rfl, by first | rfl | (simp [*]; done) | go_num, rfl, by first | rfl | (simp [*]; done) | go_num, HN, rfl, HF', rfl⟩

set_option maxHeartbeats 2000000 in
theorem product_is (x y : Int) (w : World) (hx : -1099511627776 ≤ x ∧ x ≤ 1099511627776) (hy : -1099511627776 ≤ y ∧ y ≤ 1099511627776) :
    Calls Tryd.prog 40 #[.int .i64 x, .int .i64 y] w fun e w' => e = .returned (.int .i64 (if -9223372036854775807 ≤ x * y ∧ x * y ≤ 9223372036854775807 then x * y else 9223372036854775807)) ∧ w' = w := by
  by_cases h0 : y = 0
  · subst h0
    go_enter Tryd.func40, Tryd.ntmps40
    go_wp2
    all_goals
      go_ret
      exact ⟨ret_int (by simp), rfl⟩
  · have hf := mul_fits (x := x) h0
    obtain ⟨X, hX⟩ : ∃ X : Nat, X = x.natAbs := ⟨_, rfl⟩
    obtain ⟨Y, hY⟩ : ∃ Y : Nat, Y = y.natAbs := ⟨_, rfl⟩
    rw [← hX, ← hY] at hf
    have HX : Hid (∀ W : World, Calls Tryd.prog 47 #[.int .i64 x] W fun e w' => e = .returned (.int .i64 X) ∧ w' = W) := fun W => size_as x X hX W (by omega)
    have HY : Hid (∀ W : World, Calls Tryd.prog 47 #[.int .i64 y] W fun e w' => e = .returned (.int .i64 Y) ∧ w' = W) := fun W => size_as y Y hY W (by omega)
    have hYp : ¬ (Y : Int) = 0 := by omega
    obtain ⟨q, hq⟩ : ∃ q : Int, 9223372036854775807 / (Y : Int) = q := ⟨_, rfl⟩
    have hqt : Int.tdiv 9223372036854775807 (Y : Int) = q := by rw [← hq]; exact Int.tdiv_eq_ediv_of_nonneg (by omega)
    have q1 : 0 ≤ q := by rw [← hq]; exact Int.ediv_nonneg (by omega) (by omega)
    have q2 : q ≤ 9223372036854775807 := by rw [← hq]; exact Int.ediv_le_self _ (by omega)
    rw [hq] at hf
    have Hf := hide hf
    have hX1 : X ≤ 1099511627776 := by omega
    have hY1 : Y ≤ 1099511627776 := by omega
    clear hX hY hf
    have hyb : (y != 0) = true := by simp [h0]
    by_cases hc : (X : Int) ≤ q
    · have hv := Hf.out.1 hc
      rw [if_pos hv]
      obtain ⟨v, hv1⟩ : ∃ v, x * y = v := ⟨_, rfl⟩
      rw [hv1] at hv ⊢
      go_enter Tryd.func40, Tryd.ntmps40
      go_wp2_with fail
      refine (HX.out _).mono ?_
      rintro e w2 ⟨rfl, rfl⟩
      go_wp2_with fail
      refine (HY.out _).mono ?_
      rintro e w2 ⟨rfl, rfl⟩
      go_wp2_with fail
      go_ret
      exact ⟨ret_int (by first | rfl | (rw [hv1]; unfold wrap64; omega) | (unfold wrap64; omega)), rfl⟩
    · rw [if_neg (fun k => hc (Hf.out.2 k))]
      go_enter Tryd.func40, Tryd.ntmps40
      go_wp2_with fail
      refine (HX.out _).mono ?_
      rintro e w2 ⟨rfl, rfl⟩
      go_wp2_with fail
      refine (HY.out _).mono ?_
      rintro e w2 ⟨rfl, rfl⟩
      go_wp2_with fail
      go_ret
      exact ⟨rfl, rfl⟩

end Go.Proofs.YtjimjbilmlnipaaDoor
