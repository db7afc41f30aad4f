/- Zones: one bound more; without a variable: the reference (WithCell, FreeZone). -/
import Derived.Test.YtkngedinomngbaaDoorXp
import Derived.Test.YtkngedinomngbaaDoorXd
namespace Go.Proofs.YtkngedinomngbaaDoor
open Go.RowKit
set_option linter.unusedVariables false

/-- The first k crosses are wiped out. -/
def frL (n : Nat) (l : List Ce) (x : Nat) : Nat → List Ce
  | 0 => l
  | k + 1 => if k = x then frL n l x k else ((frL n l x k).set (k * n + x) ceZ).set (x * n + k) ceZ
theorem frL_len (n : Nat) (l : List Ce) (x : Nat) : ∀ k, (frL n l x k).length = l.length := by
  intro k
  induction k with
  | zero => rfl
  | succ k ih =>
    show (if k = x then frL n l x k else _).length = _
    split
    · exact ih
    · rw [List.length_set, List.length_set]; exact ih
theorem frL_at {n : Nat} {l : List Ce} {x : Nat} (hl : l.length = n * n) (hx : x < n) : ∀ k, k ≤ n → ∀ p q, p < n → q < n → (frL n l x k).getD (p * n + q) ceZ = if p ≠ q ∧ ((q = x ∧ p < k) ∨ (p = x ∧ q < k)) then ceZ else l.getD (p * n + q) ceZ := by
  intro k
  induction k with
  | zero => intro _ p q hp hq; rw [if_neg (by omega)]; rfl
  | succ k ih =>
    intro hk p q hp hq
    have I := ih (by omega) p q hp hq
    by_cases e : k = x
    · have e0 : frL n l x (k + 1) = frL n l x k := by show (if k = x then _ else _) = _; rw [if_pos e]
      rw [e0, I]
      by_cases c1 : p ≠ q ∧ ((q = x ∧ p < k) ∨ (p = x ∧ q < k))
      · rw [if_pos c1, if_pos (by omega)]
      · rw [if_neg c1, if_neg (by omega)]
    · have e0 : frL n l x (k + 1) = ((frL n l x k).set (k * n + x) ceZ).set (x * n + k) ceZ := by show (if k = x then _ else _) = _; rw [if_neg e]
      have i1 : k * n + x < (frL n l x k).length := by rw [frL_len, hl]; exact idx_in (by omega) hx
      have i2 : x * n + k < ((frL n l x k).set (k * n + x) ceZ).length := by rw [List.length_set, frL_len, hl]; exact idx_in hx (by omega)
      rw [e0, getD_set i2, getD_set i1, I]
      by_cases c1 : p = x ∧ q = k
      · rw [if_pos ((idx_inj hq (by omega)).2 c1), if_pos (by omega)]
      · rw [if_neg (fun h => c1 ((idx_inj hq (by omega)).1 h))]
        by_cases c2 : p = k ∧ q = x
        · rw [if_pos ((idx_inj hq hx).2 c2), if_pos (by omega)]
        · rw [if_neg (fun h => c2 ((idx_inj hq hx).1 h))]
          by_cases c3 : p ≠ q ∧ ((q = x ∧ p < k) ∨ (p = x ∧ q < k))
          · rw [if_pos c3, if_pos (by omega)]
          · rw [if_neg c3, if_neg (by omega)]
theorem fr_all {n x : Nat} {d : Mat} (hx : x < n) : frL n (rowOf n d) x n = rowOf n (woM d x) := by
  apply List.ext_getElem?
  intro p
  by_cases hp : p < n * n
  · obtain ⟨h1, h2, _⟩ := bg_idx hp
    have ek : p / n * n + p % n = p := by rw [Nat.mul_comm]; exact Nat.div_add_mod _ _
    have e1 : (frL n (rowOf n d) x n)[p]? = some ((frL n (rowOf n d) x n).getD p ceZ) := by simp [show p < (frL n (rowOf n d) x n).length by rw [frL_len, rowOf_len]; exact hp]
    have k := frL_at (l := rowOf n d) (rowOf_len n d) hx n (Nat.le_refl n) _ _ h1 h2
    rw [ek] at k
    rw [e1, k]
    have e2 : (rowOf n d).getD p ceZ = ceOf (d (p / n) (p % n)) := by simp [rowOf, hp]
    have e3 : (rowOf n (woM d x))[p]? = some (ceOf (woM d x (p / n) (p % n))) := by simp [rowOf, hp]
    rw [e2, e3]
    unfold woM
    by_cases c : p / n ≠ p % n ∧ (p / n = x ∨ p % n = x)
    · rw [if_pos c, if_pos (by omega)]; rfl
    · rw [if_neg c, if_neg (by omega)]
  · rw [List.getElem?_eq_none (by rw [frL_len, rowOf_len]; omega), List.getElem?_eq_none (by rw [rowOf_len]; omega)]

set_option maxRecDepth 20000 in
set_option maxHeartbeats 8000000 in
theorem withCell_any (N cv : Int) (i j n b off c len : Nat) (l : List Ce) (w : World) (hR : RowC w b off l) (hl : Hid (len = l.length)) (hll : Hid (len = n * n)) (hn : 1 ≤ n ∧ n ≤ 5) (hN : N + 1 = n) (hi : i < n) (hj : j < n) :
    Calls Tryd.prog 38 #[(.agg #[.int .i64 N, (.slice (some ⟨b, off, none⟩) len c)]), .int .i64 i, .int .i64 j, .int .i64 cv] w fun e w' => MtPost w N len (lowL l (i * n + j) cv) e w' := by
  obtain ⟨i0, hi0, hz0, hz1, hz2⟩ := info_parts Tryd.infoCellM
  have s1 := (((St.start1' w).box2 24 (.int .i64 N) (.slice (some ⟨b, off, none⟩) len c)).box2 24 (.int .i64 0) (.slice none 0 0)).box2 24 (.int .i64 N) (.slice none 0 0)
  simp only [World.size_alloc] at s1
  have hR1 := hR.below (s1.bel)
  have hbl := hR.lt
  have hnews := hR1.news
  have hcl : (cellsV l).length = len * 2 := by rw [cellsV_len, hl.out]
  have hone := cellsV_one l
  obtain ⟨zs, hzs⟩ : ∃ zs, zs = cellsV l := ⟨_, rfl⟩
  rw [← hzs] at hnews hcl hone
  have Hzs := hide hzs
  have hlen : 1 ≤ len ∧ len ≤ 25 := by
    have := hll.out
    have h1 := Nat.mul_le_mul hn.2 hn.2
    have h2 := Nat.mul_le_mul hn.1 hn.1
    omega
  have hNb : 0 ≤ N ∧ N ≤ 4 := by omega
  obtain ⟨ik, hik⟩ : ∃ m : Nat, m = i * n := ⟨_, rfl⟩
  obtain ⟨k1, hk1⟩ : ∃ m : Nat, m = ik + j := ⟨_, rfl⟩
  have a1 : (i : Int) * (n : Int) = (ik : Int) := by rw [hik, Int.natCast_mul]
  have a3 : (ik : Int) + (j : Int) = (k1 : Int) := by omega
  have k1l : k1 < len := by rw [hll.out, hk1, hik]; exact idx_in hi hj
  have a5 : ik ≤ 25 := by omega
  have ek : i * n + j = k1 := by rw [hk1, hik]
  rw [ek]
  have HL1 : Hid (∀ (W : World) (g cap : Nat), RowC W g 0 l → (∀ o, W.frozen? ⟨g, o, none⟩ = false) → Calls Tryd.prog 58 #[.slice (some ⟨g, 0, none⟩) len cap, .int .i64 k1, .int .i64 cv] W fun e w' => (∃ rb, e = .returned (.bool rb)) ∧ RowC w' g 0 (lowL l k1 cv) ∧ Only g W w') := by
    intro W g cap h1 h2
    exact (lower_as g 0 len cap k1 k1 cv rfl l hl k1l (by omega) W h1 h2).mono fun _ _ h => ⟨⟨_, h.1⟩, h.2⟩
  clear hzs hR1 hR hik hk1 ek
  go_enter Tryd.func38, Tryd.ntmps38
  go_wp2_with (at_builtin; refine wpList_append_lies _ rfl _ _ 22 rfl w.heap.size 68 i0 _ 2 16 Tryd.underlying22 hi0 hz0 hz1 hz2 rfl (by decide) _ _ _ rfl (World.ownsRow_nil _ _ _ _) ⟨b, off, none⟩ len c zs rfl hcl hnews hone (by omega) (by unfold maxLen; omega) (by omega) (by simp; omega) (w.heap.size + 1 + 1 + 1) (by simp) ?_)
  intro g cap w1 own1 hgrow hat hlt1
  have hg : g = w.heap.size + 1 + 1 + 1 := by
    rcases hat with h | h
    · simp [Value.ownBlock] at h
    · exact h
  have hb1 := (Below.refl _ _).grown hgrow (Nat.le_refl _) (fun j hj => by simp [Value.ownBlock] at hj)
  have s2 := s1.call hb1
  have own2 : w1.ownsRow w.heap.size 68 2 (.slice (some ⟨g, 0, none⟩) len cap) len (cellsV l) := by
    have := own1
    rw [Hzs.out] at this
    exact this
  obtain ⟨R2, F2⟩ := RowC.of_own own2 hl.out hlt1
  have q2 := s2.hold
  simp only [Holds, and_true] at q2
  have s3 := s2.put21 (by omega) ⟨by dsimp only; omega, by dsimp only; omega, by dsimp only; omega, by dsimp only; omega, trivial⟩ (.slice (some ⟨g, 0, none⟩) len cap)
  have R3 := R2.other (p := ⟨w.heap.size + 1 + 1, 1, none⟩) (by show w.heap.size + 1 + 1 ≠ g; omega) (.slice (some ⟨g, 0, none⟩) len cap)
  have F3 : Hid (∀ o, (w1.setCell ⟨w.heap.size + 1 + 1, 1, none⟩ (.slice (some ⟨g, 0, none⟩) len cap)).frozen? ⟨g, o, none⟩ = false) := fun o => by rw [frozen?_setCell']; exact F2 o
  have hgb : w.heap.size + 1 + 1 < g := by omega
  clear hg hat hgrow own1 own2 R2 F2 hb1 hnews hcl hone hlt1 hi0 hz0 hz1 hz2
  go_upto_region 3 with fail
  obtain ⟨W3, hW3⟩ : ∃ W, W = w1.setCell ⟨w.heap.size + 1 + 1, 1, none⟩ (.slice (some ⟨g, 0, none⟩) len cap) := ⟨_, rfl⟩
  rw [← hW3] at s3 R3 F3 ⊢
  clear hW3 q2 s2 s1 Hzs
  have q3 := s3.hold
  simp only [Holds, and_true] at q3
  go_wp2_with fail
  refine (HL1.out _ g cap R3 F3.out).mono ?_
  rintro e w6 ⟨⟨rb, rfl⟩, hR6, hO⟩
  have s7 := s3.only hO ⟨by dsimp only; omega, by dsimp only; omega, by dsimp only; omega, by dsimp only; omega, by dsimp only; omega, by dsimp only; omega, trivial⟩ (by omega)
  have q7 := s7.hold
  simp only [Holds, and_true] at q7
  clear q3 s3
  go_wp2_with fail
  refine bodyPost_ret (v := (.agg #[.int .i64 N, (.slice (some ⟨g, 0, none⟩) len cap)])) (by simp [results, Tryd.results38, go_sem, q7]) rfl ⟨?_, g, cap, rfl, ?_⟩
  · repeat' (first | exact s7.bel | refine Below.setCell ?_ (by first | (simp; done) | (simp; omega)) _)
  · exact (hR6.other (by show w.heap.size + 1 ≠ g; omega) _).other (by show w.heap.size + 1 ≠ g; omega) _

/-- A zone whose cells are new. -/
def MnPost (w : World) (Ni : Int) (len : Nat) (L : List Ce) (e : Ending) (w' : World) : Prop :=
  Below w.heap.size w w' ∧ ∃ (g cap : Nat), e = .returned (.agg #[.int .i64 Ni, (.slice (some ⟨g, 0, none⟩) len cap)]) ∧ w.heap.size ≤ g ∧ RowC w' g 0 L
set_option maxRecDepth 20000 in
set_option maxHeartbeats 8000000 in
theorem freeZone_any (N : Int) (x n b off c len : Nat) (l : List Ce) (w : World) (hR : RowC w b off l) (hl : Hid (len = l.length)) (hll : Hid (len = n * n)) (hn : 1 ≤ n ∧ n ≤ 5) (hN : N + 1 = n) (hx : x < n) :
    Calls Tryd.prog 36 #[(.agg #[.int .i64 N, (.slice (some ⟨b, off, none⟩) len c)]), .int .i64 x] w fun e w' => MnPost w N len (frL n l x n) e w' := by
  obtain ⟨i0, hi0, hz0, hz1, hz2⟩ := info_parts Tryd.infoCellM
  have s1 := (((St.start1' w).box2 24 (.int .i64 N) (.slice (some ⟨b, off, none⟩) len c)).box2 24 (.int .i64 0) (.slice none 0 0)).box2 24 (.int .i64 N) (.slice none 0 0)
  simp only [World.size_alloc] at s1
  have hR1 := hR.below (s1.bel)
  have hbl := hR.lt
  have hnews := hR1.news
  have hcl : (cellsV l).length = len * 2 := by rw [cellsV_len, hl.out]
  have hone := cellsV_one l
  obtain ⟨zs, hzs⟩ : ∃ zs, zs = cellsV l := ⟨_, rfl⟩
  rw [← hzs] at hnews hcl hone
  have Hzs := hide hzs
  have hlen : 1 ≤ len ∧ len ≤ 25 := by
    have := hll.out
    have h1 := Nat.mul_le_mul hn.2 hn.2
    have h2 := Nat.mul_le_mul hn.1 hn.1
    omega
  have hNb : 0 ≤ N ∧ N ≤ 4 := by omega
  have hfl : Hid (∀ k, (frL n l x k).length = len) := fun k => by rw [frL_len]; exact hl.out.symm
  clear hzs hR1 hR
  go_enter Tryd.func36, Tryd.ntmps36
  go_wp2_with (at_builtin; refine wpList_append_lies _ rfl _ _ 22 rfl w.heap.size 68 i0 _ 2 16 Tryd.underlying22 hi0 hz0 hz1 hz2 rfl (by decide) _ _ _ rfl (World.ownsRow_nil _ _ _ _) ⟨b, off, none⟩ len c zs rfl hcl hnews hone (by omega) (by unfold maxLen; omega) (by omega) (by simp; omega) (w.heap.size + 1 + 1 + 1) (by simp) ?_)
  intro g cap w1 own1 hgrow hat hlt1
  have hg : g = w.heap.size + 1 + 1 + 1 := by
    rcases hat with h | h
    · simp [Value.ownBlock] at h
    · exact h
  have hb1 := (Below.refl _ _).grown hgrow (Nat.le_refl _) (fun j hj => by simp [Value.ownBlock] at hj)
  have s2 := s1.call hb1
  have own2 : w1.ownsRow w.heap.size 68 2 (.slice (some ⟨g, 0, none⟩) len cap) len (cellsV l) := by
    have := own1
    rw [Hzs.out] at this
    exact this
  obtain ⟨R2, F2⟩ := RowC.of_own own2 hl.out hlt1
  have q2 := s2.hold
  simp only [Holds, and_true] at q2
  have s3 := s2.put21 (by omega) ⟨by dsimp only; omega, by dsimp only; omega, by dsimp only; omega, by dsimp only; omega, trivial⟩ (.slice (some ⟨g, 0, none⟩) len cap)
  have R3 := R2.other (p := ⟨w.heap.size + 1 + 1, 1, none⟩) (by show w.heap.size + 1 + 1 ≠ g; omega) (.slice (some ⟨g, 0, none⟩) len cap)
  have F3 : Hid (∀ o, (w1.setCell ⟨w.heap.size + 1 + 1, 1, none⟩ (.slice (some ⟨g, 0, none⟩) len cap)).frozen? ⟨g, o, none⟩ = false) := fun o => by rw [frozen?_setCell']; exact F2 o
  have hgb : w.heap.size + 1 + 1 < g := by omega
  clear hg hat hgrow own1 own2 R2 F2 hb1 hnews hcl hone hlt1 hi0 hz0 hz1 hz2
  go_upto_region 4 with fail
  obtain ⟨W3, hW3⟩ : ∃ W, W = w1.setCell ⟨w.heap.size + 1 + 1, 1, none⟩ (.slice (some ⟨g, 0, none⟩) len cap) := ⟨_, rfl⟩
  rw [← hW3] at s3 R3 F3 ⊢
  clear hW3 q2 s2 s1 Hzs
  go_wp2_with fail
  go_loopg [7] n (fun gh iv wr => ∃ k : Nat, k + gh = n ∧ iv = .int .i64 k ∧ RowC wr g 0 (frL n l x k) ∧ Hid (∀ o, wr.frozen? ⟨g, o, none⟩ = false) ∧ St w wr (fun _ => True) [(w.heap.size + 1 + 1, 0, Value.int .i64 N), (w.heap.size + 1 + 1, 1, Value.slice (some ⟨g, 0, none⟩) len cap), (w.heap.size + 1, 0, Value.int .i64 0), (w.heap.size + 1, 1, Value.slice none 0 0), (w.heap.size, 0, Value.int .i64 N), (w.heap.size, 1, Value.slice (some ⟨b, off, none⟩) len c)])
  case atStart => exact ⟨0, by omega, rfl, R3, F3, s3⟩
  case round =>
    clear R3 F3 s3
    obtain ⟨k, hkg, rfl, R3, F3, s3⟩ := hrel
    have q3 := s3.hold
    simp only [Holds, and_true] at q3
    by_cases hk : k < n
    · have hkn : (k : Int) < (n : Int) := by omega
      by_cases e : k = x
      · have Hnx : Hid (frL n l x (k + 1) = frL n l x k) := by show (if k = x then _ else _) = _; rw [if_pos e]
        have eb : ((k : Int) != (x : Int)) = false := by simp; omega
        go_wp2_with fail
        go_roundg (n - (k + 1))
        case measure => omega
        case rel => exact ⟨k + 1, by omega, by go_num, by rw [Hnx.out]; exact R3, F3, s3⟩
      · obtain ⟨kn, hkn'⟩ : ∃ m : Nat, m = k * n := ⟨_, rfl⟩
        obtain ⟨xn, hxn⟩ : ∃ m : Nat, m = x * n := ⟨_, rfl⟩
        obtain ⟨x1, hx1⟩ : ∃ m : Nat, m = kn + x := ⟨_, rfl⟩
        obtain ⟨x2, hx2⟩ : ∃ m : Nat, m = xn + k := ⟨_, rfl⟩
        have a1 : (k : Int) * (n : Int) = (kn : Int) := by rw [hkn', Int.natCast_mul]
        have a2 : (x : Int) * (n : Int) = (xn : Int) := by rw [hxn, Int.natCast_mul]
        have a3 : (kn : Int) + (x : Int) = (x1 : Int) := by omega
        have a4 : (xn : Int) + (k : Int) = (x2 : Int) := by omega
        have b1 : x1 < len := by rw [hll.out, hx1, hkn']; exact idx_in hk hx
        have b2 : x2 < len := by rw [hll.out, hx2, hxn]; exact idx_in hx hk
        have b3 : (x1 : Int) < (len : Int) := by omega
        have b4 : (x2 : Int) < (len : Int) := by omega
        have b5 : kn ≤ 25 ∧ xn ≤ 25 := by omega
        have hne : x1 ≠ x2 := by
          rw [hx1, hx2, hkn', hxn]
          intro h
          have := (idx_inj hx hk).1 h
          omega
        have Hnx : Hid (frL n l x (k + 1) = ((frL n l x k).set x1 ceZ).set x2 ceZ) := by show (if k = x then _ else _) = _; rw [if_neg e, hx1, hx2, hkn', hxn]
        have eb : ((k : Int) != (x : Int)) = true := by simp; omega
        obtain ⟨S, hS⟩ : ∃ S, S = frL n l x k := ⟨_, rfl⟩
        have l1 : x1 < S.length := by rw [hS, hfl.out]; exact b1
        have l2 : x2 < (S.set x1 ceZ).length := by rw [List.length_set, hS, hfl.out]; exact b2
        have l2' : x2 < S.length := by rw [hS, hfl.out]; exact b2
        rw [← hS] at R3 Hnx
        have d1 := R3.has x1 l1
        have d2 := R3.most x1 l1
        have d3 := R3.has x2 l2'
        have d4 := R3.most x2 l2'
        have f1 := F3.out (0 + x1 * 2)
        have f2 := F3.out (0 + x1 * 2 + 1)
        have f3 := F3.out (0 + x2 * 2)
        have f4 := F3.out (0 + x2 * 2 + 1)
        have hlg := R3.lt
        have R4 := (R3.set l1 ceZ).set l2 ceZ
        have F4 : ∀ o, ((((wr.setCell ⟨g, 0 + x1 * 2, none⟩ (.bool false)).setCell ⟨g, 0 + x1 * 2 + 1, none⟩ (.int .i64 0)).setCell ⟨g, 0 + x2 * 2, none⟩ (.bool false)).setCell ⟨g, 0 + x2 * 2 + 1, none⟩ (.int .i64 0)).frozen? ⟨g, o, none⟩ = false := fun o => by
          rw [frozen?_setCell', frozen?_setCell', frozen?_setCell', frozen?_setCell']; exact F3.out o
        have s4 := (((s3.setO (p := ⟨g, 0 + x1 * 2, none⟩) (by dsimp only; omega) ⟨by dsimp only; omega, by dsimp only; omega, by dsimp only; omega, by dsimp only; omega, by dsimp only; omega, by dsimp only; omega, trivial⟩ (.bool false)).setO (p := ⟨g, 0 + x1 * 2 + 1, none⟩) (by dsimp only; omega) ⟨by dsimp only; omega, by dsimp only; omega, by dsimp only; omega, by dsimp only; omega, by dsimp only; omega, by dsimp only; omega, trivial⟩ (.int .i64 0)).setO (p := ⟨g, 0 + x2 * 2, none⟩) (by dsimp only; omega) ⟨by dsimp only; omega, by dsimp only; omega, by dsimp only; omega, by dsimp only; omega, by dsimp only; omega, by dsimp only; omega, trivial⟩ (.bool false)).setO (p := ⟨g, 0 + x2 * 2 + 1, none⟩) (by dsimp only; omega) ⟨by dsimp only; omega, by dsimp only; omega, by dsimp only; omega, by dsimp only; omega, by dsimp only; omega, by dsimp only; omega, trivial⟩ (.int .i64 0)
        have H4 : Hid (RowC ((((wr.setCell ⟨g, 0 + x1 * 2, none⟩ (.bool false)).setCell ⟨g, 0 + x1 * 2 + 1, none⟩ (.int .i64 0)).setCell ⟨g, 0 + x2 * 2, none⟩ (.bool false)).setCell ⟨g, 0 + x2 * 2 + 1, none⟩ (.int .i64 0)) g 0 ((S.set x1 ceZ).set x2 ceZ)) := R4
        simp only [Nat.zero_add] at d1 d2 d3 d4 f1 f2 f3 f4 H4 F4 s4
        clear hkn' hxn hx1 hx2 hS R3 R4
        go_wp2_with fail
        go_roundg (n - (k + 1))
        case measure => omega
        case rel => exact ⟨k + 1, by omega, by go_num, by rw [Hnx.out]; exact H4.out, F4, s4⟩
    · have hke : k = n := by omega
      subst hke
      have hkn : ¬ (k : Int) < (k : Int) := by omega
      go_wp2_with fail
      refine bodyPost_ret (v := (.agg #[.int .i64 N, (.slice (some ⟨g, 0, none⟩) len cap)])) (by simp [results, Tryd.results36, go_sem, q3]) rfl ⟨?_, g, cap, rfl, by omega, ?_⟩
      · repeat' (first | exact s3.bel | refine Below.setCell ?_ (by first | (simp; done) | (simp; omega)) _)
      · exact (R3.other (by show w.heap.size + 1 ≠ g; omega) _).other (by show w.heap.size + 1 ≠ g; omega) _
end Go.Proofs.YtkngedinomngbaaDoor
