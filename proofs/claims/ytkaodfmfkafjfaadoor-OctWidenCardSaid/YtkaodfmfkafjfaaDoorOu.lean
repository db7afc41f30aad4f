/- Octagons: widened, and the numbers of a variable: the statement. -/
import Derived.Test.YtkaodfmfkafjfaaDoorOt
import Derived.Test.YtkaodfmfkafjfaaDoorOr
import Derived.Test.YtkaodfmfkafjfaaDoorOs
import Derived.Test.YtkaodfmfkafjfaaDoorYr
namespace Go.Proofs.YtkaodfmfkafjfaaDoor
open Go.RowKit
set_option linter.unusedVariables false

theorem rowO_self {n : Nat} {l : List Ce} (hL : l.length = n * n) (hg : goodL l) : rowOf n (matOf n l) = l := by
  refine (extO hL fun p hp => ?_).symm
  have n0 : 0 < n := Nat.pos_of_ne_zero (fun z => by subst z; simp at hp)
  have e : p / n * n + p % n = p := by rw [Nat.mul_comm]; exact Nat.div_add_mod _ _
  unfold matOf
  rw [e]
  exact hg p (by omega)
theorem widC_of {a b : Bd} (ha : OkB a) (hb : OkB b) : widC (ceOf a) (ceOf b) = ceOf (keptB a b) := by
  unfold keptB
  cases a with
  | none =>
    have : ¬ encB none < encB b := by
      cases b with
      | none => omega
      | some v =>
        intro q
        have := (enc_le ha hb).1 (by omega)
        simp [leB] at this
    rw [if_neg this]
    simp [widC, ceOf]
  | some u =>
    have k := (enc_le hb ha)
    by_cases h : encB (some u) < encB b
    · rw [if_pos h]
      cases b with
      | none => simp [widC, ceOf, ceZ]
      | some v =>
        have : ¬ leB (some v) (some u) := fun q => by have := k.2 q; omega
        simp [leB] at this
        simp [widC, ceOf, ceZ, this]
    · rw [if_neg h]
      cases b with
      | none =>
        have := k.1 (by omega)
        simp [leB] at this
      | some v =>
        have := k.1 (by omega)
        simp [leB] at this
        have q : ¬ u < v := by omega
        simp [widC, ceOf, q]
theorem CsNew.of_own {W w : World} {e : TypeId} {v : Value} {n : Nat} {l : List Ce} (h : w.ownsRow W.heap.size e 2 v n (cellsV l)) (hn : n = l.length) : ∃ x cap, v = .slice x n cap ∧ CsNew W w x l := by
  have lt := h.lt
  obtain ⟨h1, h2⟩ := h
  rcases h2 with ⟨rfl, h0⟩ | ⟨g, cap, cur, rfl, hb, hh, r⟩
  · have : l = [] := List.eq_nil_of_length_eq_zero (by omega)
    exact ⟨none, 0, by rw [h0], .inl this⟩
  · refine ⟨some ⟨g, 0, none⟩, cap, rfl, .inr ⟨g, rfl, hb, ?_⟩⟩
    exact (RowC.of_own ⟨h1, .inr ⟨g, cap, cur, rfl, hb, hh, r⟩⟩ hn (lt g (by simp [Value.ownBlock])).2).1

set_option maxHeartbeats 1000000 in
theorem widened_zero (x y : Option Addr) (c c' : Nat) (w : World) : Calls Tryd.prog 43 #[.slice x 0 c, .slice y 0 c'] w fun e w' => e = .returned (.slice none 0 0) ∧ w' = w := by
  go_enter Tryd.func43, Tryd.ntmps43
  go_wp2_with fail
  refine wp_loop_rounds 1 ?_
  rw [rounds_succ]
  go_wp2_with fail
  go_ret
  exact ⟨rfl, rfl⟩
theorem top_cell {n : Nat} {d : Mat} (ht : Tight n d) (hs : Sz n 1099511627776 d) {i : Nat} (hi : i < n) : tellI (topI (encM d) i) = ⟨(ceOf (d (bar i) i)).h, (ceOf (d (bar i) i)).m.tdiv 2⟩ := by
  have hb := bar_lt ht.even hi
  unfold topI
  have e0 : encM d (bar i) i = encB (d (bar i) i) := rfl
  rw [e0]
  cases e : d (bar i) i with
  | none => rfl
  | some v =>
    have hv := hs _ _ hb hi v e
    have hp := ht.par i v hi e
    have e1 : encB (some v) = v := rfl
    rw [e1, if_neg (by omega)]
    have hd : v.tdiv 2 = v / 2 := by
      have h1 := Int.tdiv_mul_add_tmod v 2
      have h2 : v.tmod 2 = 0 := by
        rcases Int.le_total 0 v with h | h
        · rw [Int.tmod_eq_emod_of_nonneg h]; exact hp
        · have := Int.neg_tmod v 2
          have h3 : (-v).tmod 2 = 0 := by rw [Int.tmod_eq_emod_of_nonneg (by omega)]; omega
          omega
      omega
    unfold tellI
    rw [if_neg (by omega), if_neg (by omega)]
    show (⟨true, v / 2⟩ : Ce) = ⟨true, v.tdiv 2⟩
    rw [hd]

set_option maxHeartbeats 2000000 in
theorem octWiden_true (N : Int) (x : Option Addr) (c : Nat) (l : List Ce) (M : Int) (y : Option Addr) (c' : Nat) (m : List Ce) (X : Int) (a : Nat → Addr) (w : World) (hS : Sents w a)
    (hN : -9223372036854775808 ≤ N ∧ N ≤ 9223372036854775807) (hA : CsAt w x l) (hlen : l.length ≤ 9223372036854775807) (hma : ∀ A ∈ l, -9223372036854775808 ≤ A.m ∧ A.m ≤ 9223372036854775807)
    (hM : -9223372036854775808 ≤ M ∧ M ≤ 9223372036854775807) (hB : CsAt w y m) (hlen' : m.length ≤ 9223372036854775807) (hmb : ∀ A ∈ m, -9223372036854775808 ≤ A.m ∧ A.m ≤ 9223372036854775807)
    (hX : -9223372036854775808 ≤ X ∧ X ≤ 9223372036854775807) :
    Calls Tryd.prog 7 #[(.agg #[.int .i64 N, (.slice x l.length c)]), (.agg #[.int .i64 M, (.slice y m.length c')]), .int .i64 X] w fun e w' => e = .returned (.bool true) ∧ Below w.heap.size w w' := by
  obtain ⟨n, hn⟩ : ∃ n, n = nOf N := ⟨_, rfl⟩
  have hrng : 0 ≤ pairErr N l M m ∧ pairErr N l M m ≤ 8 := by rw [← twoO_pair]; exact twoO_range N l M m
  have hz := zErr_rngO N l
  have hNb : zErr N l = 0 → 0 ≤ N ∧ N ≤ 4 := fun h => by obtain ⟨z1, z2, z3, _⟩ := zErr_0 h; omega
  have hv : voErr N [X] = if X < 0 ∨ wrap64 (N - 1) < X then 3 else 0 := by
    unfold voErr varErr
    simp only [List.map, firstE]
    by_cases h : X < 0 ∨ wrap64 (N - 1) < X <;> simp [h]
  have hw1 : zErr N l = 0 → wrap64 (N - 1) = N - 1 := fun h => by have := hNb h; unfold wrap64; omega
  obtain ⟨b1, b2, i1, i2, hsv⟩ : ∃ (b1 b2 : Bool) (i1 i2 : Int), spanV (topI (encM (tg n (matOf n l))) (2 * X.toNat + 1)) (topI (encM (tg n (matOf n l))) (2 * X.toNat)) = Value.agg #[.bool b1, .bool b2, .int .i64 i1, .int .i64 i2] := ⟨_, _, _, _, rfl⟩
  obtain ⟨⟨uh, um⟩, hu⟩ : ∃ C, (rowOf n (tg n (matOf n l))).getD ((2 * X.toNat + 1) * n + 2 * X.toNat) ceZ = C := ⟨_, rfl⟩
  obtain ⟨⟨lh, lm⟩, hlo⟩ : ∃ C, (rowOf n (tg n (matOf n l))).getD (2 * X.toNat * n + (2 * X.toNat + 1)) ceZ = C := ⟨_, rfl⟩
  have near1 : ∀ {l : List Ce} {N : Int}, n = nOf N → zErr N l = 0 → nearL l 1048576 = true → 2 * N = n ∧ NearO n l := by
    intro l N hn h k
    have z := nearO h k
    rw [← hn] at z
    exact ⟨by rw [hn]; exact (zErr_0 h).1, z⟩
  have near2 : pairErr N l M m = 0 → nearL l 1048576 = true → nearL m 1048576 = true → N = M ∧ 2 * N = n ∧ NearO n l ∧ NearO n m ∧ m.length = l.length := by
    intro h k k'
    obtain ⟨h1, h2, rfl⟩ := pairErr_0 h
    obtain ⟨e, z⟩ := near1 hn h1 k
    obtain ⟨_, z'⟩ := near1 hn h2 k'
    exact ⟨rfl, e, z, z', by rw [z.len, z'.len]⟩
  have zero : ∀ {l : List Ce}, n = 0 → NearO n l → l = [] := fun h0 z => List.eq_nil_of_length_eq_zero (by rw [z.len, h0])
  have nn0 : ∀ d : Mat, n = 0 → NoNeg n d := fun d h0 i hi => by omega
  have row0 : ∀ d : Mat, n = 0 → rowOf n d = [] := fun d h0 => List.eq_nil_of_length_eq_zero (by rw [rowO_len, h0])
  have tl0 : ∀ d : Mat, n = 0 → tellL n d = [] := fun d h0 => List.eq_nil_of_length_eq_zero (by rw [tellL_len, h0])
  have f0 : boErr N l X = 0 → zErr N l = 0 ∧ 0 ≤ X ∧ X < N := by
    intro h
    unfold boErr at h
    rw [fstE_0, fstE_0] at h
    have hw := hw1 h.1
    have h2 := h.2.1
    rw [hv, hw] at h2
    refine ⟨h.1, ?_⟩
    by_cases k : X < 0 ∨ N - 1 < X
    · rw [if_pos k] at h2; omega
    · omega
  have clo : ∀ {l : List Ce} {x : Option Addr} {c : Nat} {N : Int}, n = nOf N → zErr N l = 0 → nearL l 1048576 = true → ∀ W : World, CsAt W x l → Calls Tryd.prog 25 #[(.agg #[.int .i64 N, (.slice x l.length c)])] W fun e w' => AnsR (fun is N5 L5 => (¬ NoNeg n (tg n (matOf n l)) ∧ is = false) ∨ (NoNeg n (tg n (matOf n l)) ∧ is = true ∧ N5 = N ∧ L5 = rowOf n (tg n (matOf n l)))) W e w' := by
    intro l x c N hn hz0 ka W k1
    obtain ⟨e1, za⟩ := near1 hn hz0 ka
    by_cases h0 : n = 0
    · obtain rfl := zero h0 za
      obtain rfl : N = 0 := by omega
      refine (closedOct_zero x c W).mono ?_
      rintro e w' ⟨x5, c5, rfl, hb⟩
      exact ⟨0, x5, 0, c5, true, [], rfl, .inl rfl, ⟨rfl, by omega, .inr ⟨nn0 _ h0, rfl, rfl, (row0 _ h0).symm⟩⟩, hb⟩
    have h2n : 2 ≤ n := by have := za.he; omega
    have few := za.few
    refine (closedNearO N n l.length c x l W e1 h2n za rfl k1).mono ?_
    rintro e w' ⟨hb, h | h⟩
    · exact ⟨0, none, 0, 0, false, [], h.2, .inl rfl, ⟨rfl, by omega, .inl ⟨h.1, rfl⟩⟩, hb⟩
    · obtain ⟨hok, g, cap, rfl, _, _, hR⟩ := h
      exact ⟨N, _, _, cap, true, _, rfl, .inr ⟨g, 0, rfl, hR⟩, ⟨by rw [rowO_len, za.len], by omega, .inr ⟨hok, rfl, rfl, rfl⟩⟩, hb⟩
  have cells : boErr N l X = 0 → nearL l 1048576 = true → 2 * N = n ∧ NearO n l ∧ 2 * X.toNat + 1 < n ∧ ceOf (tg n (matOf n l) (2 * X.toNat + 1) (2 * X.toNat)) = ⟨uh, um⟩ ∧ ceOf (tg n (matOf n l) (2 * X.toNat) (2 * X.toNat + 1)) = ⟨lh, lm⟩ := by
    intro h0 ka
    obtain ⟨hz0, x1, x2⟩ := f0 h0
    obtain ⟨e1, za⟩ := near1 hn hz0 ka
    have hx : 2 * X.toNat + 1 < n := by omega
    have p1 := idx_in hx (show 2 * X.toNat < n by omega)
    have p2 := idx_in (show 2 * X.toNat < n by omega) hx
    have d1 : ((2 * X.toNat + 1) * n + 2 * X.toNat) / n = 2 * X.toNat + 1 := by rw [Nat.mul_comm, Nat.mul_add_div (by omega), Nat.div_eq_of_lt (by omega)] <;> try rfl
    have d2 : ((2 * X.toNat + 1) * n + 2 * X.toNat) % n = 2 * X.toNat := by rw [Nat.mul_comm, Nat.mul_add_mod, Nat.mod_eq_of_lt (by omega)]
    have d3 : (2 * X.toNat * n + (2 * X.toNat + 1)) / n = 2 * X.toNat := by rw [Nat.mul_comm (2 * X.toNat) n, Nat.mul_add_div (by omega), Nat.div_eq_of_lt hx] <;> try rfl
    have d4 : (2 * X.toNat * n + (2 * X.toNat + 1)) % n = 2 * X.toNat + 1 := by rw [Nat.mul_comm (2 * X.toNat) n, Nat.mul_add_mod, Nat.mod_eq_of_lt hx]
    rw [rowO_get p1, d1, d2] at hu
    rw [rowO_get p2, d3, d4] at hlo
    exact ⟨e1, za, hx, hu, hlo⟩
  refine widen_by N M X x y c c' l.length m.length l m a w hS hA hB rfl rfl hlen hlen' (pairErr N l M m) (zErr N l) (boErr N l X) hrng ?_ (decide (zErr N l = 0) && (decide (X < 0) || decide (N ≤ X))) rfl ?_ (NoNeg n (tg n (matOf n l))) (NoNeg n (tg n (matOf n m))) (rowOf n (tg n (matOf n l))) (rowOf n (tg n (matOf n m))) (tellL n (widM n (matOf n l) (matOf n m))) b1 b2 i1 i2 uh lh um lm X.toNat n ?_ ?_ ?_ ?_ ?_ ?_ ?_ ?_ ?_ ?_
  · unfold boErr
    rw [hv]
    simp only [firstE]
    split
    · exact hz
    · split <;> split <;> omega
  · show boErr N l X = _
    unfold boErr
    rw [hv]
    simp only [firstE]
    by_cases h0 : zErr N l = 0
    · rw [hw1 h0]
      by_cases h1 : X < 0 ∨ N ≤ X
      · have : (decide (X < 0) || decide (N ≤ X)) = true := by simpa using h1
        have h2 : X < 0 ∨ N - 1 < X := by omega
        simp [h0, h2, this]
      · have : (decide (X < 0) || decide (N ≤ X)) = false := by simpa using h1
        have h2 : ¬ (X < 0 ∨ N - 1 < X) := by omega
        simp [h0, h2, this]
    · simp [h0]
  · intro h1 h2 W k1 k2
    rw [← twoO_pair]
    exact twoOcts_any N M x y c l.length c' m.length l m W hN hM k1 k2 rfl rfl (by omega) (by omega)
  · intro h1 h2 W z1 z2 c1 c2 hs k1 k2
    have hg := widen_any N M z1 z2 l.length c1 m.length c2 l m a W hs.errs k1 k2 rfl rfl (by omega) (by omega)
    rw [← hn] at hg
    refine hg.mono ?_
    rintro e w' ⟨hb, h | h | h⟩
    · exact ⟨0, none, 0, 0, _, [], h.2, .inl rfl, ⟨rfl, by omega, .inl ⟨h.1, rfl, rfl, rfl⟩⟩, hb⟩
    · exact absurd h.2.1 id
    · obtain ⟨h0, _, g5, cp5, rfl, hg5, hR5⟩ := h
      have z4 : l.length = n * n := by rw [hn]; exact (zErr_0 (pairErr_0 h0).1).2.2.2.1
      exact ⟨N, _, _, cp5, 0, _, rfl, .inr ⟨g5, rfl, hg5, hR5⟩, ⟨by rw [tellL_len]; exact z4, by omega, .inr ⟨h0, rfl, rfl, rfl⟩⟩, hb⟩
  · intro h1 W k1
    exact octError_any N x c l.length l W hN k1 rfl (by omega)
  · intro h1 W z1 c1 hs k1
    have hg := boundsO_any N X z1 c1 l.length l a W hs.errs k1 rfl (by omega)
    rw [← hn, hsv] at hg
    refine hg.mono ?_
    rintro e w' ⟨hb, h | h | h⟩
    · exact ⟨false, false, 0, 0, false, h.2, .inl ⟨h.1, rfl, rfl, rfl, rfl, rfl⟩, hb⟩
    · exact ⟨false, false, 0, 0, false, by rw [h.1, erV_0]; exact h.2.2, .inr (.inl ⟨h.1, h.2.1, rfl, rfl, rfl, rfl, rfl⟩), hb⟩
    · exact ⟨b1, b2, i1, i2, true, by rw [h.1, erV_0]; exact h.2.2, .inr (.inr ⟨h.1, h.2.1, rfl, rfl, rfl, rfl, rfl⟩), hb⟩
  · intro h1 h0 ka W k1
    have hz0 : zErr N l = 0 := by
      rcases h0 with h0 | h0
      · exact (pairErr_0 h0).1
      · exact (f0 h0).1
    exact clo hn hz0 ka W k1
  · intro h2 h0 kb W k2
    obtain ⟨h1, hz2, rfl⟩ := pairErr_0 h0
    exact clo hn hz2 kb W k2
  · intro h0 ka hok W
    obtain ⟨e1, za, hx, cu, cl⟩ := cells h0 ka
    have tt := tg_tight za.he za.coh hok
    have b0 : bar (2 * X.toNat) = 2 * X.toNat + 1 := by unfold bar; rw [if_pos (by omega)]
    have b1' : bar (2 * X.toNat + 1) = 2 * X.toNat := by unfold bar; rw [if_neg (by omega)]; omega
    have t1 := top_cell tt za.szt (i := 2 * X.toNat + 1) hx
    have t2 := top_cell tt za.szt (i := 2 * X.toNat) (by omega)
    rw [b1', cl] at t1
    rw [b0, cu] at t2
    have em : lh = false → lm = 0 := by
      intro q
      cases e : tg n (matOf n l) (2 * X.toNat) (2 * X.toNat + 1) with
      | none => rw [e] at cl; simp [ceOf] at cl; omega
      | some v => rw [e, q] at cl; simp [ceOf] at cl
    have em2 : uh = false → um = 0 := by
      intro q
      cases e : tg n (matOf n l) (2 * X.toNat + 1) (2 * X.toNat) with
      | none => rw [e] at cu; simp [ceOf] at cu; omega
      | some v => rw [e, q] at cu; simp [ceOf] at cu
    have lb : lm.natAbs ≤ 1099511627776 := by
      cases e : tg n (matOf n l) (2 * X.toNat) (2 * X.toNat + 1) with
      | none => rw [e] at cl; simp [ceOf] at cl; omega
      | some v => have := za.szt _ _ (show 2 * X.toNat < n by omega) hx v e; rw [e] at cl; simp [ceOf] at cl; omega
    have ev : Value.agg #[.bool b1, .bool b2, .int .i64 i1, .int .i64 i2] = rngV ⟨uh, um.tdiv 2⟩ ⟨lh, lm.tdiv 2⟩ := by
      rw [← hsv]
      unfold spanV rngV
      rw [t1, t2]
      cases lh <;> cases uh <;> simp_all
    rw [ev]
    have hq : (lm.tdiv 2).natAbs ≤ 1099511627776 := by
      rw [Int.natAbs_tdiv]
      exact Nat.le_trans (Nat.div_le_self _ _) lb
    exact rangeOf_any uh lh (um.tdiv 2) (lm.tdiv 2) W (by omega)
  · intro h0 ka hok
    obtain ⟨e1, za, hx, cu, cl⟩ := cells h0 ka
    obtain ⟨hz0, x1, x2⟩ := f0 h0
    refine ⟨by omega, e1, by have := za.hn; omega, hx, rowO_len n _, za.hn, hu, hlo, ?_, ?_⟩
    · cases e : tg n (matOf n l) (2 * X.toNat + 1) (2 * X.toNat) with
      | none => rw [e] at cu; simp [ceOf] at cu; omega
      | some v => have := za.szt _ _ hx (show 2 * X.toNat < n by omega) v e; rw [e] at cu; simp [ceOf] at cu; omega
    · cases e : tg n (matOf n l) (2 * X.toNat) (2 * X.toNat + 1) with
      | none => rw [e] at cl; simp [ceOf] at cl; omega
      | some v => have := za.szt _ _ (show 2 * X.toNat < n by omega) hx v e; rw [e] at cl; simp [ceOf] at cl; omega
  · intro h1 h0 ka kb hoA hoB W z2 k2 c2 hk2 w1 w2
    obtain ⟨rfl, hNn, za, zb, hlm⟩ := near2 h0 ka kb
    by_cases h0n : n = 0
    · obtain rfl := zero h0n za
      rw [row0 _ h0n] at hk2
      obtain rfl : k2 = 0 := hk2
      refine (widened_zero x z2 c c2 W).mono ?_
      rintro e w' ⟨rfl, rfl⟩
      exact ⟨none, 0, rfl, .inl (tl0 _ h0n), Below.refl _ _⟩
    have one : 1 ≤ n * n := Nat.mul_le_mul (show 1 ≤ n by omega) (show 1 ≤ n by omega)
    have few := za.few
    obtain ⟨b, off, rfl, hR⟩ := row_of w1 (by rw [za.len]; exact one)
    obtain ⟨b', off', rfl, hQ⟩ := row_of w2 (by rw [rowO_len]; exact one)
    rw [rowO_len, ← za.len] at hk2
    subst hk2
    refine (widenedCells_any b off c b' off' c2 l.length l _ W hR hQ rfl (by show _ = _; rw [rowO_len, za.len]) (by omega)).mono ?_
    rintro e w' ⟨v, rfl, own, hb⟩
    have eL : widK l (rowOf n (tg n (matOf n m))) l.length = tellL n (widM n (matOf n l) (matOf n m)) := by
      rw [widM_ab hoB hoA]
      have sA := za.sz
      have sB := zb.szt
      rw [tellL_near (fun i j hi hj v hv => by
        unfold keptB at hv
        split at hv
        · cases hv
        · have := sA i j hi hj v hv; omega)]
      refine extO (by rw [widK_len]; exact za.len) fun p hp => ?_
      have n0 : 0 < n := Nat.pos_of_ne_zero (fun z => by subst z; simp at hp)
      rw [widK_at _ _ _ _ (by rw [za.len]; exact hp), rowO_get hp]
      have e : p / n * n + p % n = p := by rw [Nat.mul_comm]; exact Nat.div_add_mod _ _
      have el : l.getD p ceZ = ceOf (matOf n l (p / n) (p % n)) := by
        unfold matOf; rw [e]; exact za.good p (by rw [za.len]; exact hp)
      rw [el]
      exact widC_of (sA.ok (by omega) (Nat.div_lt_of_lt_mul hp) (Nat.mod_lt _ n0)) (sB.ok (by omega) (Nat.div_lt_of_lt_mul hp) (Nat.mod_lt _ n0))
    rw [eL] at own
    obtain ⟨x3, cap, rfl, hc⟩ := CsNew.of_own own (by rw [tellL_len, za.len])
    exact ⟨x3, cap, rfl, hc, hb⟩
  · intro h1 h0 ka kb
    obtain ⟨rfl, hNn, za, zb, hlm⟩ := near2 h0 ka kb
    refine ⟨by rw [tellL_len, za.len], fun hno => ?_, fun hnoA hoB => ?_⟩
    · rw [widM_a hno, tellL_near (za.sz.mono (by omega)), rowO_self za.len za.good]
    · rw [widM_b hoB hnoA, tellL_near zb.szt]
end Go.Proofs.YtkaodfmfkafjfaaDoor
