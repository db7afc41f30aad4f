/- Zones: widened, and the numbers of a variable: the statement. -/
import Derived.Test.YtbddccleagcjhaaDoorXk
import Derived.Test.YtbddccleagcjhaaDoorXg
import Derived.Test.YtbddccleagcjhaaDoorXb
import Derived.Test.YtbddccleagcjhaaDoorYr
namespace Go.Proofs.YtbddccleagcjhaaDoor
open Go.RowKit
set_option linter.unusedVariables false

theorem row_self {n : Nat} {l : List Ce} (hL : l.length = n * n) (hg : goodL l) : rowOf n (matOf n l) = l := by
  refine (ext_row hL fun p hp => ?_).symm
  have n0 : 0 < n := Nat.pos_of_ne_zero (fun z => by subst z; simp at hp)
  have e : p / n * n + p % n = p := by rw [Nat.mul_comm]; exact Nat.div_add_mod _ _
  unfold matOf
  rw [e]
  exact hg p (by omega)
theorem widC_of {a b : Bd} (ha : OkB a) (hb : OkB b) : widC (ceOf a) (ceOf b) = ceOf (keptB a b) := by
  unfold keptB
  cases a with
  | none =>
    have : ¬ encB none < encB b := by
      cases b with
      | none => omega
      | some v =>
        intro q
        have := (enc_le ha hb).1 (by omega)
        simp [leB] at this
    rw [if_neg this]
    simp [widC, ceOf]
  | some u =>
    have k := (enc_le hb ha)
    by_cases h : encB (some u) < encB b
    · rw [if_pos h]
      cases b with
      | none => simp [widC, ceOf, ceZ]
      | some v =>
        have : ¬ leB (some v) (some u) := fun q => by have := k.2 q; omega
        simp [leB] at this
        simp [widC, ceOf, ceZ, this]
    · rw [if_neg h]
      cases b with
      | none =>
        have := k.1 (by omega)
        simp [leB] at this
      | some v =>
        have := k.1 (by omega)
        simp [leB] at this
        have q : ¬ u < v := by omega
        simp [widC, ceOf, q]
theorem tell_small {b : Bd} (h : ∀ v, b = some v → v.natAbs ≤ 1099511627776) : tellI (encB b) = ceOf b := by
  unfold tellI
  cases b with
  | none => rfl
  | some v =>
    have := h v rfl
    show (if 1099511627776 < v then _ else (⟨true, if v < -1099511627776 then _ else v⟩ : Ce)) = _
    rw [if_neg (by omega), if_neg (by omega)]
    rfl

theorem CsNew.of_own {W w : World} {e : TypeId} {v : Value} {n : Nat} {l : List Ce} (h : w.ownsRow W.heap.size e 2 v n (cellsV l)) (hn : n = l.length) : ∃ x cap, v = .slice x n cap ∧ CsNew W w x l := by
  have lt := h.lt
  obtain ⟨h1, h2⟩ := h
  rcases h2 with ⟨rfl, h0⟩ | ⟨g, cap, cur, rfl, hb, hh, r⟩
  · have : l = [] := List.eq_nil_of_length_eq_zero (by omega)
    exact ⟨none, 0, by rw [h0], .inl this⟩
  · refine ⟨some ⟨g, 0, none⟩, cap, rfl, .inr ⟨g, rfl, hb, ?_⟩⟩
    exact (RowC.of_own ⟨h1, .inr ⟨g, cap, cur, rfl, hb, hh, r⟩⟩ hn (lt g (by simp [Value.ownBlock])).2).1
set_option maxHeartbeats 2000000 in
theorem zoneWiden_true (N : Int) (x : Option Addr) (c : Nat) (l : List Ce) (M : Int) (y : Option Addr) (c' : Nat) (m : List Ce) (X : Int) (a : Nat → Addr) (w : World) (hS : Sents w a)
    (hN : -9223372036854775808 ≤ N ∧ N ≤ 9223372036854775807) (hA : CsAt w x l) (hlen : l.length ≤ 9223372036854775807) (hma : ∀ A ∈ l, -9223372036854775808 ≤ A.m ∧ A.m ≤ 9223372036854775807)
    (hM : -9223372036854775808 ≤ M ∧ M ≤ 9223372036854775807) (hB : CsAt w y m) (hlen' : m.length ≤ 9223372036854775807) (hmb : ∀ A ∈ m, -9223372036854775808 ≤ A.m ∧ A.m ≤ 9223372036854775807)
    (hX : -9223372036854775808 ≤ X ∧ X ≤ 9223372036854775807) :
    Calls Tryd.prog 6 #[(.agg #[.int .i64 N, (.slice x l.length c)]), (.agg #[.int .i64 M, (.slice y m.length c')]), .int .i64 X] w fun e w' => e = .returned (.bool true) ∧ Below w.heap.size w w' := by
  obtain ⟨n, hn⟩ : ∃ n, n = nOf N := ⟨_, rfl⟩
  have hrng : 0 ≤ pairErr N l M m ∧ pairErr N l M m ≤ 8 := by rw [← twoZ_pair]; exact twoZ_range N l M m
  have hz := zErr_rng N l
  have hv : varErr N 1 X = if X < 1 ∨ N < X then 3 else 0 := by
    unfold varErr
    by_cases h : X < 1 ∨ N < X
    · rw [if_pos h]
    · rw [if_neg h]
  obtain ⟨b1, b2, i1, i2, hsv⟩ : ∃ (b1 b2 : Bool) (i1 i2 : Int), spanV (encM (fw (matOf n l) n) X.toNat 0) (encM (fw (matOf n l) n) 0 X.toNat) = Value.agg #[.bool b1, .bool b2, .int .i64 i1, .int .i64 i2] := ⟨_, _, _, _, rfl⟩
  obtain ⟨⟨uh, um⟩, hu⟩ : ∃ C, (rowOf n (fw (matOf n l) n)).getD X.toNat ceZ = C := ⟨_, rfl⟩
  obtain ⟨⟨lh, lm⟩, hlo⟩ : ∃ C, (rowOf n (fw (matOf n l) n)).getD (X.toNat * n) ceZ = C := ⟨_, rfl⟩
  have near1 : zErr N l = 0 → nearL l 1048576 = true → N + 1 = n ∧ NearZ n l := by
    intro h k
    have z := nearZ h k
    rw [← hn] at z
    exact ⟨by rw [hn]; exact (zErr_0 h).1, z⟩
  have near2 : pairErr N l M m = 0 → nearL l 1048576 = true → nearL m 1048576 = true → N = M ∧ N + 1 = n ∧ NearZ n l ∧ NearZ n m ∧ m.length = l.length := by
    intro h k k'
    obtain ⟨h1, h2, rfl⟩ := pairErr_0 h
    have z := nearZ h1 k
    have z' := nearZ h2 k'
    rw [← hn] at z z'
    exact ⟨rfl, by rw [hn]; exact (zErr_0 h1).1, z, z', by rw [z.len, z'.len]⟩
  have f0 : boErr N l X = 0 → zErr N l = 0 ∧ 1 ≤ X ∧ X ≤ N := by
    intro h
    unfold boErr at h
    rw [firstE_0, firstE_0] at h
    exact ⟨h.1, varErr_0 h.2.1⟩
  have szA : ∀ {l : List Ce}, NearZ n l → Sz n 1099511627776 (fw (matOf n l) n) := fun z => (z.sz.fw5 z.hn.2 (Nat.le_refl n)).mono (by omega)
  have pl : ∀ {X : Int}, NearZ n l → N + 1 = n → 1 ≤ X → X ≤ N → X.toNat < n * n ∧ X.toNat * n < n * n ∧ X.toNat / n = 0 ∧ X.toNat % n = X.toNat ∧ X.toNat * n / n = X.toNat ∧ X.toNat * n % n = 0 := by
    intro X z e h1 h2
    have hxn : X.toNat < n := by omega
    have := Nat.mul_lt_mul_of_pos_right hxn (show 0 < n by omega)
    have q := Nat.mul_le_mul (Nat.le_refl n) (show 1 ≤ n by omega)
    exact ⟨by omega, this, Nat.div_eq_of_lt hxn, Nat.mod_eq_of_lt hxn, Nat.mul_div_cancel _ (by omega), Nat.mul_mod_left _ _⟩
  refine widen_by N M X x y c c' l.length m.length l m a w hS hA hB rfl rfl hlen hlen' (pairErr N l M m) (zErr N l) (boErr N l X) hrng ?_ (decide (zErr N l = 0) && (decide (X < 1) || decide (N < X))) rfl ?_ (NoNeg n (fw (matOf n l) n)) (NoNeg n (fw (matOf n m) n)) (rowOf n (fw (matOf n l) n)) (rowOf n (fw (matOf n m) n)) (tellL n (widM n (matOf n l) (matOf n m))) b1 b2 i1 i2 uh lh um lm X.toNat n ?_ ?_ ?_ ?_ ?_ ?_ ?_ ?_ ?_ ?_
  · unfold boErr
    rw [hv]
    simp only [firstE]
    split
    · exact hz
    · split <;> split <;> omega
  · show boErr N l X = _
    unfold boErr
    rw [hv]
    simp only [firstE]
    by_cases h0 : zErr N l = 0
    · by_cases h1 : X < 1 ∨ N < X
      · have : (decide (X < 1) || decide (N < X)) = true := by simpa using h1
        simp [h0, h1, this]
      · have : (decide (X < 1) || decide (N < X)) = false := by simpa using h1
        simp [h0, h1, this]
    · simp [h0]
  · intro h1 h2 W k1 k2
    rw [← twoZ_pair]
    exact twoZones_any N M x y c l.length c' m.length l m W hN hM k1 k2 rfl rfl (by omega) (by omega)
  · intro h1 h2 W z1 z2 c1 c2 hs k1 k2
    have hg := widen_any N M z1 z2 l.length c1 m.length c2 l m a W hs.errs k1 k2 rfl rfl (by omega) (by omega)
    rw [← hn] at hg
    refine hg.mono ?_
    rintro e w' ⟨hb, h | h | h⟩
    · exact ⟨0, none, 0, 0, _, [], h.2, .inl rfl, ⟨rfl, by omega, .inl ⟨h.1, rfl, rfl, rfl⟩⟩, hb⟩
    · exact absurd h.2.1 id
    · obtain ⟨h0, _, g5, cp5, rfl, hg5, hR5⟩ := h
      have z4 : l.length = n * n := by rw [hn]; exact (zErr_0 (pairErr_0 h0).1).2.2.2.1
      exact ⟨N, _, _, cp5, 0, _, rfl, .inr ⟨g5, rfl, hg5, hR5⟩, ⟨by rw [tellL_len]; exact z4, by omega, .inr ⟨h0, rfl, rfl, rfl⟩⟩, hb⟩
  · intro h1 W k1
    exact zoneError_any N x c l.length l W hN k1 rfl (by omega)
  · intro h1 W z1 c1 hs k1
    have hg := bounds_any N X z1 c1 l.length l a W hs.errs k1 rfl (by omega)
    rw [← hn, hsv] at hg
    refine hg.mono ?_
    rintro e w' ⟨hb, h | h | h⟩
    · exact ⟨false, false, 0, 0, false, h.2, .inl ⟨h.1, rfl, rfl, rfl, rfl, rfl⟩, hb⟩
    · exact ⟨false, false, 0, 0, false, by rw [h.1, erV_0]; exact h.2.2, .inr (.inl ⟨h.1, h.2.1, rfl, rfl, rfl, rfl, rfl⟩), hb⟩
    · exact ⟨b1, b2, i1, i2, true, by rw [h.1, erV_0]; exact h.2.2, .inr (.inr ⟨h.1, h.2.1, rfl, rfl, rfl, rfl, rfl⟩), hb⟩
  · intro h1 h0 ka W k1
    have hz0 : zErr N l = 0 := by
      rcases h0 with h0 | h0
      · exact (pairErr_0 h0).1
      · exact (f0 h0).1
    obtain ⟨e1, za⟩ := near1 hz0 ka
    refine (closedNear_any N n l.length c x l W e1 za rfl k1).mono ?_
    rintro e w' ⟨hb, h | h⟩
    · exact ⟨0, none, 0, 0, false, [], h.2, .inl rfl, ⟨rfl, by omega, .inl ⟨h.1, rfl⟩⟩, hb⟩
    · obtain ⟨hok, g, cap, rfl, _, _, hR⟩ := h
      exact ⟨N, _, _, cap, true, _, rfl, .inr ⟨g, 0, rfl, hR⟩, ⟨by rw [rowOf_len', za.len], by omega, .inr ⟨hok, rfl, rfl, rfl⟩⟩, hb⟩
  · intro h2 h0 kb W k2
    obtain ⟨h1, hz2, rfl⟩ := pairErr_0 h0
    have zb := nearZ hz2 kb
    rw [← hn] at zb
    refine (closedNear_any N n m.length c' y m W (by rw [hn]; exact (zErr_0 hz2).1) zb rfl k2).mono ?_
    rintro e w' ⟨hb, h | h⟩
    · exact ⟨0, none, 0, 0, false, [], h.2, .inl rfl, ⟨rfl, by omega, .inl ⟨h.1, rfl⟩⟩, hb⟩
    · obtain ⟨hok, g, cap, rfl, _, _, hR⟩ := h
      exact ⟨N, _, _, cap, true, _, rfl, .inr ⟨g, 0, rfl, hR⟩, ⟨by rw [rowOf_len', zb.len], by omega, .inr ⟨hok, rfl, rfl, rfl⟩⟩, hb⟩
  · intro h0 ka hok W
    obtain ⟨hz0, x1, x2⟩ := f0 h0
    obtain ⟨e1, za⟩ := near1 hz0 ka
    obtain ⟨p1, p2, p3, p4, p5, p6⟩ := pl za e1 x1 x2
    rw [rowOf_get p1, p3, p4] at hu
    rw [rowOf_get p2, p5, p6] at hlo
    have sz := szA za
    have t1 : tellI (encM (fw (matOf n l) n) X.toNat 0) = ⟨lh, lm⟩ := by rw [← hlo]; exact tell_small (sz _ _ (by omega) (by omega))
    have t2 : tellI (encM (fw (matOf n l) n) 0 X.toNat) = ⟨uh, um⟩ := by rw [← hu]; exact tell_small (sz _ _ (by omega) (by omega))
    have lb : lm.natAbs ≤ 1099511627776 := by
      cases e : fw (matOf n l) n X.toNat 0 with
      | none => rw [e] at hlo; simp [ceOf] at hlo; omega
      | some v => have := sz _ _ (show X.toNat < n by omega) (show 0 < n by omega) v e; rw [e] at hlo; simp [ceOf] at hlo; omega
    have em : lh = false → lm = 0 := by
      intro q
      cases e : fw (matOf n l) n X.toNat 0 with
      | none => rw [e] at hlo; simp [ceOf] at hlo; omega
      | some v => rw [e, q] at hlo; simp [ceOf] at hlo
    have em2 : uh = false → um = 0 := by
      intro q
      cases e : fw (matOf n l) n 0 X.toNat with
      | none => rw [e] at hu; simp [ceOf] at hu; omega
      | some v => rw [e, q] at hu; simp [ceOf] at hu
    have ev : Value.agg #[.bool b1, .bool b2, .int .i64 i1, .int .i64 i2] = rngV ⟨uh, um⟩ ⟨lh, lm⟩ := by
      rw [← hsv]
      unfold spanV rngV
      rw [t1, t2]
      cases lh <;> cases uh <;> simp_all
    rw [ev]
    exact rangeOf_any uh lh um lm W (by omega)
  · intro h0 ka hok
    obtain ⟨hz0, x1, x2⟩ := f0 h0
    obtain ⟨e1, za⟩ := near1 hz0 ka
    obtain ⟨p1, p2, _⟩ := pl za e1 x1 x2
    exact ⟨by omega, e1, p1, p2, rowOf_len' n _, za.hn.2, hu, hlo⟩
  · intro h1 h0 ka kb hoA hoB W z2 k2 c2 hk2 w1 w2
    obtain ⟨rfl, hNn, za, zb, hlm⟩ := near2 h0 ka kb
    obtain ⟨b, off, rfl, hR⟩ := w1.row za.one
    obtain ⟨b', off', rfl, hQ⟩ := w2.row (by rw [rowOf_len', ← za.len]; exact za.one)
    rw [rowOf_len', ← za.len] at hk2
    subst hk2
    refine (widenedCells_any b off c b' off' c2 l.length l _ W hR hQ rfl (by show _ = _; rw [rowOf_len', za.len]) (by omega)).mono ?_
    rintro e w' ⟨v, rfl, own, hb⟩
    have eL : widK l (rowOf n (fw (matOf n m) n)) l.length = tellL n (widM n (matOf n l) (matOf n m)) := by
      rw [widM_ab hoB hoA]
      have sA := za.sz
      have sB := szA zb
      rw [tellL_near (fun i j hi hj v hv => by
        unfold keptB at hv
        split at hv
        · cases hv
        · have := sA i j hi hj v hv; omega)]
      refine ext_row (by rw [widK_len]; exact za.len) fun p hp => ?_
      have n0 : 0 < n := Nat.pos_of_ne_zero (fun z => by subst z; simp at hp)
      rw [widK_at _ _ _ _ (by rw [za.len]; exact hp), rowOf_get hp]
      have e : p / n * n + p % n = p := by rw [Nat.mul_comm]; exact Nat.div_add_mod _ _
      have el : l.getD p ceZ = ceOf (matOf n l (p / n) (p % n)) := by
        unfold matOf; rw [e]; exact za.good p (by rw [za.len]; exact hp)
      rw [el]
      exact widC_of (sA.ok (by omega) (Nat.div_lt_of_lt_mul hp) (Nat.mod_lt _ n0)) (sB.ok (by omega) (Nat.div_lt_of_lt_mul hp) (Nat.mod_lt _ n0))
    rw [eL] at own
    obtain ⟨x3, cap, rfl, hc⟩ := CsNew.of_own own (by rw [tellL_len, za.len])
    exact ⟨x3, cap, rfl, hc, hb⟩
  · intro h1 h0 ka kb
    obtain ⟨rfl, hNn, za, zb, hlm⟩ := near2 h0 ka kb
    refine ⟨by rw [tellL_len, za.len], fun hno => ?_, fun hnoA hoB => ?_⟩
    · rw [widM_a hno, tellL_near (za.sz.mono (by omega)), row_self za.len za.good]
    · rw [widM_b hoB hnoA, tellL_near (szA zb)]
end Go.Proofs.YtbddccleagcjhaaDoor
