/- Zones: joins, meets, what lies in what: of the program. -/
import Derived.Test.YtkngedinomngbaaDoorXf
import Derived.Test.YtkngedinomngbaaDoorXa
import Derived.Test.YtkngedinomngbaaDoorXd
import Derived.Test.YtkngedinomngbaaDoorZi
namespace Go.Proofs.YtkngedinomngbaaDoor
open Go.RowKit
set_option linter.unusedVariables false

theorem twoZ_pair (N M : Int) (l m : List Ce) : twoZ N l M m = pairErr N l M m := by
  unfold twoZ pairErr
  show (if zErr N l = 0 then (if zErr M m = 0 then (if N = M then 0 else 3) else zErr M m) else zErr N l) = _
  simp only [firstE]
  by_cases h1 : zErr N l = 0
  · by_cases h2 : zErr M m = 0
    · by_cases h3 : N = M <;> simp [h1, h2, h3]
    · simp [h1, h2]
  · simp [h1]

/-- What a near zone that is right is. -/
structure NearZ (n : Nat) (l : List Ce) : Prop where
  hn : 1 ≤ n ∧ n ≤ 5
  len : l.length = n * n
  good : goodL l
  small : ∀ i, i < l.length → (l.getD i ceZ).m.natAbs ≤ 1048576
theorem nearZ {N : Int} {l : List Ce} (h : zErr N l = 0) (k : nearL l 1048576 = true) : NearZ (nOf N) l := by
  obtain ⟨z1, z2, z3, z4, z5, z6⟩ := zErr_0 h
  exact ⟨⟨z2, z3⟩, z4, z5, by simpa using near_size' k⟩
theorem NearZ.sz {n : Nat} {l : List Ce} (h : NearZ n l) : Sz n 1048576 (matOf n l) := sz_mat h.len h.small
theorem NearZ.row {n : Nat} {l : List Ce} (h : NearZ n l) : tellL n (fw (matOf n l) n) = rowOf n (fw (matOf n l) n) := tellL_near ((h.sz.fw5 h.hn.2 (Nat.le_refl n)).mono (by omega))
theorem NearZ.one {n : Nat} {l : List Ce} (h : NearZ n l) : 1 ≤ l.length := by rw [h.len]; exact Nat.mul_le_mul h.hn.1 h.hn.1
theorem NearZ.few {n : Nat} {l : List Ce} (h : NearZ n l) : l.length ≤ 25 := by rw [h.len]; exact Nat.mul_le_mul h.hn.2 h.hn.2

/-- The reference's closing of a near zone. -/
theorem closedNear_any (N : Int) (n len c : Nat) (x : Option Addr) (l : List Ce) (W : World) (hN : N + 1 = n) (h : NearZ n l) (hl : Hid (len = l.length)) (hA : CsAt W x l) :
    Calls Tryd.prog 24 #[(.agg #[.int .i64 N, (.slice x len c)])] W fun e w' => NrPost W N len (NoNeg n (fw (matOf n l) n)) (rowOf n (fw (matOf n l) n)) e w' := by
  obtain ⟨b, off, rfl, hR⟩ := hA.row h.one
  refine (closedZone_any N n b off c len l W hN h.hn hR hl (by show _ = _; rw [hl.out]; exact h.len)).mono ?_
  obtain ⟨r1, r2⟩ := closed_row h.hn.2 h.len h.good h.small
  rintro e w' ⟨hb, ⟨hneg, rfl⟩ | ⟨hpos', g, cap, rfl, hg, hF, hR'⟩⟩
  · exact ⟨hb, .inl ⟨fun h => r1.1 hneg (fw_some.2 h), rfl⟩⟩
  · have hyes : NoNeg n (fw (matOf n l) n) := by
      apply Classical.byContradiction
      intro h
      obtain ⟨i, hi, hlt⟩ := r1.2 (fun hx => h (fw_some.1 hx))
      have := hpos' i hi
      omega
    rw [r2 (fw_some.2 hyes)] at hR'
    exact ⟨hb, .inr ⟨hyes, g, cap, rfl, hg, hF, hR'⟩⟩

theorem rowOf_len' (n : Nat) (d : Mat) : (rowOf n d).length = n * n := rowOf_len n d
theorem rowOf_get {n : Nat} {d : Mat} {p : Nat} (hp : p < n * n) : (rowOf n d).getD p ceZ = ceOf (d (p / n) (p % n)) := by simp [rowOf, hp]
theorem ext_row {n : Nat} {F : List Ce} {d : Mat} (hL : F.length = n * n) (h : ∀ p, p < n * n → F.getD p ceZ = ceOf (d (p / n) (p % n))) : F = rowOf n d := by
  apply List.ext_getElem?
  intro p
  by_cases hp : p < n * n
  · have e1 : F[p]? = some (F.getD p ceZ) := by simp [show p < F.length by omega]
    have e2 : (rowOf n d)[p]? = some ((rowOf n d).getD p ceZ) := by simp [show p < (rowOf n d).length by rw [rowOf_len']; exact hp]
    rw [e1, e2, h p hp, rowOf_get hp]
  · rw [List.getElem?_eq_none (by omega), List.getElem?_eq_none (by rw [rowOf_len']; omega)]

theorem joinC_of (a b : Bd) : joinC (ceOf a) (ceOf b) = ceOf (maxB a b) := by
  cases a with
  | none => simp [joinC, ceOf, maxB, ceZ]
  | some u =>
    cases b with
    | none => simp [joinC, ceOf, maxB, ceZ]
    | some v =>
      simp only [joinC, ceOf, maxB]
      by_cases h : u < v
      · simp [h]; omega
      · simp [h]; omega
/-- Two rows joined. -/
theorem joinK_row (n : Nat) (A B : Mat) : joinK (rowOf n A) (rowOf n B) (n * n) = rowOf n (fun i j => maxB (A i j) (B i j)) := by
  refine ext_row (by rw [joinK_len, rowOf_len']) fun p hp => ?_
  rw [joinK_at _ _ _ _ (by rw [rowOf_len']; omega), if_pos hp, rowOf_get hp, rowOf_get hp, joinC_of]

theorem metC_bd {a b : Ce} (hb : b = ceOf b.bd) : (metC a b).bd = minB a.bd b.bd := by
  unfold metC
  cases e : b.h with
  | false =>
    have : b.bd = none := by unfold Ce.bd; rw [e]; rfl
    rw [this]; simp; cases a.bd <;> rfl
  | true =>
    have : b.bd = some b.m := by unfold Ce.bd; rw [e]; rfl
    rw [this, if_pos rfl, lowC_bd]
theorem metC_good {a b : Ce} (ha : a = ceOf a.bd) : metC a b = ceOf (metC a b).bd := by
  unfold metC
  split
  · unfold lowC
    split
    · exact ha
    · simp [Ce.bd, ceOf]
  · exact ha
theorem metC_small {a b : Ce} {B : Nat} (ha : a.m.natAbs ≤ B) (hb : b.m.natAbs ≤ B) : (metC a b).m.natAbs ≤ B := by
  unfold metC
  split
  · unfold lowC
    split
    · exact ha
    · exact hb
  · exact ha
theorem NearZ.met {n : Nat} {l m : List Ce} (h : NearZ n l) (k : NearZ n m) : NearZ n (metK l m l.length) ∧ ∀ i j, i < n → j < n → matOf n (metK l m l.length) i j = With2 minB (matOf n l) (matOf n m) i j := by
  have at_ : ∀ i, i < l.length → (metK l m l.length).getD i ceZ = metC (l.getD i ceZ) (m.getD i ceZ) := fun i hi => by rw [metK_at _ _ _ _ (Nat.le_refl _), if_pos hi]
  have hlm : l.length = m.length := by rw [h.len, k.len]
  refine ⟨⟨h.hn, by rw [metK_len]; exact h.len, ?_, ?_⟩, ?_⟩
  · intro i hi
    rw [metK_len] at hi
    rw [at_ i hi]
    exact metC_good (h.good i hi)
  · intro i hi
    rw [metK_len] at hi
    rw [at_ i hi]
    exact metC_small (h.small i hi) (k.small i (by omega))
  · intro i j hi hj
    have hp : i * n + j < l.length := by rw [h.len]; exact idx_in hi hj
    unfold matOf With2
    rw [at_ _ hp]
    exact metC_bd (k.good _ (by omega))

theorem fw_cong {n : Nat} {c d : Mat} (h : ∀ i j, i < n → j < n → c i j = d i j) : (NoNeg n (fw c n) ↔ NoNeg n (fw d n)) ∧ tellL n (fw c n) = tellL n (fw d n) ∧ rowOf n (fw c n) = rowOf n (fw d n) := by
  have e := fw_congr h n (Nat.le_refl n)
  refine ⟨⟨fun k i hi => by rw [← e i i hi hi]; exact k i hi, fun k i hi => by rw [e i i hi hi]; exact k i hi⟩, tellL_congr e, ?_⟩
  refine ext_row (rowOf_len' n _) fun p hp => ?_
  have n0 : 0 < n := Nat.pos_of_ne_zero (fun z => by subst z; simp at hp)
  rw [rowOf_get hp, e _ _ (Nat.div_lt_of_lt_mul hp) (Nat.mod_lt _ n0)]

theorem inC_of {a : Bd} {b : Ce} (ha : OkB a) (hb : OkB b.bd) : inC (ceOf a) b ↔ encB a ≤ encB b.bd := by
  rw [enc_le ha hb]
  unfold inC Ce.bd
  cases e : b.h with
  | false => cases a <;> simp [leB]
  | true => cases a <;> simp [leB, ceOf]
theorem near_in {n : Nat} {l m : List Ce} (h : NearZ n l) (k : NearZ n m) : ((NoNeg n (fw (matOf n l) n) → ∀ i, i < n * n → inC ((rowOf n (fw (matOf n l) n)).getD i ceZ) (m.getD i ceZ)) ↔ wiB n (matOf n l) (matOf n m) = true) := by
  have key : ∀ p, p < n * n → (inC ((rowOf n (fw (matOf n l) n)).getD p ceZ) (m.getD p ceZ) ↔ encM (fw (matOf n l) n) (p / n) (p % n) ≤ encM (matOf n m) (p / n) (p % n)) := by
    intro p hp
    have n0 : 0 < n := Nat.pos_of_ne_zero (fun z => by subst z; simp at hp)
    have hi := Nat.div_lt_of_lt_mul hp
    have hj := Nat.mod_lt p n0
    have e : p / n * n + p % n = p := by rw [Nat.mul_comm]; exact Nat.div_add_mod _ _
    rw [rowOf_get hp]
    have o1 : OkB (fw (matOf n l) n (p / n) (p % n)) := (h.sz.fw5 h.hn.2 (Nat.le_refl n)).ok (by omega) hi hj
    have o2 : OkB (matOf n m (p / n) (p % n)) := k.sz.ok (by omega) hi hj
    have e2 : matOf n m (p / n) (p % n) = (m.getD p ceZ).bd := by unfold matOf; rw [e]
    rw [e2] at o2
    show _ ↔ encB _ ≤ encB (matOf n m (p / n) (p % n))
    rw [e2]
    exact inC_of o1 o2
  unfold wiB
  by_cases hN : NoNeg n (fw (matOf n l) n)
  · rw [nnB_yes hN]
    unfold inB
    simp only [Bool.not_true, Bool.false_or, decide_eq_true_iff]
    exact ⟨fun hh p hp => (key p hp).1 (hh hN p hp), fun hh _ p hp => (key p hp).2 (hh p hp)⟩
  · rw [nnB_no hN]
    simp [hN]

theorem zoneLattice_true (N : Int) (x : Option Addr) (c : Nat) (l : List Ce) (M : Int) (y : Option Addr) (c' : Nat) (m : List Ce) (a : Nat → Addr) (w : World) (hS : Sents w a)
    (hN : -9223372036854775808 ≤ N ∧ N ≤ 9223372036854775807) (hA : CsAt w x l) (hlen : l.length ≤ 9223372036854775807) (hma : ∀ A ∈ l, -9223372036854775808 ≤ A.m ∧ A.m ≤ 9223372036854775807)
    (hM : -9223372036854775808 ≤ M ∧ M ≤ 9223372036854775807) (hB : CsAt w y m) (hlen' : m.length ≤ 9223372036854775807) (hmb : ∀ A ∈ m, -9223372036854775808 ≤ A.m ∧ A.m ≤ 9223372036854775807) :
    Calls Tryd.prog 4 #[(.agg #[.int .i64 N, (.slice x l.length c)]), (.agg #[.int .i64 M, (.slice y m.length c')])] w fun e w' => e = .returned (.bool true) ∧ Below w.heap.size w w' := by
  obtain ⟨n, hn⟩ : ∃ n, n = nOf N := ⟨_, rfl⟩
  have hrng : 0 ≤ pairErr N l M m ∧ pairErr N l M m ≤ 8 := by rw [← twoZ_pair]; exact twoZ_range N l M m
  have near2 : pairErr N l M m = 0 → nearL l 1048576 = true → nearL m 1048576 = true → N = M ∧ N + 1 = n ∧ NearZ n l ∧ NearZ n m ∧ m.length = l.length := by
    intro h k k'
    obtain ⟨h1, h2, rfl⟩ := pairErr_0 h
    have z := nearZ h1 k
    have z' := nearZ h2 k'
    rw [← hn] at z z'
    exact ⟨rfl, by rw [hn]; exact (zErr_0 h1).1, z, z', by rw [z.len, z'.len]⟩
  refine lattice_by N M x y c c' l.length m.length l m a w hS hA hB rfl rfl hlen hlen' (pairErr N l M m) hrng (NoNeg n (fw (matOf n l) n)) (NoNeg n (fw (matOf n m) n)) (NoNeg n (fw (With2 minB (matOf n l) (matOf n m)) n)) (tellL n (joinM n (matOf n l) (matOf n m))) (tellL n (fw (With2 minB (matOf n l) (matOf n m)) n)) (metK l m l.length) (wiB n (matOf n l) (matOf n m)) ?_ ?_ ?_ ?_ ?_ ?_ ?_ ?_
  · intro h1 h2 W k1 k2
    rw [← twoZ_pair]
    exact twoZones_any N M x y c l.length c' m.length l m W hN hM k1 k2 rfl rfl (by omega) (by omega)
  · intro h1 h2 W z1 z2 c1 c2 hs k1 k2
    have hg := join_any N M z1 z2 l.length c1 m.length c2 l m a W hs.errs (hs.cell 3 (by omega)) k1 k2 rfl rfl (by omega) (by omega)
    rw [← hn] at hg
    refine hg.mono ?_
    rintro e w' ⟨hb, h | h | h⟩
    · exact ⟨0, none, 0, 0, _, [], h.2, .inl rfl, ⟨rfl, by omega, .inl ⟨h.1, rfl, rfl, rfl⟩⟩, hb⟩
    · exact ⟨0, none, 0, 0, 4, [], h.2.2, .inl rfl, ⟨rfl, by omega, .inr ⟨h.1, .inl ⟨h.2.1.1, h.2.1.2, rfl, rfl, rfl⟩⟩⟩, hb⟩
    · obtain ⟨h0, hem, g5, cp5, rfl, hg5, hR5⟩ := h
      have z4 : l.length = n * n := by rw [hn]; exact (zErr_0 (pairErr_0 h0).1).2.2.2.1
      refine ⟨N, _, _, cp5, 0, _, rfl, .inr ⟨g5, rfl, hg5, hR5⟩, ⟨by rw [tellL_len]; exact z4, by omega, .inr ⟨h0, .inr ⟨?_, rfl, rfl, rfl⟩⟩⟩, hb⟩
      apply Classical.byContradiction
      intro k
      exact hem ⟨fun q => k (.inl q), fun q => k (.inr q)⟩
  · intro h1 h2 W z1 z2 c1 c2 hs k1 k2
    have hg := meet_any N M z1 z2 l.length c1 m.length c2 l m a W hs.errs k1 k2 rfl rfl (by omega) (by omega)
    rw [← hn] at hg
    refine hg.mono ?_
    rintro e w' ⟨hb, h | h | h⟩
    · exact ⟨0, none, 0, 0, false, _, [], h.2, .inl rfl, ⟨rfl, by omega, .inl ⟨h.1, rfl, rfl, rfl, rfl⟩⟩, hb⟩
    · exact ⟨0, none, 0, 0, false, 0, [], h.2.2, .inl rfl, ⟨rfl, by omega, .inr ⟨h.1, rfl, .inl ⟨h.2.1, rfl, rfl, rfl⟩⟩⟩, hb⟩
    · obtain ⟨h0, hok, g5, cp5, rfl, hg5, hR5⟩ := h
      have z4 : l.length = n * n := by rw [hn]; exact (zErr_0 (pairErr_0 h0).1).2.2.2.1
      exact ⟨N, _, _, cp5, true, 0, _, rfl, .inr ⟨g5, rfl, hg5, hR5⟩, ⟨by rw [tellL_len]; exact z4, by omega, .inr ⟨h0, rfl, .inr ⟨hok, rfl, rfl, rfl⟩⟩⟩, hb⟩
  · intro h1 h2 W z1 z2 c1 c2 hs k1 k2
    have hg := zwithin_any N M z1 z2 l.length c1 m.length c2 l m a W hs.errs k1 k2 rfl rfl (by omega) (by omega)
    rw [← hn] at hg
    refine hg.mono ?_
    rintro e w' ⟨hb, h | h⟩
    · exact ⟨false, _, h.2, rfl, fun _ => rfl, fun k => absurd k h.1, hb⟩
    · exact ⟨_, 0, h.2, h.1.symm, fun k => absurd h.1 k, fun _ => rfl, hb⟩
  · intro h1 h2 h0 ka kb W k1 k2
    obtain ⟨rfl, hNn, za, zb, hlm⟩ := near2 h0 ka kb
    rw [hlm]
    refine (joinedZone_any N x y l.length c c' l m (rowOf n (fw (matOf n l) n)) (rowOf n (fw (matOf n m) n)) (NoNeg n (fw (matOf n l) n)) (NoNeg n (fw (matOf n m) n)) W k1 k2 (by show _ = _; rw [rowOf_len', za.len]) (by show _ = _; rw [rowOf_len', za.len]) (by omega)
      (fun W h => closedNear_any N n l.length c x l W hNn za rfl h) (fun W h => closedNear_any N n l.length c' y m W hNn zb (by show _ = _; rw [hlm]) h)).mono ?_
    have rJ : tellL n (fun i j => maxB (fw (matOf n l) n i j) (fw (matOf n m) n i j)) = rowOf n (fun i j => maxB (fw (matOf n l) n i j) (fw (matOf n m) n i j)) := by
      apply tellL_near
      have s1 := za.sz.fw5 za.hn.2 (Nat.le_refl n)
      have s2 := zb.sz.fw5 zb.hn.2 (Nat.le_refl n)
      intro i j hi hj v hv
      have t1 := s1 i j hi hj
      have t2 := s2 i j hi hj
      cases e1 : fw (matOf n l) n i j with
      | none => simp [e1, maxB] at hv
      | some u =>
        cases e2 : fw (matOf n m) n i j with
        | none => simp [e1, e2, maxB] at hv
        | some u' =>
          simp [e1, e2, maxB] at hv
          have := t1 u e1
          have := t2 u' e2
          omega
    rintro e w' ⟨hb, h | h⟩
    · exact ⟨0, none, 0, 0, false, [], h.2.2, .inl rfl, ⟨rfl, by omega, .inl ⟨h.1, h.2.1, rfl⟩⟩, hb⟩
    · obtain ⟨hok, g, cap, L, rfl, hR, hL⟩ := h
      have eL : L = tellL n (joinM n (matOf n l) (matOf n m)) := by
        rcases hL with ⟨q1, rfl⟩ | ⟨q1, q2, rfl⟩ | ⟨q1, q2, rfl⟩
        · rw [joinM_b q1, zb.row]
        · rw [joinM_a q1 q2, za.row]
        · rw [joinM_ab q1 q2, za.len, joinK_row, rJ]
      exact ⟨N, _, _, cap, true, L, rfl, .inr ⟨g, 0, rfl, hR⟩, ⟨by rw [eL, tellL_len, za.len], by omega, .inr ⟨hok, rfl, rfl, eL⟩⟩, hb⟩
  · intro h1 h2 h0 ka kb W k1 k2
    obtain ⟨rfl, hNn, za, zb, hlm⟩ := near2 h0 ka kb
    obtain ⟨b, off, rfl, hR⟩ := k1.row za.one
    obtain ⟨b', off', rfl, hQ⟩ := k2.row zb.one
    have := za.one
    rw [hlm]
    refine (metZone_any N b off c b' off' c' l.length l m W hR hQ rfl (by show _ = _; rw [hlm]) (by omega)).mono ?_
    rintro e w' ⟨hb, g, cap, rfl, hR'⟩
    exact ⟨_, _, rfl, .inr ⟨g, 0, rfl, hR'⟩, hb⟩
  · intro h1 h2 h0 ka kb W x7 c7 hc7
    obtain ⟨rfl, hNn, za, zb, hlm⟩ := near2 h0 ka kb
    obtain ⟨zm, em⟩ := za.met zb
    obtain ⟨f1, f2, f3⟩ := fw_cong em
    refine (closedNear_any N n l.length c7 x7 _ W hNn zm (by show _ = _; rw [metK_len]) hc7).mono ?_
    rintro e w' ⟨hb, h | h⟩
    · exact ⟨0, none, 0, 0, false, [], h.2, .inl rfl, ⟨rfl, by omega, .inl ⟨fun q => h.1 (f1.2 q), rfl, rfl, rfl⟩⟩, hb⟩
    · obtain ⟨hok, g, cap, rfl, _, _, hR⟩ := h
      rw [← zm.row, f2] at hR
      exact ⟨N, _, _, cap, true, _, rfl, .inr ⟨g, 0, rfl, hR⟩, ⟨by rw [tellL_len, za.len], by omega, .inr ⟨f1.1 hok, rfl, rfl, rfl⟩⟩, hb⟩
  · intro h1 h2 h0 ka kb W k1 k2
    obtain ⟨rfl, hNn, za, zb, hlm⟩ := near2 h0 ka kb
    obtain ⟨b', off', rfl, hQ⟩ := k2.row zb.one
    rw [hlm]
    refine (zoneIn_any N x b' off' l.length c c' l (rowOf n (fw (matOf n l) n)) m (NoNeg n (fw (matOf n l) n)) W k1 hQ (by show _ = _; rw [rowOf_len', za.len]) (by show _ = _; rw [hlm]) (by omega)
      (fun W h => closedNear_any N n l.length c x l W hNn za rfl h)).mono ?_
    rintro e w' ⟨r, rfl, hr, hb⟩
    rw [za.len] at hr
    have := hr.trans (near_in za zb)
    refine ⟨?_, hb⟩
    cases r <;> cases hh : wiB n (matOf n l) (matOf n m) <;> simp [hh] at this ⊢
end Go.Proofs.YtkngedinomngbaaDoor
