/- Octagons: a variable forgotten, moved: the statement. -/
import Derived.Test.YtofjjaabgfmnpaaDoorO10
import Derived.Test.YtofjjaabgfmnpaaDoorOo
import Derived.Test.YtofjjaabgfmnpaaDoorO4
import Derived.Test.YtofjjaabgfmnpaaDoorCards
import Derived.Test.YtofjjaabgfmnpaaDoorTie
import Derived.Test.YtofjjaabgfmnpaaDoorRx
import Derived.Test.YtofjjaabgfmnpaaDoorRq
import Derived.Test.YtofjjaabgfmnpaaDoorEt
import Derived.Stop.Joined
import Derived.SevenTiedAt
namespace Go.Proofs.YtofjjaabgfmnpaaDoor
open Go.RowKit
set_option linter.unusedVariables false

theorem csNew_ownO {W w : World} {e : TypeId} {v : Value} {n : Nat} {l : List Ce} (h : w.ownsRow W.heap.size e 2 v n (cellsV l)) (hn : n = l.length) : ∃ x cap, v = .slice x n cap ∧ CsNew W w x l := by
  have lt := h.lt
  obtain ⟨h1, h2⟩ := h
  rcases h2 with ⟨rfl, h0⟩ | ⟨g, cap, cur, rfl, hb, hh, r⟩
  · have : l = [] := List.eq_nil_of_length_eq_zero (by omega)
    exact ⟨none, 0, by rw [h0], .inl this⟩
  · refine ⟨some ⟨g, 0, none⟩, cap, rfl, .inr ⟨g, rfl, hb, ?_⟩⟩
    exact (RowC.of_own ⟨h1, .inr ⟨g, cap, cur, rfl, hb, hh, r⟩⟩ hn (lt g (by simp [Value.ownBlock])).2).1
theorem fE_z (es : List Int) : firstE (0 :: es) = firstE es := by simp [firstE]
theorem fE_n {e : Int} (h : e ≠ 0) (es : List Int) : firstE (e :: es) = e := by simp [firstE, h]
theorem wo_szO {n m x : Nat} {d : Mat} (h : Sz n m d) : Sz n m (woO d x) := by
  intro i j hi hj v hv
  unfold woO at hv
  split at hv
  · cases hv
  · exact h i j hi hj v hv
theorem fr_allO {n x : Nat} {d : Mat} : frO n (rowOf n d) x (n * n) = rowOf n (woO d x) := by
  refine extO (frO_len _ _ _ _) fun p hp => ?_
  rw [frO_at _ _ _ _ p hp, rowO_get hp]
  unfold wipB woO
  by_cases h : p / n ≠ p % n ∧ (p / n / 2 = x ∨ p % n / 2 = x)
  · rw [if_pos (decide_eq_true h), if_pos h]; rfl
  · rw [if_neg (fun k => h (of_decide_eq_true k)), if_neg h]
theorem gd_row (n : Nat) (d : Mat) : Gd (rowOf n d) := by
  intro p hp k
  rw [rowO_len] at hp
  rw [rowO_get hp] at k ⊢
  cases e : d (p / n) (p % n) with
  | none => rfl
  | some v => rw [e] at k; cases k
theorem inR_row {n m : Nat} {d : Mat} (h : Sz n m d) (hm : m ≤ 9223372036854775807) : InR (rowOf n d) := by
  intro p hp
  rw [rowO_len] at hp
  rw [rowO_get hp]
  have n0 : 0 < n := Nat.pos_of_ne_zero (fun z => by subst z; simp at hp)
  cases e : d (p / n) (p % n) with
  | none => decide
  | some v =>
    have := h _ _ (Nat.div_lt_of_lt_mul hp) (Nat.mod_lt _ n0) v e
    show -9223372036854775808 ≤ v ∧ v ≤ 9223372036854775807
    omega
theorem mat_rowO {n : Nat} {d : Mat} {i j : Nat} (hi : i < n) (hj : j < n) : matOf n (rowOf n d) i j = d i j := by
  unfold matOf
  rw [rowO_get (idx_in hi hj)]
  obtain ⟨e1, e2⟩ := div_at (i := i) hj
  rw [e1, e2]
  cases d i j <;> rfl
theorem tight_cong {n : Nat} {d e : Mat} (h : ∀ i j, i < n → j < n → d i j = e i j) (k : Tight n d) : Tight n e := by
  have he := k.even
  have top : ∀ i, i < n → topB e i = topB d i := fun i hi => by unfold topB; rw [h _ _ (bar_lt he hi) hi]
  refine ⟨he, ⟨fun i hi => ?_, fun i j m hi hj hm => ?_⟩, fun i j hi hj => ?_, fun i j hi hj => ?_, fun i v hi hv => ?_⟩
  · rw [← h i i hi hi]; exact k.clo.diag i hi
  · rw [← h i j hi hj, ← h i m hi hm, ← h m j hm hj]; exact k.clo.tri i j m hi hj hm
  · rw [← h i j hi hj, ← h _ _ (bar_lt he hj) (bar_lt he hi)]; exact k.coh i j hi hj
  · rw [← h i j hi hj, top _ (bar_lt he hi), top j hj]; exact k.str i j hi hj
  · rw [← h _ _ (bar_lt he hi) hi] at hv; exact k.par i v hi hv
theorem mv_congO {n x y : Nat} {d e : Mat} {s c : Int} (he : n % 2 = 0) (h : ∀ i j, i < n → j < n → d i j = e i j) (hy : 2 * y + 1 < n) : ∀ i j, i < n → j < n → mvO d x s y c i j = mvO e x s y c i j := by
  intro i j hi hj
  have ap : ∀ a b, oLt n a → oLt n b → apM d a b = apM e a b := by
    have top : ∀ i, i < n → topB d i = topB e i := fun i hi => by unfold topB; rw [h _ _ (bar_lt he hi) hi]
    intro a b ha hb
    cases a with
    | none =>
      cases b with
      | none => rfl
      | some j => exact top j hb
    | some i =>
      cases b with
      | none => exact top _ (bar_lt he ha)
      | some j => exact h i j ha hb
  unfold mvO
  rw [ap _ _ (stO_lt hy hi s) (stO_lt hy hj s)]
theorem row_congO {n : Nat} {d e : Mat} (h : ∀ i j, i < n → j < n → d i j = e i j) : rowOf n d = rowOf n e := by
  refine extO (rowO_len n _) fun p hp => ?_
  have n0 : 0 < n := Nat.pos_of_ne_zero (fun z => by subst z; simp at hp)
  rw [rowO_get hp, h _ _ (Nat.div_lt_of_lt_mul hp) (Nat.mod_lt _ n0)]
theorem mv_szO {n m x y : Nat} {d : Mat} {s c : Int} (he : n % 2 = 0) (h : Sz n m d) (hy : 2 * y + 1 < n) (hc : c.natAbs ≤ m) : Sz n (3 * m) (mvO d x s y c) := by
  intro i j hi hj v hv
  have shl : ∀ i, (shO x c i).natAbs ≤ m := fun i => by unfold shO; split; exact hc; split; omega; omega
  have apl : ∀ a b, oLt n a → oLt n b → ∀ v, apM d a b = some v → v.natAbs ≤ m := by
    have top : ∀ j, j < n → ∀ v, topB d j = some v → v.natAbs ≤ m := by
      intro j hj v hv
      unfold topB at hv
      cases e : d (bar j) j with
      | none => rw [e] at hv; cases hv
      | some u =>
        have := h _ _ (bar_lt he hj) hj u e
        rw [e] at hv
        simp [halfB] at hv
        omega
    intro a b ha hb v hv
    cases a with
    | none =>
      cases b with
      | none => have : (0 : Int) = v := by simpa [apM] using hv
                omega
      | some j => exact top j hb v hv
    | some i =>
      cases b with
      | none => exact top _ (bar_lt he ha) v hv
      | some j => exact h i j ha hb v hv
  unfold mvO at hv
  have a1 := shl i
  have a2 := shl j
  cases e : apM d (stO x s y i) (stO x s y j) with
  | none => rw [e] at hv; cases hv
  | some u =>
    have := apl _ _ (stO_lt hy hi s) (stO_lt hy hj s) u e
    rw [e] at hv
    simp [addB] at hv
    omega

set_option maxHeartbeats 2000000 in
theorem octChanges_true (N : Int) (s : Option Addr) (c0 : Nat) (l : List Ce) (xv sg yv c : Int) (a : Nat → Addr) (w : World) (hS : Sents w a)
    (hN : -9223372036854775808 ≤ N ∧ N ≤ 9223372036854775807) (hA : CsAt w s l) (hlen : l.length ≤ 9223372036854775807) (hma : ∀ A ∈ l, -9223372036854775808 ≤ A.m ∧ A.m ≤ 9223372036854775807)
    (hx : -9223372036854775808 ≤ xv ∧ xv ≤ 9223372036854775807) (hsg : -9223372036854775808 ≤ sg ∧ sg ≤ 9223372036854775807) (hy : -9223372036854775808 ≤ yv ∧ yv ≤ 9223372036854775807) (hc : -9223372036854775808 ≤ c ∧ c ≤ 9223372036854775807) :
    Calls Tryd.prog 5 #[(.agg #[.int .i64 N, (.slice s l.length c0)]), .int .i64 xv, .int .i64 sg, .int .i64 yv, .int .i64 c] w fun e w' => e = .returned (.bool true) ∧ Below w.heap.size w w' := by
  obtain ⟨n, hn⟩ : ∃ n, n = nOf N := ⟨_, rfl⟩
  have hz := zErr_rngO N l
  have near1 : zErr N l = 0 → nearL l 1048576 = true → 2 * N = n ∧ NearO n l := by
    intro h k
    have z := nearO h k
    rw [← hn] at z
    exact ⟨by rw [hn]; exact (zErr_0 h).1, z⟩
  have hnm : numErr c = if farB c 1099511627776 = true then 2 else 0 := rfl
  have vo1 : zErr N l = 0 → voErr N [xv] = if xv < 0 ∨ N ≤ xv then 3 else 0 := by
    intro h0
    obtain ⟨z1, z2, z3, z4, z5, z6⟩ := zErr_0 h0
    have hw : wrap64 (N - 1) = N - 1 := by unfold wrap64; omega
    unfold voErr varErr
    rw [hw]
    simp only [List.map]
    by_cases a1 : xv < 0 ∨ N - 1 < xv
    · rw [if_pos a1, if_pos (by omega)]; simp [firstE]
    · rw [if_neg a1, if_neg (by omega)]; simp [firstE]
  have vo2 : zErr N l = 0 → voErr N [xv, yv] = if xv < 0 ∨ N ≤ xv ∨ yv < 0 ∨ N ≤ yv then 3 else 0 := by
    intro h0
    obtain ⟨z1, z2, z3, z4, z5, z6⟩ := zErr_0 h0
    have hw : wrap64 (N - 1) = N - 1 := by unfold wrap64; omega
    unfold voErr varErr
    rw [hw]
    simp only [List.map]
    by_cases a1 : xv < 0 ∨ N - 1 < xv
    · have R : xv < 0 ∨ N ≤ xv ∨ yv < 0 ∨ N ≤ yv := by omega
      rw [if_pos a1, if_pos R]; simp [firstE]
    · rw [if_neg a1]
      by_cases a2 : yv < 0 ∨ N - 1 < yv
      · have R : xv < 0 ∨ N ≤ xv ∨ yv < 0 ∨ N ≤ yv := by omega
        rw [if_pos a2, if_pos R]; simp [firstE]
      · have R : ¬ (xv < 0 ∨ N ≤ xv ∨ yv < 0 ∨ N ≤ yv) := by omega
        rw [if_neg a2, if_neg R]; simp [firstE]
  have si1 : siErr [sg] = if sg < -1 ∨ 1 < sg then 3 else 0 := by
    unfold siErr
    simp only [List.map]
    by_cases a1 : sg < -1 ∨ 1 < sg
    · rw [if_pos a1]; simp [firstE]
    · rw [if_neg a1]; simp [firstE]
  have far20 : farB c 1048576 = false → c.natAbs ≤ 1048576 := fun h => by
    simp [farB] at h
    omega
  have szA : NearO n l → Sz n 536870912 (tg n (matOf n l)) := fun z => sz_tg z.sz z.hn z.he
  have ans : ∀ {F : Int} {ok : Prop} {LF : List Ce} {W : World} {e : Ending} {w' : World}, (F = 0 → zErr N l = 0) → LF.length = n * n → ZrPost W a F N l.length ok LF e w' → l.length ≤ 100 → AnsZ a F N ok LF W e w' := by
    rintro F ok LF W e w' hz0 hLF ⟨hb, h | h | h⟩ h100
    · exact ⟨0, none, 0, 0, false, [], h.2, .inl rfl, ⟨rfl, by omega, .inl ⟨h.1, rfl, rfl, rfl⟩⟩, hb⟩
    · exact ⟨0, none, 0, 0, false, [], by rw [h.1, erV_0]; exact h.2.2, .inl rfl, ⟨rfl, by omega, .inr (.inl ⟨h.1, h.2.1, rfl, rfl, rfl⟩)⟩, hb⟩
    · obtain ⟨h0, hok, g, cp, rfl, hg, hR⟩ := h
      have z4 : l.length = n * n := by rw [hn]; exact (zErr_0 (hz0 h0)).2.2.2.1
      exact ⟨N, _, _, cp, true, _, by rw [h0, erV_0], .inr ⟨g, 0, rfl, hR⟩, ⟨by rw [hLF, z4], by omega, .inr (.inr ⟨h0, hok, rfl, rfl, rfl⟩)⟩, hb⟩
  have f0 : foOErr N l xv = 0 → zErr N l = 0 := fun h => by unfold foOErr at h; rw [firstE_0] at h; exact h.1
  have g0 : asOErr N l xv sg yv c = 0 → zErr N l = 0 := fun h => by unfold asOErr at h; rw [firstE_0] at h; exact h.1
  refine changesO_by N xv sg yv c s c0 l.length l a w hS hA rfl hlen (zErr N l) (foOErr N l xv) (asOErr N l xv sg yv c) hz ?_ ?_ (NoNeg n (tg n (matOf n l))) (rowOf n (tg n (matOf n l))) (tellL n (woO (tg n (matOf n l)) xv.toNat)) (tellL n (mvO (tg n (matOf n l)) xv.toNat sg yv.toNat c)) (farB c 1099511627776) rfl ?_ ?_ ?_ ?_ ?_ ?_ ?_ ?_ ?_
  · unfold foOErr
    by_cases h : zErr N l = 0
    · rw [h, fE_z, vo1 h]
      by_cases k : xv < 0 ∨ N ≤ xv <;> simp [firstE, k]
    · rw [fE_n h]; exact hz
  · unfold asOErr
    by_cases h : zErr N l = 0
    · rw [h, fE_z, vo2 h, si1, hnm]
      simp only [firstE]
      repeat' split
      all_goals omega
    · rw [fE_n h]; exact hz
  · intro h
    unfold foOErr asOErr
    rw [fE_n h, fE_n h]
    exact ⟨rfl, rfl⟩
  · intro h
    unfold foOErr
    rw [h, fE_z, vo1 h]
    by_cases k : xv < 0 ∨ N ≤ xv <;> simp [firstE, k]
  · intro h
    unfold asOErr
    rw [h, fE_z, vo2 h, si1, hnm]
    by_cases k : xv < 0 ∨ N ≤ xv ∨ yv < 0 ∨ N ≤ yv
    · have R : xv < 0 ∨ N ≤ xv ∨ yv < 0 ∨ N ≤ yv ∨ sg < -1 ∨ 1 < sg := by omega
      rw [if_pos k, if_pos R, fE_n (by omega)]
    · rw [if_neg k, fE_z]
      by_cases k2 : sg < -1 ∨ 1 < sg
      · have R : xv < 0 ∨ N ≤ xv ∨ yv < 0 ∨ N ≤ yv ∨ sg < -1 ∨ 1 < sg := by omega
        rw [if_pos k2, if_pos R, fE_n (by omega)]
      · have R : ¬ (xv < 0 ∨ N ≤ xv ∨ yv < 0 ∨ N ≤ yv ∨ sg < -1 ∨ 1 < sg) := by omega
        rw [if_neg k2, if_neg R, fE_z]
        cases farB c 1099511627776 <;> simp [firstE]
  · intro h100 W k1
    exact octError_any N s c0 l.length l W hN k1 rfl (by omega)
  · intro h100 W y cy hs k1
    have hg := forgetO_any N xv y cy l.length l a W hs.errs k1 rfl (by omega)
    rw [← hn] at hg
    exact hg.mono fun e w' h => ans f0 (tellL_len _ _) h h100
  · intro h100 W y cy hs k1
    have hg := assignO_any N xv sg yv c y cy l.length l a W hs.errs k1 rfl (by omega)
    rw [← hn] at hg
    exact hg.mono fun e w' h => ans g0 (tellL_len _ _) h h100
  · intro h100 h0 ka W k1
    obtain ⟨e1, za⟩ := near1 h0 ka
    by_cases hz0 : n = 0
    · have hl0 : l.length = 0 := by rw [za.len, hz0]
      obtain rfl : l = [] := List.length_eq_zero_iff.1 hl0
      obtain rfl : N = 0 := by omega
      have hyes : NoNeg n (tg n (matOf n ([] : List Ce))) := fun i hi => by omega
      refine (closedOct_zero s c0 W).mono ?_
      rintro e w' ⟨x5, c5, rfl, hb⟩
      have e0 : rowOf n (tg n (matOf n ([] : List Ce))) = [] := List.length_eq_zero_iff.1 (by rw [rowO_len, hz0])
      exact ⟨0, x5, 0, c5, true, [], rfl, .inl rfl, ⟨rfl, by omega, .inr ⟨hyes, rfl, rfl, e0.symm⟩⟩, hb⟩
    · have h2n : 2 ≤ n := by have := za.he; omega
      refine (closedNearO N n l.length c0 s l W e1 h2n za rfl k1).mono ?_
      rintro e w' ⟨hb, h | h⟩
      · exact ⟨0, none, 0, 0, false, [], h.2, .inl rfl, ⟨rfl, by omega, .inl ⟨h.1, rfl⟩⟩, hb⟩
      · obtain ⟨hok, g, cap, rfl, _, _, hR⟩ := h
        exact ⟨N, _, _, cap, true, _, rfl, .inr ⟨g, 0, rfl, hR⟩, ⟨by rw [rowO_len, za.len], by omega, .inr ⟨hok, rfl, rfl, rfl⟩⟩, hb⟩
  · intro h100 h0 hf ka hok W z k cz hk hz'
    obtain ⟨e1, za⟩ := near1 h0 ka
    have hN4 : 0 ≤ N ∧ N ≤ 4 := by have := za.hn; omega
    unfold foOErr at hf
    rw [firstE_0, firstE_0] at hf
    obtain ⟨x1, x2⟩ := voErr_one hN4 hf.2.1
    have one : 1 ≤ (rowOf n (tg n (matOf n l))).length := by rw [rowO_len]; exact Nat.mul_le_mul (show 1 ≤ n by omega) (show 1 ≤ n by omega)
    obtain ⟨b, off, rfl, hR⟩ := row_of hz' one
    obtain ⟨x', rfl⟩ : ∃ k : Nat, xv = k := ⟨xv.toNat, by omega⟩
    have hkn : k = n * n := by rw [hk, rowO_len]
    refine (freeOct_any N x' n b off cz k _ W hR hk hkn ⟨by omega, za.hn⟩ e1).mono ?_
    rintro e w' ⟨v, rfl, own, hb⟩
    rw [fr_allO, ← tellL_near ((wo_szO (szA za)).mono (by omega))] at own
    obtain ⟨x3, cap, rfl, hC⟩ := csNew_ownO own (by rw [tellL_len, hkn])
    exact ⟨x3, k, cap, rfl, hC, by show _ = _; rw [tellL_len, hkn], hb⟩
  · intro h100 h0 hf ka kc hok W z k cz hk hz'
    obtain ⟨e1, za⟩ := near1 h0 ka
    have hN4 : 0 ≤ N ∧ N ≤ 4 := by have := za.hn; omega
    unfold asOErr at hf
    rw [firstE_0, firstE_0, firstE_0] at hf
    obtain ⟨⟨x1, x2⟩, y1, y2⟩ := voErr_two hN4 hf.2.1
    have hs := siErr_one hf.2.2.1
    have one : 1 ≤ (rowOf n (tg n (matOf n l))).length := by rw [rowO_len]; exact Nat.mul_le_mul (show 1 ≤ n by omega) (show 1 ≤ n by omega)
    obtain ⟨b, off, rfl, hR⟩ := row_of hz' one
    obtain ⟨x', rfl⟩ : ∃ k : Nat, xv = k := ⟨xv.toNat, by omega⟩
    obtain ⟨y', rfl⟩ : ∃ k : Nat, yv = k := ⟨yv.toNat, by omega⟩
    obtain ⟨x0, rfl⟩ : ∃ k : Nat, N = k := ⟨N.toNat, by omega⟩
    have hkn : k = n * n := by rw [hk, rowO_len]
    have em : ∀ i j, i < n → j < n → tg n (matOf n l) i j = matOf n (rowOf n (tg n (matOf n l))) i j := fun i j hi hj => (mat_rowO hi hj).symm
    have hyn : 2 * y' + 1 < n := by omega
    refine (assignedOct_any x0 n b off cz k _ x' y' sg c W hR hk hkn ⟨by omega, za.hn⟩ za.he e1 (by omega) hyn hs (gd_row n _) (inR_row (szA za) (by omega)) (tight_cong em (tg_tight za.he za.coh hok)) (fun i j hi hj v hv => by rw [← em i j hi hj] at hv; have := szA za i j hi hj v hv; omega) (far20 kc)).mono ?_
    rintro e w' ⟨hb, h | h⟩
    · exact absurd trivial h.1
    · obtain ⟨_, g, cap, rfl, hg, _, hR'⟩ := h
      rw [← row_congO (mv_congO za.he em hyn), ← tellL_near ((mv_szO za.he (szA za) hyn (by have := far20 kc; omega)).mono (by omega))] at hR'
      exact ⟨_, k, cap, rfl, .inr ⟨g, rfl, hg, hR'⟩, by show _ = _; rw [tellL_len, hkn], hb⟩
end Go.Proofs.YtofjjaabgfmnpaaDoor

/- 'rayconelaw2.OctChanges' answers true and leaves its arguments as they were: for any octagon, any two variables, any sign and any number; with the errors of package api as the program's own text lays them (the tie is given). -/
namespace Go.Proofs.YtofjjaabgfmnpaaDoor
open Go.ChangeShapes Go.WideShapes Go.ChangeAt Go.RowKit
set_option linter.unusedVariables false

theorem octChanges_met (os : Os) (args : Array Value) : laidMetH Tryd.prog [("errors.errorType", Rows.laid_errors_errorType), ("raycone/api.ErrText", Rows.laid_raycone_api_ErrText), ("raycone/api.ErrBound", Rows.laid_raycone_api_ErrBound), ("raycone/api.ErrShape", Rows.laid_raycone_api_ErrShape), ("raycone/api.ErrEmpty", Rows.laid_raycone_api_ErrEmpty), ("raycone/api.ErrName", Rows.laid_raycone_api_ErrName), ("raycone/api.ErrNone", Rows.laid_raycone_api_ErrNone), ("raycone/api.ErrOrder", Rows.laid_raycone_api_ErrOrder), ("raycone/api.ErrProof", Rows.laid_raycone_api_ErrProof)] ((World.doorLaid Tryd.prog 168 os).forCall (fun _ _ => 0) ⟨#[], args, []⟩).memory :=
  laidMetH_of_parts3 (fuel := 8) (laidMet_of_run' 8 (by kernel_rfl) (by kernel_rfl)) (by kernel_rfl) (by kernel_rfl)

set_option maxRecDepth 100000 in
theorem octChanges_lifted (os : Os) (started : os.Started) (H : Type) (enc : TypeId × Value → H) :
    ReturnsInHanded {} Tryd.checked os 5 .any (fun w args => (Rows.octChangesSpec.pre enc Tryd.prog Tryd.f5 [] false w args ∧ laidMetH Tryd.prog [("errors.errorType", Rows.laid_errors_errorType), ("raycone/api.ErrText", Rows.laid_raycone_api_ErrText), ("raycone/api.ErrBound", Rows.laid_raycone_api_ErrBound), ("raycone/api.ErrShape", Rows.laid_raycone_api_ErrShape), ("raycone/api.ErrEmpty", Rows.laid_raycone_api_ErrEmpty), ("raycone/api.ErrName", Rows.laid_raycone_api_ErrName), ("raycone/api.ErrNone", Rows.laid_raycone_api_ErrNone), ("raycone/api.ErrOrder", Rows.laid_raycone_api_ErrOrder), ("raycone/api.ErrProof", Rows.laid_raycone_api_ErrProof)] w) ∧ sizedMet enc Tryd.prog Tryd.f5 (OpenSpec.ofChange Rows.octChangesSpec) false w args)
      (Rows.octChangesSpec.post enc Tryd.prog Tryd.f5 false true false false) := by
  refine returnsInHanded_of_change_and (C := Tryd.checked) (X := fun w _ => laidMetH Tryd.prog [("errors.errorType", Rows.laid_errors_errorType), ("raycone/api.ErrText", Rows.laid_raycone_api_ErrText), ("raycone/api.ErrBound", Rows.laid_raycone_api_ErrBound), ("raycone/api.ErrShape", Rows.laid_raycone_api_ErrShape), ("raycone/api.ErrEmpty", Rows.laid_raycone_api_ErrEmpty), ("raycone/api.ErrName", Rows.laid_raycone_api_ErrName), ("raycone/api.ErrNone", Rows.laid_raycone_api_ErrNone), ("raycone/api.ErrOrder", Rows.laid_raycone_api_ErrOrder), ("raycone/api.ErrProof", Rows.laid_raycone_api_ErrProof)] w) (fun _ _ _ hh h => h.of_heap hh) own started (by kernel_rfl) Tryd.func5
    (ChangeSpec.witness_shaped (enc := enc) (C := Tryd.checked) (os := os) (X := fun w _ => laidMetH Tryd.prog [("errors.errorType", Rows.laid_errors_errorType), ("raycone/api.ErrText", Rows.laid_raycone_api_ErrText), ("raycone/api.ErrBound", Rows.laid_raycone_api_ErrBound), ("raycone/api.ErrShape", Rows.laid_raycone_api_ErrShape), ("raycone/api.ErrEmpty", Rows.laid_raycone_api_ErrEmpty), ("raycone/api.ErrName", Rows.laid_raycone_api_ErrName), ("raycone/api.ErrNone", Rows.laid_raycone_api_ErrNone), ("raycone/api.ErrOrder", Rows.laid_raycone_api_ErrOrder), ("raycone/api.ErrProof", Rows.laid_raycone_api_ErrProof)] w) false (World.doorLaid Tryd.prog 168 os) #[.agg #[.int .i64 0, .slice none 0 0], .int .i64 0, .int .i64 0, .int .i64 0, .int .i64 0] 8 rfl (World.shaped_of_RefB (by kernel_rfl) (by kernel_rfl)) (by kernel_rfl) (by kernel_rfl) (by kernel_rfl) (octChanges_met os _)) ?_
  intro W base args ds gs before hval0 hW _ _ hL _
  have hval : ∀ (j : Nat) t v, Tryd.f5.params[j]? = some t → args[j]? = some v → Value.okWide Tryd.prog W .any base t v := hval0
  have hW' := hW
  obtain ⟨p, q, hA0, hV, rfl, hfz, hnd⟩ := hW
  have hA : DataW.TrodAll enc Tryd.prog W 0 (fun _ => true) true Tryd.f5.params.toList args.toList ds p := hA0
  rw [Tryd.params5] at hA hval
  obtain ⟨v0, vs0, d0, ds0, p0, q0, hargs, rfl, rfl, h0, r0⟩ := trodAll_cons hA
  obtain ⟨v1, vs1, d1, ds1, p1, q1, rfl, rfl, rfl, h1, r1⟩ := trodAll_cons r0
  obtain ⟨v2, vs2, d2, ds2, p2, q2, rfl, rfl, rfl, h2, r2⟩ := trodAll_cons r1
  obtain ⟨v3, vs3, d3, ds3, p3, q3, rfl, rfl, rfl, h3, r3⟩ := trodAll_cons r2
  obtain ⟨v4, vs4, d4, ds4, p4, q4, rfl, rfl, rfl, h4, r4⟩ := trodAll_cons r3
  obtain ⟨rfl, rfl, rfl⟩ := trodAll_nil r4
  obtain rfl : args = #[v0, v1, v2, v3, v4] := by cases args; simp_all
  obtain ⟨rfl, rfl⟩ := trodVars_none hV
  obtain ⟨z0, a0, cap0, l0, rfl, zr0, hI0, hn0, hw0⟩ := open_zone (hval 0 24 v0 rfl rfl) h0
  have lt0 : ∀ x ∈ p0, x.block < W.heap.size := by obtain ⟨m, hm⟩ := h0; exact DataW.trod_lt m _ _ _ hm
  obtain ⟨n1, rfl, rfl, rfl, wf1⟩ := open_int Tryd.underlying3 (hval 1 3 v1 rfl rfl) h1
  obtain ⟨n2, rfl, rfl, rfl, wf2⟩ := open_int Tryd.underlying3 (hval 2 3 v2 rfl rfl) h2
  obtain ⟨n3, rfl, rfl, rfl, wf3⟩ := open_int Tryd.underlying3 (hval 3 3 v3 rfl rfl) h3
  obtain ⟨n4, rfl, rfl, rfl, wf4⟩ := open_int Tryd.underlying3 (hval 4 3 v4 rfl rfl) h4
  clear hA0 hval0
  obtain ⟨a, hS, _⟩ := sents_of_laid hL
  refine (octChanges_true z0 a0 cap0 l0 n1 n2 n3 n4 a W hS zr0 hI0 hn0 hw0 (wf_i64 wf1) (wf_i64 wf2) (wf_i64 wf3) (wf_i64 wf4)).mono fun e W' ⟨he, bel⟩ => ?_
  subst he
  exact ⟨_, rfl, _, _, _, [], _, [], hW', trodAll_mk1 (shut_bool Tryd.underlying4 _), (trodAll_cons_mk (Below.trod laidOut (by kernel_rfl) (of_decide_eq_true (by kernel_rfl)) h0 bel lt0) (trodAll_cons_mk (shut_int Tryd.underlying3 wf1) (trodAll_cons_mk (shut_int Tryd.underlying3 wf2) (trodAll_cons_mk (shut_int Tryd.underlying3 wf3) (trodAll_cons_mk (shut_int Tryd.underlying3 wf4) trodAll_mk0))))), rfl, bel.frame _, fun h => by cases h⟩

theorem octChanges_over : Rows.OctChangesSaid :=
  OpenClaim.holds_of_wide 5 Tryd.f5 rfl rfl rfl rfl rfl rfl rfl ⟨rfl, rfl, rfl, rfl, rfl⟩ rfl rfl rfl rfl rfl (by kernel_rfl) Tryd.func5 (by kernel_rfl)
    (of_decide_eq_true (by kernel_rfl)) (by unfold Func.isWrapper; rw [if_neg (of_decide_eq_false (by kernel_rfl))]; exact ⟨rfl, rfl⟩)
    (fun os started H enc _ => octChanges_lifted os started H enc)

theorem octChanges_card : Rows.OctChangesCardSaid :=
  Claim7.holds_tied_plain_at .later [] [.handle, .sentinel, .sentinel, .sentinel, .sentinel, .sentinel, .sentinel, .sentinel, .sentinel] true (true, "4d83a4c3399050abb786c82e7f6f4497c2828ffe9e03d65b9a70c3c8a225b276") true
    octChanges_over (fun _ h => by cases h) (by kernel_rfl) (fun _ h => by cases h) octChanges_row_tie rfl ⟨rfl, rfl⟩ (by kernel_rfl) rfl
    (fun f fn hf hfn => by
      obtain rfl : f = 5 := Option.some.inj ((show Tryd.prog.funcNamed "raycone/rayconelaw2.OctChanges" = some 5 by kernel_rfl).symm.trans hf) |>.symm
      obtain rfl : fn = Tryd.f5 := (Option.some.inj (Tryd.func5.symm.trans hfn)).symm
      exact ⟨by kernel_rfl, fun j t ht => by
        rw [Tryd.params5] at ht
        have h3 : t = 24 ∨ t = 3 := by
          rcases j with _ | _ | _ | _ | _ | j
          · simp at ht; simp [ht.symm]
          · simp at ht; simp [ht.symm]
          · simp at ht; simp [ht.symm]
          · simp at ht; simp [ht.symm]
          · simp at ht; simp [ht.symm]
          · simp at ht
        rcases h3 with rfl | rfl
        · exact (show Tryd.prog.wantsStandIn 24 = false by kernel_rfl)
        · exact (show Tryd.prog.wantsStandIn 3 = false by kernel_rfl)⟩)
    (by kernel_rfl)
#print axioms octChanges_card
end Go.Proofs.YtofjjaabgfmnpaaDoor
