/- Zones: a variable forgotten, moved, bounded: the statement. -/
import Derived.Test.YtkngedinomngbaaDoorXr
import Derived.Test.YtkngedinomngbaaDoorXg
import Derived.Test.YtkngedinomngbaaDoorYz
import Derived.Test.YtkngedinomngbaaDoorYl
namespace Go.Proofs.YtkngedinomngbaaDoor
open Go.RowKit
set_option linter.unusedVariables false

/-- A row with one cell lowered, as a square. -/
theorem mat_low {n : Nat} {l : List Ce} (hl : l.length = n * n) {i j : Nat} (hi : i < n) (hj : j < n) (c : Int) (p q : Nat) (hp : p < n) (hq : q < n) : matOf n (lowL l (i * n + j) c) p q = grdM (matOf n l) i j c p q := by
  have hx : i * n + j < l.length := by rw [hl]; exact idx_in hi hj
  unfold matOf lowL grdM setM
  rw [getD_set hx]
  by_cases e : p = i ∧ q = j
  · obtain ⟨rfl, rfl⟩ := e
    rw [if_pos rfl, if_pos ⟨rfl, rfl⟩, lowC_bd]
  · rw [if_neg e, if_neg]
    intro h
    exact e ((idx_inj hq hj).1 h)
theorem NearZ.low {n : Nat} {l : List Ce} (h : NearZ n l) {k : Nat} (hk : k < l.length) {c : Int} (hc : c.natAbs ≤ 1048576) : NearZ n (lowL l k c) := by
  refine ⟨h.hn, by rw [lowL_len]; exact h.len, ?_, ?_⟩
  · intro i hi
    rw [lowL_len] at hi
    unfold lowL
    rw [getD_set hk]
    by_cases e : i = k
    · rw [if_pos e]
      unfold lowC
      split
      · exact h.good k hk
      · rfl
    · rw [if_neg e]; exact h.good i hi
  · intro i hi
    rw [lowL_len] at hi
    unfold lowL
    rw [getD_set hk]
    by_cases e : i = k
    · rw [if_pos e]
      unfold lowC
      split
      · exact h.small k hk
      · exact hc
    · rw [if_neg e]; exact h.small i hi
theorem good_row (n : Nat) (d : Mat) : goodL (rowOf n d) := by
  intro p hp
  rw [rowOf_len'] at hp
  rw [rowOf_get hp]
  cases d (p / n) (p % n) <;> rfl
theorem mv_cong {n : Nat} {d e : Mat} (h : ∀ i j, i < n → j < n → d i j = e i j) {x y : Nat} (hy : y < n) (c : Int) : ∀ i j, i < n → j < n → mvM d x y c i j = mvM e x y c i j := by
  intro i j hi hj
  have s : ∀ k, k < n → stI x y k < n := fun k hk => by unfold stI; split <;> omega
  unfold mvM
  rw [h _ _ (s i hi) (s j hj)]
theorem row_cong {n : Nat} {d e : Mat} (h : ∀ i j, i < n → j < n → d i j = e i j) : rowOf n d = rowOf n e := by
  refine ext_row (rowOf_len' n _) fun p hp => ?_
  have n0 : 0 < n := Nat.pos_of_ne_zero (fun z => by subst z; simp at hp)
  rw [rowOf_get hp, h _ _ (Nat.div_lt_of_lt_mul hp) (Nat.mod_lt _ n0)]
theorem wo_sz {n m x : Nat} {d : Mat} (h : Sz n m d) : Sz n m (woM d x) := by
  intro i j hi hj v hv
  unfold woM at hv
  split at hv
  · cases hv
  · exact h i j hi hj v hv
theorem mv_sz {n m x y : Nat} {d : Mat} {c : Int} (h : Sz n m d) (hy : y < n) (hc : c.natAbs ≤ 1048576) : Sz n (m + 2097152) (mvM d x y c) := by
  intro i j hi hj v hv
  have s : ∀ k, k < n → stI x y k < n := fun k hk => by unfold stI; split <;> omega
  have t : ∀ k, (shI x c k).natAbs ≤ 1048576 := fun k => by unfold shI; split <;> omega
  unfold mvM at hv
  have t1 := t i
  have t2 := t j
  cases e : d (stI x y i) (stI x y j) with
  | none => rw [e] at hv; cases hv
  | some u =>
    have := h _ _ (s i hi) (s j hj) u e
    rw [e] at hv
    simp [addB] at hv
    omega
theorem closed_cong {n : Nat} {d e : Mat} (h : ∀ i j, i < n → j < n → d i j = e i j) (k : Closed n d) : Closed n e := by
  obtain ⟨k1, k2⟩ := k
  refine ⟨fun i hi => ?_, fun i j m hi hj hm => ?_⟩
  · rw [← h i i hi hi]; exact k1 i hi
  · rw [← h i j hi hj, ← h i m hi hm, ← h m j hm hj]; exact k2 i j m hi hj hm

set_option maxHeartbeats 2000000 in
theorem zoneChanges_true (N : Int) (s : Option Addr) (c0 : Nat) (l : List Ce) (xv yv c : Int) (a : Nat → Addr) (w : World) (hS : Sents w a)
    (hN : -9223372036854775808 ≤ N ∧ N ≤ 9223372036854775807) (hA : CsAt w s l) (hlen : l.length ≤ 9223372036854775807) (hma : ∀ A ∈ l, -9223372036854775808 ≤ A.m ∧ A.m ≤ 9223372036854775807)
    (hx : -9223372036854775808 ≤ xv ∧ xv ≤ 9223372036854775807) (hy : -9223372036854775808 ≤ yv ∧ yv ≤ 9223372036854775807) (hc : -9223372036854775808 ≤ c ∧ c ≤ 9223372036854775807) :
    Calls Tryd.prog 5 #[(.agg #[.int .i64 N, (.slice s l.length c0)]), .int .i64 xv, .int .i64 yv, .int .i64 c] w fun e w' => e = .returned (.bool true) ∧ Below w.heap.size w w' := by
  obtain ⟨n, hn⟩ : ∃ n, n = nOf N := ⟨_, rfl⟩
  have hz := zErr_rng N l
  have near1 : zErr N l = 0 → nearL l 1048576 = true → N + 1 = n ∧ NearZ n l := by
    intro h k
    have z := nearZ h k
    rw [← hn] at z
    exact ⟨by rw [hn]; exact (zErr_0 h).1, z⟩
  have hv : ∀ f x : Int, varErr N f x = if x < f ∨ N < x then 3 else 0 := fun f x => rfl
  have hnm : numErr c = if farB c 1099511627776 = true then 2 else 0 := rfl
  have far20 : farB c 1048576 = false → c.natAbs ≤ 1048576 := fun h => by
    simp [farB] at h
    omega
  have szA : NearZ n l → Sz n 33554432 (fw (matOf n l) n) := fun z => (z.sz.fw5 z.hn.2 (Nat.le_refl n))
  have ans : ∀ {F : Int} {ok : Prop} {LF : List Ce} {W : World} {e : Ending} {w' : World}, (F = 0 → zErr N l = 0) → LF.length = n * n → ZrPost W a F N l.length ok LF e w' → l.length ≤ 100 → AnsZ a F N ok LF W e w' := by
    rintro F ok LF W e w' hz0 hLF ⟨hb, h | h | h⟩ h100
    · exact ⟨0, none, 0, 0, false, [], h.2, .inl rfl, ⟨rfl, by omega, .inl ⟨h.1, rfl, rfl, rfl⟩⟩, hb⟩
    · exact ⟨0, none, 0, 0, false, [], by rw [h.1, erV_0]; exact h.2.2, .inl rfl, ⟨rfl, by omega, .inr (.inl ⟨h.1, h.2.1, rfl, rfl, rfl⟩)⟩, hb⟩
    · obtain ⟨h0, hok, g, cp, rfl, hg, hR⟩ := h
      have z4 : l.length = n * n := by rw [hn]; exact (zErr_0 (hz0 h0)).2.2.2.1
      exact ⟨N, _, _, cp, true, _, by rw [h0, erV_0], .inr ⟨g, 0, rfl, hR⟩, ⟨by rw [hLF, z4], by omega, .inr (.inr ⟨h0, hok, rfl, rfl, rfl⟩)⟩, hb⟩
  refine changes_by N xv yv c s c0 l.length l a w hS hA rfl hlen (zErr N l) (foErr N l xv) (asErr N l xv yv c) (guErr N l xv yv c) hz ?_ ?_ ?_ (NoNeg n (fw (matOf n l) n)) (NoNeg n (fw (grdM (matOf n l) xv.toNat yv.toNat c) n)) (rowOf n (fw (matOf n l) n)) (tellL n (woM (fw (matOf n l) n) xv.toNat)) (tellL n (mvM (fw (matOf n l) n) xv.toNat yv.toNat c)) (tellL n (fw (grdM (matOf n l) xv.toNat yv.toNat c) n)) (lowL l (xv.toNat * n + yv.toNat) c) (farB c 1099511627776) rfl ?_ ?_ ?_ ?_ ?_ ?_ ?_ ?_ ?_ ?_ ?_ ?_ ?_
  · unfold foErr
    simp only [firstE, hv]
    split
    · exact hz
    · split <;> split <;> omega
  · unfold asErr
    simp only [firstE, hv, hnm]
    split
    · exact hz
    · repeat' split
      all_goals omega
  · unfold guErr
    simp only [firstE, hv, hnm]
    split
    · exact hz
    · repeat' split
      all_goals omega
  · intro h
    unfold foErr asErr guErr
    simp only [firstE]
    rw [if_pos h, if_pos h, if_pos h]
    exact ⟨rfl, rfl, rfl⟩
  · intro h
    unfold foErr
    simp only [firstE, hv, h]
    by_cases h1 : xv < 1 ∨ N < xv <;> simp [h1]
  · intro h
    unfold asErr
    simp only [firstE, hv, hnm, h]
    by_cases h1 : xv < 1 ∨ N < xv
    · have h2 : xv < 1 ∨ N < xv ∨ yv < 0 ∨ N < yv := by omega
      simp [h1, h2]
    · by_cases h3 : yv < 0 ∨ N < yv
      · simp [h1, h3]
      · cases farB c 1099511627776 <;> simp [h1, h3]
  · intro h
    unfold guErr
    simp only [firstE, hv, hnm, h]
    by_cases h1 : xv < 0 ∨ N < xv
    · have h2 : xv < 0 ∨ N < xv ∨ yv < 0 ∨ N < yv := by omega
      simp [h1, h2]
    · by_cases h3 : yv < 0 ∨ N < yv
      · simp [h1, h3]
      · cases farB c 1099511627776 <;> simp [h1, h3]
  · intro h100 W k1
    exact zoneError_any N s c0 l.length l W hN k1 rfl (by omega)
  · intro h100 W y cy hs k1
    have hg := forget_any N xv y cy l.length l a W hs.errs k1 rfl (by omega)
    rw [← hn] at hg
    exact hg.mono fun e w' h => ans (fun h0 => by unfold foErr at h0; rw [firstE_0] at h0; exact h0.1) (tellL_len _ _) h h100
  · intro h100 W y cy hs k1
    have hg := assign_any N xv yv c y cy l.length l a W hs.errs k1 rfl (by omega)
    rw [← hn] at hg
    exact hg.mono fun e w' h => ans (fun h0 => by unfold asErr at h0; rw [firstE_0] at h0; exact h0.1) (tellL_len _ _) h h100
  · intro h100 W y cy hs k1
    have hg := guard_any N xv yv c y cy l.length l a W hs.errs k1 rfl (by omega)
    rw [← hn] at hg
    exact hg.mono fun e w' h => ans (fun h0 => by unfold guErr at h0; rw [firstE_0] at h0; exact h0.1) (tellL_len _ _) h h100
  · intro h100 h0 ka W k1
    obtain ⟨e1, za⟩ := near1 h0 ka
    refine (closedNear_any N n l.length c0 s l W e1 za rfl k1).mono ?_
    rintro e w' ⟨hb, h | h⟩
    · exact ⟨0, none, 0, 0, false, [], h.2, .inl rfl, ⟨rfl, by omega, .inl ⟨h.1, rfl⟩⟩, hb⟩
    · obtain ⟨hok, g, cap, rfl, _, _, hR⟩ := h
      exact ⟨N, _, _, cap, true, _, rfl, .inr ⟨g, 0, rfl, hR⟩, ⟨by rw [rowOf_len', za.len], by omega, .inr ⟨hok, rfl, rfl, rfl⟩⟩, hb⟩
  · intro h100 h0 hf ka hok W z k cz hk hz'
    obtain ⟨e1, za⟩ := near1 h0 ka
    unfold foErr at hf
    rw [firstE_0, firstE_0] at hf
    obtain ⟨x1, x2⟩ := varErr_0 hf.2.1
    have one : 1 ≤ (rowOf n (fw (matOf n l) n)).length := by rw [rowOf_len', ← za.len]; exact za.one
    obtain ⟨b, off, rfl, hR⟩ := hz'.row one
    obtain ⟨x', rfl⟩ : ∃ k : Nat, xv = k := ⟨xv.toNat, by omega⟩
    refine (freeZone_any N x' n b off cz k _ W hR hk (by show _ = _; rw [hk, rowOf_len']) za.hn e1 (by omega)).mono ?_
    rintro e w' ⟨hb, g, cap, rfl, hg, hR'⟩
    rw [fr_all (by omega), ← tellL_near ((wo_sz (szA za)).mono (by omega))] at hR'
    exact ⟨_, _, cap, rfl, .inr ⟨g, rfl, hg, hR'⟩, by show _ = _; rw [tellL_len, hk, rowOf_len'], hb⟩
  · intro h100 h0 hf ka kc hok W z k cz hk hz'
    obtain ⟨e1, za⟩ := near1 h0 ka
    unfold asErr at hf
    rw [firstE_0, firstE_0, firstE_0] at hf
    obtain ⟨x1, x2⟩ := varErr_0 hf.2.1
    obtain ⟨y1, y2⟩ := varErr_0 hf.2.2.1
    have one : 1 ≤ (rowOf n (fw (matOf n l) n)).length := by rw [rowOf_len', ← za.len]; exact za.one
    obtain ⟨b, off, rfl, hR⟩ := hz'.row one
    obtain ⟨x', rfl⟩ : ∃ k : Nat, xv = k := ⟨xv.toNat, by omega⟩
    obtain ⟨y', rfl⟩ : ∃ k : Nat, yv = k := ⟨yv.toNat, by omega⟩
    have em : ∀ i j, i < n → j < n → fw (matOf n l) n i j = matOf n (rowOf n (fw (matOf n l) n)) i j := fun i j hi hj => (mat_row hi hj).symm
    have hyn : y' < n := by omega
    refine (assignedZone_any N n b off cz k _ x' y' c W hR hk (by show _ = _; rw [hk, rowOf_len']) za.hn e1 (by omega) hyn (good_row n _) (closed_cong em (fw_closed hok)) (fun i j hi hj v hv => szA za i j hi hj v (by rw [em i j hi hj]; exact hv)) (far20 kc)).mono ?_
    rintro e w' ⟨hb, h | h⟩
    · exact absurd trivial h.1
    · obtain ⟨_, g, cap, rfl, hg, _, hR'⟩ := h
      rw [← row_cong (mv_cong em hyn c), ← tellL_near ((mv_sz (szA za) hyn (far20 kc)).mono (by omega))] at hR'
      exact ⟨_, _, cap, rfl, .inr ⟨g, rfl, hg, hR'⟩, by show _ = _; rw [tellL_len, hk, rowOf_len'], hb⟩
  · intro h100 h0 hf ka kc W k1
    obtain ⟨e1, za⟩ := near1 h0 ka
    unfold guErr at hf
    rw [firstE_0, firstE_0, firstE_0] at hf
    obtain ⟨x1, x2⟩ := varErr_0 hf.2.1
    obtain ⟨y1, y2⟩ := varErr_0 hf.2.2.1
    obtain ⟨b, off, rfl, hR⟩ := k1.row za.one
    obtain ⟨x', rfl⟩ : ∃ k : Nat, xv = k := ⟨xv.toNat, by omega⟩
    obtain ⟨y', rfl⟩ : ∃ k : Nat, yv = k := ⟨yv.toNat, by omega⟩
    refine (withCell_any N c x' y' n b off c0 l.length l W hR rfl (by show _ = _; exact za.len) za.hn e1 (by omega) (by omega)).mono ?_
    rintro e w' ⟨hb, g, cap, rfl, hR'⟩
    exact ⟨_, cap, rfl, .inr ⟨g, 0, rfl, hR'⟩, hb⟩
  · intro h100 h0 hf ka kc W z cz hz'
    obtain ⟨e1, za⟩ := near1 h0 ka
    unfold guErr at hf
    rw [firstE_0, firstE_0, firstE_0] at hf
    obtain ⟨x1, x2⟩ := varErr_0 hf.2.1
    obtain ⟨y1, y2⟩ := varErr_0 hf.2.2.1
    have hxn : xv.toNat < n := by omega
    have hyn : yv.toNat < n := by omega
    have hk : xv.toNat * n + yv.toNat < l.length := by rw [za.len]; exact idx_in hxn hyn
    have zl := za.low hk (far20 kc)
    obtain ⟨f1, f2, f3⟩ := fw_cong (mat_low za.len hxn hyn c)
    refine (closedNear_any N n l.length cz z _ W e1 zl (by show _ = _; rw [lowL_len]) hz').mono ?_
    rintro e w' ⟨hb, h | h⟩
    · exact ⟨0, none, 0, 0, false, [], h.2, .inl rfl, ⟨rfl, by omega, .inl ⟨fun k => h.1 (f1.2 k), rfl, rfl, rfl⟩⟩, hb⟩
    · obtain ⟨hok, g, cap, rfl, _, _, hR⟩ := h
      rw [← zl.row, f2] at hR
      exact ⟨N, _, _, cap, true, _, rfl, .inr ⟨g, 0, rfl, hR⟩, ⟨by rw [tellL_len, za.len], by omega, .inr ⟨f1.1 hok, rfl, rfl, rfl⟩⟩, hb⟩
end Go.Proofs.YtkngedinomngbaaDoor
