/- Zones: each bound of a closed one is reached: the law's walk. -/
import Derived.Test.YthnjnieocjpjiaaDoorYl
import Derived.Test.YthnjnieocjpjiaaDoorYs
import Derived.Test.YthnjnieocjpjiaaDoorZo
import Derived.Deep.Cut
import Derived.Deep.DeepCutAuto
namespace Go.Proofs.YthnjnieocjpjiaaDoor
open Go.RowKit
set_option linter.unusedVariables false

theorem nearL_size {l : List Ce} {B : Int} (h : nearL l B = true) : ∀ i, i < l.length → (l.getD i ceZ).m.natAbs ≤ B.natAbs := by
  intro i hi
  have e : l.getD i ceZ = l[i] := by simp [hi]
  rw [e]
  unfold nearL at h
  simp only [Bool.not_eq_true', List.any_eq_false] at h
  have := h l[i] (List.getElem_mem hi)
  simp [farC, farB] at this
  omega

theorem St.setO {w W : World} {Z : World → Prop} {L : List (Nat × Nat × Value)} (h : St w W Z L) {p : Addr} (hb : w.heap.size ≤ p.block) (ap : Apart p.block L) (v : Value) : St w (W.setCell p v) Z L := by
  have b : Below w.heap.size W (W.setCell p v) := (Below.refl _ _).setCell hb _
  exact ⟨h.bel.trans b, h.hold.setCell ap v, h.cl _ _ h.sent b, h.cl⟩
theorem St.two {w W W2 : World} {Z : World → Prop} {L : List (Nat × Nat × Value)} {b : Nat} {v0 v1 : Value} (h : St w W Z L) (k : Holds W2 L) (hw : w.heap.size ≤ W2.heap.size) (hb : W2.heap.size ≤ b) : St w ((W.setCell ⟨b, 0, none⟩ v0).setCell ⟨b, 1, none⟩ v1) Z L :=
  (h.setO (p := ⟨b, 0, none⟩) (by dsimp only; omega) (k.apart_ge hb) v0).setO (p := ⟨b, 1, none⟩) (by dsimp only; omega) (k.apart_ge hb) v1

/-- What of a closed zone's bounds is reached. -/
theorem reach_facts {n : Nat} {m : Mat} (hn : n ≤ 5) (hS : Sz n 1048576 m) (hN : NoNeg n (fw m n)) {i j : Nat} (hi : i < n) (hj : j < n) (hij : i ≠ j) :
    tellC (fw m n i j) = ceOf (fw m n i j) ∧ (∀ v, fw m n i j = some v → v.natAbs ≤ 33554432) ∧
    (fw m n i j = none → NoNeg n (fw (grdM m j i (-33554432)) n)) ∧
    (∀ v, fw m n i j = some v → NoNeg n (fw (grdM m j i (-v)) n) ∧ ¬ NoNeg n (fw (grdM m j i (-v - 1)) n)) := by
  have hc := fw_closed hN
  have hsz := hS.fw5 hn (Nat.le_refl n)
  have put : ∀ (y : Nat → Int) (c : Int), Pt n (fw m n) y → y i - y j ≤ c → NoNeg n (fw (grdM m j i c) n) := by
    intro y c hy hyc
    refine fw_some.1 ⟨y, ?_⟩
    have hm := (fw_pt (Nat.le_refl n)).1 hy
    intro p q hp hq
    unfold grdM setM
    split
    · rename_i e
      obtain ⟨rfl, rfl⟩ := e
      exact okB_min (hm p q hp hq) (by simpa [okB] using hyc)
    · exact hm p q hp hq
  refine ⟨tell_near fun v hv => ?_, fun v hv => ?_, fun h0 => ?_, fun v hv => ⟨?_, ?_⟩⟩
  · have := hsz i j hi hj v hv; omega
  · have := hsz i j hi hj v hv; omega
  · obtain ⟨y, hy, hK⟩ := hc.free hi hj h0 33554432
    exact put y _ hy (by omega)
  · obtain ⟨y, hy, hK⟩ := hc.reach hi hj hv
    exact put y _ hy (by omega)
  · intro hN2
    obtain ⟨y, hy⟩ := fw_some.2 hN2
    have h1 := hy j i hj hi
    unfold grdM setM at h1
    rw [if_pos ⟨rfl, rfl⟩] at h1
    have h2 := okB_mono h1 (minB_right _ _)
    simp [okB] at h2
    have hm : Pt n m y := by
      intro p q hp hq
      have := hy p q hp hq
      unfold grdM setM at this
      split at this
      · rename_i e
        obtain ⟨rfl, rfl⟩ := e
        exact okB_mono this (minB_left _ _)
      · exact this
    have h3 := (fw_pt (Nat.le_refl n)).2 hm i j hi hj
    rw [hv] at h3
    simp [okB] at h3
    omega

set_option maxRecDepth 20000 in
set_option maxHeartbeats 8000000 in
theorem zoneReached_by (N i j : Int) (x : Option Addr) (c0 len : Nat) (l : List Ce) (a : Nat → Addr) (w : World) (hS : ErrS w a) (hA : CsAt w x l) (hl : Hid (len = l.length)) (hlen : len ≤ 9223372036854775807) :
    Calls Tryd.prog 7 #[(.agg #[.int .i64 N, (.slice x len c0)]), .int .i64 i, .int .i64 j] w fun e w' => e = .returned (.bool true) ∧ Below w.heap.size w w' := by
  have s0 := (St.startEC hS hA).box2 24 (.int .i64 N) (.slice x len c0)
  have HN : Hid (∀ W : World, CsAt W x l → Calls Tryd.prog 23 #[.slice x len c0] W fun e w' => e = .returned (.bool (decide (len ≤ 100) && nearL l 1048576)) ∧ w' = W) := fun W h => near_law x c0 len l W h hl hlen
  go_enter Tryd.func7, Tryd.ntmps7
  go_wp2_with fail
  refine (free_any a _ s0.sent.1).mono ?_
  rintro e w1 ⟨rfl, hb1⟩
  have s1 := s0.call hb1
  have q1 := s1.hold
  simp only [Holds, and_true] at q1
  clear s0 hb1 hS hA
  by_cases h100 : len ≤ 100
  rotate_left
  · have h100' : (100 : Int) < (len : Int) := by omega
    go_wp2_with fail
    go_ret
    exact ⟨rfl, s1.bel⟩
  have h100' : ¬ (100 : Int) < (len : Int) := by omega
  rw [decide_eq_true h100, Bool.true_and] at HN
  obtain ⟨nr, hnr⟩ : ∃ b, b = nearL l 1048576 := ⟨_, rfl⟩
  rw [← hnr] at HN
  have Hnr := hide hnr
  clear hnr
  go_wp2_with fail
  refine (HN.out _ s1.sent.2).mono ?_
  rintro e w2 ⟨rfl, hw2⟩
  rw [hw2]
  clear hw2 w2 HN
  cases nr
  · go_wp2_with fail
    go_ret
    exact ⟨rfl, s1.bel⟩
  have HZ : Hid (∀ W : World, CsAt W x l → Calls Tryd.prog 15 #[(.agg #[.int .i64 N, (.slice x len c0)])] W fun e w' => ∃ y cap, e = .returned (.agg #[.int .i64 N, (.slice y len cap)]) ∧ CsAt w' y l ∧ Below W.heap.size W w') := fun W h => zoneOf_any N x c0 len l W h hl (by omega)
  go_wp2_with fail
  refine (HZ.out _ s1.sent.2).mono ?_
  rintro e w2 ⟨y, cy, rfl, hy, hb2⟩
  have s2 := s1.call hb2
  have q2 := s2.hold
  simp only [Holds, and_true] at q2
  clear s1 q1 hb2
  go_wp2_with fail
  refine (close_any N y cy len l a _ s2.sent.1 hy hl (by omega)).mono ?_
  rintro e w3 ⟨hb3, h3⟩
  have s3 := s2.call hb3
  have q3 := s3.hold
  simp only [Holds, and_true] at q3
  clear s2 q2 hb3 hy
  rcases h3 with ⟨h0, rfl⟩ | ⟨h0, hno, rfl⟩ | ⟨h0, hok, g, cp, rfl, hg, hR⟩
  · rw [erV_ne h0]
    clear h0
    go_wp2_with fail
    go_ret
    exact ⟨rfl, s3.bel.alloc (by have := s3.bel.size; omega) _⟩
  · clear hno
    go_wp2_with fail
    go_ret
    exact ⟨rfl, s3.bel.alloc (by have := s3.bel.size; omega) _⟩
  obtain ⟨z1, z2, z3, z4, z5, z6⟩ := zErr_0 h0
  obtain ⟨n, hn⟩ : ∃ n, n = nOf N := ⟨_, rfl⟩
  rw [← hn] at z1 z2 z3 z4 hok hR
  have hSz : Sz n 1048576 (matOf n l) := sz_mat z4 (by simpa using nearL_size Hnr.out.symm)
  have hll : Hid (len = n * n) := by show _ = _; rw [hl.out]; exact z4
  have hmi : (n : Int) * (n : Int) = (len : Int) := by rw [hll.out, Int.natCast_mul]
  have hnn : (n : Int) ≤ 5 := by omega
  have hNn : 0 ≤ N ∧ N ≤ 4 := by omega
  have HG : Hid (∀ (W : World) (y : Option Addr) (cy : Nat) (c : Int), ErrS W a → CsAt W y l → guErr N l j i c = 0 → (NoNeg n (fw (grdM (matOf n l) j.toNat i.toNat c) n) → Calls Tryd.prog 35 #[(.agg #[.int .i64 N, (.slice y len cy)]), .int .i64 j, .int .i64 i, .int .i64 c] W fun e w' => ∃ g cp, e = .returned (.tuple #[(.agg #[.int .i64 N, (.slice (some ⟨g, 0, none⟩) len cp)]), .bool true, .nilIface]) ∧ Below W.heap.size W w') ∧ (¬ NoNeg n (fw (grdM (matOf n l) j.toNat i.toNat c) n) → Calls Tryd.prog 35 #[(.agg #[.int .i64 N, (.slice y len cy)]), .int .i64 j, .int .i64 i, .int .i64 c] W fun e w' => e = .returned (.tuple #[(.agg #[.int .i64 0, .slice none 0 0]), .bool false, .nilIface]) ∧ Below W.heap.size W w')) := by
    intro W y cy c h1 h2 h3
    have hg := guard_any N j i c y cy len l a W h1 h2 hl (by omega)
    rw [← hn] at hg
    refine ⟨fun hk => hg.mono ?_, fun hk => hg.mono ?_⟩
    · rintro e w' ⟨hb, h | h | h⟩
      · exact absurd h3 h.1
      · exact absurd hk h.2.1
      · obtain ⟨_, _, g, cp, rfl, _, _⟩ := h
        exact ⟨g, cp, rfl, hb⟩
    · rintro e w' ⟨hb, h | h | h⟩
      · exact absurd h3 h.1
      · exact ⟨h.2.2, hb⟩
      · exact absurd h.2.1 hk
  have s4 := s3.box2 30 (.int .i64 N) (.slice (some ⟨g, 0, none⟩) len cp)
  have q4 := s4.hold
  simp only [Holds, and_true] at q4
  have hbel4 := s4.bel
  have hglt := hR.lt
  by_cases i0 : i < 0
  · clear h0 hok hn
    go_wp2_with fail
    go_ret
    exact ⟨rfl, hbel4⟩
  by_cases j0 : j < 0
  · clear h0 hok hn
    go_wp2_with fail
    go_ret
    exact ⟨rfl, hbel4⟩
  by_cases iN : N < i
  · clear h0 hok hn
    go_wp2_with fail
    go_ret
    exact ⟨rfl, hbel4⟩
  by_cases jN : N < j
  · clear h0 hok hn
    go_wp2_with fail
    go_ret
    exact ⟨rfl, hbel4⟩
  by_cases hij : i = j
  · subst hij
    clear h0 hok hn
    go_wp2_with fail
    go_ret
    exact ⟨rfl, hbel4⟩
  have hijb : (i == j) = false := by simp [hij]
  obtain ⟨i', hi'⟩ : ∃ k : Nat, (k : Int) = i := ⟨i.toNat, by omega⟩
  obtain ⟨j', hj'⟩ : ∃ k : Nat, (k : Int) = j := ⟨j.toNat, by omega⟩
  have hi2 : i' < n := by omega
  have hj2 : j' < n := by omega
  obtain ⟨f1, f2, f3, f4⟩ := reach_facts z3 hSz hok hi2 hj2 (by omega)
  have ei : i.toNat = i' := by omega
  have ej : j.toNat = j' := by omega
  rw [ei, ej] at HG
  have hge : ∀ c : Int, c.natAbs ≤ 1099511627776 → guErr N l j i c = 0 := by
    intro c hc
    unfold guErr
    rw [firstE_0, firstE_0, firstE_0, firstE_0]
    refine ⟨h0, ?_, ?_, ?_, rfl⟩
    · unfold varErr; rw [if_neg (by omega)]
    · unfold varErr; rw [if_neg (by omega)]
    · unfold numErr; rw [if_neg (by simp [farB]; omega)]
  have Hge := hide hge
  obtain ⟨ik, hik⟩ : ∃ m : Nat, m = i' * n := ⟨_, rfl⟩
  obtain ⟨x1, hx1⟩ : ∃ m : Nat, m = ik + j' := ⟨_, rfl⟩
  have a1 : (i' : Int) * (n : Int) = (ik : Int) := by rw [hik, Int.natCast_mul]
  have a1' : i * (n : Int) = (ik : Int) := by rw [← hi']; exact a1
  have a3 : (ik : Int) + (j' : Int) = (x1 : Int) := by omega
  have a3' : (ik : Int) + j = (x1 : Int) := by omega
  have b1 : x1 < len := by rw [hll.out, hx1, hik]; exact idx_in hi2 hj2
  have b4 : (x1 : Int) < (len : Int) := by omega
  have hx2 : Hid ((tellL n (fw (matOf n l) n)).getD x1 ceZ = ceOf (fw (matOf n l) n i' j')) := by show _ = _; rw [hx1, hik, tellL_at hi2 hj2, f1]
  have hxl : x1 < (tellL n (fw (matOf n l) n)).length := by rw [tellL_len, ← hll.out]; exact b1
  obtain ⟨⟨ch, cm⟩, hc⟩ : ∃ C, C = ceOf (fw (matOf n l) n i' j') := ⟨_, rfl⟩
  have c1 : w3.cell? ⟨g, x1 * 2, none⟩ = some (.bool ch) := by have := hR.has x1 hxl; rw [hx2.out, ← hc, Nat.zero_add] at this; exact this
  have c2 : w3.cell? ⟨g, x1 * 2 + 1, none⟩ = some (.int .i64 cm) := by have := hR.most x1 hxl; rw [hx2.out, ← hc, Nat.zero_add] at this; exact this
  have s5 := s4.box2 71 (.bool ch) (.int .i64 cm)
  simp only [World.size_alloc] at s5
  cases hd : fw (matOf n l) n i' j' with
  | none =>
    rw [hd] at hc
    obtain ⟨rfl, rfl⟩ : ch = false ∧ cm = 0 := by simpa [ceOf] using hc
    have HG1 : Hid (∀ (W : World) (y : Option Addr) (cy : Nat), ErrS W a → CsAt W y l → Calls Tryd.prog 35 #[(.agg #[.int .i64 N, (.slice y len cy)]), .int .i64 j, .int .i64 i, .int .i64 (-33554432)] W fun e w' => ∃ g cp, e = .returned (.tuple #[(.agg #[.int .i64 N, (.slice (some ⟨g, 0, none⟩) len cp)]), .bool true, .nilIface]) ∧ Below W.heap.size W w') := fun W y cy h1 h2 => (HG.out W y cy _ h1 h2 (Hge.out _ (by omega))).1 (f3 hd)
    have q5 := s5.hold
    simp only [Holds, and_true] at q5
    clear hc hd f1 f2 f3 f4 HG hge Hge hR hx1 hik hx2 hxl h0 hok hn s3 s4 q4 hi' hj' ei ej hi2 hj2 hSz hll z2 z3 z4 z5 z6 hl
    go_wp2_with fail
    refine (HZ.out _ s5.sent.2).mono ?_
    rintro e w6 ⟨y6, c6, rfl, hy6, hb6⟩
    have s6 := s5.call hb6
    have q6 := s6.hold
    simp only [Holds, and_true] at q6
    clear s5 q5 hb6
    go_wp2_with fail
    refine (HG1.out _ y6 c6 s6.sent.1 hy6).mono ?_
    rintro e w7 ⟨g7, c7, rfl, hb7⟩
    have s7 := s6.call hb7
    have q7 := s7.hold
    simp only [Holds, and_true] at q7
    clear s6 q6 hb7
    go_wp2_with fail
    go_ret
    exact ⟨by first | rfl | exact ret_bool (by simp), s7.bel.alloc (by have := s7.bel.size; omega) _⟩
  | some v =>
    rw [hd] at hc
    obtain ⟨rfl, rfl⟩ : ch = true ∧ cm = v := by simpa [ceOf] using hc
    have hv := f2 cm hd
    have HG1 : Hid (∀ (W : World) (y : Option Addr) (cy : Nat) (z : Int), z = -cm → ErrS W a → CsAt W y l → Calls Tryd.prog 35 #[(.agg #[.int .i64 N, (.slice y len cy)]), .int .i64 j, .int .i64 i, .int .i64 z] W fun e w' => ∃ g cp, e = .returned (.tuple #[(.agg #[.int .i64 N, (.slice (some ⟨g, 0, none⟩) len cp)]), .bool true, .nilIface]) ∧ Below W.heap.size W w') := fun W y cy z hz h1 h2 => by
      subst hz; exact (HG.out W y cy _ h1 h2 (Hge.out _ (by omega))).1 (f4 cm hd).1
    have HG2 : Hid (∀ (W : World) (y : Option Addr) (cy : Nat) (z : Int), z = -cm - 1 → ErrS W a → CsAt W y l → Calls Tryd.prog 35 #[(.agg #[.int .i64 N, (.slice y len cy)]), .int .i64 j, .int .i64 i, .int .i64 z] W fun e w' => e = .returned (.tuple #[(.agg #[.int .i64 0, .slice none 0 0]), .bool false, .nilIface]) ∧ Below W.heap.size W w') := fun W y cy z hz h1 h2 => by
      subst hz; exact (HG.out W y cy _ h1 h2 (Hge.out _ (by omega))).2 (f4 cm hd).2
    have wn1 : IntKind.i64.wrap (-cm) = -cm := by unfold IntKind.wrap; simp [IntKind.signed, IntKind.bits]; omega
    have wn2 : IntKind.i64.wrap (-cm - 1) = -cm - 1 := by unfold IntKind.wrap; simp [IntKind.signed, IntKind.bits]; omega
    have q5 := s5.hold
    simp only [Holds, and_true] at q5
    clear hc hd f1 f2 f3 f4 HG hge Hge hR hx1 hik hx2 hxl h0 hok hn s3 s4 q4 hi' hj' ei ej hi2 hj2 hSz hll z2 z3 z4 z5 z6 hl hv
    go_upto_region 13 with fail
    obtain ⟨W5, hW5⟩ : ∃ W, W = (w3.alloc (.cells #[.int .i64 N, .slice (some ⟨g, 0, none⟩) len cp] 30)).alloc (.cells #[.bool true, .int .i64 cm] 71) := ⟨_, rfl⟩
    rw [← hW5] at s5 ⊢
    clear hW5 q5
    have q5 := s5.hold
    simp only [Holds, and_true] at q5
    clear q3
    go_cut [15, 9, 10] (fun t15 t9 t10 wx => t9 = .bool true ∧ t10 = .nilIface ∧ ∃ bd gd cd : Nat, t15 = .pointer (some ⟨bd, 0, none⟩) ∧ w.heap.size ≤ bd ∧ St w wx (EC a x l) ((bd, 0, Value.int .i64 N) :: (bd, 1, Value.slice (some ⟨gd, 0, none⟩) len cd) :: ((w3.heap.size + 1, 0, Value.bool true) :: (w3.heap.size + 1, 1, Value.int .i64 cm) :: (w3.heap.size, 0, Value.int .i64 N) :: (w3.heap.size, 1, Value.slice (some ⟨g, 0, none⟩) len cp) :: (w.heap.size, 0, Value.int .i64 N) :: (w.heap.size, 1, Value.slice x len c0) :: [])))
    case first =>
      have hwB := s5.bel.size
      have k2 := s5.hold
      go_region_held3 (fun w' => w'.cell? ⟨w3.heap.size + 1, 0, none⟩ = some (.bool true) ∧ w'.cell? ⟨w3.heap.size + 1, 1, none⟩ = some (.int .i64 cm) ∧ w'.cell? ⟨w3.heap.size, 0, none⟩ = some (.int .i64 N) ∧ w'.cell? ⟨w3.heap.size, 1, none⟩ = some (.slice (some ⟨g, 0, none⟩) len cp) ∧ w'.cell? ⟨w.heap.size, 0, none⟩ = some (.int .i64 N) ∧ w'.cell? ⟨w.heap.size, 1, none⟩ = some (.slice x len c0) ∧ St w w' (EC a x l) ((w3.heap.size + 1, 0, Value.bool true) :: (w3.heap.size + 1, 1, Value.int .i64 cm) :: (w3.heap.size, 0, Value.int .i64 N) :: (w3.heap.size, 1, Value.slice (some ⟨g, 0, none⟩) len cp) :: (w.heap.size, 0, Value.int .i64 N) :: (w.heap.size, 1, Value.slice x len c0) :: [])) (first | (exact keepSt (((w3.heap.size + 1, 0, Value.bool true) :: (w3.heap.size + 1, 1, Value.int .i64 cm) :: (w3.heap.size, 0, Value.int .i64 N) :: (w3.heap.size, 1, Value.slice (some ⟨g, 0, none⟩) len cp) :: (w.heap.size, 0, Value.int .i64 N) :: (w.heap.size, 1, Value.slice x len c0) :: [])) (by assumption) (by assumption)) | (exact keepSt (((w3.heap.size + 1, 0, Value.bool true) :: (w3.heap.size + 1, 1, Value.int .i64 cm) :: (w3.heap.size, 0, Value.int .i64 N) :: (w3.heap.size, 1, Value.slice (some ⟨g, 0, none⟩) len cp) :: (w.heap.size, 0, Value.int .i64 N) :: (w.heap.size, 1, Value.slice x len c0) :: [])) (Below.refl _ _).drew (by assumption)) | (exact keepSt (((w3.heap.size + 1, 0, Value.bool true) :: (w3.heap.size + 1, 1, Value.int .i64 cm) :: (w3.heap.size, 0, Value.int .i64 N) :: (w3.heap.size, 1, Value.slice (some ⟨g, 0, none⟩) len cp) :: (w.heap.size, 0, Value.int .i64 N) :: (w.heap.size, 1, Value.slice x len c0) :: [])) ((Below.refl _ _).alloc (Nat.le_refl _) _) (by assumption)) | (exact keepSt0 (((w3.heap.size + 1, 0, Value.bool true) :: (w3.heap.size + 1, 1, Value.int .i64 cm) :: (w3.heap.size, 0, Value.int .i64 N) :: (w3.heap.size, 1, Value.slice (some ⟨g, 0, none⟩) len cp) :: (w.heap.size, 0, Value.int .i64 N) :: (w.heap.size, 1, Value.slice x len c0) :: [])) (St.drew (by assumption))) | (exact keepSt0 (((w3.heap.size + 1, 0, Value.bool true) :: (w3.heap.size + 1, 1, Value.int .i64 cm) :: (w3.heap.size, 0, Value.int .i64 N) :: (w3.heap.size, 1, Value.slice (some ⟨g, 0, none⟩) len cp) :: (w.heap.size, 0, Value.int .i64 N) :: (w.heap.size, 1, Value.slice x len c0) :: [])) (s7.alloc _)) | (exact keepSt0 (((w3.heap.size + 1, 0, Value.bool true) :: (w3.heap.size + 1, 1, Value.int .i64 cm) :: (w3.heap.size, 0, Value.int .i64 N) :: (w3.heap.size, 1, Value.slice (some ⟨g, 0, none⟩) len cp) :: (w.heap.size, 0, Value.int .i64 N) :: (w.heap.size, 1, Value.slice x len c0) :: [])) (St.two s7 k2 hwB (by first | exact Nat.le_refl _ | exact hb6.size))) | (exact keepSt0 (((w3.heap.size + 1, 0, Value.bool true) :: (w3.heap.size + 1, 1, Value.int .i64 cm) :: (w3.heap.size, 0, Value.int .i64 N) :: (w3.heap.size, 1, Value.slice (some ⟨g, 0, none⟩) len cp) :: (w.heap.size, 0, Value.int .i64 N) :: (w.heap.size, 1, Value.slice x len c0) :: [])) (by assumption)))
        (first
          | (go_at_call 15; refine (HZ.out _ (keepEC2 (w := w) (a := a) ((w3.heap.size + 1, 0, Value.bool true) :: (w3.heap.size + 1, 1, Value.int .i64 cm) :: (w3.heap.size, 0, Value.int .i64 N) :: (w3.heap.size, 1, Value.slice (some ⟨g, 0, none⟩) len cp) :: (w.heap.size, 0, Value.int .i64 N) :: (w.heap.size, 1, Value.slice x len c0) :: []) (by assumption))).mono ?_; rintro e w6 ⟨y6, c6, rfl, hy6, hb6⟩; have s6 := (keepSt_st (w := w) (Z := EC a x l) ((w3.heap.size + 1, 0, Value.bool true) :: (w3.heap.size + 1, 1, Value.int .i64 cm) :: (w3.heap.size, 0, Value.int .i64 N) :: (w3.heap.size, 1, Value.slice (some ⟨g, 0, none⟩) len cp) :: (w.heap.size, 0, Value.int .i64 N) :: (w.heap.size, 1, Value.slice x len c0) :: []) (by assumption)).call hb6; first | (have hx6 := boxed2 hb6) | (have hx6 := boxed2' hb6) | skip)
          | (go_at_call 35; refine (HG1.out _ y6 c6 _ (by first | rfl | exact wn1) (keepEC1 (w := w) (x := x) (l := l) ((w3.heap.size + 1, 0, Value.bool true) :: (w3.heap.size + 1, 1, Value.int .i64 cm) :: (w3.heap.size, 0, Value.int .i64 N) :: (w3.heap.size, 1, Value.slice (some ⟨g, 0, none⟩) len cp) :: (w.heap.size, 0, Value.int .i64 N) :: (w.heap.size, 1, Value.slice x len c0) :: []) (by assumption)) (by first | exact hy6 | exact hy6.below ((Below.refl _ _).alloc (Nat.le_refl _) _).drew | exact hy6.below ((Below.refl _ _).alloc (Nat.le_refl _) _))).mono ?_; rintro e w7 ⟨g7, c7, rfl, hb7⟩; have s7 := (keepSt_st (w := w) (Z := EC a x l) ((w3.heap.size + 1, 0, Value.bool true) :: (w3.heap.size + 1, 1, Value.int .i64 cm) :: (w3.heap.size, 0, Value.int .i64 N) :: (w3.heap.size, 1, Value.slice (some ⟨g, 0, none⟩) len cp) :: (w.heap.size, 0, Value.int .i64 N) :: (w.heap.size, 1, Value.slice x len c0) :: []) (by assumption)).call hb7; first | (have hx7 := hx6.below hb7; clear hx6; have ho7 := hx7; simp only [Holds, and_true] at ho7) | (have hx7 := boxed2 hb7; have ho7 := hx7; simp only [Holds, and_true] at ho7) | (have hx7 := boxed2' hb7; have ho7 := hx7; simp only [Holds, and_true] at ho7) | skip))
      all_goals
        go_wp2_with fail
        go_meet
        case rel => first
          | exact ⟨rfl, rfl, _, g7, c7, rfl, s7.bel.size, s7.box2 30 _ _⟩
          | exact ⟨rfl, rfl, _, g7, c7, rfl, (by first | exact hwB | exact Nat.le_trans hwB hb6.size), s7.late2 k2 hwB (by first | exact Nat.le_refl _ | exact hb6.size) hx7 _ _⟩
    case rest =>
    clear s5 q5
    obtain ⟨rfl, rfl, bd, gd, cd, rfl, hbd, s5⟩ := hcut
    have q5 := s5.hold
    simp only [Holds, and_true] at q5
    clear HG1
    go_upto_region 14 with fail
    go_cut [16, 17, 18] (fun t16 t17 t18 wx => t17 = .bool false ∧ t18 = .nilIface ∧ ∃ be : Nat, t16 = .pointer (some ⟨be, 0, none⟩) ∧ w.heap.size ≤ be ∧ St w wx (EC a x l) ((be, 0, Value.int .i64 0) :: (be, 1, Value.slice none 0 0) :: ((bd, 0, Value.int .i64 N) :: (bd, 1, Value.slice (some ⟨gd, 0, none⟩) len cd) :: (w3.heap.size + 1, 0, Value.bool true) :: (w3.heap.size + 1, 1, Value.int .i64 cm) :: (w3.heap.size, 0, Value.int .i64 N) :: (w3.heap.size, 1, Value.slice (some ⟨g, 0, none⟩) len cp) :: (w.heap.size, 0, Value.int .i64 N) :: (w.heap.size, 1, Value.slice x len c0) :: [])))
    case first =>
      have hwB := s5.bel.size
      have k2 := s5.hold
      go_region_held3 (fun w' => w'.cell? ⟨bd, 0, none⟩ = some (.int .i64 N) ∧ w'.cell? ⟨bd, 1, none⟩ = some (.slice (some ⟨gd, 0, none⟩) len cd) ∧ w'.cell? ⟨w3.heap.size + 1, 0, none⟩ = some (.bool true) ∧ w'.cell? ⟨w3.heap.size + 1, 1, none⟩ = some (.int .i64 cm) ∧ w'.cell? ⟨w3.heap.size, 0, none⟩ = some (.int .i64 N) ∧ w'.cell? ⟨w3.heap.size, 1, none⟩ = some (.slice (some ⟨g, 0, none⟩) len cp) ∧ w'.cell? ⟨w.heap.size, 0, none⟩ = some (.int .i64 N) ∧ w'.cell? ⟨w.heap.size, 1, none⟩ = some (.slice x len c0) ∧ St w w' (EC a x l) ((bd, 0, Value.int .i64 N) :: (bd, 1, Value.slice (some ⟨gd, 0, none⟩) len cd) :: (w3.heap.size + 1, 0, Value.bool true) :: (w3.heap.size + 1, 1, Value.int .i64 cm) :: (w3.heap.size, 0, Value.int .i64 N) :: (w3.heap.size, 1, Value.slice (some ⟨g, 0, none⟩) len cp) :: (w.heap.size, 0, Value.int .i64 N) :: (w.heap.size, 1, Value.slice x len c0) :: [])) (first | (exact keepSt (((bd, 0, Value.int .i64 N) :: (bd, 1, Value.slice (some ⟨gd, 0, none⟩) len cd) :: (w3.heap.size + 1, 0, Value.bool true) :: (w3.heap.size + 1, 1, Value.int .i64 cm) :: (w3.heap.size, 0, Value.int .i64 N) :: (w3.heap.size, 1, Value.slice (some ⟨g, 0, none⟩) len cp) :: (w.heap.size, 0, Value.int .i64 N) :: (w.heap.size, 1, Value.slice x len c0) :: [])) (by assumption) (by assumption)) | (exact keepSt (((bd, 0, Value.int .i64 N) :: (bd, 1, Value.slice (some ⟨gd, 0, none⟩) len cd) :: (w3.heap.size + 1, 0, Value.bool true) :: (w3.heap.size + 1, 1, Value.int .i64 cm) :: (w3.heap.size, 0, Value.int .i64 N) :: (w3.heap.size, 1, Value.slice (some ⟨g, 0, none⟩) len cp) :: (w.heap.size, 0, Value.int .i64 N) :: (w.heap.size, 1, Value.slice x len c0) :: [])) (Below.refl _ _).drew (by assumption)) | (exact keepSt (((bd, 0, Value.int .i64 N) :: (bd, 1, Value.slice (some ⟨gd, 0, none⟩) len cd) :: (w3.heap.size + 1, 0, Value.bool true) :: (w3.heap.size + 1, 1, Value.int .i64 cm) :: (w3.heap.size, 0, Value.int .i64 N) :: (w3.heap.size, 1, Value.slice (some ⟨g, 0, none⟩) len cp) :: (w.heap.size, 0, Value.int .i64 N) :: (w.heap.size, 1, Value.slice x len c0) :: [])) ((Below.refl _ _).alloc (Nat.le_refl _) _) (by assumption)) | (exact keepSt0 (((bd, 0, Value.int .i64 N) :: (bd, 1, Value.slice (some ⟨gd, 0, none⟩) len cd) :: (w3.heap.size + 1, 0, Value.bool true) :: (w3.heap.size + 1, 1, Value.int .i64 cm) :: (w3.heap.size, 0, Value.int .i64 N) :: (w3.heap.size, 1, Value.slice (some ⟨g, 0, none⟩) len cp) :: (w.heap.size, 0, Value.int .i64 N) :: (w.heap.size, 1, Value.slice x len c0) :: [])) (St.drew (by assumption))) | (exact keepSt0 (((bd, 0, Value.int .i64 N) :: (bd, 1, Value.slice (some ⟨gd, 0, none⟩) len cd) :: (w3.heap.size + 1, 0, Value.bool true) :: (w3.heap.size + 1, 1, Value.int .i64 cm) :: (w3.heap.size, 0, Value.int .i64 N) :: (w3.heap.size, 1, Value.slice (some ⟨g, 0, none⟩) len cp) :: (w.heap.size, 0, Value.int .i64 N) :: (w.heap.size, 1, Value.slice x len c0) :: [])) (s7.alloc _)) | (exact keepSt0 (((bd, 0, Value.int .i64 N) :: (bd, 1, Value.slice (some ⟨gd, 0, none⟩) len cd) :: (w3.heap.size + 1, 0, Value.bool true) :: (w3.heap.size + 1, 1, Value.int .i64 cm) :: (w3.heap.size, 0, Value.int .i64 N) :: (w3.heap.size, 1, Value.slice (some ⟨g, 0, none⟩) len cp) :: (w.heap.size, 0, Value.int .i64 N) :: (w.heap.size, 1, Value.slice x len c0) :: [])) (St.two s7 k2 hwB (by first | exact Nat.le_refl _ | exact hb6.size))) | (exact keepSt0 (((bd, 0, Value.int .i64 N) :: (bd, 1, Value.slice (some ⟨gd, 0, none⟩) len cd) :: (w3.heap.size + 1, 0, Value.bool true) :: (w3.heap.size + 1, 1, Value.int .i64 cm) :: (w3.heap.size, 0, Value.int .i64 N) :: (w3.heap.size, 1, Value.slice (some ⟨g, 0, none⟩) len cp) :: (w.heap.size, 0, Value.int .i64 N) :: (w.heap.size, 1, Value.slice x len c0) :: [])) (by assumption)))
        (first
          | (go_at_call 15; refine (HZ.out _ (keepEC2 (w := w) (a := a) ((bd, 0, Value.int .i64 N) :: (bd, 1, Value.slice (some ⟨gd, 0, none⟩) len cd) :: (w3.heap.size + 1, 0, Value.bool true) :: (w3.heap.size + 1, 1, Value.int .i64 cm) :: (w3.heap.size, 0, Value.int .i64 N) :: (w3.heap.size, 1, Value.slice (some ⟨g, 0, none⟩) len cp) :: (w.heap.size, 0, Value.int .i64 N) :: (w.heap.size, 1, Value.slice x len c0) :: []) (by assumption))).mono ?_; rintro e w6 ⟨y6, c6, rfl, hy6, hb6⟩; have s6 := (keepSt_st (w := w) (Z := EC a x l) ((bd, 0, Value.int .i64 N) :: (bd, 1, Value.slice (some ⟨gd, 0, none⟩) len cd) :: (w3.heap.size + 1, 0, Value.bool true) :: (w3.heap.size + 1, 1, Value.int .i64 cm) :: (w3.heap.size, 0, Value.int .i64 N) :: (w3.heap.size, 1, Value.slice (some ⟨g, 0, none⟩) len cp) :: (w.heap.size, 0, Value.int .i64 N) :: (w.heap.size, 1, Value.slice x len c0) :: []) (by assumption)).call hb6; first | (have hx6 := boxed2 hb6) | (have hx6 := boxed2' hb6) | skip)
          | (go_at_call 35; refine (HG2.out _ y6 c6 _ (by first | rfl | exact wn2 | (rw [wn1]; exact wn2)) (keepEC1 (w := w) (x := x) (l := l) ((bd, 0, Value.int .i64 N) :: (bd, 1, Value.slice (some ⟨gd, 0, none⟩) len cd) :: (w3.heap.size + 1, 0, Value.bool true) :: (w3.heap.size + 1, 1, Value.int .i64 cm) :: (w3.heap.size, 0, Value.int .i64 N) :: (w3.heap.size, 1, Value.slice (some ⟨g, 0, none⟩) len cp) :: (w.heap.size, 0, Value.int .i64 N) :: (w.heap.size, 1, Value.slice x len c0) :: []) (by assumption)) (by first | exact hy6 | exact hy6.below ((Below.refl _ _).alloc (Nat.le_refl _) _).drew | exact hy6.below ((Below.refl _ _).alloc (Nat.le_refl _) _))).mono ?_; rintro e w7 ⟨rfl, hb7⟩; have s7 := (keepSt_st (w := w) (Z := EC a x l) ((bd, 0, Value.int .i64 N) :: (bd, 1, Value.slice (some ⟨gd, 0, none⟩) len cd) :: (w3.heap.size + 1, 0, Value.bool true) :: (w3.heap.size + 1, 1, Value.int .i64 cm) :: (w3.heap.size, 0, Value.int .i64 N) :: (w3.heap.size, 1, Value.slice (some ⟨g, 0, none⟩) len cp) :: (w.heap.size, 0, Value.int .i64 N) :: (w.heap.size, 1, Value.slice x len c0) :: []) (by assumption)).call hb7; first | (have hx7 := hx6.below hb7; clear hx6; have ho7 := hx7; simp only [Holds, and_true] at ho7) | (have hx7 := boxed2 hb7; have ho7 := hx7; simp only [Holds, and_true] at ho7) | (have hx7 := boxed2' hb7; have ho7 := hx7; simp only [Holds, and_true] at ho7) | skip))
      all_goals
        go_wp2_with fail
        go_meet
        case rel => first
          | exact ⟨rfl, rfl, _, rfl, s7.bel.size, s7.box2 30 _ _⟩
          | exact ⟨rfl, rfl, _, rfl, (by first | exact hwB | exact Nat.le_trans hwB hb6.size), s7.late2 k2 hwB (by first | exact Nat.le_refl _ | exact hb6.size) hx7 _ _⟩
    case rest =>
    clear s5 q5 HG2
    obtain ⟨rfl, rfl, be, rfl, hbe, s5⟩ := hcut
    have q5 := s5.hold
    simp only [Holds, and_true] at q5
    go_wp2_with fail
    go_ret
    exact ⟨by first | rfl | exact ret_bool (by simp), s5.bel⟩

theorem zoneReached_true (N : Int) (x : Option Addr) (c0 : Nat) (l : List Ce) (i j : Int) (a : Nat → Addr) (w : World) (hS : ErrS w a) (hN : -9223372036854775808 ≤ N ∧ N ≤ 9223372036854775807) (hA : CsAt w x l) (hlen : l.length ≤ 9223372036854775807) (hm : ∀ A ∈ l, -9223372036854775808 ≤ A.m ∧ A.m ≤ 9223372036854775807)
    (hi : -9223372036854775808 ≤ i ∧ i ≤ 9223372036854775807) (hj : -9223372036854775808 ≤ j ∧ j ≤ 9223372036854775807) :
    Calls Tryd.prog 7 #[(.agg #[.int .i64 N, (.slice x l.length c0)]), .int .i64 i, .int .i64 j] w fun e w' => e = .returned (.bool true) ∧ Below w.heap.size w w' :=
  zoneReached_by N i j x c0 l.length l a w hS hA rfl hlen

end Go.Proofs.YthnjnieocjpjiaaDoor
