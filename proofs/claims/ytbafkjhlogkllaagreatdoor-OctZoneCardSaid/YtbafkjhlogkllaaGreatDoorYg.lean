/- Zones: what the program tells of a square. -/
import Derived.Test.YtbafkjhlogkllaaGreatDoorYc
namespace Go.Proofs.YtbafkjhlogkllaaGreatDoor
open Go.RowKit
set_option linter.unusedVariables false

theorem Tryz.infoZC : (Tryz.prog.info? 64).map (fun i => (i.zero, i.size, i.bytes)) = some (some (.agg #[.bool false, .int .i64 0]), 2, 16) := by kernel_rfl

set_option maxHeartbeats 400000 in
theorem told_any (v : Int) (w : World) :
    Calls Tryz.prog 89 #[.int .i64 v] w fun e w' => e = .returned (.tuple #[.bool (tellI v).h, .int .i64 (tellI v).m]) ∧ w' = w := by
  obtain ⟨⟨h, m⟩, ht⟩ : ∃ t, t = tellI v := ⟨_, rfl⟩
  rw [← ht]
  unfold tellI at ht
  by_cases h1 : 1099511627776 < v
  · rw [if_pos h1] at ht
    obtain ⟨rfl, rfl⟩ : h = false ∧ m = 0 := by simpa using ht
    clear ht
    go_enter Tryz.func89, Tryz.ntmps89
    go_wp2
    exact bodyPost_ret (v := .tuple #[.bool false, .int .i64 0]) (by simp [results, Tryz.results89, go_sem]) rfl ⟨rfl, rfl⟩
  · rw [if_neg h1] at ht
    by_cases h2 : v < -1099511627776
    · rw [if_pos h2] at ht
      obtain ⟨rfl, rfl⟩ : h = true ∧ m = -1099511627776 := by simpa using ht
      clear ht
      go_enter Tryz.func89, Tryz.ntmps89
      go_wp2
      all_goals
        exact bodyPost_ret (v := .tuple #[.bool true, .int .i64 (-1099511627776)]) (by simp [results, Tryz.results89, go_sem]; try omega) rfl ⟨rfl, rfl⟩
    · rw [if_neg h2] at ht
      obtain ⟨rfl, rfl⟩ : h = true ∧ m = v := by simpa using ht
      clear ht
      go_enter Tryz.func89, Tryz.ntmps89
      go_wp2
      all_goals
        exact bodyPost_ret (v := .tuple #[.bool true, .int .i64 m]) (by simp [results, Tryz.results89, go_sem]; try omega) rfl ⟨rfl, rfl⟩
set_option maxHeartbeats 400000 in
theorem cellOf_any (h : Bool) (m : Int) (w : World) :
    Calls Tryz.prog 88 #[.bool h, .int .i64 m] w fun e w' => e = .returned (.agg #[.bool h, .int .i64 m]) ∧ Below w.heap.size w w' := by
  go_enter Tryz.func88, Tryz.ntmps88
  go_wp2
  refine bodyPost_ret (v := .agg #[.bool h, .int .i64 m]) (by simp [results, Tryz.results88, go_sem]) rfl ⟨rfl, ?_⟩
  repeat' (first | refine Below.setCell ?_ (by first | (simp; done) | (simp; omega)) _ | refine Below.alloc ?_ (by first | (simp; done) | (simp; omega)) _ | exact Below.refl _ _)
set_option maxHeartbeats 400000 in
theorem size_any (n : Nat) (v : Value) (hv : v.oneCell' = true) (g len cp : Nat) (w : World) :
    Calls Tryz.prog 68 #[(.agg #[.int .i64 n, (.slice (some ⟨g, 0, none⟩) len cp)])] w fun e w' => e = .returned (.int .i64 n) ∧ Below w.heap.size w w' := by
  go_enter Tryz.func68, Tryz.ntmps68
  go_wp2
  go_ret
  exact ⟨rfl, (Below.refl _ _).alloc (Nat.le_refl _) _⟩

/-- A list filled from the left. -/
def fil (L : List Ce) : Nat → List Ce
  | 0 => List.replicate L.length ceZ
  | k + 1 => (fil L k).set k (L.getD k ceZ)
theorem fil_len (L : List Ce) (k : Nat) : (fil L k).length = L.length := by
  induction k with
  | zero => simp [fil]
  | succ k ih => simp [fil, ih]
theorem fil_at (L : List Ce) (k i : Nat) (hk : k ≤ L.length) (hi : i < L.length) : (fil L k).getD i ceZ = if i < k then L.getD i ceZ else ceZ := by
  induction k with
  | zero => simp [fil, hi]
  | succ k ih =>
    show ((fil L k).set k _).getD i ceZ = _
    rw [getD_set (by rw [fil_len]; omega), ih (by omega)]
    by_cases e : i = k
    · subst e; simp
    · rw [if_neg e]
      by_cases h : i < k
      · rw [if_pos h, if_pos (by omega)]
      · rw [if_neg h, if_neg (by omega)]
theorem fil_all (L : List Ce) : fil L L.length = L := by
  apply List.ext_getElem?
  intro i
  by_cases hi : i < L.length
  · have h := fil_at L L.length i (Nat.le_refl _) hi
    rw [if_pos hi] at h
    have e1 : (fil L L.length)[i]? = some ((fil L L.length).getD i ceZ) := by simp [fil_len, hi]
    have e2 : L[i]? = some (L.getD i ceZ) := by simp [hi]
    rw [e1, e2, h]
  · rw [List.getElem?_eq_none (by rw [fil_len]; omega), List.getElem?_eq_none (by omega)]

def gridL (n len : Nat) (f : Nat → Nat → Int) : List Ce := (List.range len).map fun p => tellI (f (p / n) (p % n))
theorem gridL_enc (n : Nat) (d : Mat) : gridL n (n * n) (encM d) = tellL n d := by
  unfold gridL tellL
  apply List.map_congr_left
  intro p _
  exact tell_enc _

theorem made_two (x y : Value) (m j : Nat) (hj : j < m) : (madeCells #[x, y] m).toList[j]? = some (if j % 2 = 0 then x else y) := by
  rcases (by omega : j % 2 = 0 ∨ j % 2 = 1) with h | h <;> simp [madeCells, hj, h]
theorem zerosV (n : Nat) : (madeCells #[Value.bool false, .int .i64 0] (n * 2)).toList = cellsV (List.replicate n ceZ) := by
  apply List.ext_getElem?
  intro j
  by_cases hj : j < n * 2
  · rw [made_two _ _ _ _ hj]
    have h1 := cellsV_at (List.replicate n ceZ) (j / 2) (by simp; omega)
    have hz : (List.replicate n ceZ).getD (j / 2) ceZ = ceZ := by simp [show j / 2 < n by omega]
    rw [hz] at h1
    rcases (by omega : j % 2 = 0 ∨ j % 2 = 1) with h | h
    · rw [if_pos h, show j = j / 2 * 2 by omega]; exact h1.1.symm
    · rw [if_neg (by omega), show j = j / 2 * 2 + 1 by omega]; exact h1.2.symm
  · rw [List.getElem?_eq_none (by simp [madeCells]; omega), List.getElem?_eq_none (by rw [cellsV_len]; simp; omega)]

/-- New cells are answered. -/
def CellsPost (w : World) (len : Nat) (L : List Ce) (e : Ending) (w' : World) : Prop :=
  ∃ g cp, e = .returned (.slice (some ⟨g, 0, none⟩) len cp) ∧ w.heap.size ≤ g ∧ RowC w' g 0 L ∧ Below w.heap.size w w'

set_option maxRecDepth 20000 in
set_option maxHeartbeats 4000000 in
theorem cells_any (n g cp len : Nat) (f : Nat → Nat → Int) (w : World) (hG : GrI w g n f) (hl : Hid (len = n * n)) (hn : n ≤ 8) :
    Calls Tryz.prog 87 #[(.agg #[.int .i64 n, (.slice (some ⟨g, 0, none⟩) len cp)]), .func (.func 88) #[] #[]] w fun e w' => CellsPost w len (gridL n len f) e w' := by
  have hlen : len ≤ 64 := by
    have := hl.out
    have h1 := Nat.mul_le_mul hn hn
    omega
  obtain ⟨i0, hi, hz0, hz1, hz2⟩ := info_parts Tryz.infoZC
  have s0 := (St.startG hG).box2 62 (.int .i64 n) (.slice (some ⟨g, 0, none⟩) len cp)
  obtain ⟨L, hL⟩ : ∃ L, L = gridL n len f := ⟨_, rfl⟩
  have hLl : Hid (len = L.length) := by show _ = _; rw [hL]; simp [gridL]
  have HL : Hid (∀ k, k < len → ∀ W : World, GrI W g n f → ∃ v, W.cell? ⟨g, k, none⟩ = some (.int .i64 v) ∧ tellI v = L.getD k ceZ) := by
    intro k hk W h
    have hk2 : k < n * n := by rw [← hl.out]; exact hk
    have n0 : 0 < n := by
      rcases Nat.eq_zero_or_pos n with e | e
      · subst e; simp at hk2
      · exact e
    have c := h.cell (k / n) (k % n) (Nat.div_lt_of_lt_mul hk2) (Nat.mod_lt _ n0)
    rw [show k / n * n + k % n = k by rw [Nat.mul_comm]; exact Nat.div_add_mod _ _] at c
    exact ⟨_, c, by rw [hL]; simp [gridL, hk]⟩
  rw [← hL]
  clear hL hG hl
  go_enter Tryz.func87, Tryz.ntmps87
  go_wp2_with (at_make; refine wpList_make_full _ rfl _ _ 35 rfl (w.heap.size + 1) 64 i0 (.agg #[.bool false, .int .i64 0]) 2 Tryz.underlying35 hi hz0 hz1 _ _ _ _ len rfl rfl rfl rfl ?b2 ?b3 (by simp) ?_)
  case b2 => rw [hz2]; omega
  case b3 => unfold maxLen; omega
  intro w1 own1 hgrow1
  have own2 : w1.ownsRow (w.heap.size + 1) 64 2 (.slice (some ⟨w.heap.size + 1, 0, none⟩) len len) len (cellsV (List.replicate len ceZ)) := by rw [← zerosV]; exact own1
  obtain ⟨R1, F1⟩ := RowC.of_own own2 (by simp) (own2.lt (w.heap.size + 1) (by simp [Value.ownBlock])).2
  have R1' : RowC w1 (w.heap.size + 1) 0 (fil L 0) := by show RowC _ _ _ (List.replicate L.length ceZ); rw [← hLl.out]; exact R1
  have bel1 : Below (w.heap.size + 1) (w.alloc (.cells #[.int .i64 n, (.slice (some ⟨g, 0, none⟩) len cp)] 62)) w1 := (Below.refl _ _).grown hgrow1 (by simp) (fun k h => by cases h)
  have s1 : St w w1 (GZ g n f) [(w.heap.size, 0, Value.int .i64 n), (w.heap.size, 1, (.slice (some ⟨g, 0, none⟩) len cp))] := s0.call (bel1.mono (by simp))
  have q1 := s1.hold
  simp only [Holds, and_true] at q1
  have F1' := hide F1
  clear own1 own2 s0 R1 F1 hgrow1 bel1
  go_wp2_with fail
  go_loopg [15] len (fun gh kv wr => ∃ k : Nat, k + gh = len ∧ kv = .int .i64 k ∧ RowC wr (w.heap.size + 1) 0 (fil L k) ∧ Hid (∀ o, wr.frozen? ⟨w.heap.size + 1, o, none⟩ = false) ∧ St w wr (GZ g n f) [(w.heap.size, 0, Value.int .i64 n), (w.heap.size, 1, (.slice (some ⟨g, 0, none⟩) len cp))])
  case atStart => exact ⟨0, by omega, rfl, R1', F1', s1⟩
  case round =>
    clear R1' F1' s1 q1
    obtain ⟨k, hkg, rfl, R, FF, st⟩ := hrel
    have qs := st.hold
    simp only [Holds, and_true] at qs
    by_cases hk : k < len
    · have hk' : (k : Int) < (len : Int) := by omega
      obtain ⟨v, hc, hv⟩ := HL.out k hk wr st.sent
      have hgl := (show GrI wr g n f from st.sent).lt
      obtain ⟨⟨ch, cm⟩, hC⟩ : ∃ C, C = tellI v := ⟨_, rfl⟩
      have HT : Hid (∀ W : World, Calls Tryz.prog 89 #[.int .i64 v] W fun e w' => e = .returned (.tuple #[.bool ch, .int .i64 cm]) ∧ w' = W) := fun W => by
        have := told_any v W
        rw [← hC] at this
        exact this
      have HN : Hid (fil L (k + 1) = (fil L k).set k ⟨ch, cm⟩) := by show (fil L k).set k _ = _; rw [← hv, ← hC]
      have hkf : k < (fil L k).length := by rw [fil_len, ← hLl.out]; exact hk
      clear hv hC
      go_wp2_with fail
      refine (HT.out _).mono ?_
      rintro e w2 ⟨rfl, hw2⟩
      rw [hw2]
      clear hw2 w2
      go_wp2_with fail
      refine (cellOf_any ch cm _).mono ?_
      rintro e w2 ⟨rfl, hb2⟩
      have s2 := st.call hb2
      have R2 := R.below hb2
      have F2 : ∀ o, w2.frozen? ⟨w.heap.size + 1, o, none⟩ = false := fun o => (hb2.frozen (p := ⟨w.heap.size + 1, o, none⟩) R.lt).trans (FF.out o)
      have q2 := s2.hold
      simp only [Holds, and_true] at q2
      have d1 := R2.has k hkf
      have d2 := R2.most k hkf
      have g1 := F2 (0 + k * 2)
      have g2 := F2 (0 + k * 2 + 1)
      have R3 := R2.set hkf ⟨ch, cm⟩
      have s3 : St w ((w2.setCell ⟨w.heap.size + 1, 0 + k * 2, none⟩ (.bool ch)).setCell ⟨w.heap.size + 1, 0 + k * 2 + 1, none⟩ (.int .i64 cm)) (GZ g n f) [(w.heap.size, 0, Value.int .i64 n), (w.heap.size, 1, (.slice (some ⟨g, 0, none⟩) len cp))] := by
        have b3 : Below w.heap.size w2 ((w2.setCell ⟨w.heap.size + 1, 0 + k * 2, none⟩ (.bool ch)).setCell ⟨w.heap.size + 1, 0 + k * 2 + 1, none⟩ (.int .i64 cm)) := ((Below.refl _ _).setCell (by dsimp only; omega) _).setCell (by dsimp only; omega) _
        exact ⟨s2.bel.trans b3, (s2.hold.setCell (p := ⟨w.heap.size + 1, 0 + k * 2, none⟩) ⟨by dsimp only; omega, by dsimp only; omega, trivial⟩ _).setCell (p := ⟨w.heap.size + 1, 0 + k * 2 + 1, none⟩) ⟨by dsimp only; omega, by dsimp only; omega, trivial⟩ _, s2.cl _ _ s2.sent b3, s2.cl⟩
      have F3 : ∀ o, ((w2.setCell ⟨w.heap.size + 1, 0 + k * 2, none⟩ (.bool ch)).setCell ⟨w.heap.size + 1, 0 + k * 2 + 1, none⟩ (.int .i64 cm)).frozen? ⟨w.heap.size + 1, o, none⟩ = false := by intro o; rw [frozen?_setCell', frozen?_setCell']; exact F2 o
      have hlt2 := R2.lt
      rw [Nat.zero_add] at d1 d2 g1 g2 R3 s3 F3
      have F3' := hide F3
      clear s2 R F2 F3 hb2 q2
      go_wp2_with fail
      go_roundg (len - (k + 1))
      case measure => omega
      case rel => exact ⟨k + 1, by omega, by go_num, by rw [HN.out]; exact R3, F3', s3⟩
    · have hke : k = len := by omega
      subst hke
      have hk' : ¬ (k : Int) < (k : Int) := by omega
      have R4 : RowC wr (w.heap.size + 1) 0 L := by
        have e := fil_all L
        rw [← hLl.out] at e
        rw [e] at R
        exact R
      go_wp2_with fail
      go_ret
      exact ⟨w.heap.size + 1, k, rfl, by omega, R4, st.bel⟩

/-- A new zone is answered. -/
def TellPost (w : World) (Ni : Int) (len : Nat) (L : List Ce) (e : Ending) (w' : World) : Prop :=
  ∃ g cp, e = .returned (.agg #[.int .i64 Ni, (.slice (some ⟨g, 0, none⟩) len cp)]) ∧ w.heap.size ≤ g ∧ RowC w' g 0 L ∧ Below w.heap.size w w'

set_option maxRecDepth 20000 in
set_option maxHeartbeats 4000000 in
theorem tellz_any (Ni : Int) (n g cp len : Nat) (f : Nat → Nat → Int) (w : World) (hG : GrI w g n f) (hl : Hid (len = n * n)) (hn : 1 ≤ n ∧ n ≤ 5) (hN : Ni + 1 = n) :
    Calls Tryz.prog 67 #[(.agg #[.int .i64 n, (.slice (some ⟨g, 0, none⟩) len cp)])] w fun e w' => TellPost w Ni len (gridL n len f) e w' := by
  have s0 := ((St.startG hG).box2 62 (.int .i64 n) (.slice (some ⟨g, 0, none⟩) len cp)).box2 37 (.int .i64 0) (.slice none 0 0)
  simp only [World.size_alloc] at s0
  have HC : Hid (∀ W : World, GrI W g n f → Calls Tryz.prog 87 #[(.agg #[.int .i64 n, (.slice (some ⟨g, 0, none⟩) len cp)]), .func (.func 88) #[] #[]] W fun e w' => CellsPost W len (gridL n len f) e w') := fun W h => cells_any n g cp len f W h hl (by omega)
  have HS : Hid (∀ W : World, Calls Tryz.prog 68 #[(.agg #[.int .i64 n, (.slice (some ⟨g, 0, none⟩) len cp)])] W fun e w' => e = .returned (.int .i64 n) ∧ Below W.heap.size W w') := fun W => size_any n .nilIface rfl g len cp W
  obtain ⟨L, hL⟩ : ∃ L, L = gridL n len f := ⟨_, rfl⟩
  rw [← hL] at HC ⊢
  have hN1 : (n : Int) - 1 = Ni := by omega
  have hN3 : IntKind.i64.wrap Ni = Ni := by unfold IntKind.wrap; simp [IntKind.signed, IntKind.bits]; omega
  have q0 := s0.hold
  simp only [Holds, and_true] at q0
  clear hL hG hl
  go_enter Tryz.func67, Tryz.ntmps67
  go_wp2_with fail
  go_region_with (first
    | (go_at_call 68; refine (HS.out _).mono ?_; rintro e w1 ⟨rfl, hb1⟩; have s1 := s0.drew.call hb1; have q1 := s1.hold; simp only [Holds, and_true] at q1)
    | (go_at_call 87; refine (HC.out _ s1.sent).mono ?_; rintro e w2 ⟨g2, cp2, rfl, hg2, hR2, hb2⟩; have s2 := s1.call hb2; have q2 := s2.hold; simp only [Holds, and_true] at q2))
  all_goals
    have sz1 := s1.bel.size
    have sz2 := hb1.size
    simp only [World.drew, World.size_alloc] at sz2
    go_wp2_with fail
    refine bodyPost_ret (v := (.agg #[.int .i64 Ni, (.slice (some ⟨g2, 0, none⟩) len cp2)])) (by simp [results, Tryz.results67, go_sem, q2] <;> exact hN3) rfl ⟨g2, cp2, rfl, by omega, ?_, ?_⟩
    · exact (hR2.other (by show w.heap.size + 1 ≠ g2; omega) _).other (by show w.heap.size + 1 ≠ g2; omega) _
    · iterate 2 refine Below.setCell ?_ (by first | (simp; done) | (simp; omega)) _
      exact s2.bel

end Go.Proofs.YtbafkjhlogkllaaGreatDoor
