/- Zones: a variable becomes another one and a number: the reference's walk (AssignedZone). -/
import Derived.Test.YtkngedinomngbaaDoorXo
import Derived.Test.YtkngedinomngbaaDoorYg
import Derived.Test.YtkngedinomngbaaDoorZi
import Derived.Test.YtkngedinomngbaaDoorXc
import Derived.Test.YtkngedinomngbaaDoorYi
import Derived.Deep.CutBlock
import Derived.Deep.Cut
import Derived.Deep.DeepCutAuto
import Derived.BigQuiet
namespace Go.Proofs.YtkngedinomngbaaDoor
open Go.RowKit
set_option linter.unusedVariables false

/-- A new row of cells that say nothing. -/
theorem made_row (w : World) (n : Nat) (hn : n ≤ 1000) : RowC (w.alloc (Obj.cells (madeCells #[Value.bool false, .int .i64 0] (n * 2)) 68)) w.heap.size 0 (List.replicate n ceZ) ∧ ∀ o, (w.alloc (Obj.cells (madeCells #[Value.bool false, .int .i64 0] (n * 2)) 68)).frozen? ⟨w.heap.size, o, none⟩ = false := by
  have own := World.ownsRow_lit (base := w.heap.size) (e := 68) (size := 2) w (madeCells #[Value.bool false, .int .i64 0] (n * 2)) n (Nat.le_refl _) (by unfold maxLen; omega) (by simp [madeCells])
  rw [zerosV] at own
  exact RowC.of_own own (by simp) (by simp)
theorem make_cells (n : Nat) (hn : n ≤ 1000) (w : World) : (Instr.makeSlice 22 (.int .i64 (n : Int)) (.int .i64 (n : Int))).run Tryd.prog w = .ok (.slice (some ⟨w.heap.size, 0, none⟩) n n) (w.alloc (Obj.cells (madeCells #[Value.bool false, .int .i64 0] (n * 2)) 68)) := by
  obtain ⟨i0, hi, hz0, hz1, hz2⟩ := info_parts Tryd.infoCell
  have := run_make (P := Tryd.prog) w 22 68 i0 _ Tryd.underlying22 hi hz0 .i64 .i64 (n : Int) (n : Int) (by omega) (Int.le_refl _) (by rw [hz2]; omega) (by omega)
  simp only [Int.toNat_natCast, hz1] at this
  exact this

theorem St.setO {w W : World} {Z : World → Prop} {L : List (Nat × Nat × Value)} (h : St w W Z L) {p : Addr} (hb : w.heap.size ≤ p.block) (ap : Apart p.block L) (v : Value) : St w (W.setCell p v) Z L := by
  have b : Below w.heap.size W (W.setCell p v) := (Below.refl _ _).setCell hb _
  exact ⟨h.bel.trans b, h.hold.setCell ap v, h.cl _ _ h.sent b, h.cl⟩
theorem Holds.onlyG {g : Nat} {w w' : World} {L : List (Nat × Nat × Value)} (h : Holds w L) (k : OnlyG g w w') (ap : Apart g L) : Holds w' L := by
  induction L with
  | nil => trivial
  | cons x L ih => exact ⟨⟨(k.cell ⟨x.1, x.2.1, none⟩ h.1.2.1 ap.1).trans h.1.1, Nat.lt_of_lt_of_le h.1.2.1 k.size, (k.fr _ h.1.2.1).trans h.1.2.2⟩, ih h.2 ap.2⟩
theorem St.onlyG {g : Nat} {w W W' : World} {Z : World → Prop} {L : List (Nat × Nat × Value)} (h : St w W Z L) (k : OnlyG g W W') (ap : Apart g L) (hg : w.heap.size ≤ g) : St w W' Z L := by
  have b := k.bel w.heap.size hg h.bel.size
  exact ⟨h.bel.trans b, h.hold.onlyG k ap, h.cl _ _ h.sent b, h.cl⟩
set_option maxRecDepth 20000 in
set_option maxHeartbeats 8000000 in
theorem assignedZone_any (Ni : Int) (n b off c len : Nat) (l : List Ce) (x y : Nat) (cv : Int) (w : World) (hR : RowC w b off l) (hl : Hid (len = l.length)) (hll : Hid (len = n * n)) (hn : 1 ≤ n ∧ n ≤ 5) (hN : Ni + 1 = n) (hx : x < n) (hy : y < n) (hg : Hid (goodL l)) (hc : Hid (Closed n (matOf n l))) (hs : Hid (∀ i j, i < n → j < n → ∀ v, matOf n l i j = some v → v.natAbs ≤ 33554432)) (hcv : cv.natAbs ≤ 1048576) :
    Calls Tryd.prog 37 #[(.agg #[.int .i64 Ni, (.slice (some ⟨b, off, none⟩) len c)]), .int .i64 x, .int .i64 y, .int .i64 cv] w fun e w' => NrPost w Ni len True (rowOf n (mvM (matOf n l) x y cv)) e w' := by
  have s0 := ((St.startR hR).box2 24 (.int .i64 Ni) (.slice (some ⟨b, off, none⟩) len c)).box2 24 (.int .i64 0) (.slice none 0 0)
  simp only [World.size_alloc] at s0
  have q0 := s0.hold
  simp only [Holds, and_true] at q0
  obtain ⟨n1, hn1⟩ : ∃ k, k = n + 1 := ⟨_, rfl⟩
  obtain ⟨bl, hbl⟩ : ∃ k, k = n1 * n1 := ⟨_, rfl⟩
  have hb1 : (n1 : Int) * (n1 : Int) = (bl : Int) := by rw [hbl, Int.natCast_mul]
  have hblb : 4 ≤ bl ∧ bl ≤ 36 := by
    have h1 := Nat.mul_le_mul (show n1 ≤ 6 by omega) (show n1 ≤ 6 by omega)
    have h2 := Nat.mul_le_mul (show 2 ≤ n1 by omega) (show 2 ≤ n1 by omega)
    omega
  have hn1i : (n : Int) + 1 = (n1 : Int) := by omega
  have hlen : 1 ≤ len ∧ len ≤ 25 := by
    have := hll.out
    have h1 := Nat.mul_le_mul hn.2 hn.2
    have h2 := Nat.mul_le_mul hn.1 hn.1
    omega
  have hNb : 0 ≤ Ni ∧ Ni ≤ 4 := by omega
  have hmi : (n : Int) * (n : Int) = (len : Int) := by rw [hll.out, Int.natCast_mul]
  have hmk := make_cells bl (by omega)
  have Hbl := hide hbl
  have Hn1 := hide hn1
  have hbel := hR.lt
  have n1b : 2 ≤ n1 ∧ n1 ≤ 6 := by omega
  obtain ⟨M, hM⟩ : ∃ M, M = (Obj.cells (madeCells #[Value.bool false, .int .i64 0] (bl * 2)) 68) := ⟨_, rfl⟩
  rw [← hM] at hmk
  have HM : Hid (∀ W : World, RowC (W.alloc M) W.heap.size 0 (bgL n l 0) ∧ ∀ o, (W.alloc M).frozen? ⟨W.heap.size, o, none⟩ = false) := fun W => by
    have e : bgL n l 0 = List.replicate bl ceZ := by show List.replicate _ _ = _; rw [hbl, hn1]
    rw [hM, e]; exact made_row W bl (by omega)
  clear hbl hn1 hM hR
  go_enter Tryd.func37, Tryd.ntmps37
  go_upto_region 2 with fail
  go_cut [11] (fun t wx => ∃ bb g : Nat, t = .pointer (some ⟨bb, 0, none⟩) ∧ w.heap.size + 1 < bb ∧ w.heap.size + 1 < g ∧ bb ≠ g ∧ RowC wx g 0 (bgL n l 0) ∧ Hid (∀ o, wx.frozen? ⟨g, o, none⟩ = false) ∧ St w wx (RZ b off l) [(bb, 0, Value.int .i64 n), (bb, 1, (.slice (some ⟨g, 0, none⟩) bl bl)), (w.heap.size + 1, 0, Value.int .i64 0), (w.heap.size + 1, 1, Value.slice none 0 0), (w.heap.size, 0, Value.int .i64 Ni), (w.heap.size, 1, Value.slice (some ⟨b, off, none⟩) len c)])
  case first =>
    go_region
    all_goals
      go_wp2_with fail
      go_meet
      case rel => first
        | (refine ⟨w.heap.size + 1 + 1 + 1, w.heap.size + 1 + 1, rfl, by omega, by omega, by omega, ?_, ?_, ?_⟩
           · have h := (HM.out ((w.alloc (.cells #[.int .i64 Ni, .slice (some ⟨b, off, none⟩) len c] 24)).alloc (.cells #[.int .i64 0, .slice none 0 0] 24))).1
             simp only [World.size_alloc] at h
             exact (h.below ((Below.refl _ _).alloc (Nat.le_refl _) _)).below (Below.refl _ _).drew
           · intro o
             have h := (HM.out ((w.alloc (.cells #[.int .i64 Ni, .slice (some ⟨b, off, none⟩) len c] 24)).alloc (.cells #[.int .i64 0, .slice none 0 0] 24))).2 o
             simp only [World.size_alloc] at h
             exact ((show Below (((w.alloc (.cells #[.int .i64 Ni, .slice (some ⟨b, off, none⟩) len c] 24)).alloc (.cells #[.int .i64 0, .slice none 0 0] 24)).alloc M).heap.size (((w.alloc (.cells #[.int .i64 Ni, .slice (some ⟨b, off, none⟩) len c] 24)).alloc (.cells #[.int .i64 0, .slice none 0 0] 24)).alloc M) _ from ((Below.refl _ _).alloc (Nat.le_refl _) _).drew).frozen (p := ⟨w.heap.size + 1 + 1, o, none⟩) (by simp)).trans h
           · have h := ((s0.alloc M).box2 24 (.int .i64 n) (.slice (some ⟨w.heap.size + 1 + 1, 0, none⟩) bl bl)).drew
             simp only [World.size_alloc] at h
             exact h)
        | (refine ⟨w.heap.size + 1 + 1, w.heap.size + 1 + 1 + 1, rfl, by omega, by omega, by omega, ?_, ?_, ?_⟩
           · have h := (HM.out (((w.alloc (.cells #[.int .i64 Ni, .slice (some ⟨b, off, none⟩) len c] 24)).alloc (.cells #[.int .i64 0, .slice none 0 0] 24)).alloc (.cells #[.int .i64 n, .slice (some ⟨w.heap.size + 1 + 1 + 1, 0, none⟩) bl bl] 24))).1
             simp only [World.size_alloc] at h
             exact h.below (Below.refl _ _).drew
           · intro o
             have h := (HM.out (((w.alloc (.cells #[.int .i64 Ni, .slice (some ⟨b, off, none⟩) len c] 24)).alloc (.cells #[.int .i64 0, .slice none 0 0] 24)).alloc (.cells #[.int .i64 n, .slice (some ⟨w.heap.size + 1 + 1 + 1, 0, none⟩) bl bl] 24))).2 o
             simp only [World.size_alloc] at h
             exact ((show Below ((((w.alloc (.cells #[.int .i64 Ni, .slice (some ⟨b, off, none⟩) len c] 24)).alloc (.cells #[.int .i64 0, .slice none 0 0] 24)).alloc (.cells #[.int .i64 n, .slice (some ⟨w.heap.size + 1 + 1 + 1, 0, none⟩) bl bl] 24)).alloc M).heap.size ((((w.alloc (.cells #[.int .i64 Ni, .slice (some ⟨b, off, none⟩) len c] 24)).alloc (.cells #[.int .i64 0, .slice none 0 0] 24)).alloc (.cells #[.int .i64 n, .slice (some ⟨w.heap.size + 1 + 1 + 1, 0, none⟩) bl bl] 24)).alloc M) _ from (Below.refl _ _).drew).frozen (p := ⟨w.heap.size + 1 + 1 + 1, o, none⟩) (by simp)).trans h
           · have h := ((s0.box2 24 (.int .i64 n) (.slice (some ⟨w.heap.size + 1 + 1 + 1, 0, none⟩) bl bl)).alloc M).drew
             simp only [World.size_alloc] at h
             exact h)
  case rest =>
  clear s0 q0 HM hmk
  obtain ⟨bb, g, rfl, hbb, hgg, hne, R1, F1, s1⟩ := hcut
  have hcell : Hid (∀ (W : World) (i j : Nat), RowC W b off l → i < n → j < n → W.cell? ⟨b, off + (i * n + j) * 2, none⟩ = some (.bool (l.getD (i * n + j) ceZ).h) ∧ W.cell? ⟨b, off + (i * n + j) * 2 + 1, none⟩ = some (.int .i64 (l.getD (i * n + j) ceZ).m)) := fun W i j h hi hj => ⟨h.has _ (by rw [← hl.out, hll.out]; exact idx_in hi hj), h.most _ (by rw [← hl.out, hll.out]; exact idx_in hi hj)⟩
  have hbgl : Hid (∀ k, (bgL n l k).length = bl) := fun k => by rw [bgL_len, Hbl.out, Hn1.out]
  go_wp2_with fail
  go_loopg [12] n (fun gh iv wr => ∃ i : Nat, i + gh = n ∧ iv = .int .i64 i ∧ RowC wr g 0 (bgL n l (i * n + 0)) ∧ Hid (∀ o, wr.frozen? ⟨g, o, none⟩ = false) ∧ St w wr (RZ b off l) [(bb, 0, Value.int .i64 n), (bb, 1, (.slice (some ⟨g, 0, none⟩) bl bl)), (w.heap.size + 1, 0, Value.int .i64 0), (w.heap.size + 1, 1, Value.slice none 0 0), (w.heap.size, 0, Value.int .i64 Ni), (w.heap.size, 1, Value.slice (some ⟨b, off, none⟩) len c)])
  case atStart => exact ⟨0, by omega, rfl, by simpa using R1, F1, s1⟩
  case round =>
    clear R1 F1 s1
    obtain ⟨i, hig, rfl, R1, F1, s1⟩ := hrel
    have q1 := s1.hold
    simp only [Holds, and_true] at q1
    by_cases hi : i < n
    · have hi' : (i : Int) < (n : Int) := by omega
      go_wp2_with fail
      go_loopg [13] n (fun gh jv wr => ∃ j : Nat, j + gh = n ∧ jv = .int .i64 j ∧ RowC wr g 0 (bgL n l (i * n + j)) ∧ Hid (∀ o, wr.frozen? ⟨g, o, none⟩ = false) ∧ St w wr (RZ b off l) [(bb, 0, Value.int .i64 n), (bb, 1, (.slice (some ⟨g, 0, none⟩) bl bl)), (w.heap.size + 1, 0, Value.int .i64 0), (w.heap.size + 1, 1, Value.slice none 0 0), (w.heap.size, 0, Value.int .i64 Ni), (w.heap.size, 1, Value.slice (some ⟨b, off, none⟩) len c)])
      case atStart => exact ⟨0, by omega, rfl, R1, F1, s1⟩
      case round =>
        clear R1 F1 s1 q1
        obtain ⟨j, hjg, rfl, R1, F1, s1⟩ := hrel
        have q1 := s1.hold
        simp only [Holds, and_true] at q1
        by_cases hj : j < n
        · have hj' : (j : Int) < (n : Int) := by omega
          obtain ⟨ik, hik⟩ : ∃ m : Nat, m = i * n := ⟨_, rfl⟩
          obtain ⟨im, him⟩ : ∃ m : Nat, m = i * n1 := ⟨_, rfl⟩
          obtain ⟨x1, hx1⟩ : ∃ m : Nat, m = ik + j := ⟨_, rfl⟩
          obtain ⟨x2, hx2⟩ : ∃ m : Nat, m = im + j := ⟨_, rfl⟩
          have a1 : (i : Int) * (n : Int) = (ik : Int) := by rw [hik, Int.natCast_mul]
          have a2 : (i : Int) * (n1 : Int) = (im : Int) := by rw [him, Int.natCast_mul]
          have a3 : (ik : Int) + (j : Int) = (x1 : Int) := by omega
          have a4 : (im : Int) + (j : Int) = (x2 : Int) := by omega
          have b1 : x1 < len := by rw [hll.out, hx1, hik]; exact idx_in hi hj
          have b2 : x2 < bl := by rw [Hbl.out, hx2, him]; exact idx_in (by have := Hn1.out; omega) (by have := Hn1.out; omega)
          have b3 : (x1 : Int) < (len : Int) := by omega
          have b4 : (x2 : Int) < (bl : Int) := by omega
          have b5 : ik ≤ 36 ∧ im ≤ 36 := by omega
          have hxe : x1 = i * n + j := by rw [hx1, hik]
          have Hnx : Hid (bgL n l (i * n + (j + 1)) = (bgL n l (i * n + j)).set x2 (l.getD x1 ceZ)) := by
            obtain ⟨e1, e2⟩ := div_at (i := i) hj
            show (bgL n l (i * n + j)).set ((i * n + j) / n * (n + 1) + (i * n + j) % n) (l.getD (i * n + j) ceZ) = _
            rw [e1, e2, ← hxe, hx2, him, Hn1.out]
          obtain ⟨c1, c2⟩ := hcell.out wr i j s1.sent hi hj
          rw [← hxe] at c1 c2
          obtain ⟨⟨ch, cm⟩, hC⟩ : ∃ C, C = l.getD x1 ceZ := ⟨_, rfl⟩
          rw [← hC] at c1 c2 Hnx
          dsimp only at c1 c2
          obtain ⟨S, hS⟩ : ∃ S, S = bgL n l (i * n + j) := ⟨_, rfl⟩
          have hSl : x2 < S.length := by rw [hS, hbgl.out]; exact b2
          rw [← hS] at R1 Hnx
          have d1 := R1.has x2 hSl
          have d2 := R1.most x2 hSl
          have f1 := F1.out (0 + x2 * 2)
          have f2 := F1.out (0 + x2 * 2 + 1)
          have hlg := R1.lt
          have hlb := (show RowC wr b off l from s1.sent).lt
          have Hset : Hid (RowC ((wr.drew.setCell ⟨g, 0 + x2 * 2, none⟩ (.bool ch)).setCell ⟨g, 0 + x2 * 2 + 1, none⟩ (.int .i64 cm)) g 0 (S.set x2 ⟨ch, cm⟩) ∧ (∀ o, ((wr.drew.setCell ⟨g, 0 + x2 * 2, none⟩ (.bool ch)).setCell ⟨g, 0 + x2 * 2 + 1, none⟩ (.int .i64 cm)).frozen? ⟨g, o, none⟩ = false) ∧ St w ((wr.drew.setCell ⟨g, 0 + x2 * 2, none⟩ (.bool ch)).setCell ⟨g, 0 + x2 * 2 + 1, none⟩ (.int .i64 cm)) (RZ b off l) [(bb, 0, Value.int .i64 n), (bb, 1, (.slice (some ⟨g, 0, none⟩) bl bl)), (w.heap.size + 1, 0, Value.int .i64 0), (w.heap.size + 1, 1, Value.slice none 0 0), (w.heap.size, 0, Value.int .i64 Ni), (w.heap.size, 1, Value.slice (some ⟨b, off, none⟩) len c)]) := by
            have bD : Below wr.heap.size wr wr.drew := (Below.refl _ _).drew
            refine ⟨(R1.below bD).set hSl ⟨ch, cm⟩, fun o => by rw [frozen?_setCell', frozen?_setCell']; exact (bD.frozen (p := ⟨g, o, none⟩) R1.lt).trans (F1.out o), ?_⟩
            exact (s1.drew.setO (p := ⟨g, 0 + x2 * 2, none⟩) (by dsimp only; omega) ⟨by dsimp only; omega, by dsimp only; omega, by dsimp only; omega, by dsimp only; omega, by dsimp only; omega, by dsimp only; omega, trivial⟩ _).setO (p := ⟨g, 0 + x2 * 2 + 1, none⟩) (by dsimp only; omega) ⟨by dsimp only; omega, by dsimp only; omega, by dsimp only; omega, by dsimp only; omega, by dsimp only; omega, by dsimp only; omega, trivial⟩ _
          simp only [Nat.zero_add] at d1 d2 f1 f2 Hset
          clear hik him hx1 hx2 hxe hC hS R1
          go_wp2_with fail
          go_region
          all_goals
            go_wp2_with fail
            go_roundg (n - (j + 1))
            case measure => omega
            case rel => exact ⟨j + 1, by omega, by go_num, by rw [Hnx.out]; exact Hset.out.1, Hset.out.2.1, Hset.out.2.2⟩
        · have hj' : ¬ (j : Int) < (n : Int) := by omega
          have hje : j = n := by omega
          have e : i * n + j = (i + 1) * n + 0 := by rw [hje, Nat.add_mul]; omega
          rw [e] at R1
          clear e hje
          go_wp2_with fail
          go_roundg (n - (i + 1))
          case measure => omega
          case rel => exact ⟨i + 1, by omega, by go_num, R1, F1, s1⟩
    · have hi' : ¬ (i : Int) < (n : Int) := by omega
      have hie : n = i := by omega
      have R2 : RowC wr g 0 (bgL n l (n * n)) := by
        have e : i * n + 0 = n * n := by rw [← hie]; omega
        rw [e] at R1; exact R1
      have ei : (i : Int) = (n : Int) := by omega
      obtain ⟨yk, hyk⟩ : ∃ m : Nat, m = y * n1 := ⟨_, rfl⟩
      obtain ⟨nk, hnk⟩ : ∃ m : Nat, m = n * n1 := ⟨_, rfl⟩
      obtain ⟨x3, hx3⟩ : ∃ m : Nat, m = yk + n := ⟨_, rfl⟩
      obtain ⟨x4, hx4⟩ : ∃ m : Nat, m = nk + y := ⟨_, rfl⟩
      have a1 : (y : Int) * (n1 : Int) = (yk : Int) := by rw [hyk, Int.natCast_mul]
      have a2 : (n : Int) * (n1 : Int) = (nk : Int) := by rw [hnk, Int.natCast_mul]
      have a3 : (yk : Int) + (n : Int) = (x3 : Int) := by omega
      have a4 : (nk : Int) + (y : Int) = (x4 : Int) := by omega
      have b1 : x3 < bl := by rw [Hbl.out, hx3, hyk]; exact idx_in (by have := Hn1.out; omega) (by have := Hn1.out; omega)
      have b2 : x4 < bl := by rw [Hbl.out, hx4, hnk]; exact idx_in (by have := Hn1.out; omega) (by have := Hn1.out; omega)
      have b3 : (x3 : Int) < (bl : Int) := by omega
      have b4 : (x4 : Int) < (bl : Int) := by omega
      have b5 : yk ≤ 36 ∧ nk ≤ 36 := by omega
      have hne34 : x3 ≠ x4 := by
        rw [hx3, hx4, hyk, hnk]
        intro h
        have := (idx_inj (n := n1) (by have := Hn1.out; omega) (by have := Hn1.out; omega)).1 h
        omega
      have hAe : asL n l y cv = ((bgL n l (n * n)).set x3 ⟨true, cv⟩).set x4 ⟨true, -cv⟩ := by unfold asL; rw [hx3, hx4, hyk, hnk, Hn1.out]
      have l3 : x3 < (bgL n l (n * n)).length := by rw [hbgl.out]; exact b1
      have l4 : x4 < ((bgL n l (n * n)).set x3 ⟨true, cv⟩).length := by rw [List.length_set, hbgl.out]; exact b2
      have d1 := R2.has x3 l3
      have d2 := R2.most x3 l3
      have d3 := R2.has x4 (by rw [hbgl.out]; exact b2)
      have d4 := R2.most x4 (by rw [hbgl.out]; exact b2)
      have f1 := F1.out (0 + x3 * 2)
      have f2 := F1.out (0 + x3 * 2 + 1)
      have f3 := F1.out (0 + x4 * 2)
      have f4 := F1.out (0 + x4 * 2 + 1)
      have hlg := R2.lt
      have R3 := (R2.set l3 ⟨true, cv⟩).set l4 ⟨true, -cv⟩
      rw [← hAe] at R3
      have F3 : ∀ o, ((((wr.setCell ⟨g, 0 + x3 * 2, none⟩ (.bool true)).setCell ⟨g, 0 + x3 * 2 + 1, none⟩ (.int .i64 cv)).setCell ⟨g, 0 + x4 * 2, none⟩ (.bool true)).setCell ⟨g, 0 + x4 * 2 + 1, none⟩ (.int .i64 (-cv))).frozen? ⟨g, o, none⟩ = false := fun o => by
        rw [frozen?_setCell', frozen?_setCell', frozen?_setCell', frozen?_setCell']; exact F1.out o
      have s3 := (((s1.setO (p := ⟨g, 0 + x3 * 2, none⟩) (by dsimp only; omega) ⟨by dsimp only; omega, by dsimp only; omega, by dsimp only; omega, by dsimp only; omega, by dsimp only; omega, by dsimp only; omega, trivial⟩ (.bool true)).setO (p := ⟨g, 0 + x3 * 2 + 1, none⟩) (by dsimp only; omega) ⟨by dsimp only; omega, by dsimp only; omega, by dsimp only; omega, by dsimp only; omega, by dsimp only; omega, by dsimp only; omega, trivial⟩ (.int .i64 cv)).setO (p := ⟨g, 0 + x4 * 2, none⟩) (by dsimp only; omega) ⟨by dsimp only; omega, by dsimp only; omega, by dsimp only; omega, by dsimp only; omega, by dsimp only; omega, by dsimp only; omega, trivial⟩ (.bool true)).setO (p := ⟨g, 0 + x4 * 2 + 1, none⟩) (by dsimp only; omega) ⟨by dsimp only; omega, by dsimp only; omega, by dsimp only; omega, by dsimp only; omega, by dsimp only; omega, by dsimp only; omega, trivial⟩ (.int .i64 (-cv))
      simp only [Nat.zero_add] at d1 d2 d3 d4 f1 f2 f3 f4 R3 F3 s3
      have cb : -1048576 ≤ cv ∧ cv ≤ 1048576 := by omega
      obtain ⟨FF, hFF⟩ : ∃ F, F = rowOf n1 (mvM (matOf n l) n y cv) := ⟨_, rfl⟩
      have HCw : Hid (∀ W : World, RowC W g 0 (asL n l y cv) → (∀ o, W.frozen? ⟨g, o, none⟩ = false) → Calls Tryd.prog 75 #[(.agg #[.int .i64 n, (.slice (some ⟨g, 0, none⟩) bl bl)])] W fun e w' => e = .returned (.tuple #[(.agg #[.int .i64 n, (.slice (some ⟨g, 0, none⟩) bl bl)]), .bool true]) ∧ OnlyG g W w' ∧ (∀ o, w'.frozen? ⟨g, o, none⟩ = false) ∧ RowC w' g 0 FF) := by
        intro W h1 h2
        have hF := as_closed (by rw [← hl.out]; exact hll.out) hg.out hc.out hy hs.out (c := cv) (by omega)
        have hFd : ∀ i, i < n1 → (FF.getD (i * n1 + i) ceZ).m = 0 := by
          intro i hi
          rw [hFF, rowOf_at hi hi]
          have : mvM (matOf n l) n y cv i i = some 0 := by
            unfold mvM
            rw [Int.sub_self, addB_zero]
            exact hc.out.diag _ (by unfold stI; have := Hn1.out; split <;> omega)
          rw [this]; rfl
        refine (closedWide_any (n : Int) n1 g bl bl (asL n l y cv) W hn1i (by omega) h1 h2 (by show _ = _; rw [asL_len, Hbl.out, Hn1.out]) Hbl).mono ?_
        have hF' : roundsL n1 (diagL n1 (asL n l y cv) n1) (n1 + 1) = FF := by rw [hFF, Hn1.out]; exact hF
        rw [hF']
        rintro e w' ⟨hO, ⟨⟨i, hi, hneg⟩, _⟩ | ⟨_, rfl, hfr, hR'⟩⟩
        · have := hFd i hi; omega
        · exact ⟨rfl, hO, hfr, hR'⟩
      have HFF := hide hFF
      clear hFF hyk hnk hx3 hx4 hAe l3 l4 R1 R2 s1 hie hcell hbgl
      go_upto_region 12 with fail
      obtain ⟨W3, hW3⟩ : ∃ W, W = (((wr.setCell ⟨g, x3 * 2, none⟩ (.bool true)).setCell ⟨g, x3 * 2 + 1, none⟩ (.int .i64 cv)).setCell ⟨g, x4 * 2, none⟩ (.bool true)).setCell ⟨g, x4 * 2 + 1, none⟩ (.int .i64 (-cv)) := ⟨_, rfl⟩
      rw [← hW3] at R3 F3 s3 ⊢
      clear hW3 q1 d1 d2 d3 d4 f1 f2 f3 f4 F1 hlg a1 a2 a3 a4 b1 b2 b3 b4 b5 hne34
      have q3 := s3.hold
      simp only [Holds, and_true] at q3
      go_wp2_with fail
      refine (HCw.out _ R3 F3).mono ?_
      rintro e w4 ⟨rfl, hO4, F4, R4⟩
      have s4 := s3.onlyG hO4 ⟨by dsimp only; omega, by dsimp only; omega, by dsimp only; omega, by dsimp only; omega, by dsimp only; omega, by dsimp only; omega, trivial⟩ (by omega)
      have q4 := s4.hold
      simp only [Holds, and_true] at q4
      have s5 := (s4.put20 (by omega) ⟨by dsimp only; omega, by dsimp only; omega, by dsimp only; omega, by dsimp only; omega, trivial⟩ (.int .i64 n)).put21 (by omega) ⟨by dsimp only; omega, by dsimp only; omega, by dsimp only; omega, by dsimp only; omega, trivial⟩ (.slice (some ⟨g, 0, none⟩) bl bl)
      have R5 := (R4.other (p := ⟨bb, 0, none⟩) (by show bb ≠ g; omega) (.int .i64 n)).other (p := ⟨bb, 1, none⟩) (by show bb ≠ g; omega) (.slice (some ⟨g, 0, none⟩) bl bl)
      have hmk := make_cells len (by omega)
      obtain ⟨M, hM⟩ : ∃ M, M = (Obj.cells (madeCells #[Value.bool false, .int .i64 0] (len * 2)) 68) := ⟨_, rfl⟩
      rw [← hM] at hmk
      have HM : Hid (∀ W : World, RowC (W.alloc M) W.heap.size 0 (ouL n FF x 0) ∧ ∀ o, (W.alloc M).frozen? ⟨W.heap.size, o, none⟩ = false) := fun W => by
        have e : ouL n FF x 0 = List.replicate len ceZ := by show List.replicate _ _ = _; rw [← hll.out]
        rw [hM, e]; exact made_row W len (by omega)
      clear hM HCw R3 F3 s3 q3 hO4 F4 R4 s4
      go_upto_region 15 with fail
      obtain ⟨W5, hW5⟩ : ∃ W, W = (w4.setCell ⟨bb, 0, none⟩ (.int .i64 n)).setCell ⟨bb, 1, none⟩ (.slice (some ⟨g, 0, none⟩) bl bl) := ⟨_, rfl⟩
      rw [← hW5] at R5 s5 ⊢
      clear hW5 q4
      have q5 := s5.hold
      simp only [Holds, and_true] at q5
      have hgl5 := R5.lt
      have hbl5 : bb < W5.heap.size := q5.1.2.1
      go_cut [15] (fun t wx => ∃ b2 g2 : Nat, t = .pointer (some ⟨b2, 0, none⟩) ∧ W5.heap.size ≤ b2 ∧ W5.heap.size ≤ g2 ∧ b2 ≠ g2 ∧ RowC wx g2 0 (ouL n FF x 0) ∧ Hid (∀ o, wx.frozen? ⟨g2, o, none⟩ = false) ∧ RowC wx g 0 FF ∧ St w wx (RZ b off l) ((b2, 0, Value.int .i64 Ni) :: (b2, 1, Value.slice (some ⟨g2, 0, none⟩) len len) :: [(bb, 0, Value.int .i64 n), (bb, 1, (.slice (some ⟨g, 0, none⟩) bl bl)), (w.heap.size + 1, 0, Value.int .i64 0), (w.heap.size + 1, 1, Value.slice none 0 0), (w.heap.size, 0, Value.int .i64 Ni), (w.heap.size, 1, Value.slice (some ⟨b, off, none⟩) len c)]))
      case first =>
        go_region
        all_goals
          go_wp2_with fail
          go_meet
          case rel => first
            | (refine ⟨W5.heap.size + 1, W5.heap.size, rfl, by omega, by omega, by omega, ?_, ?_, ?_, ?_⟩
               · exact ((HM.out W5).1.below ((Below.refl _ _).alloc (Nat.le_refl _) _)).below (Below.refl _ _).drew
               · intro o
                 exact ((show Below (W5.alloc M).heap.size (W5.alloc M) _ from ((Below.refl _ _).alloc (Nat.le_refl _) _).drew).frozen (p := ⟨W5.heap.size, o, none⟩) (by simp)).trans ((HM.out W5).2 o)
               · exact ((R5.below ((Below.refl _ _).alloc (Nat.le_refl _) M)).below ((Below.refl _ _).alloc (Nat.le_refl _) _)).below (Below.refl _ _).drew
               · have h := ((s5.alloc M).box2 24 (.int .i64 Ni) (.slice (some ⟨W5.heap.size, 0, none⟩) len len)).drew
                 simp only [World.size_alloc] at h
                 exact h)
            | (refine ⟨W5.heap.size, W5.heap.size + 1, rfl, by omega, by omega, by omega, ?_, ?_, ?_, ?_⟩
               · have h := (HM.out (W5.alloc (.cells #[.int .i64 Ni, .slice (some ⟨W5.heap.size + 1, 0, none⟩) len len] 24))).1
                 simp only [World.size_alloc] at h
                 exact h.below (Below.refl _ _).drew
               · intro o
                 have h := (HM.out (W5.alloc (.cells #[.int .i64 Ni, .slice (some ⟨W5.heap.size + 1, 0, none⟩) len len] 24))).2 o
                 simp only [World.size_alloc] at h
                 exact ((show Below ((W5.alloc (.cells #[.int .i64 Ni, .slice (some ⟨W5.heap.size + 1, 0, none⟩) len len] 24)).alloc M).heap.size ((W5.alloc (.cells #[.int .i64 Ni, .slice (some ⟨W5.heap.size + 1, 0, none⟩) len len] 24)).alloc M) _ from (Below.refl _ _).drew).frozen (p := ⟨W5.heap.size + 1, o, none⟩) (by simp)).trans h
               · exact ((R5.below ((Below.refl _ _).alloc (Nat.le_refl _) _)).below ((Below.refl _ _).alloc (Nat.le_refl _) M)).below (Below.refl _ _).drew
               · exact ((s5.box2 24 (.int .i64 Ni) (.slice (some ⟨W5.heap.size + 1, 0, none⟩) len len)).alloc M).drew)
      case rest =>
      clear R5 s5 q5 HM hmk
      obtain ⟨b2, g2, rfl, hb2, hg2, hne2, R6, F6, R7, s6⟩ := hcut
      have hgb2 : w.heap.size + 1 < b2 ∧ w.heap.size + 1 < g2 ∧ g ≠ g2 ∧ bb ≠ g2 := by omega
      have houl : Hid (∀ k, (ouL n FF x k).length = len) := fun k => by rw [ouL_len]; exact hll.out.symm
      have hFl : Hid (FF.length = bl) := by show _ = _; rw [HFF.out, rowOf_len, Hbl.out]
      clear hb2 hg2 hgl5 hbl5 M
      go_wp2_with fail
      go_loopg [16] n (fun gh iv wr => ∃ i : Nat, i + gh = n ∧ iv = .int .i64 i ∧ RowC wr g2 0 (ouL n FF x (i * n + 0)) ∧ Hid (∀ o, wr.frozen? ⟨g2, o, none⟩ = false) ∧ RowC wr g 0 FF ∧ St w wr (RZ b off l) ((b2, 0, Value.int .i64 Ni) :: (b2, 1, Value.slice (some ⟨g2, 0, none⟩) len len) :: [(bb, 0, Value.int .i64 n), (bb, 1, (.slice (some ⟨g, 0, none⟩) bl bl)), (w.heap.size + 1, 0, Value.int .i64 0), (w.heap.size + 1, 1, Value.slice none 0 0), (w.heap.size, 0, Value.int .i64 Ni), (w.heap.size, 1, Value.slice (some ⟨b, off, none⟩) len c)]))
      case atStart => exact ⟨0, by omega, rfl, by simpa using R6, F6, R7, s6⟩
      case round =>
        clear R6 F6 R7 s6
        obtain ⟨i, hig, rfl, R6, F6, R7, s6⟩ := hrel
        have q6 := s6.hold
        simp only [Holds, and_true] at q6
        by_cases hi : i < n
        · have hi' : (i : Int) < (n : Int) := by omega
          go_wp2_with fail
          go_loopg [17] n (fun gh jv wr => ∃ j : Nat, j + gh = n ∧ jv = .int .i64 j ∧ RowC wr g2 0 (ouL n FF x (i * n + j)) ∧ Hid (∀ o, wr.frozen? ⟨g2, o, none⟩ = false) ∧ RowC wr g 0 FF ∧ St w wr (RZ b off l) ((b2, 0, Value.int .i64 Ni) :: (b2, 1, Value.slice (some ⟨g2, 0, none⟩) len len) :: [(bb, 0, Value.int .i64 n), (bb, 1, (.slice (some ⟨g, 0, none⟩) bl bl)), (w.heap.size + 1, 0, Value.int .i64 0), (w.heap.size + 1, 1, Value.slice none 0 0), (w.heap.size, 0, Value.int .i64 Ni), (w.heap.size, 1, Value.slice (some ⟨b, off, none⟩) len c)]))
          case atStart => exact ⟨0, by omega, rfl, R6, F6, R7, s6⟩
          case round =>
            clear R6 F6 R7 s6 q6
            obtain ⟨j, hjg, rfl, R6, F6, R7, s6⟩ := hrel
            have q6 := s6.hold
            simp only [Holds, and_true] at q6
            by_cases hj : j < n
            · have hj' : (j : Int) < (n : Int) := by omega
              obtain ⟨p, hp⟩ : ∃ m : Nat, m = if i = x then n else i := ⟨_, rfl⟩
              obtain ⟨q, hq⟩ : ∃ m : Nat, m = if j = x then n else j := ⟨_, rfl⟩
              have hpn : p < n1 := by rw [hp]; have := Hn1.out; split <;> omega
              have hqn : q < n1 := by rw [hq]; have := Hn1.out; split <;> omega
              obtain ⟨ik, hik⟩ : ∃ m : Nat, m = i * n := ⟨_, rfl⟩
              obtain ⟨pm, hpm⟩ : ∃ m : Nat, m = p * n1 := ⟨_, rfl⟩
              obtain ⟨x1, hx1⟩ : ∃ m : Nat, m = ik + j := ⟨_, rfl⟩
              obtain ⟨x2, hx2⟩ : ∃ m : Nat, m = pm + q := ⟨_, rfl⟩
              have a1 : (i : Int) * (n : Int) = (ik : Int) := by rw [hik, Int.natCast_mul]
              have a2 : (p : Int) * (n1 : Int) = (pm : Int) := by rw [hpm, Int.natCast_mul]
              have a3 : (ik : Int) + (j : Int) = (x1 : Int) := by omega
              have a4 : (pm : Int) + (q : Int) = (x2 : Int) := by omega
              have b1 : x1 < len := by rw [hll.out, hx1, hik]; exact idx_in hi hj
              have b2' : x2 < bl := by rw [Hbl.out, hx2, hpm]; exact idx_in hpn hqn
              have b3 : (x1 : Int) < (len : Int) := by omega
              have b4 : (x2 : Int) < (bl : Int) := by omega
              have b5 : ik ≤ 36 ∧ pm ≤ 36 := by omega
              have hxe : x1 = i * n + j := by rw [hx1, hik]
              have Hnx : Hid (ouL n FF x (i * n + (j + 1)) = (ouL n FF x (i * n + j)).set x1 (FF.getD x2 ceZ)) := by
                obtain ⟨e1, e2⟩ := div_at (i := i) hj
                show (ouL n FF x (i * n + j)).set (i * n + j) (FF.getD ((if (i * n + j) / n = x then n else (i * n + j) / n) * (n + 1) + (if (i * n + j) % n = x then n else (i * n + j) % n)) ceZ) = _
                rw [e1, e2, ← hxe, ← hp, ← hq, hx2, hpm, Hn1.out]
              have c1 := R7.has x2 (by rw [hFl.out]; exact b2')
              have c2 := R7.most x2 (by rw [hFl.out]; exact b2')
              obtain ⟨⟨ch, cm⟩, hC⟩ : ∃ C, C = FF.getD x2 ceZ := ⟨_, rfl⟩
              rw [← hC] at c1 c2 Hnx
              dsimp only at c1 c2
              obtain ⟨S, hS⟩ : ∃ S, S = ouL n FF x (i * n + j) := ⟨_, rfl⟩
              have hSl : x1 < S.length := by rw [hS, houl.out]; exact b1
              rw [← hS] at R6 Hnx
              have d1 := R6.has x1 hSl
              have d2 := R6.most x1 hSl
              have f1 := F6.out (0 + x1 * 2)
              have f2 := F6.out (0 + x1 * 2 + 1)
              have hlg := R6.lt
              have hlb := R7.lt
              have Hset : Hid (RowC ((wr.drew.setCell ⟨g2, 0 + x1 * 2, none⟩ (.bool ch)).setCell ⟨g2, 0 + x1 * 2 + 1, none⟩ (.int .i64 cm)) g2 0 (S.set x1 ⟨ch, cm⟩) ∧ (∀ o, ((wr.drew.setCell ⟨g2, 0 + x1 * 2, none⟩ (.bool ch)).setCell ⟨g2, 0 + x1 * 2 + 1, none⟩ (.int .i64 cm)).frozen? ⟨g2, o, none⟩ = false) ∧ RowC ((wr.drew.setCell ⟨g2, 0 + x1 * 2, none⟩ (.bool ch)).setCell ⟨g2, 0 + x1 * 2 + 1, none⟩ (.int .i64 cm)) g 0 FF ∧ St w ((wr.drew.setCell ⟨g2, 0 + x1 * 2, none⟩ (.bool ch)).setCell ⟨g2, 0 + x1 * 2 + 1, none⟩ (.int .i64 cm)) (RZ b off l) ((b2, 0, Value.int .i64 Ni) :: (b2, 1, Value.slice (some ⟨g2, 0, none⟩) len len) :: [(bb, 0, Value.int .i64 n), (bb, 1, (.slice (some ⟨g, 0, none⟩) bl bl)), (w.heap.size + 1, 0, Value.int .i64 0), (w.heap.size + 1, 1, Value.slice none 0 0), (w.heap.size, 0, Value.int .i64 Ni), (w.heap.size, 1, Value.slice (some ⟨b, off, none⟩) len c)])) := by
                have bD : Below wr.heap.size wr wr.drew := (Below.refl _ _).drew
                refine ⟨(R6.below bD).set hSl ⟨ch, cm⟩, fun o => by rw [frozen?_setCell', frozen?_setCell']; exact (bD.frozen (p := ⟨g2, o, none⟩) R6.lt).trans (F6.out o), ((R7.below bD).other (by show g2 ≠ g; omega) _).other (by show g2 ≠ g; omega) _, ?_⟩
                exact (s6.drew.setO (p := ⟨g2, 0 + x1 * 2, none⟩) (by dsimp only; omega) ⟨by dsimp only; omega, by dsimp only; omega, by dsimp only; omega, by dsimp only; omega, by dsimp only; omega, by dsimp only; omega, by dsimp only; omega, by dsimp only; omega, trivial⟩ _).setO (p := ⟨g2, 0 + x1 * 2 + 1, none⟩) (by dsimp only; omega) ⟨by dsimp only; omega, by dsimp only; omega, by dsimp only; omega, by dsimp only; omega, by dsimp only; omega, by dsimp only; omega, by dsimp only; omega, by dsimp only; omega, trivial⟩ _
              simp only [Nat.zero_add] at c1 c2 d1 d2 f1 f2 Hset
              have Hp := hide hp
              have Hq := hide hq
              clear hik hpm hx1 hx2 hxe hC hS R6 hp hq
              go_upto_if 113 with fail
              go_cut [18] (fun t wx => t = .int .i64 p ∧ wr = wx)
              case first =>
                by_cases kk : i = x
                · have e1 : p = n := by rw [Hp.out, if_pos kk]
                  have kb : ((i : Int) == (x : Int)) = true := by simp; omega
                  go_wp2_with fail
                  go_meet
                  case rel => exact ⟨by rw [e1], rfl⟩
                · have e1 : p = i := by rw [Hp.out, if_neg kk]
                  have kb : ((i : Int) == (x : Int)) = false := by simp; omega
                  go_wp2_with fail
                  go_meet
                  case rel => exact ⟨by rw [e1], rfl⟩
              case rest =>
              obtain ⟨rfl, rfl⟩ := hcut
              go_upto_if 117 with fail
              go_cut [19] (fun t wx => t = .int .i64 q ∧ wr = wx)
              case first =>
                by_cases kk : j = x
                · have e1 : q = n := by rw [Hq.out, if_pos kk]
                  have kb : ((j : Int) == (x : Int)) = true := by simp; omega
                  go_wp2_with fail
                  go_meet
                  case rel => exact ⟨by rw [e1], rfl⟩
                · have e1 : q = j := by rw [Hq.out, if_neg kk]
                  have kb : ((j : Int) == (x : Int)) = false := by simp; omega
                  go_wp2_with fail
                  go_meet
                  case rel => exact ⟨by rw [e1], rfl⟩
              case rest =>
              obtain ⟨rfl, rfl⟩ := hcut
              go_wp2_with fail
              go_region
              all_goals
                go_wp2_with fail
                go_roundg (n - (j + 1))
                case measure => omega
                case rel => exact ⟨j + 1, by omega, by go_num, by rw [Hnx.out]; exact Hset.out.1, Hset.out.2.1, Hset.out.2.2.1, Hset.out.2.2.2⟩
            · have hj' : ¬ (j : Int) < (n : Int) := by omega
              have hje : j = n := by omega
              have e : i * n + j = (i + 1) * n + 0 := by rw [hje, Nat.add_mul]; omega
              rw [e] at R6
              clear e hje
              go_wp2_with fail
              go_roundg (n - (i + 1))
              case measure => omega
              case rel => exact ⟨i + 1, by omega, by go_num, R6, F6, R7, s6⟩
        · have hi' : ¬ (i : Int) < (n : Int) := by omega
          have hie : i = n := by omega
          obtain ⟨O, hO⟩ : ∃ O, O = rowOf n (mvM (matOf n l) x y cv) := ⟨_, rfl⟩
          have R8 : RowC wr g2 0 O := by
            have e : i * n + 0 = n * n := by rw [hie]; omega
            rw [e, HFF.out, Hn1.out, ou_all hy, ← hO] at R6; exact R6
          have hOl : Hid (len = O.length) := by show _ = _; rw [hO, rowOf_len]; exact hll.out
          have hOc : O.map clipC = O := by
            apply clip_near
            intro k hk
            rw [hO, rowOf_len] at hk
            obtain ⟨h1, h2, _⟩ := bg_idx hk
            have ek : k / n * n + k % n = k := by rw [Nat.mul_comm]; exact Nat.div_add_mod _ _
            rw [hO, ← ek, rowOf_at h1 h2]
            have u1 := shI_small (x := x) (c := cv) (by omega) (k / n)
            have u2 := shI_small (x := x) (c := cv) (by omega) (k % n)
            have v1 : (shI x cv (k / n)).natAbs ≤ 1048576 := by unfold shI; split <;> omega
            have v2 : (shI x cv (k % n)).natAbs ≤ 1048576 := by unfold shI; split <;> omega
            unfold mvM
            cases e : matOf n l (stI x y (k / n)) (stI x y (k % n)) with
            | none => simp [addB, ceOf]
            | some v =>
              have := hs.out _ _ (stI_lt (x := x) hy h1) (stI_lt (x := x) hy h2) v e
              simp [addB, ceOf]
              omega
          have HCp : Hid (∀ W : World, RowC W g2 0 O → (∀ o, W.frozen? ⟨g2, o, none⟩ = false) → Calls Tryd.prog 59 #[.slice (some ⟨g2, 0, none⟩) len len] W fun e w' => e = .returned (.tuple #[]) ∧ RowC w' g2 0 O ∧ Only g2 W w') := fun W h1 h2 => by
            have := clip_any g2 0 len len O W h1 h2 hOl (by omega)
            rw [hOc] at this
            exact this
          have HO := hide hO
          clear hO hOc R6
          go_wp2_with fail
          refine (HCp.out _ R8 F6.out).mono ?_
          rintro e w9 ⟨rfl, R9, hO9⟩
          have s9 := s6.onlyG (.of_only hO9) ⟨by dsimp only; omega, by dsimp only; omega, by dsimp only; omega, by dsimp only; omega, by dsimp only; omega, by dsimp only; omega, by dsimp only; omega, by dsimp only; omega, trivial⟩ (by omega)
          have F9 : ∀ o, w9.frozen? ⟨g2, o, none⟩ = false := fun o => (hO9.fr _).trans (F6.out o)
          have q9 := s9.hold
          simp only [Holds, and_true] at q9
          clear q6 s6
          go_wp2_with fail
          refine bodyPost_ret (v := .tuple #[(.agg #[.int .i64 Ni, (.slice (some ⟨g2, 0, none⟩) len len)]), .bool true]) (by simp [results, Tryd.results37, go_sem, q9]) rfl ⟨?_, .inr ⟨trivial, g2, len, rfl, by omega, ?_, ?_⟩⟩
          · repeat' (first | exact s9.bel | refine Below.setCell ?_ (by first | (simp; done) | (simp; omega)) _)
          · intro o
            rw [frozen?_setCell', frozen?_setCell']
            exact F9 o
          · rw [← HO.out]
            exact (R9.other (by show w.heap.size + 1 ≠ g2; omega) _).other (by show w.heap.size + 1 ≠ g2; omega) _
end Go.Proofs.YtkngedinomngbaaDoor
