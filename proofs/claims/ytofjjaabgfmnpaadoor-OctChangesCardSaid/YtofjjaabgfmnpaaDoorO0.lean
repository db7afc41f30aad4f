/- Octagons: without a variable: the reference (FreeOct). -/
import Derived.Test.YtofjjaabgfmnpaaDoorZk
import Derived.Test.YtofjjaabgfmnpaaDoorO1
import Derived.Test.YtofjjaabgfmnpaaDoorXd
import Derived.Test.YtofjjaabgfmnpaaDoorXj
import Derived.Test.YtofjjaabgfmnpaaDoorYa
import Derived.Deep.Cut
import Derived.Deep.DeepCutAuto
import Derived.Test.YtofjjaabgfmnpaaDoorOk
import Derived.Test.YtofjjaabgfmnpaaDoorYg
import Derived.Test.YtofjjaabgfmnpaaDoorXc
import Derived.Test.YtofjjaabgfmnpaaDoorYi
import Derived.Deep.CutBlock
import Derived.BigQuiet
namespace Go.Proofs.YtofjjaabgfmnpaaDoor
open Go.RowKit
set_option linter.unusedVariables false

/-- Is a place wiped out? -/
def wipB (n x p : Nat) : Bool := decide (p / n ≠ p % n ∧ (p / n / 2 = x ∨ p % n / 2 = x))
def frO (n : Nat) (l : List Ce) (x : Nat) : Nat → List Ce
  | 0 => []
  | k + 1 => frO n l x k ++ [if wipB n x k = true then ceZ else l.getD k ceZ]
theorem frO_len (n : Nat) (l : List Ce) (x : Nat) : ∀ k, (frO n l x k).length = k := by
  intro k
  induction k with
  | zero => rfl
  | succ k ih => show (frO n l x k ++ _).length = _; rw [List.length_append, ih]; rfl
theorem frO_at (n : Nat) (l : List Ce) (x : Nat) : ∀ k p, p < k → (frO n l x k).getD p ceZ = if wipB n x p = true then ceZ else l.getD p ceZ := by
  intro k
  induction k with
  | zero => intro p hp; omega
  | succ k ih =>
    intro p hp
    show (frO n l x k ++ _).getD p ceZ = _
    by_cases e : p = k
    · subst e
      simp [List.getD, frO_len]
    · have : p < (frO n l x k).length := by rw [frO_len]; omega
      rw [← ih p (by omega)]
      simp [List.getD, List.getElem?_append_left this]

set_option maxRecDepth 20000 in
set_option maxHeartbeats 8000000 in
theorem freeOct_any (N : Int) (x n b off c len : Nat) (l : List Ce) (w : World) (hR : RowC w b off l) (hl : Hid (len = l.length)) (hll : Hid (len = n * n)) (hn : 2 ≤ n ∧ n ≤ 8) (hN : 2 * N = n) :
    Calls Tryd.prog 36 #[(.agg #[.int .i64 N, (.slice (some ⟨b, off, none⟩) len c)]), .int .i64 x] w fun e w' => ∃ v, e = .returned (.agg #[.int .i64 N, v]) ∧ w'.ownsRow w.heap.size 69 2 v len (cellsV (frO n l x (n * n))) ∧ Below w.heap.size w w' := by
  obtain ⟨i0, hi0, hz0, hz1, hz2⟩ := info_parts Tryd.infoCellM
  have s1 := (((St.start1' w).box2 24 (.int .i64 N) (.slice (some ⟨b, off, none⟩) len c)).box2 24 (.int .i64 0) (.slice none 0 0)).box2 24 (.int .i64 N) (.slice none 0 0)
  simp only [World.size_alloc] at s1
  have hlen : 1 ≤ len ∧ len ≤ 64 := by
    have := hll.out
    have h1 := Nat.mul_le_mul hn.2 hn.2
    have h2 := Nat.mul_le_mul hn.1 hn.1
    omega
  have hNb : 0 ≤ N ∧ N ≤ 4 := by omega
  go_enter Tryd.func36, Tryd.ntmps36
  go_wp2_with fail
  go_loopg [7] n (fun gh iv wr => ∃ (i kn cp : Nat) (z : Option Addr), i + gh = n ∧ iv = .int .i64 i ∧ Hid (kn = i * n) ∧ wr.ownsRow (w.heap.size + 1 + 1 + 1) 69 2 (.slice z kn cp) kn (cellsV (frO n l x kn)) ∧ St w wr (fun _ => True) [(w.heap.size + 1 + 1, 0, Value.int .i64 N), (w.heap.size + 1 + 1, 1, Value.slice z kn cp), (w.heap.size + 1, 0, Value.int .i64 0), (w.heap.size + 1, 1, Value.slice none 0 0), (w.heap.size, 0, Value.int .i64 N), (w.heap.size, 1, Value.slice (some ⟨b, off, none⟩) len c)])
  case atStart => exact ⟨0, 0, 0, none, by omega, rfl, (by show _ = _; omega), World.ownsRow_nil _ _ _ _, s1⟩
  case round =>
    clear s1
    obtain ⟨i, kn, cp, z, hig, rfl, Hkn, own, st⟩ := hrel
    have qs := st.hold
    simp only [Holds, and_true] at qs
    by_cases hi : i < n
    · have hi' : (i : Int) < (n : Int) := by omega
      go_wp2_with fail
      go_loopg [8] n (fun gh jv wr => ∃ (j k cp : Nat) (z : Option Addr), j + gh = n ∧ jv = .int .i64 j ∧ Hid (k = i * n + j) ∧ wr.ownsRow (w.heap.size + 1 + 1 + 1) 69 2 (.slice z k cp) k (cellsV (frO n l x k)) ∧ St w wr (fun _ => True) [(w.heap.size + 1 + 1, 0, Value.int .i64 N), (w.heap.size + 1 + 1, 1, Value.slice z k cp), (w.heap.size + 1, 0, Value.int .i64 0), (w.heap.size + 1, 1, Value.slice none 0 0), (w.heap.size, 0, Value.int .i64 N), (w.heap.size, 1, Value.slice (some ⟨b, off, none⟩) len c)])
      case atStart => exact ⟨0, kn, cp, z, by omega, rfl, Hkn, own, st⟩
      case round =>
        clear st own qs Hkn
        obtain ⟨j, k, cp, z, hjg, rfl, Hk, own, st⟩ := hrel
        have qs := st.hold
        simp only [Holds, and_true] at qs
        by_cases hj : j < n
        · have hj' : (j : Int) < (n : Int) := by omega
          obtain ⟨ik, hik⟩ : ∃ m : Nat, m = i * n := ⟨_, rfl⟩
          have a1 : (i : Int) * (n : Int) = (ik : Int) := by rw [hik, Int.natCast_mul]
          have a3 : (ik : Int) + (j : Int) = (k : Int) := by have := Hk.out; rw [← hik] at this; omega
          have b1 : k < len := by rw [hll.out, Hk.out]; exact idx_in hi hj
          have b3 : (k : Int) < (len : Int) := by omega
          have b5 : ik ≤ 64 := by omega
          have hkl : k < l.length := by rw [← hl.out]; exact b1
          obtain ⟨e1, e2⟩ := div_at (i := i) hj
          rw [← Hk.out] at e1 e2
          obtain ⟨wb, hwb⟩ : ∃ t, t = wipB n x k := ⟨_, rfl⟩
          have Hwb : Hid (wb = decide (i ≠ j ∧ (i / 2 = x ∨ j / 2 = x))) := by show _ = _; rw [hwb]; unfold wipB; rw [e1, e2]
          obtain ⟨⟨ch, cm⟩, hc⟩ : ∃ C, C = l.getD k ceZ := ⟨_, rfl⟩
          have R := hR.below (st.bel)
          have c1 : wr.cell? ⟨b, off + k * 2, none⟩ = some (.bool ch) := by have := R.has k hkl; rw [← hc] at this; exact this
          have c2 : wr.cell? ⟨b, off + k * 2 + 1, none⟩ = some (.int .i64 cm) := by have := R.most k hkl; rw [← hc] at this; exact this
          have hbl := R.lt
          obtain ⟨dh, hdh⟩ : ∃ t, t = if wb = true then false else ch := ⟨_, rfl⟩
          obtain ⟨dm, hdm⟩ : ∃ t : Int, t = if wb = true then 0 else cm := ⟨_, rfl⟩
          have HT : Hid (cellsV (frO n l x (k + 1)) = cellsV (frO n l x k) ++ [.bool dh, .int .i64 dm]) := by
            show cellsV (frO n l x k ++ [if wipB n x k = true then ceZ else l.getD k ceZ]) = _
            rw [cellsV_snoc, ← hwb, ← hc, hdh, hdm]
            cases wb <;> rfl
          obtain ⟨zs, hzs⟩ : ∃ zs, zs = cellsV (frO n l x k) := ⟨_, rfl⟩
          rw [← hzs] at own HT
          have hsz : w.heap.size + 1 + 1 < wr.heap.size := qs.1.2.1
          have Hdh := hide hdh
          have Hdm := hide hdm
          clear hc hzs R hdh hdm hwb e1 e2 hik
          go_upto_region 10 with fail
          go_cut [49] (fun t wx => t = .bool wb ∧ wr.alloc (.cells #[.bool ch, .int .i64 cm] 69) = wx)
          case first =>
            by_cases k1 : i = j
            · have kb : ((i : Int) != (j : Int)) = false := by simp [k1]
              have e : Hid (wb = false) := by show _ = _; rw [Hwb.out]; simp [k1]
              clear Hwb
              go_wp2_with fail
              go_meet
              case rel => exact ⟨by rw [e.out], rfl⟩
            have kb : ((i : Int) != (j : Int)) = true := by simp; omega
            by_cases k2 : i / 2 = x
            · have k2b : ((i : Int) / 2 == (x : Int)) = true := by simp; omega
              have e : Hid (wb = true) := by show _ = _; rw [Hwb.out]; simp [k1, k2]
              clear Hwb
              go_wp2_with fail
              go_meet
              case rel => exact ⟨by rw [e.out], rfl⟩
            have k2b : ((i : Int) / 2 == (x : Int)) = false := by simp; omega
            by_cases k3 : j / 2 = x
            · have k3b : ((j : Int) / 2 == (x : Int)) = true := by simp; omega
              have e : Hid (wb = true) := by show _ = _; rw [Hwb.out]; simp [k1, k3]
              clear Hwb
              go_wp2_with fail
              go_meet
              case rel => exact ⟨by rw [e.out], rfl⟩
            · have k3b : ((j : Int) / 2 == (x : Int)) = false := by simp; omega
              have e : Hid (wb = false) := by show _ = _; rw [Hwb.out]; simp [k1, k2, k3]
              clear Hwb
              go_wp2_with fail
              go_meet
              case rel => exact ⟨by rw [e.out], rfl⟩
          case rest =>
          obtain ⟨rfl, rfl⟩ := hcut
          clear Hwb
          go_upto_if 49 with fail
          go_cut [9] (fun t wx => t = .pointer (some ⟨wr.heap.size, 0, none⟩) ∧ wr.alloc (.cells #[.bool dh, .int .i64 dm] 69) = wx)
          case first =>
            cases wb
            · have e : Hid (dh = ch ∧ dm = cm) := ⟨by rw [Hdh.out]; simp, by rw [Hdm.out]; simp⟩
              clear Hdh Hdm
              go_wp2_with fail
              go_meet
              case rel => exact ⟨rfl, by rw [e.out.1, e.out.2]⟩
            · have e : Hid (dh = false ∧ dm = 0) := ⟨by rw [Hdh.out]; simp, by rw [Hdm.out]; simp⟩
              clear Hdh Hdm
              go_wp2_with fail
              go_meet
              case rel => exact ⟨rfl, by rw [e.out.1, e.out.2]⟩
          case rest =>
          obtain ⟨rfl, rfl⟩ := hcut
          clear Hdh Hdm
          have s9 := st.box2 69 (.bool dh) (.int .i64 dm)
          have own9 := own.alloc (.cells #[.bool dh, .int .i64 dm] 69)
          obtain ⟨W9, hW9⟩ : ∃ W, W = wr.alloc (.cells #[.bool dh, .int .i64 dm] 69) := ⟨_, rfl⟩
          obtain ⟨b9, hb9⟩ : ∃ t, t = wr.heap.size := ⟨_, rfl⟩
          go_upto_region 12 with fail
          rw [← hW9] at s9 own9 ⊢
          rw [← hb9] at s9 ⊢
          have q9 := s9.hold
          simp only [Holds, and_true] at q9
          have st9 := s9.drop 2
          simp only [List.drop] at st9
          have hsz9 : w.heap.size + 1 + 1 < W9.heap.size := q9.2.2.1.2.1
          clear hW9 hb9 own st qs s9 c1 c2 hsz hbl
          go_wp2_with (at_builtin; refine wpList_append_lies _ rfl _ _ 22 rfl (w.heap.size + 1 + 1 + 1) 69 i0 _ 2 16 Tryd.underlying22 hi0 hz0 hz1 hz2 rfl (by decide) _ _ _ rfl (own9.alloc _) ⟨W9.heap.size, 0, none⟩ 1 1 [.bool dh, .int .i64 dm] rfl rfl (cell_two_new _ _ _ _) (by intro u hu; simp at hu; rcases hu with rfl | rfl <;> rfl) (by omega) (by unfold maxLen; omega) (by omega) (by simp; omega) (W9.heap.size + 1) (by simp) ?_)
          intro g1 c1' w2 own1' hgrow hat hlt'
          have B2 := ((Below.refl (w.heap.size + 1 + 1 + 1) W9).alloc (by omega) (.cells #[.bool dh, .int .i64 dm] 69)).grown hgrow (by simp; omega) (fun j hj => (own9.lt j hj).1)
          have st2 := st9.callB B2 ⟨by dsimp only; omega, by dsimp only; omega, by dsimp only; omega, by dsimp only; omega, by dsimp only; omega, by dsimp only; omega, trivial⟩ (by omega)
          have q2 := st2.hold
          simp only [Holds, and_true] at q2
          all_goals
            have st3 := st2.put21 (by omega) ⟨by dsimp only; omega, by dsimp only; omega, by dsimp only; omega, by dsimp only; omega, trivial⟩ (.slice (some ⟨g1, 0, none⟩) (k + 1) c1')
            have own3 : (w2.setCell ⟨w.heap.size + 1 + 1, 1, none⟩ (.slice (some ⟨g1, 0, none⟩) (k + 1) c1')).ownsRow (w.heap.size + 1 + 1 + 1) 69 2 (.slice (some ⟨g1, 0, none⟩) (k + 1) c1') (k + 1) (cellsV (frO n l x (k + 1))) := by
              rw [HT.out]
              exact ownsRow_setCell_below own1' (by show w.heap.size + 1 + 1 < _; omega) _
            go_wp2_with fail
            go_roundg (n - (j + 1))
            case measure => omega
            case rel => exact ⟨j + 1, k + 1, c1', some ⟨g1, 0, none⟩, by omega, by go_num, (by show _ = _; rw [Hk.out]; omega), own3, st3⟩
        · have hke : j = n := by omega
          subst hke
          have hkn : ¬ (j : Int) < (j : Int) := by omega
          go_wp2_with fail
          go_roundg (j - (i + 1))
          case measure => omega
          case rel => exact ⟨i + 1, k, cp, z, by omega, by go_num, by show _ = _; rw [Hk.out, Nat.add_mul, Nat.one_mul], own, st⟩
    · have hke : i = n := by omega
      subst hke
      have e : kn = len := by rw [Hkn.out, hll.out]
      subst e
      have hkn : ¬ (i : Int) < (i : Int) := by omega
      go_wp2_with fail
      refine bodyPost_ret (v := (.agg #[.int .i64 N, (.slice z kn cp)])) (by simp [results, Tryd.results36, go_sem, *]) rfl ⟨.slice z kn cp, rfl, ?_, ?_⟩
      · rw [← hll.out]
        exact owns_base' (ownsRow_setCell_below (ownsRow_setCell_below own (by show w.heap.size + 1 < _; omega) _) (by show w.heap.size + 1 < _; omega) _) (by omega)
      · iterate 2 refine Below.setCell ?_ (by first | (simp; done) | (simp; omega)) _
        exact st.bel
end Go.Proofs.YtofjjaabgfmnpaaDoor

/- Octagons: a variable becomes another one, its opposite or nothing, and a number: the reference's walk (AssignedOct). -/
namespace Go.Proofs.YtofjjaabgfmnpaaDoor
open Go.RowKit
set_option linter.unusedVariables false

/-- A new row of cells that say nothing. -/
theorem made_row (w : World) (n : Nat) (hn : n ≤ 1000) : RowC (w.alloc (Obj.cells (madeCells #[Value.bool false, .int .i64 0] (n * 2)) 69)) w.heap.size 0 (List.replicate n ceZ) ∧ ∀ o, (w.alloc (Obj.cells (madeCells #[Value.bool false, .int .i64 0] (n * 2)) 69)).frozen? ⟨w.heap.size, o, none⟩ = false := by
  have own := World.ownsRow_lit (base := w.heap.size) (e := 69) (size := 2) w (madeCells #[Value.bool false, .int .i64 0] (n * 2)) n (Nat.le_refl _) (by unfold maxLen; omega) (by simp [madeCells])
  rw [zerosV] at own
  exact RowC.of_own own (by simp) (by simp)
theorem make_cells (n : Nat) (hn : n ≤ 1000) (w : World) : (Instr.makeSlice 22 (.int .i64 (n : Int)) (.int .i64 (n : Int))).run Tryd.prog w = .ok (.slice (some ⟨w.heap.size, 0, none⟩) n n) (w.alloc (Obj.cells (madeCells #[Value.bool false, .int .i64 0] (n * 2)) 69)) := by
  obtain ⟨i0, hi, hz0, hz1, hz2⟩ := info_parts Tryd.infoCellM
  have := run_make (P := Tryd.prog) w 22 69 i0 _ Tryd.underlying22 hi hz0 .i64 .i64 (n : Int) (n : Int) (by omega) (Int.le_refl _) (by rw [hz2]; omega) (by omega)
  simp only [Int.toNat_natCast, hz1] at this
  exact this

theorem St.setO {w W : World} {Z : World → Prop} {L : List (Nat × Nat × Value)} (h : St w W Z L) {p : Addr} (hb : w.heap.size ≤ p.block) (ap : Apart p.block L) (v : Value) : St w (W.setCell p v) Z L := by
  have b : Below w.heap.size W (W.setCell p v) := (Below.refl _ _).setCell hb _
  exact ⟨h.bel.trans b, h.hold.setCell ap v, h.cl _ _ h.sent b, h.cl⟩
theorem RowC.ne_box {W : World} {g b : Nat} {L : List Ce} (h : RowC W g 0 L) (h1 : 1 ≤ L.length) {k : IntKind} {v : Int} (hc : W.cell? ⟨b, 0, none⟩ = some (.int k v)) : b ≠ g := by
  intro e
  have := h.has 0 (by omega)
  rw [← e] at this
  simp only [Nat.zero_mul, Nat.zero_add] at this
  rw [hc] at this
  cases this

set_option maxRecDepth 20000 in
set_option maxHeartbeats 8000000 in
theorem assignedOct_any (x0 n b off c len : Nat) (l : List Ce) (x y : Nat) (sg cv : Int) (w : World) (hR : RowC w b off l) (hl : Hid (len = l.length)) (hll : Hid (len = n * n)) (hn : 2 ≤ n ∧ n ≤ 8) (he : n % 2 = 0) (hN : 2 * (x0 : Int) = n) (hx : 2 * x + 1 < n) (hy : 2 * y + 1 < n) (hsg : sg = 1 ∨ sg = -1 ∨ sg = 0) (gd : Hid (Gd l)) (inR : Hid (InR l)) (hT : Hid (Tight n (matOf n l))) (hs : Hid (∀ i j, i < n → j < n → ∀ v, matOf n l i j = some v → v.natAbs ≤ 1073741824)) (hcv : cv.natAbs ≤ 1048576) :
    Calls Tryd.prog 37 #[(.agg #[.int .i64 x0, (.slice (some ⟨b, off, none⟩) len c)]), .int .i64 x, .int .i64 sg, .int .i64 y, .int .i64 cv] w fun e w' => NrPost w x0 len True (rowOf n (mvO (matOf n l) x sg y cv)) e w' := by
  have s0 := ((St.startR hR).box2 24 (.int .i64 x0) (.slice (some ⟨b, off, none⟩) len c)).box2 24 (.int .i64 0) (.slice none 0 0)
  simp only [World.size_alloc] at s0
  have q0 := s0.hold
  simp only [Holds, and_true] at q0
  obtain ⟨n1, hn1⟩ : ∃ k, k = n + 2 := ⟨_, rfl⟩
  obtain ⟨bl, hbl⟩ : ∃ k, k = n1 * n1 := ⟨_, rfl⟩
  obtain ⟨N1, hN1⟩ : ∃ k : Int, (x0 : Int) + 1 = k := ⟨_, rfl⟩
  have hN1b : 0 ≤ N1 ∧ N1 ≤ 5 := by omega
  have hN2 : 2 * N1 = n1 := by omega
  have hb1 : (n1 : Int) * (n1 : Int) = (bl : Int) := by rw [hbl, Int.natCast_mul]
  have hblb : 16 ≤ bl ∧ bl ≤ 100 := by
    have h1 := Nat.mul_le_mul (show n1 ≤ 10 by omega) (show n1 ≤ 10 by omega)
    have h2 := Nat.mul_le_mul (show 4 ≤ n1 by omega) (show 4 ≤ n1 by omega)
    omega
  have hn1i : (n : Int) + 2 = (n1 : Int) := by omega
  have hlen : 4 ≤ len ∧ len ≤ 64 := by
    have := hll.out
    have h1 := Nat.mul_le_mul hn.2 hn.2
    have h2 := Nat.mul_le_mul hn.1 hn.1
    omega
  have hNb : 1 ≤ x0 ∧ x0 ≤ 4 := by omega
  have hsb : -1 ≤ sg ∧ sg ≤ 1 := by omega
  have cb : -1048576 ≤ cv ∧ cv ≤ 1048576 := by omega
  have hmi : (n : Int) * (n : Int) = (len : Int) := by rw [hll.out, Int.natCast_mul]
  have hmk := make_cells bl (by omega)
  have Hbl := hide hbl
  have Hn1 := hide hn1
  have hbel := hR.lt
  have n1b : 4 ≤ n1 ∧ n1 ≤ 10 := by omega
  obtain ⟨M, hM⟩ : ∃ M, M = (Obj.cells (madeCells #[Value.bool false, .int .i64 0] (bl * 2)) 69) := ⟨_, rfl⟩
  rw [← hM] at hmk
  have HM : Hid (∀ W : World, RowC (W.alloc M) W.heap.size 0 (bgO n n1 l 0) ∧ ∀ o, (W.alloc M).frozen? ⟨W.heap.size, o, none⟩ = false) := fun W => by
    have e : bgO n n1 l 0 = List.replicate bl ceZ := by show List.replicate _ _ = _; rw [hbl]
    rw [hM, e]; exact made_row W bl (by omega)
  have Hsg := hide hsg
  clear hbl hn1 hM hR hsg
  go_enter Tryd.func37, Tryd.ntmps37
  go_upto_region 3 with fail
  go_cut [14] (fun t wx => ∃ bb g : Nat, t = .pointer (some ⟨bb, 0, none⟩) ∧ w.heap.size + 1 < bb ∧ w.heap.size + 1 < g ∧ bb ≠ g ∧ RowC wx g 0 (bgO n n1 l 0) ∧ Hid (∀ o, wx.frozen? ⟨g, o, none⟩ = false) ∧ St w wx (RZ b off l) [(bb, 0, Value.int .i64 N1), (bb, 1, (.slice (some ⟨g, 0, none⟩) bl bl)), (w.heap.size + 1, 0, Value.int .i64 0), (w.heap.size + 1, 1, Value.slice none 0 0), (w.heap.size, 0, Value.int .i64 x0), (w.heap.size, 1, Value.slice (some ⟨b, off, none⟩) len c)])
  case first =>
    go_region
    all_goals
      go_wp2_with fail
      go_meet
      case rel => first
        | (refine ⟨w.heap.size + 1 + 1 + 1, w.heap.size + 1 + 1, rfl, by omega, by omega, by omega, ?_, ?_, ?_⟩
           · have h := (HM.out ((w.alloc (.cells #[.int .i64 x0, .slice (some ⟨b, off, none⟩) len c] 24)).alloc (.cells #[.int .i64 0, .slice none 0 0] 24))).1
             simp only [World.size_alloc] at h
             exact (h.below ((Below.refl _ _).alloc (Nat.le_refl _) _)).below (Below.refl _ _).drew
           · intro o
             have h := (HM.out ((w.alloc (.cells #[.int .i64 x0, .slice (some ⟨b, off, none⟩) len c] 24)).alloc (.cells #[.int .i64 0, .slice none 0 0] 24))).2 o
             simp only [World.size_alloc] at h
             exact ((show Below (((w.alloc (.cells #[.int .i64 x0, .slice (some ⟨b, off, none⟩) len c] 24)).alloc (.cells #[.int .i64 0, .slice none 0 0] 24)).alloc M).heap.size (((w.alloc (.cells #[.int .i64 x0, .slice (some ⟨b, off, none⟩) len c] 24)).alloc (.cells #[.int .i64 0, .slice none 0 0] 24)).alloc M) _ from ((Below.refl _ _).alloc (Nat.le_refl _) _).drew).frozen (p := ⟨w.heap.size + 1 + 1, o, none⟩) (by simp)).trans h
           · have h := ((s0.alloc M).box2 24 (.int .i64 N1) (.slice (some ⟨w.heap.size + 1 + 1, 0, none⟩) bl bl)).drew
             simp only [World.size_alloc] at h
             exact h)
        | (refine ⟨w.heap.size + 1 + 1, w.heap.size + 1 + 1 + 1, rfl, by omega, by omega, by omega, ?_, ?_, ?_⟩
           · have h := (HM.out (((w.alloc (.cells #[.int .i64 x0, .slice (some ⟨b, off, none⟩) len c] 24)).alloc (.cells #[.int .i64 0, .slice none 0 0] 24)).alloc (.cells #[.int .i64 N1, .slice (some ⟨w.heap.size + 1 + 1 + 1, 0, none⟩) bl bl] 24))).1
             simp only [World.size_alloc] at h
             exact h.below (Below.refl _ _).drew
           · intro o
             have h := (HM.out (((w.alloc (.cells #[.int .i64 x0, .slice (some ⟨b, off, none⟩) len c] 24)).alloc (.cells #[.int .i64 0, .slice none 0 0] 24)).alloc (.cells #[.int .i64 N1, .slice (some ⟨w.heap.size + 1 + 1 + 1, 0, none⟩) bl bl] 24))).2 o
             simp only [World.size_alloc] at h
             exact ((show Below ((((w.alloc (.cells #[.int .i64 x0, .slice (some ⟨b, off, none⟩) len c] 24)).alloc (.cells #[.int .i64 0, .slice none 0 0] 24)).alloc (.cells #[.int .i64 N1, .slice (some ⟨w.heap.size + 1 + 1 + 1, 0, none⟩) bl bl] 24)).alloc M).heap.size ((((w.alloc (.cells #[.int .i64 x0, .slice (some ⟨b, off, none⟩) len c] 24)).alloc (.cells #[.int .i64 0, .slice none 0 0] 24)).alloc (.cells #[.int .i64 N1, .slice (some ⟨w.heap.size + 1 + 1 + 1, 0, none⟩) bl bl] 24)).alloc M) _ from (Below.refl _ _).drew).frozen (p := ⟨w.heap.size + 1 + 1 + 1, o, none⟩) (by simp)).trans h
           · have h := ((s0.box2 24 (.int .i64 N1) (.slice (some ⟨w.heap.size + 1 + 1 + 1, 0, none⟩) bl bl)).alloc M).drew
             simp only [World.size_alloc] at h
             exact h)
  case rest =>
  clear s0 q0 HM hmk
  obtain ⟨bb, g, rfl, hbb, hgg, hne, R1, F1, s1⟩ := hcut
  have hcell : Hid (∀ (W : World) (i j : Nat), RowC W b off l → i < n → j < n → W.cell? ⟨b, off + (i * n + j) * 2, none⟩ = some (.bool (l.getD (i * n + j) ceZ).h) ∧ W.cell? ⟨b, off + (i * n + j) * 2 + 1, none⟩ = some (.int .i64 (l.getD (i * n + j) ceZ).m)) := fun W i j h hi hj => ⟨h.has _ (by rw [← hl.out, hll.out]; exact idx_in hi hj), h.most _ (by rw [← hl.out, hll.out]; exact idx_in hi hj)⟩
  have hbgl : Hid (∀ k, (bgO n n1 l k).length = bl) := fun k => by rw [bgO_len, Hbl.out]
  go_wp2_with fail
  go_loopg [15] n (fun gh iv wr => ∃ i : Nat, i + gh = n ∧ iv = .int .i64 i ∧ RowC wr g 0 (bgO n n1 l (i * n + 0)) ∧ Hid (∀ o, wr.frozen? ⟨g, o, none⟩ = false) ∧ St w wr (RZ b off l) [(bb, 0, Value.int .i64 N1), (bb, 1, (.slice (some ⟨g, 0, none⟩) bl bl)), (w.heap.size + 1, 0, Value.int .i64 0), (w.heap.size + 1, 1, Value.slice none 0 0), (w.heap.size, 0, Value.int .i64 x0), (w.heap.size, 1, Value.slice (some ⟨b, off, none⟩) len c)])
  case atStart => exact ⟨0, by omega, rfl, by simpa using R1, F1, s1⟩
  case round =>
    clear R1 F1 s1
    obtain ⟨i, hig, rfl, R1, F1, s1⟩ := hrel
    have q1 := s1.hold
    simp only [Holds, and_true] at q1
    by_cases hi : i < n
    · have hi' : (i : Int) < (n : Int) := by omega
      go_wp2_with fail
      go_loopg [16] n (fun gh jv wr => ∃ j : Nat, j + gh = n ∧ jv = .int .i64 j ∧ RowC wr g 0 (bgO n n1 l (i * n + j)) ∧ Hid (∀ o, wr.frozen? ⟨g, o, none⟩ = false) ∧ St w wr (RZ b off l) [(bb, 0, Value.int .i64 N1), (bb, 1, (.slice (some ⟨g, 0, none⟩) bl bl)), (w.heap.size + 1, 0, Value.int .i64 0), (w.heap.size + 1, 1, Value.slice none 0 0), (w.heap.size, 0, Value.int .i64 x0), (w.heap.size, 1, Value.slice (some ⟨b, off, none⟩) len c)])
      case atStart => exact ⟨0, by omega, rfl, R1, F1, s1⟩
      case round =>
        clear R1 F1 s1 q1
        obtain ⟨j, hjg, rfl, R1, F1, s1⟩ := hrel
        have q1 := s1.hold
        simp only [Holds, and_true] at q1
        by_cases hj : j < n
        · have hj' : (j : Int) < (n : Int) := by omega
          obtain ⟨ik, hik⟩ : ∃ m : Nat, m = i * n := ⟨_, rfl⟩
          obtain ⟨im, him⟩ : ∃ m : Nat, m = i * n1 := ⟨_, rfl⟩
          obtain ⟨x1, hx1⟩ : ∃ m : Nat, m = ik + j := ⟨_, rfl⟩
          obtain ⟨x2, hx2⟩ : ∃ m : Nat, m = im + j := ⟨_, rfl⟩
          have a1 : (i : Int) * (n : Int) = (ik : Int) := by rw [hik, Int.natCast_mul]
          have a2 : (i : Int) * (n1 : Int) = (im : Int) := by rw [him, Int.natCast_mul]
          have a3 : (ik : Int) + (j : Int) = (x1 : Int) := by omega
          have a4 : (im : Int) + (j : Int) = (x2 : Int) := by omega
          have b1 : x1 < len := by rw [hll.out, hx1, hik]; exact idx_in hi hj
          have b2 : x2 < bl := by rw [Hbl.out, hx2, him]; exact idx_in (by have := Hn1.out; omega) (by have := Hn1.out; omega)
          have b3 : (x1 : Int) < (len : Int) := by omega
          have b4 : (x2 : Int) < (bl : Int) := by omega
          have b5 : ik ≤ 100 ∧ im ≤ 100 := by omega
          have hxe : x1 = i * n + j := by rw [hx1, hik]
          have Hnx : Hid (bgO n n1 l (i * n + (j + 1)) = (bgO n n1 l (i * n + j)).set x2 (l.getD x1 ceZ)) := by
            obtain ⟨e1, e2⟩ := div_at (i := i) hj
            show (bgO n n1 l (i * n + j)).set ((i * n + j) / n * n1 + (i * n + j) % n) (l.getD (i * n + j) ceZ) = _
            rw [e1, e2, ← hxe, hx2, him]
          obtain ⟨c1, c2⟩ := hcell.out wr i j s1.sent hi hj
          rw [← hxe] at c1 c2
          obtain ⟨⟨ch, cm⟩, hC⟩ : ∃ C, C = l.getD x1 ceZ := ⟨_, rfl⟩
          rw [← hC] at c1 c2 Hnx
          dsimp only at c1 c2
          obtain ⟨S, hS⟩ : ∃ S, S = bgO n n1 l (i * n + j) := ⟨_, rfl⟩
          have hSl : x2 < S.length := by rw [hS, hbgl.out]; exact b2
          rw [← hS] at R1 Hnx
          have d1 := R1.has x2 hSl
          have d2 := R1.most x2 hSl
          have f1 := F1.out (0 + x2 * 2)
          have f2 := F1.out (0 + x2 * 2 + 1)
          have hlg := R1.lt
          have hlb := (show RowC wr b off l from s1.sent).lt
          have Hset : Hid (RowC ((wr.drew.setCell ⟨g, 0 + x2 * 2, none⟩ (.bool ch)).setCell ⟨g, 0 + x2 * 2 + 1, none⟩ (.int .i64 cm)) g 0 (S.set x2 ⟨ch, cm⟩) ∧ (∀ o, ((wr.drew.setCell ⟨g, 0 + x2 * 2, none⟩ (.bool ch)).setCell ⟨g, 0 + x2 * 2 + 1, none⟩ (.int .i64 cm)).frozen? ⟨g, o, none⟩ = false) ∧ St w ((wr.drew.setCell ⟨g, 0 + x2 * 2, none⟩ (.bool ch)).setCell ⟨g, 0 + x2 * 2 + 1, none⟩ (.int .i64 cm)) (RZ b off l) [(bb, 0, Value.int .i64 N1), (bb, 1, (.slice (some ⟨g, 0, none⟩) bl bl)), (w.heap.size + 1, 0, Value.int .i64 0), (w.heap.size + 1, 1, Value.slice none 0 0), (w.heap.size, 0, Value.int .i64 x0), (w.heap.size, 1, Value.slice (some ⟨b, off, none⟩) len c)]) := by
            have bD : Below wr.heap.size wr wr.drew := (Below.refl _ _).drew
            refine ⟨(R1.below bD).set hSl ⟨ch, cm⟩, fun o => by rw [frozen?_setCell', frozen?_setCell']; exact (bD.frozen (p := ⟨g, o, none⟩) R1.lt).trans (F1.out o), ?_⟩
            exact (s1.drew.setO (p := ⟨g, 0 + x2 * 2, none⟩) (by dsimp only; omega) ⟨by dsimp only; omega, by dsimp only; omega, by dsimp only; omega, by dsimp only; omega, by dsimp only; omega, by dsimp only; omega, trivial⟩ _).setO (p := ⟨g, 0 + x2 * 2 + 1, none⟩) (by dsimp only; omega) ⟨by dsimp only; omega, by dsimp only; omega, by dsimp only; omega, by dsimp only; omega, by dsimp only; omega, by dsimp only; omega, trivial⟩ _
          simp only [Nat.zero_add] at d1 d2 f1 f2 Hset
          clear hik him hx1 hx2 hxe hC hS R1
          go_wp2_with fail
          go_region
          all_goals
            go_wp2_with fail
            go_roundg (n - (j + 1))
            case measure => omega
            case rel => exact ⟨j + 1, by omega, by go_num, by rw [Hnx.out]; exact Hset.out.1, Hset.out.2.1, Hset.out.2.2⟩
        · have hj' : ¬ (j : Int) < (n : Int) := by omega
          have hje : j = n := by omega
          have e : i * n + j = (i + 1) * n + 0 := by rw [hje, Nat.add_mul]; omega
          rw [e] at R1
          clear e hje
          go_wp2_with fail
          go_roundg (n - (i + 1))
          case measure => omega
          case rel => exact ⟨i + 1, by omega, by go_num, R1, F1, s1⟩
    · have hi' : ¬ (i : Int) < (n : Int) := by omega
      have hie : n = i := by omega
      obtain ⟨B0, hB0⟩ : ∃ L, L = bgO n n1 l (n * n) := ⟨_, rfl⟩
      have R2 : RowC wr g 0 B0 := by
        have e : i * n + 0 = n * n := by rw [← hie]; omega
        rw [e, ← hB0] at R1; exact R1
      have ei : (i : Int) = (n : Int) := by omega
      obtain ⟨B1, hB1⟩ : ∃ L, L = bdL n1 B0 (bd1 1 x0 (-sg) y) (bd2 1 x0 (-sg) y) (bdC 1 (-sg) cv) := ⟨_, rfl⟩
      obtain ⟨B2, hB2⟩ : ∃ L, L = bdL n1 B1 (bd1 (-1) x0 sg y) (bd2 (-1) x0 sg y) (bdC (-1) sg (-cv)) := ⟨_, rfl⟩
      have l0 : B0.length = bl := by rw [hB0]; exact hbgl.out _
      have l1 : B1.length = bl := by rw [hB1, bdL_len]; exact l0
      have l2 : B2.length = bl := by rw [hB2, bdL_len]; exact l1
      have x0n : 2 * x0 + 1 < n1 := by omega
      have yn1 : 2 * y + 1 < n1 := by omega
      have HB1 : Hid (∀ W : World, RowC W g 0 B0 → Calls Tryd.prog 39 #[(.agg #[.int .i64 N1, (.slice (some ⟨g, 0, none⟩) bl bl)]), .int .i64 1, .int .i64 x0, .int .i64 (-sg), .int .i64 y, .int .i64 cv] W fun e w' => MtPost W N1 bl B1 e w') := fun W h => by
        rw [hB1]
        exact boundOct_any N1 1 (-sg) cv x0 y n1 g 0 bl bl B0 W h (by show _ = _; exact l0.symm) Hbl (by omega) (by omega) hN2 x0n yn1 (by omega)
      have HB2 : Hid (∀ (W : World) (g3 c3 : Nat), RowC W g3 0 B1 → Calls Tryd.prog 39 #[(.agg #[.int .i64 N1, (.slice (some ⟨g3, 0, none⟩) bl c3)]), .int .i64 (-1), .int .i64 x0, .int .i64 sg, .int .i64 y, .int .i64 (-cv)] W fun e w' => MtPost W N1 bl B2 e w') := fun W g3 c3 h => by
        rw [hB2]
        exact boundOct_any N1 (-1) sg (-cv) x0 y n1 g3 0 c3 bl B1 W h (by show _ = _; exact l1.symm) Hbl (by omega) (by omega) hN2 x0n yn1 (by omega)
      obtain ⟨FF, hFF⟩ : ∃ F, F = rowOf n1 (mvO (matOf n l) x0 sg y cv) := ⟨_, rfl⟩
      have HC : Hid (∀ (W : World) (g4 c4 : Nat), RowC W g4 0 B2 → Calls Tryd.prog 25 #[(.agg #[.int .i64 N1, (.slice (some ⟨g4, 0, none⟩) bl c4)])] W fun e w' => NrPost W N1 bl True FF e w') := by
        intro W g4 c4 h
        have eA : B2 = asO n l x0 sg y cv := by rw [hB2, hB1, hB0, Hn1.out]; rfl
        have hx0 : 2 * x0 = n := by omega
        have D := big_done (g := wrap64) (m := 1073741824) (x := x0) (y := y) (c := cv) hT.out hx0 hy Hsg.out hs.out (by omega) (fun v hv => by unfold wrap64; omega)
        obtain ⟨a1, a2⟩ := asO_gd (s := sg) (c := cv) he hx0 hy gd.out inR.out hcv
        rw [hFF]
        rw [← eA] at a1 a2
        have mt := asO_mat (l := l) (c := cv) he hx0 hy Hsg.out
        rw [← eA, ← Hn1.out] at mt
        obtain ⟨D1, D2, D3, D4⟩ := D
        rw [← Hn1.out] at D1 D2 D4
        exact closedBig N1 n1 bl c4 g4 0 B2 W hN2 (by omega) (by omega) (by rw [l2]; exact Hbl.out) a1 a2 (begM n sg y cv (matOf n l)) (mvO (matOf n l) x0 sg y cv) mt D1 D2 (fun i j hi hj v hv => by have := D4 i j hi hj v hv; omega) (by show _ = _; exact l2.symm) h
      have HFF := hide hFF
      have lb1 : 1 ≤ B1.length := by omega
      have lb2 : 1 ≤ B2.length := by omega
      clear hFF hB0 hB1 hB2 hcell hbgl R1 hie l0 l1 l2 x0n yn1
      go_wp2_with fail
      refine (HB1.out _ R2).mono ?_
      rintro e w3 ⟨hb3, g3, c3, rfl, R3⟩
      have u3 := s1.call hb3
      have q3 := u3.hold
      simp only [Holds, and_true] at q3
      have ne3 : bb ≠ g3 := R3.ne_box lb1 q3.1.1
      have s3 := (u3.put20 (by omega) ⟨by dsimp only; omega, by dsimp only; omega, by dsimp only; omega, by dsimp only; omega, trivial⟩ (.int .i64 N1)).put21 (by omega) ⟨by dsimp only; omega, by dsimp only; omega, by dsimp only; omega, by dsimp only; omega, trivial⟩ (.slice (some ⟨g3, 0, none⟩) bl c3)
      have R3' := (R3.other (p := ⟨bb, 0, none⟩) (by show bb ≠ g3; exact ne3) (.int .i64 N1)).other (p := ⟨bb, 1, none⟩) (by show bb ≠ g3; exact ne3) (.slice (some ⟨g3, 0, none⟩) bl c3)
      clear s1 q1 R2 R3 u3 HB1 F1
      go_upto_region 12 with fail
      obtain ⟨W3, hW3⟩ : ∃ W, W = (w3.setCell ⟨bb, 0, none⟩ (.int .i64 N1)).setCell ⟨bb, 1, none⟩ (.slice (some ⟨g3, 0, none⟩) bl c3) := ⟨_, rfl⟩
      rw [← hW3] at s3 R3' ⊢
      clear hW3 q3 hb3
      have q3 := s3.hold
      simp only [Holds, and_true] at q3
      go_wp2_with fail
      refine (HB2.out _ g3 c3 R3').mono ?_
      rintro e w4 ⟨hb4, g4, c4, rfl, R4⟩
      have u4 := s3.call hb4
      have q4 := u4.hold
      simp only [Holds, and_true] at q4
      have ne4 : bb ≠ g4 := R4.ne_box lb2 q4.1.1
      have s4 := (u4.put20 (by omega) ⟨by dsimp only; omega, by dsimp only; omega, by dsimp only; omega, by dsimp only; omega, trivial⟩ (.int .i64 N1)).put21 (by omega) ⟨by dsimp only; omega, by dsimp only; omega, by dsimp only; omega, by dsimp only; omega, trivial⟩ (.slice (some ⟨g4, 0, none⟩) bl c4)
      have R4' := (R4.other (p := ⟨bb, 0, none⟩) (by show bb ≠ g4; exact ne4) (.int .i64 N1)).other (p := ⟨bb, 1, none⟩) (by show bb ≠ g4; exact ne4) (.slice (some ⟨g4, 0, none⟩) bl c4)
      clear s3 q3 R3' R4 u4 HB2 ne3
      go_upto_region 13 with fail
      obtain ⟨W4, hW4⟩ : ∃ W, W = (w4.setCell ⟨bb, 0, none⟩ (.int .i64 N1)).setCell ⟨bb, 1, none⟩ (.slice (some ⟨g4, 0, none⟩) bl c4) := ⟨_, rfl⟩
      rw [← hW4] at s4 R4' ⊢
      clear hW4 q4 hb4
      have q4 := s4.hold
      simp only [Holds, and_true] at q4
      go_wp2_with fail
      refine (HC.out _ g4 c4 R4').mono ?_
      rintro e w5 ⟨hb5, ⟨h, _⟩ | ⟨_, g5, c5, rfl, hg5, _, R5⟩⟩
      · exact absurd trivial h
      have u5 := s4.call hb5
      have q5 := u5.hold
      simp only [Holds, and_true] at q5
      have ne5 : bb ≠ g5 := by have := q4.1.2.1; omega
      have gb5 : w.heap.size + 1 < g5 := by have := q4.1.2.1; omega
      have s5 := (u5.put20 (by omega) ⟨by dsimp only; omega, by dsimp only; omega, by dsimp only; omega, by dsimp only; omega, trivial⟩ (.int .i64 N1)).put21 (by omega) ⟨by dsimp only; omega, by dsimp only; omega, by dsimp only; omega, by dsimp only; omega, trivial⟩ (.slice (some ⟨g5, 0, none⟩) bl c5)
      have R5' := (R5.other (p := ⟨bb, 0, none⟩) (by show bb ≠ g5; exact ne5) (.int .i64 N1)).other (p := ⟨bb, 1, none⟩) (by show bb ≠ g5; exact ne5) (.slice (some ⟨g5, 0, none⟩) bl c5)
      have hmk := make_cells len (by omega)
      obtain ⟨M, hM⟩ : ∃ M, M = (Obj.cells (madeCells #[Value.bool false, .int .i64 0] (len * 2)) 69) := ⟨_, rfl⟩
      rw [← hM] at hmk
      have HM : Hid (∀ W : World, RowC (W.alloc M) W.heap.size 0 (ouO n FF x 0) ∧ ∀ o, (W.alloc M).frozen? ⟨W.heap.size, o, none⟩ = false) := fun W => by
        have e : ouO n FF x 0 = List.replicate len ceZ := by show List.replicate _ _ = _; rw [← hll.out]
        rw [hM, e]; exact made_row W len (by omega)
      clear hM s4 q4 R4' R5 u5 HC ne4 hg5
      go_upto_region 16 with fail
      obtain ⟨W5, hW5⟩ : ∃ W, W = (w5.setCell ⟨bb, 0, none⟩ (.int .i64 N1)).setCell ⟨bb, 1, none⟩ (.slice (some ⟨g5, 0, none⟩) bl c5) := ⟨_, rfl⟩
      rw [← hW5] at s5 R5' ⊢
      clear hW5 q5 hb5
      have R5 := R5'
      clear R5'
      have q5 := s5.hold
      simp only [Holds, and_true] at q5
      have hgl5 := R5.lt
      have hbl5 : bb < W5.heap.size := q5.1.2.1
      go_cut [18] (fun t wx => ∃ b2 g2 : Nat, t = .pointer (some ⟨b2, 0, none⟩) ∧ W5.heap.size ≤ b2 ∧ W5.heap.size ≤ g2 ∧ b2 ≠ g2 ∧ RowC wx g2 0 (ouO n FF x 0) ∧ Hid (∀ o, wx.frozen? ⟨g2, o, none⟩ = false) ∧ RowC wx g5 0 FF ∧ St w wx (RZ b off l) ((b2, 0, Value.int .i64 x0) :: (b2, 1, Value.slice (some ⟨g2, 0, none⟩) len len) :: [(bb, 0, Value.int .i64 N1), (bb, 1, (.slice (some ⟨g5, 0, none⟩) bl c5)), (w.heap.size + 1, 0, Value.int .i64 0), (w.heap.size + 1, 1, Value.slice none 0 0), (w.heap.size, 0, Value.int .i64 x0), (w.heap.size, 1, Value.slice (some ⟨b, off, none⟩) len c)]))
      case first =>
        go_region
        all_goals
          go_wp2_with fail
          go_meet
          case rel => first
            | (refine ⟨W5.heap.size + 1, W5.heap.size, rfl, by omega, by omega, by omega, ?_, ?_, ?_, ?_⟩
               · exact ((HM.out W5).1.below ((Below.refl _ _).alloc (Nat.le_refl _) _)).below (Below.refl _ _).drew
               · intro o
                 exact ((show Below (W5.alloc M).heap.size (W5.alloc M) _ from ((Below.refl _ _).alloc (Nat.le_refl _) _).drew).frozen (p := ⟨W5.heap.size, o, none⟩) (by simp)).trans ((HM.out W5).2 o)
               · exact ((R5.below ((Below.refl _ _).alloc (Nat.le_refl _) M)).below ((Below.refl _ _).alloc (Nat.le_refl _) _)).below (Below.refl _ _).drew
               · have h := ((s5.alloc M).box2 24 (.int .i64 x0) (.slice (some ⟨W5.heap.size, 0, none⟩) len len)).drew
                 simp only [World.size_alloc] at h
                 exact h)
            | (refine ⟨W5.heap.size, W5.heap.size + 1, rfl, by omega, by omega, by omega, ?_, ?_, ?_, ?_⟩
               · have h := (HM.out (W5.alloc (.cells #[.int .i64 x0, .slice (some ⟨W5.heap.size + 1, 0, none⟩) len len] 24))).1
                 simp only [World.size_alloc] at h
                 exact h.below (Below.refl _ _).drew
               · intro o
                 have h := (HM.out (W5.alloc (.cells #[.int .i64 x0, .slice (some ⟨W5.heap.size + 1, 0, none⟩) len len] 24))).2 o
                 simp only [World.size_alloc] at h
                 exact ((show Below ((W5.alloc (.cells #[.int .i64 x0, .slice (some ⟨W5.heap.size + 1, 0, none⟩) len len] 24)).alloc M).heap.size ((W5.alloc (.cells #[.int .i64 x0, .slice (some ⟨W5.heap.size + 1, 0, none⟩) len len] 24)).alloc M) _ from (Below.refl _ _).drew).frozen (p := ⟨W5.heap.size + 1, o, none⟩) (by simp)).trans h
               · exact ((R5.below ((Below.refl _ _).alloc (Nat.le_refl _) _)).below ((Below.refl _ _).alloc (Nat.le_refl _) M)).below (Below.refl _ _).drew
               · exact ((s5.box2 24 (.int .i64 x0) (.slice (some ⟨W5.heap.size + 1, 0, none⟩) len len)).alloc M).drew)
      case rest =>
      clear R5 s5 q5 HM hmk
      obtain ⟨b2, g2, rfl, hb2, hg2, hne2, R6, F6, R7, s6⟩ := hcut
      have hgb2 : w.heap.size + 1 < b2 ∧ w.heap.size + 1 < g2 ∧ g5 ≠ g2 ∧ bb ≠ g2 := by omega
      have houl : Hid (∀ k, (ouO n FF x k).length = len) := fun k => by rw [ouO_len]; exact hll.out.symm
      have hFl : Hid (FF.length = bl) := by show _ = _; rw [HFF.out, rowOf_len, Hbl.out]
      clear hb2 hg2 hgl5 hbl5 M
      go_wp2_with fail
      go_loopg [19] n (fun gh iv wr => ∃ i : Nat, i + gh = n ∧ iv = .int .i64 i ∧ RowC wr g2 0 (ouO n FF x (i * n + 0)) ∧ Hid (∀ o, wr.frozen? ⟨g2, o, none⟩ = false) ∧ RowC wr g5 0 FF ∧ St w wr (RZ b off l) ((b2, 0, Value.int .i64 x0) :: (b2, 1, Value.slice (some ⟨g2, 0, none⟩) len len) :: [(bb, 0, Value.int .i64 N1), (bb, 1, (.slice (some ⟨g5, 0, none⟩) bl c5)), (w.heap.size + 1, 0, Value.int .i64 0), (w.heap.size + 1, 1, Value.slice none 0 0), (w.heap.size, 0, Value.int .i64 x0), (w.heap.size, 1, Value.slice (some ⟨b, off, none⟩) len c)]))
      case atStart => exact ⟨0, by omega, rfl, by simpa using R6, F6, R7, s6⟩
      case round =>
        clear R6 F6 R7 s6
        obtain ⟨i, hig, rfl, R6, F6, R7, s6⟩ := hrel
        have q6 := s6.hold
        simp only [Holds, and_true] at q6
        by_cases hi : i < n
        · have hi' : (i : Int) < (n : Int) := by omega
          go_wp2_with fail
          go_loopg [20] n (fun gh jv wr => ∃ j : Nat, j + gh = n ∧ jv = .int .i64 j ∧ RowC wr g2 0 (ouO n FF x (i * n + j)) ∧ Hid (∀ o, wr.frozen? ⟨g2, o, none⟩ = false) ∧ RowC wr g5 0 FF ∧ St w wr (RZ b off l) ((b2, 0, Value.int .i64 x0) :: (b2, 1, Value.slice (some ⟨g2, 0, none⟩) len len) :: [(bb, 0, Value.int .i64 N1), (bb, 1, (.slice (some ⟨g5, 0, none⟩) bl c5)), (w.heap.size + 1, 0, Value.int .i64 0), (w.heap.size + 1, 1, Value.slice none 0 0), (w.heap.size, 0, Value.int .i64 x0), (w.heap.size, 1, Value.slice (some ⟨b, off, none⟩) len c)]))
          case atStart => exact ⟨0, by omega, rfl, R6, F6, R7, s6⟩
          case round =>
            clear R6 F6 R7 s6 q6
            obtain ⟨j, hjg, rfl, R6, F6, R7, s6⟩ := hrel
            have q6 := s6.hold
            simp only [Holds, and_true] at q6
            by_cases hj : j < n
            · have hj' : (j : Int) < (n : Int) := by omega
              obtain ⟨p, hp⟩ : ∃ m : Nat, m = swI n x i := ⟨_, rfl⟩
              obtain ⟨q, hq⟩ : ∃ m : Nat, m = swI n x j := ⟨_, rfl⟩
              have hpn : p < n1 := by rw [hp, Hn1.out]; exact swI_lt hi
              have hqn : q < n1 := by rw [hq, Hn1.out]; exact swI_lt hj
              obtain ⟨ik, hik⟩ : ∃ m : Nat, m = i * n := ⟨_, rfl⟩
              obtain ⟨pm, hpm⟩ : ∃ m : Nat, m = p * n1 := ⟨_, rfl⟩
              obtain ⟨x1, hx1⟩ : ∃ m : Nat, m = ik + j := ⟨_, rfl⟩
              obtain ⟨x2, hx2⟩ : ∃ m : Nat, m = pm + q := ⟨_, rfl⟩
              have a1 : (i : Int) * (n : Int) = (ik : Int) := by rw [hik, Int.natCast_mul]
              have a2 : (p : Int) * (n1 : Int) = (pm : Int) := by rw [hpm, Int.natCast_mul]
              have a3 : (ik : Int) + (j : Int) = (x1 : Int) := by omega
              have a4 : (pm : Int) + (q : Int) = (x2 : Int) := by omega
              have b1 : x1 < len := by rw [hll.out, hx1, hik]; exact idx_in hi hj
              have b2' : x2 < bl := by rw [Hbl.out, hx2, hpm]; exact idx_in hpn hqn
              have b3 : (x1 : Int) < (len : Int) := by omega
              have b4 : (x2 : Int) < (bl : Int) := by omega
              have b5 : ik ≤ 100 ∧ pm ≤ 100 := by omega
              have hxe : x1 = i * n + j := by rw [hx1, hik]
              have Hnx : Hid (ouO n FF x (i * n + (j + 1)) = (ouO n FF x (i * n + j)).set x1 (FF.getD x2 ceZ)) := by
                obtain ⟨e1, e2⟩ := div_at (i := i) hj
                show (ouO n FF x (i * n + j)).set (i * n + j) (FF.getD (swI n x ((i * n + j) / n) * (n + 2) + swI n x ((i * n + j) % n)) ceZ) = _
                rw [e1, e2, ← hxe, ← hp, ← hq, hx2, hpm, Hn1.out]
              have c1 := R7.has x2 (by rw [hFl.out]; exact b2')
              have c2 := R7.most x2 (by rw [hFl.out]; exact b2')
              obtain ⟨⟨ch, cm⟩, hC⟩ : ∃ C, C = FF.getD x2 ceZ := ⟨_, rfl⟩
              rw [← hC] at c1 c2 Hnx
              dsimp only at c1 c2
              obtain ⟨S, hS⟩ : ∃ S, S = ouO n FF x (i * n + j) := ⟨_, rfl⟩
              have hSl : x1 < S.length := by rw [hS, houl.out]; exact b1
              rw [← hS] at R6 Hnx
              have d1 := R6.has x1 hSl
              have d2 := R6.most x1 hSl
              have f1 := F6.out (0 + x1 * 2)
              have f2 := F6.out (0 + x1 * 2 + 1)
              have hlg := R6.lt
              have hlb := R7.lt
              have Hset : Hid (RowC ((wr.drew.setCell ⟨g2, 0 + x1 * 2, none⟩ (.bool ch)).setCell ⟨g2, 0 + x1 * 2 + 1, none⟩ (.int .i64 cm)) g2 0 (S.set x1 ⟨ch, cm⟩) ∧ (∀ o, ((wr.drew.setCell ⟨g2, 0 + x1 * 2, none⟩ (.bool ch)).setCell ⟨g2, 0 + x1 * 2 + 1, none⟩ (.int .i64 cm)).frozen? ⟨g2, o, none⟩ = false) ∧ RowC ((wr.drew.setCell ⟨g2, 0 + x1 * 2, none⟩ (.bool ch)).setCell ⟨g2, 0 + x1 * 2 + 1, none⟩ (.int .i64 cm)) g5 0 FF ∧ St w ((wr.drew.setCell ⟨g2, 0 + x1 * 2, none⟩ (.bool ch)).setCell ⟨g2, 0 + x1 * 2 + 1, none⟩ (.int .i64 cm)) (RZ b off l) ((b2, 0, Value.int .i64 x0) :: (b2, 1, Value.slice (some ⟨g2, 0, none⟩) len len) :: [(bb, 0, Value.int .i64 N1), (bb, 1, (.slice (some ⟨g5, 0, none⟩) bl c5)), (w.heap.size + 1, 0, Value.int .i64 0), (w.heap.size + 1, 1, Value.slice none 0 0), (w.heap.size, 0, Value.int .i64 x0), (w.heap.size, 1, Value.slice (some ⟨b, off, none⟩) len c)])) := by
                have bD : Below wr.heap.size wr wr.drew := (Below.refl _ _).drew
                refine ⟨(R6.below bD).set hSl ⟨ch, cm⟩, fun o => by rw [frozen?_setCell', frozen?_setCell']; exact (bD.frozen (p := ⟨g2, o, none⟩) R6.lt).trans (F6.out o), ((R7.below bD).other (by show g2 ≠ g5; omega) _).other (by show g2 ≠ g5; omega) _, ?_⟩
                exact (s6.drew.setO (p := ⟨g2, 0 + x1 * 2, none⟩) (by dsimp only; omega) ⟨by dsimp only; omega, by dsimp only; omega, by dsimp only; omega, by dsimp only; omega, by dsimp only; omega, by dsimp only; omega, by dsimp only; omega, by dsimp only; omega, trivial⟩ _).setO (p := ⟨g2, 0 + x1 * 2 + 1, none⟩) (by dsimp only; omega) ⟨by dsimp only; omega, by dsimp only; omega, by dsimp only; omega, by dsimp only; omega, by dsimp only; omega, by dsimp only; omega, by dsimp only; omega, by dsimp only; omega, trivial⟩ _
              simp only [Nat.zero_add] at c1 c2 d1 d2 f1 f2 Hset
              have Hp := hide hp
              have Hq := hide hq
              clear hik hpm hx1 hx2 hxe hC hS R6 hp hq
              go_upto_if 109 with fail
              go_cut [21] (fun t wx => t = .int .i64 p ∧ wr = wx)
              case first =>
                by_cases kk : i / 2 = x
                · have e1 : p = n + i % 2 := by rw [Hp.out]; unfold swI; rw [if_pos kk]
                  have kb : ((i : Int) / 2 == (x : Int)) = true := by simp; omega
                  obtain ⟨rr, hrr⟩ : ∃ k : Nat, k = i % 2 := ⟨_, rfl⟩
                  have hri : (i : Int) % 2 = (rr : Int) := by omega
                  have hrl : rr ≤ 1 := by omega
                  rw [← hrr] at e1
                  clear hrr
                  go_wp2_with fail
                  go_meet
                  case rel => exact ⟨by rw [e1]; rfl, rfl⟩
                · have e1 : p = i := by rw [Hp.out]; unfold swI; rw [if_neg kk]
                  have kb : ((i : Int) / 2 == (x : Int)) = false := by simp; omega
                  go_wp2_with fail
                  go_meet
                  case rel => exact ⟨by rw [e1], rfl⟩
              case rest =>
              obtain ⟨rfl, rfl⟩ := hcut
              go_upto_if 117 with fail
              go_cut [22] (fun t wx => t = .int .i64 q ∧ wr = wx)
              case first =>
                by_cases kk : j / 2 = x
                · have e1 : q = n + j % 2 := by rw [Hq.out]; unfold swI; rw [if_pos kk]
                  have kb : ((j : Int) / 2 == (x : Int)) = true := by simp; omega
                  obtain ⟨rr, hrr⟩ : ∃ k : Nat, k = j % 2 := ⟨_, rfl⟩
                  have hri : (j : Int) % 2 = (rr : Int) := by omega
                  have hrl : rr ≤ 1 := by omega
                  rw [← hrr] at e1
                  clear hrr
                  go_wp2_with fail
                  go_meet
                  case rel => exact ⟨by rw [e1]; rfl, rfl⟩
                · have e1 : q = j := by rw [Hq.out]; unfold swI; rw [if_neg kk]
                  have kb : ((j : Int) / 2 == (x : Int)) = false := by simp; omega
                  go_wp2_with fail
                  go_meet
                  case rel => exact ⟨by rw [e1], rfl⟩
              case rest =>
              obtain ⟨rfl, rfl⟩ := hcut
              go_wp2_with fail
              go_region
              all_goals
                go_wp2_with fail
                go_roundg (n - (j + 1))
                case measure => omega
                case rel => exact ⟨j + 1, by omega, by go_num, by rw [Hnx.out]; exact Hset.out.1, Hset.out.2.1, Hset.out.2.2.1, Hset.out.2.2.2⟩
            · have hj' : ¬ (j : Int) < (n : Int) := by omega
              have hje : j = n := by omega
              have e : i * n + j = (i + 1) * n + 0 := by rw [hje, Nat.add_mul]; omega
              rw [e] at R6
              clear e hje
              go_wp2_with fail
              go_roundg (n - (i + 1))
              case measure => omega
              case rel => exact ⟨i + 1, by omega, by go_num, R6, F6, R7, s6⟩
        · have hi' : ¬ (i : Int) < (n : Int) := by omega
          have hie : i = n := by omega
          have R8 : RowC wr g2 0 (rowOf n (mvO (matOf n l) x sg y cv)) := by
            have e : i * n + 0 = n * n := by rw [hie]; omega
            have e2 : FF = rowOf (n + 2) (mvO (matOf n l) x0 sg y cv) := by rw [HFF.out, Hn1.out]
            rw [e, e2, ou_allO (by omega)] at R6; exact R6
          clear R6 hie
          go_wp2_with fail
          refine bodyPost_ret (v := .tuple #[(.agg #[.int .i64 x0, (.slice (some ⟨g2, 0, none⟩) len len)]), .bool true]) (by simp [results, Tryd.results37, go_sem, q6]) rfl ⟨?_, .inr ⟨trivial, g2, len, rfl, by omega, ?_, ?_⟩⟩
          · repeat' (first | exact s6.bel | refine Below.setCell ?_ (by first | (simp; done) | (simp; omega)) _)
          · intro o
            rw [frozen?_setCell', frozen?_setCell']
            exact F6.out o
          · exact (R8.other (by show w.heap.size + 1 ≠ g2; omega) _).other (by show w.heap.size + 1 ≠ g2; omega) _
end Go.Proofs.YtofjjaabgfmnpaaDoor
