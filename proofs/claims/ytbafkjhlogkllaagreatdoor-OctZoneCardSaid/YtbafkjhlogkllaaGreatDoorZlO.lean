/- Zones: a zone of the reference made one of the program. -/
import Derived.Test.YtbafkjhlogkllaaGreatDoorZg
import Derived.Deep.RegionLaw
import Derived.Deep.RegionHeld3
namespace Go.Proofs.YtbafkjhlogkllaaGreatDoor.Oc
open Go.RowKit
set_option linter.unusedVariables false

theorem Tryz.infoZCell : (Tryz.prog.info? 55).map (fun i => (i.zero, i.size, i.bytes)) = some (some (.agg #[.bool false, .int .i64 0]), 2, 16) := by kernel_rfl

theorem cell_two_new (W : World) (t : TypeId) (v0 v1 : Value) : ∀ j u, [v0, v1][j]? = some u → (W.alloc (.cells #[v0, v1] t)).cell? ((⟨W.heap.size, 0, none⟩ : Addr).add j) = some u := by
  intro j u h
  rcases (by omega : j = 0 ∨ j = 1 ∨ 2 ≤ j) with rfl | rfl | hj
  · simp at h; subst h; simp [Addr.add]
  · simp at h; subst h; simp [Addr.add]
  · rw [List.getElem?_eq_none (by simpa using hj)] at h; cases h

theorem owns_base' {W : World} {base base' e size n : Nat} {v : Value} {xs : List Value} (h : W.ownsRow base e size v n xs) (hb : base' ≤ base) : W.ownsRow base' e size v n xs := by
  obtain ⟨h1, h2⟩ := h
  refine ⟨h1, ?_⟩
  rcases h2 with h2 | ⟨g, cap, cur, e1, e2, e3, e4⟩
  · exact .inl h2
  · exact .inr ⟨g, cap, cur, e1, by omega, e3, e4⟩

/-- All cells of the list lie below. -/
def AllLt (B : Nat) : List (Nat × Nat × Value) → Prop
  | [] => True
  | x :: L => x.1 < B ∧ AllLt B L
theorem _root_.Go.Proofs.YtbafkjhlogkllaaGreatDoor.Holds.belowBO {w w' : World} {L : List (Nat × Nat × Value)} {B : Nat} (h : Holds w L) (hb : Below B w w') (hB : AllLt B L) : Holds w' L := by
  induction L with
  | nil => trivial
  | cons x L ih => exact ⟨⟨(hb.cell (p := ⟨x.1, x.2.1, none⟩) hB.1).trans h.1.1, Nat.lt_of_lt_of_le h.1.2.1 hb.size, (hb.frozen (p := ⟨x.1, x.2.1, none⟩) hB.1).trans h.1.2.2⟩, ih h.2 hB.2⟩
theorem _root_.Go.Proofs.YtbafkjhlogkllaaGreatDoor.St.callBO {w W W' : World} {L : List (Nat × Nat × Value)} {B : Nat} (h : St w W (fun _ => True) L) (hb : Below B W W') (hB : AllLt B L) (hw : w.heap.size ≤ B) : St w W' (fun _ => True) L :=
  ⟨h.bel.trans (hb.mono hw), h.hold.belowBO hb hB, trivial, fun _ _ _ _ => trivial⟩

end Go.Proofs.YtbafkjhlogkllaaGreatDoor.Oc

/- Zones: a zone of the program made one of the reference. -/
namespace Go.Proofs.YtbafkjhlogkllaaGreatDoor.Oc
open Go.RowKit
set_option linter.unusedVariables false

theorem Tryz.infoRCell : (Tryz.prog.info? 56).map (fun i => (i.zero, i.size, i.bytes)) = some (some (.agg #[.bool false, .int .i64 0]), 2, 16) := by kernel_rfl

set_option maxRecDepth 20000 in
set_option maxHeartbeats 4000000 in
theorem zoneBack_row (Ni : Int) (b off c len : Nat) (l : List Ce) (w : World) (hR : RowC w b off l) (hl : Hid (len = l.length)) (hlen : len ≤ 1000) :
    Calls Tryz.prog 31 #[(.agg #[.int .i64 Ni, (.slice (some ⟨b, off, none⟩) len c)])] w fun e w' => ∃ v, e = .returned (.agg #[.int .i64 Ni, v]) ∧ w'.ownsRow w.heap.size 56 2 v len (cellsV l) ∧ Below w.heap.size w w' := by
  obtain ⟨i0, hi0, hz0, hz1, hz2⟩ := info_parts Tryz.infoRCell
  have s1 := (((St.start1' w).box2 30 (.int .i64 Ni) (.slice (some ⟨b, off, none⟩) len c)).box2 42 (.int .i64 0) (.slice none 0 0)).box2 42 (.int .i64 Ni) (.slice none 0 0)
  simp only [World.size_alloc] at s1
  go_enter Tryz.func31, Tryz.ntmps31
  go_wp2_with fail
  go_loopg [4] len (fun gh iv wr => ∃ (k cp : Nat) (x : Option Addr), k + gh = len ∧ iv = .int .i64 k ∧ wr.ownsRow (w.heap.size + 1 + 1 + 1) 56 2 (.slice x k cp) k (cellsV (l.take k)) ∧ St w wr (fun _ => True) [(w.heap.size + 1 + 1, 0, Value.int .i64 Ni), (w.heap.size + 1 + 1, 1, Value.slice x k cp), (w.heap.size + 1, 0, Value.int .i64 0), (w.heap.size + 1, 1, Value.slice none 0 0), (w.heap.size, 0, Value.int .i64 Ni), (w.heap.size, 1, Value.slice (some ⟨b, off, none⟩) len c)])
  case atStart => exact ⟨0, 0, none, by omega, rfl, World.ownsRow_nil _ _ _ _, s1⟩
  case round =>
    clear s1
    obtain ⟨k, cp, x, hkg, rfl, own, st⟩ := hrel
    have qs := st.hold
    simp only [Holds, and_true] at qs
    by_cases hk : k < len
    · have hkl : k < l.length := by rw [← hl.out]; exact hk
      have hkn : (k : Int) < (len : Int) := by omega
      obtain ⟨⟨ch, cm⟩, hc⟩ : ∃ C, C = l.getD k ceZ := ⟨_, rfl⟩
      have R := hR.below (st.bel)
      have c1 : wr.cell? ⟨b, off + k * 2, none⟩ = some (.bool ch) := by have := R.has k hkl; rw [← hc] at this; exact this
      have c2 : wr.cell? ⟨b, off + k * 2 + 1, none⟩ = some (.int .i64 cm) := by have := R.most k hkl; rw [← hc] at this; exact this
      have hbl := R.lt
      have HT : Hid (cellsV (l.take (k + 1)) = cellsV (l.take k) ++ [.bool ch, .int .i64 cm]) := by
        show _ = _; rw [takeC l k hkl, ← hc]; simp [cellsV]
      obtain ⟨zs, hzs⟩ : ∃ zs, zs = cellsV (l.take k) := ⟨_, rfl⟩
      rw [← hzs] at own HT
      have hsz : w.heap.size + 1 + 1 < wr.heap.size := qs.1.2.1
      clear hc hzs R
      go_wp2_with fail
      go_region_law (refine step_append_lies _ (by rfl) _ _ 22 (by rfl) (w.heap.size + 1 + 1 + 1) 56 i0 _ 2 16 Tryz.underlying22 hi0 hz0 hz1 hz2 rfl (by decide) (.slice x k cp) k zs (by first | rfl | simp [Act.eval, Act.put]) ((own.alloc _).drew) ⟨wr.heap.size, 0, none⟩ 1 1 [.bool ch, .int .i64 cm] (by first | rfl | simp [Act.eval, Act.put]) rfl (fun j u h => cell_two_new wr _ _ _ j u h) (by intro u hu; simp at hu; rcases hu with rfl | rfl <;> rfl) (by omega) (by unfold maxLen; omega) (by omega) (by simp; omega) (wr.heap.size + 1) (by simp) ?_; intro g1 c1' w2 own1' hgrow hat hlt'; have B2 := (((Below.refl (w.heap.size + 1 + 1 + 1) wr).alloc (by omega) (.cells #[.bool ch, .int .i64 cm] 56)).drew).grown hgrow (by simp; omega) (fun j hj => (own.lt j hj).1); have st2 := st.callBO B2 ⟨by dsimp only; omega, by dsimp only; omega, by dsimp only; omega, by dsimp only; omega, by dsimp only; omega, by dsimp only; omega, trivial⟩ (by omega); have q2 := st2.hold; simp only [Holds, and_true] at q2)
      all_goals
        have st3 := st2.put21 (by omega) ⟨by dsimp only; omega, by dsimp only; omega, by dsimp only; omega, by dsimp only; omega, trivial⟩ (.slice (some ⟨g1, 0, none⟩) (k + 1) c1')
        have own3 : (w2.setCell ⟨w.heap.size + 1 + 1, 1, none⟩ (.slice (some ⟨g1, 0, none⟩) (k + 1) c1')).ownsRow (w.heap.size + 1 + 1 + 1) 56 2 (.slice (some ⟨g1, 0, none⟩) (k + 1) c1') (k + 1) (cellsV (l.take (k + 1))) := by
          rw [HT.out]
          exact ownsRow_setCell_below own1' (by show w.heap.size + 1 + 1 < _; omega) _
        go_wp2_with fail
        go_roundg (len - (k + 1))
        case measure => omega
        case rel => exact ⟨k + 1, c1', some ⟨g1, 0, none⟩, by omega, by go_num, own3, st3⟩
    · have hke : k = len := by omega
      subst hke
      have e : l.take k = l := take_all (by rw [← hl.out]; omega)
      rw [e] at own
      have hkn : ¬ (k : Int) < (k : Int) := by omega
      go_wp2_with fail
      refine bodyPost_ret (v := (.agg #[.int .i64 Ni, (.slice x k cp)])) (by simp [results, Tryz.results31, go_sem, *]) rfl ⟨.slice x k cp, rfl, ?_, ?_⟩
      · exact owns_base' (ownsRow_setCell_below (ownsRow_setCell_below own (by show w.heap.size + 1 < _; omega) _) (by show w.heap.size + 1 < _; omega) _) (by omega)
      · iterate 2 refine Below.setCell ?_ (by first | (simp; done) | (simp; omega)) _
        exact st.bel

end Go.Proofs.YtbafkjhlogkllaaGreatDoor.Oc
