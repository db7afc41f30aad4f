/- Rows: made of any ints; told as ints; each number divided. -/
import Derived.Test.YtmeaemjdmjhmdaaDoorKd
namespace Go.Proofs.YtmeaemjdmjhmdaaDoor
open Go.RowKit

set_option maxHeartbeats 1000000 in
theorem rowOf_none (a : Option Addr) (c : Nat) (w : World) :
    Calls Tryd.prog 12 #[.slice a 0 c] w fun e w' => ∃ g, e = .returned (.slice (some ⟨g, 0, none⟩) 0 0) ∧ w.heap.size ≤ g ∧ NearRow w' g [] ∧ Below w.heap.size w w' := by
  obtain ⟨i0, hi, hz0, hz1, hz2⟩ := info_parts Tryd.info36
  go_enter Tryd.func12, Tryd.ntmps12
  go_wp2_with (at_make; refine wpList_make_full _ rfl _ _ 38 rfl w.heap.size 36 i0 (.agg #[.int .i64 0, .slice none 0 0]) 2 Tryd.underlying38 hi hz0 hz1 _ _ _ _ 0 rfl rfl rfl rfl ?b2 ?b3 (Nat.le_refl _) ?_)
  case b2 => rw [hz2]; omega
  case b3 => unfold maxLen; omega
  intro w0 hown0 hgrow0
  go_wp2_with fail
  refine wp_loop_rounds 1 ?_
  rw [rounds_succ]
  go_wp2_with fail
  go_ret
  exact ⟨w.heap.size, rfl, Nat.le_refl _, ⟨(hown0.lt _ rfl).2, fun i hi => by simp at hi⟩, (Below.refl _ _).grown hgrow0 (Nat.le_refl _) (fun _ h => by cases h)⟩

theorem rowOf_any (a : Option Addr) (c : Nat) (l : List Int) (w : World) (hA : IntsAt w a l) (hn : l.length ≤ 4398046511104) :
    Calls Tryd.prog 12 #[.slice a l.length c] w fun e w' => ∃ g, e = .returned (.slice (some ⟨g, 0, none⟩) l.length l.length) ∧ w.heap.size ≤ g ∧ NearRow w' g l ∧ Below w.heap.size w w' := by
  rcases hA with rfl | ⟨b, off, rfl, hb, hc⟩
  · exact rowOf_none a c w
  · exact rowOf_some b off c l w hb hc hn

set_option maxHeartbeats 400000 in
theorem int_near (z : Int) (w : World) :
    Calls Tryd.prog 15 #[.agg #[.int .i64 z, .slice none 0 0]] w fun e w' => e = .returned (.tuple #[.int .i64 z, .bool true]) ∧ Below w.heap.size w w' := by
  go_enter Tryd.func15, Tryd.ntmps15
  go_wp2_with (go_at_call 24; refine (isNear_yes _ _).mono ?_; rintro e w1 ⟨rfl, hb1⟩; have hcz : w1.cell? ⟨w.heap.size, 0, none⟩ = some (.int .i64 z) := (hb1.cell (by simp)).trans (by simp))
  go_ret2
  exact ⟨rfl, ((Below.refl _ _).alloc (Nat.le_refl _) _).trans (hb1.mono (by simp))⟩

/-- A slice of ints that the call itself made. -/
theorem madeCells_ints (n : Nat) : (madeCells #[.int .i64 0] n).toList = (List.replicate n (0 : Int)).map (Value.int .i64) := by
  rw [toList_madeCells_one]; simp

set_option maxHeartbeats 1000000 in
theorem ints_near (b c : Nat) (l : List Int) (w : World) (hr : NearRow w b l) (hn : l.length ≤ 4398046511104) :
    Calls Tryd.prog 18 #[.slice (some ⟨b, 0, none⟩) l.length c] w fun e w' => ∃ g, e = .returned (.tuple #[.slice (some ⟨g, 0, none⟩) l.length l.length, .bool true]) ∧ w.heap.size ≤ g ∧ IntsAt w' (some ⟨g, 0, none⟩) l ∧ Below w.heap.size w w' := by
  obtain ⟨n, hnl⟩ : ∃ n, n = l.length := ⟨_, rfl⟩
  rw [← hnl] at hn ⊢
  have Hn := hide hnl
  clear hnl
  obtain ⟨i0, hi, hz0, hz1, hz2⟩ := info_parts Tryd.info3
  go_enter Tryd.func18, Tryd.ntmps18
  go_wp2_with (at_make; refine wpList_make_full _ rfl _ _ 22 rfl w.heap.size 3 i0 (.int .i64 0) 1 Tryd.underlying22 hi hz0 hz1 _ _ _ _ n rfl rfl rfl rfl ?b2 ?b3 (Nat.le_refl _) ?_)
  case b2 => rw [hz2]; omega
  case b3 => unfold maxLen; omega
  intro w0 hown0 hgrow0
  have hown1 : w0.ownsRow w.heap.size 3 1 (.slice (some ⟨w.heap.size, 0, none⟩) n n) n ((List.replicate n (0 : Int)).map (Value.int .i64)) := by rw [← madeCells_ints]; exact hown0
  clear hown0
  go_wp2_with fail
  go_loopw [14] (fun i wr => ∃ (k : Nat) (m : List Int), k ≤ n ∧ i = .int .i64 k ∧ m.length = n ∧ m.take k = l.take k ∧ wr.ownsRow w.heap.size 3 1 (.slice (some ⟨w.heap.size, 0, none⟩) n n) n (m.map (Value.int .i64)) ∧ Below w.heap.size w wr) (fun i _ => n - (intOf i).toNat)
  case atStart => exact ⟨0, List.replicate n 0, Nat.zero_le _, rfl, by simp, by simp, hown1, (Below.refl _ _).grown hgrow0 (Nat.le_refl _) (fun _ h => by cases h)⟩
  case round =>
    obtain ⟨k, m, hk, rfl, hm, htk, hown, hbel⟩ := hrel
    have HM := hide hm
    have HT := hide htk
    clear hm htk
    by_cases hlt : k < n
    · have hkl : k < l.length := by rw [← Hn.out]; exact hlt
      obtain ⟨x, hxe⟩ : ∃ x, x = l.getD k 0 := ⟨_, rfl⟩
      have hc0 : wr.cell? ⟨b, k * 2, none⟩ = some (.int .i64 x) := by rw [hxe, hbel.cell (p := ⟨b, k * 2, none⟩) hr.1]; exact (hr.2 k hkl).1
      have hc1 : wr.cell? ⟨b, k * 2 + 1, none⟩ = some (.slice none 0 0) := by rw [hbel.cell (p := ⟨b, k * 2 + 1, none⟩) hr.1]; exact (hr.2 k hkl).2
      have Hx := hide hxe
      clear hxe
      go_wp2_with fail
      refine (int_near x _).mono ?_
      rintro e w1 ⟨rfl, hb1⟩
      have hown2 := owns_below (hown.alloc _) hb1
      have hbel2 := (hbel.alloc hbel.size _).trans (hb1.mono (by have := hbel.size; simp; omega))
      have hc2 : w1.cell? ⟨w.heap.size, k, none⟩ = some (.int .i64 (m.getD k 0)) := by rw [hown2.cellAt k (by omega)]; simp [show k < m.length by rw [HM.out]; exact hlt]
      have hf2 := hown2.frozenAt k
      have hown3 := (hown2.stored k (.int .i64 x)).1
      rw [← List.map_set] at hown3
      have hbel3 := hbel2.setCell (p := ⟨w.heap.size, k, none⟩) (Nat.le_refl _) (.int .i64 x)
      clear hown hown2
      go_wp2_with fail
      go_roundw
      case rel => exact ⟨k + 1, m.set k x, by omega, by go_num, by rw [List.length_set]; exact HM.out, by rw [Hx.out]; exact getD_set_take l m k hkl (by rw [HM.out, Hn.out]) HT.out, hown3, hbel3⟩
      case measure => simp [intOf]; omega
    · go_wp2_with fail
      go_ret2
      have hke : m = l := by
        have h := HT.out
        rw [List.take_of_length_le (by rw [HM.out]; omega), List.take_of_length_le (by rw [← Hn.out]; omega)] at h
        exact h
      exact ⟨w.heap.size, rfl, Nat.le_refl _, IntsAt_of_owns (hke ▸ hown) Hn.out, hbel⟩

end Go.Proofs.YtmeaemjdmjhmdaaDoor
