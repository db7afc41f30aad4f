/- A row divided by its divisor. -/
import Derived.Test.YtmeaemjdmjhmdaaDoorKe
namespace Go.Proofs.YtmeaemjdmjhmdaaDoor
open Go.RowKit

def Quot (d z : Int) : Prop := -9223372036854775808 ≤ z ∧ z ≤ 9223372036854775807 ∧ z.natAbs / d.natAbs ≤ 9223372036854775807

set_option maxHeartbeats 400000 in
theorem normal1_near (z d : Int) (D : Nat) (w : World) (hD : D < w.heap.size) (hd0 : w.cell? ⟨D, 0, none⟩ = some (.int .i64 d)) (hd1 : w.cell? ⟨D, 1, none⟩ = some (.slice none 0 0))
    (hz : Quot d z) (hdb : -9223372036854775808 ≤ d ∧ d ≤ 9223372036854775807) :
    Calls Tryd.prog 29 #[.agg #[.int .i64 z, .slice none 0 0], .pointer (some ⟨D, 0, none⟩)] w fun e w' => e = .returned (.agg #[.int .i64 (z.tdiv d), .slice none 0 0]) ∧ Below w.heap.size w w' := by
  obtain ⟨q1, q2, q3⟩ := hz
  go_enter Tryd.func29, Tryd.ntmps29
  go_wp2_with fail
  refine (over_near z d _ q1 q2 hdb.1 hdb.2 q3).mono ?_
  rintro e w1 ⟨rfl, hb1⟩
  have hr0 : w1.cell? ⟨w.heap.size + 1, 0, none⟩ = some (.int .i64 0) := (hb1.cell (by simp)).trans (by simp)
  have hr1 : w1.cell? ⟨w.heap.size + 1, 1, none⟩ = some (.slice none 0 0) := (hb1.cell (by simp)).trans (by simp)
  have hf0 : ∀ o, w1.frozen? ⟨w.heap.size + 1, o, none⟩ = false := fun o => (hb1.frozen (by simp)).trans (by simp)
  have hbel : Below w.heap.size w w1 := (((Below.refl _ _).alloc (Nat.le_refl _) _).alloc (by simp) _).trans (hb1.mono (by simp; omega))
  go_wp2_with fail
  exact bodyPost_ret (v := .agg #[.int .i64 (z.tdiv d), .slice none 0 0]) (by simp [results, Tryd.results29, go_sem, hr0, hr1]) rfl ⟨rfl, (hbel.setCell (by dsimp only; omega) _).setCell (by dsimp only; omega) _⟩

theorem take_map_step (f : Int → Int) (l m : List Int) (k : Nat) (hk : k < l.length) (hm : m.length = l.length) (h : m.take k = (l.map f).take k) : (m.set k (f (l.getD k 0))).take (k + 1) = (l.map f).take (k + 1) := by
  have e : f (l.getD k 0) = (l.map f).getD k 0 := by simp [hk]
  rw [e]
  exact getD_set_take (l.map f) m k (by simpa using hk) (by simpa using hm) h

set_option maxHeartbeats 1000000 in
/-- Each number of a row divided. -/
theorem eachDiv_near (b c D : Nat) (d : Int) (l : List Int) (w : World) (hr : NearRow w b l) (hq : ∀ z ∈ l, Quot d z) (hdb : -9223372036854775808 ≤ d ∧ d ≤ 9223372036854775807) (hD : D < w.heap.size) (hd0 : w.cell? ⟨D, 0, none⟩ = some (.int .i64 d)) (hd1 : w.cell? ⟨D, 1, none⟩ = some (.slice none 0 0)) (hn : l.length ≤ 4398046511104) :
    Calls Tryd.prog 28 #[.slice (some ⟨b, 0, none⟩) l.length c, .func (.func 29) #[] #[.pointer (some ⟨D, 0, none⟩)]] w fun e w' => ∃ g, e = .returned (.slice (some ⟨g, 0, none⟩) l.length l.length) ∧ w.heap.size ≤ g ∧ NearRow w' g (l.map (·.tdiv d)) ∧ Below w.heap.size w w' := by
  obtain ⟨n, hnl⟩ : ∃ n, n = l.length := ⟨_, rfl⟩
  rw [← hnl] at hn ⊢
  have Hn := hide hnl
  have HQ := hide hq
  clear hnl hq
  obtain ⟨i0, hi, hz0, hz1, hz2⟩ := info_parts Tryd.info36
  go_enter Tryd.func28, Tryd.ntmps28
  go_wp2_with (at_make; refine wpList_make_full _ rfl _ _ 38 rfl w.heap.size 36 i0 (.agg #[.int .i64 0, .slice none 0 0]) 2 Tryd.underlying38 hi hz0 hz1 _ _ _ _ n rfl rfl rfl rfl ?b2 ?b3 (Nat.le_refl _) ?_)
  case b2 => rw [hz2]; omega
  case b3 => unfold maxLen; omega
  intro w0 hown0 hgrow0
  have hown1 : w0.ownsRow w.heap.size 36 2 (.slice (some ⟨w.heap.size, 0, none⟩) n n) n (rowCells (List.replicate n 0)) := by rw [← rowCells_zeros]; exact hown0
  clear hown0
  go_wp2_with fail
  go_loopw [13] (fun i wr => ∃ (k : Nat) (m : List Int), k ≤ n ∧ i = .int .i64 k ∧ m.length = n ∧ m.take k = (l.map (·.tdiv d)).take k ∧ wr.ownsRow w.heap.size 36 2 (.slice (some ⟨w.heap.size, 0, none⟩) n n) n (rowCells m) ∧ Below w.heap.size w wr) (fun i _ => n - (intOf i).toNat)
  case atStart => exact ⟨0, List.replicate n 0, Nat.zero_le _, rfl, by simp, by simp, hown1, (Below.refl _ _).grown hgrow0 (Nat.le_refl _) (fun _ h => by cases h)⟩
  case round =>
    obtain ⟨k, m, hk, rfl, hm, htk, hown, hbel⟩ := hrel
    have HM := hide hm
    have HT := hide htk
    clear hm htk
    by_cases hlt : k < n
    · have hkl : k < l.length := by rw [← Hn.out]; exact hlt
      obtain ⟨x, hxe⟩ : ∃ x, x = l.getD k 0 := ⟨_, rfl⟩
      have hqx : Quot d x := HQ.out x (by rw [hxe]; simp [hkl])
      have hc0 : wr.cell? ⟨b, k * 2, none⟩ = some (.int .i64 x) := by rw [hxe, hbel.cell (p := ⟨b, k * 2, none⟩) hr.1]; exact (hr.2 k hkl).1
      have hc1 : wr.cell? ⟨b, k * 2 + 1, none⟩ = some (.slice none 0 0) := by rw [hbel.cell (p := ⟨b, k * 2 + 1, none⟩) hr.1]; exact (hr.2 k hkl).2
      have hdc0 : wr.cell? ⟨D, 0, none⟩ = some (.int .i64 d) := (hbel.cell (p := ⟨D, 0, none⟩) hD).trans hd0
      have hdc1 : wr.cell? ⟨D, 1, none⟩ = some (.slice none 0 0) := (hbel.cell (p := ⟨D, 1, none⟩) hD).trans hd1
      have hDw : D < wr.heap.size := Nat.lt_of_lt_of_le hD hbel.size
      have Hx := hide hxe
      clear hxe
      go_wp2_with fail
      refine (normal1_near x d D _ (by simp; omega) (by rw [World.cell?_alloc_past _ _ _ hDw]; exact hdc0) (by rw [World.cell?_alloc_past _ _ _ hDw]; exact hdc1) hqx hdb).mono ?_
      rintro e w1 ⟨rfl, hb1⟩
      have hown2 := owns_below (hown.alloc _) hb1
      obtain ⟨c1, c2, c3, c4⟩ := owns_cells hown2 HM.out k hlt
      have hown3 := owns_store hown2 HM.out k hlt (x.tdiv d)
      have hbel3 := (((hbel.alloc hbel.size _).trans (hb1.mono (by have := hbel.size; simp; omega))).setCell (p := ⟨w.heap.size, k * 2, none⟩) (Nat.le_refl _) (.int .i64 (x.tdiv d))).setCell (p := ⟨w.heap.size, k * 2 + 1, none⟩) (Nat.le_refl _) (.slice none 0 0)
      clear hown hown2
      go_wp2_with fail
      go_roundw
      case rel => exact ⟨k + 1, m.set k (x.tdiv d), by omega, by go_num, by rw [List.length_set]; exact HM.out, by rw [Hx.out]; exact take_map_step (·.tdiv d) l m k hkl (by rw [HM.out, Hn.out]) HT.out, hown3, hbel3⟩
      case measure => simp [intOf]; omega
    · go_wp2_with fail
      go_ret
      have hke : m = l.map (·.tdiv d) := by
        have h := HT.out
        rw [List.take_of_length_le (by rw [HM.out]; omega), List.take_of_length_le (by rw [List.length_map, ← Hn.out]; omega)] at h
        exact h
      exact ⟨w.heap.size, rfl, Nat.le_refl _, NearRow_of_owns (hke ▸ hown) (by rw [List.length_map]; exact Hn.out), hbel⟩

theorem quot_gcdL (l : List Int) (hf : Fits l) : ∀ z ∈ l, Quot (gcdL l) z := by
  intro z hz
  have h := hf z hz
  exact ⟨by omega, by omega, Nat.le_trans (Nat.div_le_self _ _) (by omega)⟩

set_option maxHeartbeats 1000000 in
theorem rowNormal_near (b c : Nat) (l : List Int) (w : World) (hr : NearRow w b l) (hf : Fits l) (hn : l.length ≤ 4398046511104) :
    Calls Tryd.prog 17 #[.slice (some ⟨b, 0, none⟩) l.length c] w fun e w' => ∃ g, e = .returned (.slice (some ⟨g, 0, none⟩) l.length l.length) ∧ w.heap.size ≤ g ∧ NearRow w' g (l.map (·.tdiv (gcdL l))) ∧ Below w.heap.size w w' := by
  have hd0 := gcdL_nonneg l
  have hd1 := gcdL_bd l hf
  go_enter Tryd.func17, Tryd.ntmps17
  go_wp2_with fail
  refine (rowDivisor_near b c l _ hr hf (by omega)).mono ?_
  rintro e w1 ⟨rfl, hb1⟩
  have hr1 := (hr.below hb1).below ((Below.refl w1.heap.size w1).alloc (Nat.le_refl _) (.cells #[.int .i64 (gcdL l), .slice none 0 0] 36))
  go_wp2_with fail
  refine (eachDiv_near b c w1.heap.size (gcdL l) l _ hr1 (quot_gcdL l hf) ⟨by omega, hd1⟩ (by simp) (by simp) (by simp) hn).mono ?_
  rintro e w2 ⟨g, rfl, hg, hrow, hb2⟩
  go_wp2_with fail
  go_ret
  have hs := hb1.size
  exact ⟨g, rfl, by simp at hg; omega, hrow, hb1.trans (((Below.refl _ _).alloc hs _).trans (hb2.mono (by simp; omega)))⟩

theorem ints_near_n (b c n : Nat) (l : List Int) (w : World) (hr : NearRow w b l) (he : n = l.length) (hn : n ≤ 4398046511104) :
    Calls Tryd.prog 18 #[.slice (some ⟨b, 0, none⟩) n c] w fun e w' => ∃ g, e = .returned (.tuple #[.slice (some ⟨g, 0, none⟩) n n, .bool true]) ∧ w.heap.size ≤ g ∧ IntsAt w' (some ⟨g, 0, none⟩) l ∧ Below w.heap.size w w' := by
  subst he; exact ints_near b c l w hr hn

set_option maxHeartbeats 1000000 in
theorem normal_near (a : Option Addr) (c : Nat) (l : List Int) (w : World) (hA : IntsAt w a l) (hf : Fits l) (hn : l.length ≤ 4398046511104) :
    Calls Tryd.prog 10 #[.slice a l.length c] w fun e w' => ∃ g, e = .returned (.slice (some ⟨g, 0, none⟩) l.length l.length) ∧ w.heap.size ≤ g ∧ IntsAt w' (some ⟨g, 0, none⟩) (l.map (·.tdiv (gcdL l))) ∧ Below w.heap.size w w' := by
  go_enter Tryd.func10, Tryd.ntmps10
  go_wp2_with fail
  refine (rowOf_any a c l _ hA hn).mono ?_
  rintro e w1 ⟨g1, rfl, hg1, hr1, hb1⟩
  go_wp2_with fail
  refine (rowNormal_near g1 _ l _ hr1 hf hn).mono ?_
  rintro e w2 ⟨g2, rfl, hg2, hr2, hb2⟩
  go_wp2_with fail
  refine (ints_near_n g2 _ l.length _ _ hr2 (by simp) hn).mono ?_
  rintro e w3 ⟨g3, rfl, hg3, hi3, hb3⟩
  go_wp2_with fail
  go_ret
  have hs1 := hb1.size
  have hs2 := hb2.size
  exact ⟨g3, rfl, by omega, hi3, (hb1.trans (hb2.mono hs1)).trans (hb3.mono (by omega))⟩

end Go.Proofs.YtmeaemjdmjhmdaaDoor
