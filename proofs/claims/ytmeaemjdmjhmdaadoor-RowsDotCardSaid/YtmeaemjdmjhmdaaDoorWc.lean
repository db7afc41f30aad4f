/- Limbs in memory: their sum and their difference. -/
import Derived.Test.YtmeaemjdmjhmdaaDoorWb
import Derived.Laws.CopyOwn
import Derived.Laws.Externs
namespace Go.Proofs.YtmeaemjdmjhmdaaDoor
open Go.RowKit

theorem Tryd.infoU : (Tryd.prog.info? 68).map (fun i => (i.zero, i.size, i.bytes)) = some (some (.int .u64 0), 1, 8) := by kernel_rfl
theorem Tryd.sizeU : (Tryd.prog.info? 68).map (·.size) = some 1 := by kernel_rfl

/-- A block of limbs that the call itself made. -/
def OwnU (w : World) (g : Nat) (S : List Int) : Prop := w.heap[g]? = some (.cells (S.map (Value.int .u64)).toArray 68 (0, 0))

theorem OwnU.lt {w : World} {g : Nat} {S : List Int} (h : OwnU w g S) : g < w.heap.size := lt_of_block h
theorem OwnU.below {w w' : World} {g : Nat} {S : List Int} (h : OwnU w g S) (hb : Below w.heap.size w w') : OwnU w' g S := (hb.block g h.lt).trans h
theorem OwnU.cell {w : World} {g : Nat} {S : List Int} (h : OwnU w g S) (k : Nat) (hk : k < S.length) : w.cell? ⟨g, k, none⟩ = some (.int .u64 (S.getD k 0)) := by
  unfold OwnU at h
  simp [World.cell?, h, hk]
theorem OwnU.frozen {w : World} {g : Nat} {S : List Int} (h : OwnU w g S) (k : Nat) : w.frozen? ⟨g, k, none⟩ = false := by
  unfold OwnU at h
  simp [World.frozen?, h]
theorem OwnU.set {w : World} {g : Nat} {S : List Int} (h : OwnU w g S) (k : Nat) (z : Int) : OwnU (w.setCell ⟨g, k, none⟩ (.int .u64 z)) g (S.set k z) := by
  unfold OwnU at h ⊢
  rw [heap_setCell_same w g k _ _ _ h]
  simp [List.map_set]
theorem OwnU.limbs {w : World} {g : Nat} {S : List Int} (h : OwnU w g S) : LimbsAt w (some ⟨g, 0, none⟩) S :=
  .inr ⟨g, 0, rfl, h.lt, fun i hi => by rw [Nat.zero_add]; exact h.cell i hi⟩

theorem made_zeros (n : Nat) : madeCells #[Value.int .u64 0] n = ((List.replicate n (0 : Int)).map (Value.int .u64)).toArray := by
  apply Array.toList_inj.1
  rw [toList_madeCells_one]; simp

theorem limbs_src {w : World} {a : Option Addr} {m : List Int} (h : LimbsAt w a m) : 0 < m.length → ∃ ad, a = some ad ∧ ∀ (j : Nat) (x : Int), m[j]? = some x → w.cell? (ad.add j) = some (.int .u64 x) := by
  intro hpos
  rcases h with rfl | ⟨b, off, rfl, hb, hc⟩
  · simp at hpos
  · refine ⟨_, rfl, fun j x hj => ?_⟩
    have hjl : j < m.length := by
      rcases Nat.lt_or_ge j m.length with h | h
      · exact h
      · rw [List.getElem?_eq_none h] at hj; cases hj
    have hu : x = m.getD j 0 := by simp [hjl] at hj; rw [← hj]; simp [hjl]
    have e : (⟨b, off, none⟩ : Addr).add j = ⟨b, off + j, none⟩ := by
      unfold Addr.add; split
      · rename_i h0; subst h0; simp
      · rfl
    rw [hu, e]
    exact hc j hjl

theorem splice_head (n : Nat) (m : List Int) (_h : m.length ≤ n) : splice (List.replicate n (Value.int .u64 0)) 0 (m.map (Value.int .u64)) = (m ++ List.replicate (n - m.length) 0).map (Value.int .u64) := by
  simp [splice]

theorem add64_run (x y c : Int) (hx : 0 ≤ x ∧ x < 18446744073709551616) (hy : 0 ≤ y ∧ y < 18446744073709551616) (hc : 0 ≤ c ∧ c ≤ 1) :
    ∃ s c' : Int, (∀ w : World, (add64Entry #[.int .u64 x, .int .u64 y, .int .u64 c]).run Tryd.prog w = .ok (.tuple #[.int .u64 s, .int .u64 c']) w) ∧ s + 18446744073709551616 * c' = x + y + c ∧ 0 ≤ s ∧ s < 18446744073709551616 ∧ 0 ≤ c' ∧ c' ≤ 1 :=
  ⟨(x + y + c) % 18446744073709551616, (x + y + c) / 18446744073709551616, fun w => run_add64 x y c hx.1 hy.1 hc.1 hc.2 w, by omega, by omega, by omega, by omega, by omega⟩

def sub64Entry : Array Value → Sem Value := fun args => do
  let (x, y, b) ← Extern.MathBitsCarry.three "Sub64" args
  pure (Extern.MathBitsCarry.pair ((x + Extern.MathBitsCarry.m64 - y - b) % Extern.MathBitsCarry.m64) (if x < y + b then 1 else 0))

theorem sub64_run (x y c : Int) (hx : 0 ≤ x ∧ x < 18446744073709551616) (hy : 0 ≤ y ∧ y < 18446744073709551616) (hc : 0 ≤ c ∧ c ≤ 1) :
    ∃ s c' : Int, (∀ w : World, (sub64Entry #[.int .u64 x, .int .u64 y, .int .u64 c]).run Tryd.prog w = .ok (.tuple #[.int .u64 s, .int .u64 c']) w) ∧ s - 18446744073709551616 * c' = x - y - c ∧ 0 ≤ s ∧ s < 18446744073709551616 ∧ 0 ≤ c' ∧ c' ≤ 1 := by
  obtain ⟨k, rfl⟩ := Int.eq_ofNat_of_zero_le hc.1
  obtain ⟨X, rfl⟩ := Int.eq_ofNat_of_zero_le hx.1
  obtain ⟨Y, rfl⟩ := Int.eq_ofNat_of_zero_le hy.1
  have key : ∀ w : World, (sub64Entry #[.int .u64 (X : Int), .int .u64 (Y : Int), .int .u64 (k : Int)]).run Tryd.prog w =
      .ok (Extern.MathBitsCarry.pair ((X + Extern.MathBitsCarry.m64 - Y - k) % Extern.MathBitsCarry.m64) (if X < Y + k then 1 else 0)) w := by
    intro w
    have : k = 0 ∨ k = 1 := by omega
    rcases this with rfl | rfl <;> rfl
  have hm : Extern.MathBitsCarry.m64 = 18446744073709551616 := rfl
  rw [hm] at key
  refine ⟨(((X + 18446744073709551616 - Y - k) % 18446744073709551616 : Nat) : Int), ((if X < Y + k then 1 else 0 : Nat) : Int), fun w => key w, ?_, by omega, by omega, by split <;> omega, by split <;> omega⟩
  split <;> omega

set_option maxHeartbeats 2000000 in
set_option maxRecDepth 100000 in
theorem plus_ge (b1 o1 n1 c1 : Nat) (a2 : Option Addr) (n2 c2 : Nat) (l m : List Int) (w : World) (hb1 : b1 < w.heap.size) (hc1 : ∀ i, i < l.length → w.cell? ⟨b1, o1 + i, none⟩ = some (.int .u64 (l.getD i 0))) (hA2 : LimbsAt w a2 m)
    (hl : Hid (n1 = l.length)) (hm : Hid (n2 = m.length)) (ll : Limb l) (lm : Limb m) (hle : n2 ≤ n1) (hn : n1 ≤ 1073741824) :
    Calls Tryd.prog 36 #[.slice (some ⟨b1, o1, none⟩) n1 c1, .slice a2 n2 c2] w fun e w' => ∃ g k S, e = .returned (.slice (some ⟨g, 0, none⟩) k (n1 + 1)) ∧ w.heap.size ≤ g ∧ LimbsAt w' (some ⟨g, 0, none⟩) S ∧ k = S.length ∧ k ≤ n1 + 1 ∧ Limb S ∧ Tr S ∧ lv S = lv l + lv m ∧ Below w.heap.size w w' := by
  obtain ⟨i0, hi, hz0, hz1, hz2⟩ := info_parts Tryd.infoU
  have hA := @run_callFunc_extern Tryd.prog 54 _ add64Entry Tryd.func54 (by kernel_rfl) (by kernel_rfl) (by kernel_rfl) (by kernel_rfl)
  obtain ⟨mz, hmz⟩ : ∃ mz, mz = m ++ List.replicate (n1 + 1 - m.length) 0 := ⟨_, rfl⟩
  have lmz : Limb mz := by rw [hmz]; exact lm.app (Limb.zeros _)
  have hmzl : Hid (mz.length = n1 + 1) := by have := hm.out; unfold Hid; rw [hmz]; simp; omega
  have hmzv : Hid (lv mz = lv m) := by unfold Hid; rw [hmz, lv_append, lv_zeros]; omega
  have Hmz := hide hmz
  clear hmz
  go_enter Tryd.func36, Tryd.ntmps36
  go_wp2_with (at_make; refine wpList_make_full _ rfl _ _ 34 rfl w.heap.size 68 i0 (.int .u64 0) 1 Tryd.underlying34 hi hz0 hz1 _ _ _ _ (n1 + 1) rfl rfl (by omega) (by omega) ?b2 ?b3 (Nat.le_refl _) ?_)
  case b2 => rw [hz2]; omega
  case b3 => unfold maxLen; omega
  intro w0 hown0 hgrow0
  have hg0 : w0.heap[w.heap.size]? = some (.cells ((List.replicate (n1 + 1) (0 : Int)).map (Value.int .u64)).toArray 68 (0, 0)) := by
    rcases hown0.2 with ⟨h, _⟩ | ⟨g, cap, cur, h, _, hh, _, _, hsz, htk⟩
    · cases h
    · simp only [Value.slice.injEq, Option.some.injEq, Addr.mk.injEq, and_true, true_and] at h
      obtain ⟨rfl, rfl⟩ := h
      rw [hh]
      have e : cur = madeCells #[Value.int .u64 0] (n1 + 1) := by
        apply Array.toList_inj.1
        have h1 : cur.toList.take ((n1 + 1) * 1) = (madeCells #[Value.int .u64 0] (n1 + 1)).toList := by first | exact htk | (rw [Nat.mul_one] at htk ⊢; exact htk)
        rw [Nat.mul_one, List.take_of_length_le (by simp; omega)] at h1
        exact h1
      rw [e, made_zeros]
  have hbel0 : Below w.heap.size w w0 := (Below.refl _ _).grown hgrow0 (Nat.le_refl _) (fun _ h => by cases h)
  have Hg0 := hide hg0
  clear hg0 hown0 hgrow0
  go_wp2_with (refine wpList_copy_splice rfl _ _ 34 34 rfl 68 Tryd.underlying34 Tryd.sizeU _ _ _ _ _ _ rfl rfl w.heap.size 0 _ 68 Hg0.out (m.map (Value.int .u64)) ?p1 ?p2 ?p3 (ints_oneCell _ _) w.heap.size w hbel0 (Nat.le_refl _) ?_)
  case p1 => rw [List.length_map, ← hm.out]; exact (Nat.min_eq_left (by omega)).symm
  case p2 => exact limbs_src (hA2.below hbel0)
  case p3 => have := hm.out; simp; omega
  intro w3 hw3 hbel3
  have hown3 : Hid (OwnU w3 w.heap.size mz) := by
    have h := hw3.out
    rw [splice_head _ _ (by have := hm.out; omega)] at h
    unfold Hid; rw [Hmz.out]; exact h
  clear hw3 hbel0 Hg0
  go_wp2_with fail
  go_loopw [6, 25] (fun cv i wr => ∃ (k : Nat) (cy : Int) (S : List Int), k ≤ n1 ∧ i = .int .i64 k ∧ cv = .int .u64 cy ∧ 0 ≤ cy ∧ cy ≤ 1 ∧ S.length = n1 + 1 ∧ Limb S ∧ S.drop k = mz.drop k ∧ lv (S.take k) + cy * pw k = lv (l.take k) + lv (mz.take k) ∧ OwnU wr w.heap.size S ∧ Below w.heap.size w wr) (fun _ i _ => n1 - (intOf i).toNat)
  case atStart => exact ⟨0, 0, mz, Nat.zero_le _, rfl, rfl, by omega, by omega, hmzl.out, lmz, rfl, by simp [lv], hown3.out, hbel3⟩
  case round =>
    obtain ⟨k, cy, S, hk, rfl, rfl, hy0, hy1, hSl, lS, hSd, hinv, hown, hbel⟩ := hrel
    have HSl := hide hSl
    have HSd := hide hSd
    have HI := hide hinv
    have HO := hide hown
    clear hSl hSd hinv hown
    by_cases hlt' : k < n1
    · have hkl : k < l.length := by rw [← hl.out]; exact hlt'
      have hkS : k < S.length := by rw [HSl.out]; omega
      have hkz : k < mz.length := by rw [hmzl.out]; omega
      have hsm : S.getD k 0 = mz.getD k 0 := by
        have h := congrArg (fun t => t.getD 0 0) HSd.out
        simpa [hkS, hkz] using h
      obtain ⟨x, hxe⟩ : ∃ x, x = l.getD k 0 := ⟨_, rfl⟩
      obtain ⟨y, hye⟩ : ∃ y, y = S.getD k 0 := ⟨_, rfl⟩
      have hcx : wr.cell? ⟨b1, o1 + k, none⟩ = some (.int .u64 x) := by rw [hxe, hbel.cell (p := ⟨b1, o1 + k, none⟩) hb1]; exact hc1 k hkl
      have hcy : wr.cell? ⟨w.heap.size, k, none⟩ = some (.int .u64 y) := by rw [hye]; exact HO.out.cell k hkS
      have hfy : wr.frozen? ⟨w.heap.size, k, none⟩ = false := HO.out.frozen k
      obtain ⟨s, cy', hrun, hsum, hs0, hs1, hc0, hc1'⟩ := add64_run x y cy (by rw [hxe]; exact ll.get hkl) (by rw [hye]; exact lS.get hkS) ⟨hy0, hy1⟩
      have HS := hide hsum
      have Hx := hide hxe
      have Hy := hide hye
      have Hsm := hide hsm
      have HB : Hid (s < 18446744073709551616) := hs1
      have hbel4 := hbel.setCell (p := ⟨w.heap.size, k, none⟩) (Nat.le_refl _) (.int .u64 s)
      have HO4 := hide (HO.out.set k s)
      clear hsum hxe hye hsm hs1
      go_wp2_with fail
      skip
      go_roundw
      case rel =>
        refine ⟨k + 1, cy', S.set k s, by omega, by go_num, rfl, hc0, hc1', by rw [List.length_set]; exact HSl.out, lS.set k hs0 HB.out, ?_, ?_, HO4.out, hbel4⟩
        · rw [List.drop_set_of_lt (by omega), ← List.drop_drop, ← List.drop_drop, HSd.out]
        · rw [lv_take_step (S.set k s) k (by simpa using hkS), lv_take_step l k hkl, lv_take_step mz k hkz, pw_succ]
          have e1 : (S.set k s).take k = S.take k := List.take_set_of_le (Nat.le_refl _)
          have e2 : (S.set k s).getD k 0 = s := by simp [hkS]
          rw [e1, e2, ← Hsm.out, ← Hy.out, ← Hx.out]
          exact add_step HI.out HS.out
      case measure => simp [intOf]; omega
    · have hkn : k = n1 := by omega
      have hcell : wr.cell? ⟨w.heap.size, n1, none⟩ = some (.int .u64 (S.getD n1 0)) := HO.out.cell n1 (by rw [HSl.out]; omega)
      have hfr : wr.frozen? ⟨w.heap.size, n1, none⟩ = false := HO.out.frozen n1
      have hO4 := HO.out.set n1 cy
      have hbel4 := hbel.setCell (p := ⟨w.heap.size, n1, none⟩) (Nat.le_refl _) (.int .u64 cy)
      have HO4 := hide hO4
      have HK := hide hkn
      clear hO4 hkn
      go_wp2_with fail
      refine (trim_any _ (n1 + 1) (n1 + 1) (S.set n1 cy) _ (by unfold Hid; rw [List.length_set]; exact HSl.out.symm) HO4.out.limbs (by omega) (Nat.le_refl _)).mono ?_
      rintro e w5 ⟨t, rfl, ⟨ht1, ht2, ht3⟩, hb5⟩
      have hbel5 := hbel4.trans (hb5.mono hbel4.size)
      go_wp2_with fail
      go_ret
      have hlS : (S.set n1 cy).length = n1 + 1 := by rw [List.length_set]; exact HSl.out
      refine ⟨w.heap.size, t, (S.set n1 cy).take t, rfl, Nat.le_refl _, (HO4.out.limbs.below hb5).take t ht1, by rw [List.length_take, Nat.min_eq_left ht1], by omega, (lS.set n1 (by omega) (by omega)).take t, ht3, ?_, hbel5⟩
      rw [ht2]
      have h1 := lv_take_step (S.set n1 cy) n1 (by omega)
      rw [show n1 + 1 = (S.set n1 cy).length from hlS.symm, List.take_length] at h1
      have e1 : (S.set n1 cy).take n1 = S.take n1 := List.take_set_of_le (Nat.le_refl _)
      have e2 : (S.set n1 cy).getD n1 0 = cy := by simp [HSl.out]
      have h2 := HI.out
      rw [HK.out, hl.out, List.take_length, ← hl.out] at h2
      have h3 : lv (mz.take n1) = lv mz := by
        have h4 := lv_take_step mz n1 (by rw [hmzl.out]; omega)
        have h5 : mz.take (n1 + 1) = mz := List.take_of_length_le (by rw [hmzl.out]; omega)
        have h6 : mz.getD n1 0 = 0 := by
          have := hm.out
          rw [Hmz.out]
          simp only [List.getD_eq_getElem?_getD, List.getElem?_append]
          split
          · omega
          · simp only [List.getElem?_replicate]; split <;> rfl
        rw [h5, h6] at h4
        omega
      rw [h3, hmzv.out] at h2
      rw [h1, e1, e2, Int.mul_comm]
      exact h2

set_option maxHeartbeats 2000000 in
set_option maxRecDepth 100000 in
theorem plus_lt (b1 o1 n1 c1 : Nat) (a2 : Option Addr) (n2 c2 : Nat) (l m : List Int) (w : World) (hb1 : b1 < w.heap.size) (hc1 : ∀ i, i < l.length → w.cell? ⟨b1, o1 + i, none⟩ = some (.int .u64 (l.getD i 0))) (hA2 : LimbsAt w a2 m)
    (hl : Hid (n1 = l.length)) (hm : Hid (n2 = m.length)) (ll : Limb l) (lm : Limb m) (hlt : n2 < n1) (hn : n1 ≤ 1073741824) :
    Calls Tryd.prog 36 #[.slice a2 n2 c2, .slice (some ⟨b1, o1, none⟩) n1 c1] w fun e w' => ∃ g k S, e = .returned (.slice (some ⟨g, 0, none⟩) k (n1 + 1)) ∧ w.heap.size ≤ g ∧ LimbsAt w' (some ⟨g, 0, none⟩) S ∧ k = S.length ∧ k ≤ n1 + 1 ∧ Limb S ∧ Tr S ∧ lv S = lv l + lv m ∧ Below w.heap.size w w' := by
  obtain ⟨i0, hi, hz0, hz1, hz2⟩ := info_parts Tryd.infoU
  have hA := @run_callFunc_extern Tryd.prog 54 _ add64Entry Tryd.func54 (by kernel_rfl) (by kernel_rfl) (by kernel_rfl) (by kernel_rfl)
  obtain ⟨mz, hmz⟩ : ∃ mz, mz = m ++ List.replicate (n1 + 1 - m.length) 0 := ⟨_, rfl⟩
  have lmz : Limb mz := by rw [hmz]; exact lm.app (Limb.zeros _)
  have hmzl : Hid (mz.length = n1 + 1) := by have := hm.out; unfold Hid; rw [hmz]; simp; omega
  have hmzv : Hid (lv mz = lv m) := by unfold Hid; rw [hmz, lv_append, lv_zeros]; omega
  have Hmz := hide hmz
  clear hmz
  go_enter Tryd.func36, Tryd.ntmps36
  go_wp2_with (at_make; refine wpList_make_full _ rfl _ _ 34 rfl w.heap.size 68 i0 (.int .u64 0) 1 Tryd.underlying34 hi hz0 hz1 _ _ _ _ (n1 + 1) rfl rfl (by omega) (by omega) ?b2 ?b3 (Nat.le_refl _) ?_)
  case b2 => rw [hz2]; omega
  case b3 => unfold maxLen; omega
  intro w0 hown0 hgrow0
  have hg0 : w0.heap[w.heap.size]? = some (.cells ((List.replicate (n1 + 1) (0 : Int)).map (Value.int .u64)).toArray 68 (0, 0)) := by
    rcases hown0.2 with ⟨h, _⟩ | ⟨g, cap, cur, h, _, hh, _, _, hsz, htk⟩
    · cases h
    · simp only [Value.slice.injEq, Option.some.injEq, Addr.mk.injEq, and_true, true_and] at h
      obtain ⟨rfl, rfl⟩ := h
      rw [hh]
      have e : cur = madeCells #[Value.int .u64 0] (n1 + 1) := by
        apply Array.toList_inj.1
        have h1 : cur.toList.take ((n1 + 1) * 1) = (madeCells #[Value.int .u64 0] (n1 + 1)).toList := by first | exact htk | (rw [Nat.mul_one] at htk ⊢; exact htk)
        rw [Nat.mul_one, List.take_of_length_le (by simp; omega)] at h1
        exact h1
      rw [e, made_zeros]
  have hbel0 : Below w.heap.size w w0 := (Below.refl _ _).grown hgrow0 (Nat.le_refl _) (fun _ h => by cases h)
  have Hg0 := hide hg0
  clear hg0 hown0 hgrow0
  go_wp2_with (refine wpList_copy_splice rfl _ _ 34 34 rfl 68 Tryd.underlying34 Tryd.sizeU _ _ _ _ _ _ rfl rfl w.heap.size 0 _ 68 Hg0.out (m.map (Value.int .u64)) ?p1 ?p2 ?p3 (ints_oneCell _ _) w.heap.size w hbel0 (Nat.le_refl _) ?_)
  case p1 => rw [List.length_map, ← hm.out]; exact (Nat.min_eq_left (by omega)).symm
  case p2 => exact limbs_src (hA2.below hbel0)
  case p3 => have := hm.out; simp; omega
  intro w3 hw3 hbel3
  have hown3 : Hid (OwnU w3 w.heap.size mz) := by
    have h := hw3.out
    rw [splice_head _ _ (by have := hm.out; omega)] at h
    unfold Hid; rw [Hmz.out]; exact h
  clear hw3 hbel0 Hg0
  go_wp2_with fail
  go_loopw [6, 25] (fun cv i wr => ∃ (k : Nat) (cy : Int) (S : List Int), k ≤ n1 ∧ i = .int .i64 k ∧ cv = .int .u64 cy ∧ 0 ≤ cy ∧ cy ≤ 1 ∧ S.length = n1 + 1 ∧ Limb S ∧ S.drop k = mz.drop k ∧ lv (S.take k) + cy * pw k = lv (l.take k) + lv (mz.take k) ∧ OwnU wr w.heap.size S ∧ Below w.heap.size w wr) (fun _ i _ => n1 - (intOf i).toNat)
  case atStart => exact ⟨0, 0, mz, Nat.zero_le _, rfl, rfl, by omega, by omega, hmzl.out, lmz, rfl, by simp [lv], hown3.out, hbel3⟩
  case round =>
    obtain ⟨k, cy, S, hk, rfl, rfl, hy0, hy1, hSl, lS, hSd, hinv, hown, hbel⟩ := hrel
    have HSl := hide hSl
    have HSd := hide hSd
    have HI := hide hinv
    have HO := hide hown
    clear hSl hSd hinv hown
    by_cases hlt' : k < n1
    · have hkl : k < l.length := by rw [← hl.out]; exact hlt'
      have hkS : k < S.length := by rw [HSl.out]; omega
      have hkz : k < mz.length := by rw [hmzl.out]; omega
      have hsm : S.getD k 0 = mz.getD k 0 := by
        have h := congrArg (fun t => t.getD 0 0) HSd.out
        simpa [hkS, hkz] using h
      obtain ⟨x, hxe⟩ : ∃ x, x = l.getD k 0 := ⟨_, rfl⟩
      obtain ⟨y, hye⟩ : ∃ y, y = S.getD k 0 := ⟨_, rfl⟩
      have hcx : wr.cell? ⟨b1, o1 + k, none⟩ = some (.int .u64 x) := by rw [hxe, hbel.cell (p := ⟨b1, o1 + k, none⟩) hb1]; exact hc1 k hkl
      have hcy : wr.cell? ⟨w.heap.size, k, none⟩ = some (.int .u64 y) := by rw [hye]; exact HO.out.cell k hkS
      have hfy : wr.frozen? ⟨w.heap.size, k, none⟩ = false := HO.out.frozen k
      obtain ⟨s, cy', hrun, hsum, hs0, hs1, hc0, hc1'⟩ := add64_run x y cy (by rw [hxe]; exact ll.get hkl) (by rw [hye]; exact lS.get hkS) ⟨hy0, hy1⟩
      have HS := hide hsum
      have Hx := hide hxe
      have Hy := hide hye
      have Hsm := hide hsm
      have HB : Hid (s < 18446744073709551616) := hs1
      have hbel4 := hbel.setCell (p := ⟨w.heap.size, k, none⟩) (Nat.le_refl _) (.int .u64 s)
      have HO4 := hide (HO.out.set k s)
      clear hsum hxe hye hsm hs1
      go_wp2_with fail
      skip
      go_roundw
      case rel =>
        refine ⟨k + 1, cy', S.set k s, by omega, by go_num, rfl, hc0, hc1', by rw [List.length_set]; exact HSl.out, lS.set k hs0 HB.out, ?_, ?_, HO4.out, hbel4⟩
        · rw [List.drop_set_of_lt (by omega), ← List.drop_drop, ← List.drop_drop, HSd.out]
        · rw [lv_take_step (S.set k s) k (by simpa using hkS), lv_take_step l k hkl, lv_take_step mz k hkz, pw_succ]
          have e1 : (S.set k s).take k = S.take k := List.take_set_of_le (Nat.le_refl _)
          have e2 : (S.set k s).getD k 0 = s := by simp [hkS]
          rw [e1, e2, ← Hsm.out, ← Hy.out, ← Hx.out]
          exact add_step HI.out HS.out
      case measure => simp [intOf]; omega
    · have hkn : k = n1 := by omega
      have hcell : wr.cell? ⟨w.heap.size, n1, none⟩ = some (.int .u64 (S.getD n1 0)) := HO.out.cell n1 (by rw [HSl.out]; omega)
      have hfr : wr.frozen? ⟨w.heap.size, n1, none⟩ = false := HO.out.frozen n1
      have hO4 := HO.out.set n1 cy
      have hbel4 := hbel.setCell (p := ⟨w.heap.size, n1, none⟩) (Nat.le_refl _) (.int .u64 cy)
      have HO4 := hide hO4
      have HK := hide hkn
      clear hO4 hkn
      go_wp2_with fail
      refine (trim_any _ (n1 + 1) (n1 + 1) (S.set n1 cy) _ (by unfold Hid; rw [List.length_set]; exact HSl.out.symm) HO4.out.limbs (by omega) (Nat.le_refl _)).mono ?_
      rintro e w5 ⟨t, rfl, ⟨ht1, ht2, ht3⟩, hb5⟩
      have hbel5 := hbel4.trans (hb5.mono hbel4.size)
      go_wp2_with fail
      go_ret
      have hlS : (S.set n1 cy).length = n1 + 1 := by rw [List.length_set]; exact HSl.out
      refine ⟨w.heap.size, t, (S.set n1 cy).take t, rfl, Nat.le_refl _, (HO4.out.limbs.below hb5).take t ht1, by rw [List.length_take, Nat.min_eq_left ht1], by omega, (lS.set n1 (by omega) (by omega)).take t, ht3, ?_, hbel5⟩
      rw [ht2]
      have h1 := lv_take_step (S.set n1 cy) n1 (by omega)
      rw [show n1 + 1 = (S.set n1 cy).length from hlS.symm, List.take_length] at h1
      have e1 : (S.set n1 cy).take n1 = S.take n1 := List.take_set_of_le (Nat.le_refl _)
      have e2 : (S.set n1 cy).getD n1 0 = cy := by simp [HSl.out]
      have h2 := HI.out
      rw [HK.out, hl.out, List.take_length, ← hl.out] at h2
      have h3 : lv (mz.take n1) = lv mz := by
        have h4 := lv_take_step mz n1 (by rw [hmzl.out]; omega)
        have h5 : mz.take (n1 + 1) = mz := List.take_of_length_le (by rw [hmzl.out]; omega)
        have h6 : mz.getD n1 0 = 0 := by
          have := hm.out
          rw [Hmz.out]
          simp only [List.getD_eq_getElem?_getD, List.getElem?_append]
          split
          · omega
          · simp only [List.getElem?_replicate]; split <;> rfl
        rw [h5, h6] at h4
        omega
      rw [h3, hmzv.out] at h2
      rw [h1, e1, e2, Int.mul_comm]
      exact h2

set_option maxHeartbeats 2000000 in
set_option maxRecDepth 100000 in
theorem minus_ge (b1 o1 n1 c1 : Nat) (a2 : Option Addr) (n2 c2 : Nat) (l m : List Int) (w : World) (hb1 : b1 < w.heap.size) (hc1 : ∀ i, i < l.length → w.cell? ⟨b1, o1 + i, none⟩ = some (.int .u64 (l.getD i 0))) (hA2 : LimbsAt w a2 m)
    (hl : Hid (n1 = l.length)) (hm : Hid (n2 = m.length)) (ll : Limb l) (lm : Limb m) (hle : n2 ≤ n1) (hge : lv m ≤ lv l) (hn : n1 ≤ 1073741824) :
    Calls Tryd.prog 38 #[.slice (some ⟨b1, o1, none⟩) n1 c1, .slice a2 n2 c2] w fun e w' => ∃ g k S, e = .returned (.slice (some ⟨g, 0, none⟩) k (n1)) ∧ w.heap.size ≤ g ∧ LimbsAt w' (some ⟨g, 0, none⟩) S ∧ k = S.length ∧ k ≤ n1 ∧ Limb S ∧ Tr S ∧ lv S = lv l - lv m ∧ Below w.heap.size w w' := by
  obtain ⟨i0, hi, hz0, hz1, hz2⟩ := info_parts Tryd.infoU
  have hA := @run_callFunc_extern Tryd.prog 56 _ sub64Entry Tryd.func56 (by kernel_rfl) (by kernel_rfl) (by kernel_rfl) (by kernel_rfl)
  obtain ⟨mz, hmz⟩ : ∃ mz, mz = m ++ List.replicate (n1 - m.length) 0 := ⟨_, rfl⟩
  have lmz : Limb mz := by rw [hmz]; exact lm.app (Limb.zeros _)
  have hmzl : Hid (mz.length = n1) := by have := hm.out; unfold Hid; rw [hmz]; simp; omega
  have hmzv : Hid (lv mz = lv m) := by unfold Hid; rw [hmz, lv_append, lv_zeros]; omega
  have Hmz := hide hmz
  clear hmz
  go_enter Tryd.func38, Tryd.ntmps38
  go_wp2_with (at_make; refine wpList_make_full _ rfl _ _ 34 rfl w.heap.size 68 i0 (.int .u64 0) 1 Tryd.underlying34 hi hz0 hz1 _ _ _ _ n1 rfl rfl (by omega) (by omega) ?b2 ?b3 (Nat.le_refl _) ?_)
  case b2 => rw [hz2]; omega
  case b3 => unfold maxLen; omega
  intro w0 hown0 hgrow0
  have hg0 : w0.heap[w.heap.size]? = some (.cells ((List.replicate n1 (0 : Int)).map (Value.int .u64)).toArray 68 (0, 0)) := by
    rcases hown0.2 with ⟨h, _⟩ | ⟨g, cap, cur, h, _, hh, _, _, hsz, htk⟩
    · cases h
    · simp only [Value.slice.injEq, Option.some.injEq, Addr.mk.injEq, and_true, true_and] at h
      obtain ⟨rfl, rfl⟩ := h
      rw [hh]
      have e : cur = madeCells #[Value.int .u64 0] n1 := by
        apply Array.toList_inj.1
        have h1 : cur.toList.take (n1 * 1) = (madeCells #[Value.int .u64 0] n1).toList := by first | exact htk | (rw [Nat.mul_one] at htk ⊢; exact htk)
        rw [Nat.mul_one, List.take_of_length_le (by simp; omega)] at h1
        exact h1
      rw [e, made_zeros]
  have hbel0 : Below w.heap.size w w0 := (Below.refl _ _).grown hgrow0 (Nat.le_refl _) (fun _ h => by cases h)
  have Hg0 := hide hg0
  clear hg0 hown0 hgrow0
  go_wp2_with (refine wpList_copy_splice rfl _ _ 34 34 rfl 68 Tryd.underlying34 Tryd.sizeU _ _ _ _ _ _ rfl rfl w.heap.size 0 _ 68 Hg0.out (m.map (Value.int .u64)) ?p1 ?p2 ?p3 (ints_oneCell _ _) w.heap.size w hbel0 (Nat.le_refl _) ?_)
  case p1 => rw [List.length_map, ← hm.out]; exact (Nat.min_eq_left (by omega)).symm
  case p2 => exact limbs_src (hA2.below hbel0)
  case p3 => have := hm.out; simp; omega
  intro w3 hw3 hbel3
  have hown3 : Hid (OwnU w3 w.heap.size mz) := by
    have h := hw3.out
    rw [splice_head _ _ (by have := hm.out; omega)] at h
    unfold Hid; rw [Hmz.out]; exact h
  clear hw3 hbel0 Hg0
  go_wp2_with fail
  go_loopw [6, 17] (fun cv i wr => ∃ (k : Nat) (cy : Int) (S : List Int), k ≤ n1 ∧ i = .int .i64 k ∧ cv = .int .u64 cy ∧ 0 ≤ cy ∧ cy ≤ 1 ∧ S.length = n1 ∧ Limb S ∧ S.drop k = mz.drop k ∧ lv (S.take k) - cy * pw k = lv (l.take k) - lv (mz.take k) ∧ OwnU wr w.heap.size S ∧ Below w.heap.size w wr) (fun _ i _ => n1 - (intOf i).toNat)
  case atStart => exact ⟨0, 0, mz, Nat.zero_le _, rfl, rfl, by omega, by omega, hmzl.out, lmz, rfl, by simp [lv], hown3.out, hbel3⟩
  case round =>
    obtain ⟨k, cy, S, hk, rfl, rfl, hy0, hy1, hSl, lS, hSd, hinv, hown, hbel⟩ := hrel
    have HSl := hide hSl
    have HSd := hide hSd
    have HI := hide hinv
    have HO := hide hown
    clear hSl hSd hinv hown
    by_cases hlt' : k < n1
    · have hkl : k < l.length := by rw [← hl.out]; exact hlt'
      have hkS : k < S.length := by rw [HSl.out]; omega
      have hkz : k < mz.length := by rw [hmzl.out]; omega
      have hsm : S.getD k 0 = mz.getD k 0 := by
        have h := congrArg (fun t => t.getD 0 0) HSd.out
        simpa [hkS, hkz] using h
      obtain ⟨x, hxe⟩ : ∃ x, x = l.getD k 0 := ⟨_, rfl⟩
      obtain ⟨y, hye⟩ : ∃ y, y = S.getD k 0 := ⟨_, rfl⟩
      have hcx : wr.cell? ⟨b1, o1 + k, none⟩ = some (.int .u64 x) := by rw [hxe, hbel.cell (p := ⟨b1, o1 + k, none⟩) hb1]; exact hc1 k hkl
      have hcy : wr.cell? ⟨w.heap.size, k, none⟩ = some (.int .u64 y) := by rw [hye]; exact HO.out.cell k hkS
      have hfy : wr.frozen? ⟨w.heap.size, k, none⟩ = false := HO.out.frozen k
      obtain ⟨s, cy', hrun, hsum, hs0, hs1, hc0, hc1'⟩ := sub64_run x y cy (by rw [hxe]; exact ll.get hkl) (by rw [hye]; exact lS.get hkS) ⟨hy0, hy1⟩
      have HS := hide hsum
      have Hx := hide hxe
      have Hy := hide hye
      have Hsm := hide hsm
      have HB : Hid (s < 18446744073709551616) := hs1
      have hbel4 := hbel.setCell (p := ⟨w.heap.size, k, none⟩) (Nat.le_refl _) (.int .u64 s)
      have HO4 := hide (HO.out.set k s)
      clear hsum hxe hye hsm hs1
      go_wp2_with fail
      skip
      go_roundw
      case rel =>
        refine ⟨k + 1, cy', S.set k s, by omega, by go_num, rfl, hc0, hc1', by rw [List.length_set]; exact HSl.out, lS.set k hs0 HB.out, ?_, ?_, HO4.out, hbel4⟩
        · rw [List.drop_set_of_lt (by omega), ← List.drop_drop, ← List.drop_drop, HSd.out]
        · rw [lv_take_step (S.set k s) k (by simpa using hkS), lv_take_step l k hkl, lv_take_step mz k hkz, pw_succ]
          have e1 : (S.set k s).take k = S.take k := List.take_set_of_le (Nat.le_refl _)
          have e2 : (S.set k s).getD k 0 = s := by simp [hkS]
          rw [e1, e2, ← Hsm.out, ← Hy.out, ← Hx.out]
          exact sub_step HI.out HS.out
      case measure => simp [intOf]; omega
    · have hkn : k = n1 := by omega
      have HK := hide hkn
      clear hkn
      go_wp2_with fail
      refine (trim_any _ n1 n1 S _ (by unfold Hid; exact HSl.out.symm) HO.out.limbs (by omega) (Nat.le_refl _)).mono ?_
      rintro e w5 ⟨t, rfl, ⟨ht1, ht2, ht3⟩, hb5⟩
      have hbel5 := hbel.trans (hb5.mono hbel.size)
      go_wp2_with fail
      go_ret
      have hlS : S.length = n1 := HSl.out
      refine ⟨w.heap.size, t, S.take t, rfl, Nat.le_refl _, (HO.out.limbs.below hb5).take t ht1, by rw [List.length_take, Nat.min_eq_left ht1], by omega, lS.take t, ht3, ?_, hbel5⟩
      rw [ht2]
      have h2 := HI.out
      rw [HK.out] at h2
      rw [show S.take n1 = S from List.take_of_length_le (by omega), show l.take n1 = l from List.take_of_length_le (by rw [hl.out]; omega), show mz.take n1 = mz from List.take_of_length_le (by rw [hmzl.out]; omega), hmzv.out] at h2
      have h3 := lv_lt lS
      rw [hlS] at h3
      have h4 := pw_pos n1
      have h5 : cy = 0 ∨ cy = 1 := by omega
      rcases h5 with h5 | h5 <;> rw [h5] at h2 <;> omega

end Go.Proofs.YtmeaemjdmjhmdaaDoor
