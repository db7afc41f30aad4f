/- The program's ends: from the least to the greatest of what the ends make. -/
import Derived.Test.YtegibkjopkakhaaDoorPf
import Derived.Test.YtegibkjopkakhaaDoorPe
namespace Go.Proofs.YtegibkjopkakhaaDoor
open Go.RowKit

def mins (n0 n1 n2 n3 : Int) : Nat → Int
  | 0 => 9223372036854775807
  | 1 => min 9223372036854775807 n0
  | 2 => min (min 9223372036854775807 n0) n1
  | 3 => min (min (min 9223372036854775807 n0) n1) n2
  | _ => min (min (min (min 9223372036854775807 n0) n1) n2) n3
def maxs (n0 n1 n2 n3 : Int) : Nat → Int
  | 0 => -9223372036854775807
  | 1 => max (-9223372036854775807) n0
  | 2 => max (max (-9223372036854775807) n0) n1
  | 3 => max (max (max (-9223372036854775807) n0) n1) n2
  | _ => max (max (max (max (-9223372036854775807) n0) n1) n2) n3

set_option maxRecDepth 20000 in
set_option maxHeartbeats 4000000 in
theorem corners_any (f : Nat) (p q p' q' n0 n1 n2 n3 : Int) (w : World) (hF : Hid (Enters f)) (h0 : Hid (∀ W : World, Calls Tryd.prog f #[.int .i64 p, .int .i64 p'] W fun e w' => e = .returned (.int .i64 n0) ∧ w' = W)) (h1 : Hid (∀ W : World, Calls Tryd.prog f #[.int .i64 p, .int .i64 q'] W fun e w' => e = .returned (.int .i64 n1) ∧ w' = W)) (h2 : Hid (∀ W : World, Calls Tryd.prog f #[.int .i64 q, .int .i64 p'] W fun e w' => e = .returned (.int .i64 n2) ∧ w' = W)) (h3 : Hid (∀ W : World, Calls Tryd.prog f #[.int .i64 q, .int .i64 q'] W fun e w' => e = .returned (.int .i64 n3) ∧ w' = W)) :
    Calls Tryd.prog 42 #[(Value.agg #[Value.int .i64 (p), Value.int .i64 (q)]), (Value.agg #[Value.int .i64 (p'), Value.int .i64 (q')]), .func (.func f) #[] #[]] w fun e w' => e = .returned (Value.agg #[Value.int .i64 (mins n0 n1 n2 n3 4), Value.int .i64 (maxs n0 n1 n2 n3 4)]) ∧ Below w.heap.size w w' := by
  have hE' : ∀ (args : Array Value) (W : World), (callFunc f args).run Tryd.prog W = .ok (.enter f args) W := hF.out
  have i0 : ∀ W : World, (Instr.index 55 (.agg #[.int .i64 p, .int .i64 q]) (.int .i64 0)).run Tryd.prog W = .ok (.int .i64 p) W := fun _ => by kernel_rfl
  have i1 : ∀ W : World, (Instr.index 55 (.agg #[.int .i64 p, .int .i64 q]) (.int .i64 1)).run Tryd.prog W = .ok (.int .i64 q) W := fun _ => by kernel_rfl
  have i2 : ∀ W : World, (Instr.index 55 (.agg #[.int .i64 p', .int .i64 q']) (.int .i64 0)).run Tryd.prog W = .ok (.int .i64 p') W := fun _ => by kernel_rfl
  have i3 : ∀ W : World, (Instr.index 55 (.agg #[.int .i64 p', .int .i64 q']) (.int .i64 1)).run Tryd.prog W = .ok (.int .i64 q') W := fun _ => by kernel_rfl
  go_enter Tryd.func42, Tryd.ntmps42
  go_wp2_with fail
  refine (nothing_any _).mono ?_
  rintro e w1 ⟨rfl, hb1⟩
  have s1 := ((((St.start0 w).box2 55 (.int .i64 p) (.int .i64 q)).box2 55 (.int .i64 p') (.int .i64 q')).box2 55 (.int .i64 0) (.int .i64 0)).call hb1
  simp only [allocSize] at s1
  have q1 := s1.hold
  simp only [Holds, and_true] at q1
  have hlt : w.heap.size + 1 + 1 < w1.heap.size := q1.1.2.1
  clear hb1
  obtain ⟨b, hb⟩ : ∃ b, b = w1.heap.size := ⟨_, rfl⟩
  have s2 : St w (w1.alloc (.cells #[.int .i64 9223372036854775807, .int .i64 (-9223372036854775807)] 55)) (fun _ => True) [(b, 0, Value.int .i64 (mins n0 n1 n2 n3 (0))), (b, 1, .int .i64 (maxs n0 n1 n2 n3 (0))), (w.heap.size + 1 + 1, 0, .int .i64 0), (w.heap.size + 1 + 1, 1, .int .i64 0), (w.heap.size + 1, 0, .int .i64 p'), (w.heap.size + 1, 1, .int .i64 q')] := by
    have := (s1.box2 55 (.int .i64 9223372036854775807) (.int .i64 (-9223372036854775807))).take 6
    rw [hb]; exact this
  clear s1
  go_wp2_with fail
  rw [← hb]
  have HB := hide hb
  have hltb : w.heap.size + 1 + 1 < b := by omega
  clear hb q1 hlt
  go_loopw [15] (fun i wr => ∃ k : Int, (k = 0 ∨ k = 1 ∨ k = 2) ∧ i = .int .i64 k ∧ St w wr (fun _ => True) [(b, 0, Value.int .i64 (mins n0 n1 n2 n3 (2 * k.toNat))), (b, 1, .int .i64 (maxs n0 n1 n2 n3 (2 * k.toNat))), (w.heap.size + 1 + 1, 0, .int .i64 0), (w.heap.size + 1 + 1, 1, .int .i64 0), (w.heap.size + 1, 0, .int .i64 p'), (w.heap.size + 1, 1, .int .i64 q')]) (fun i _ => (2 - intOf i).toNat)
  case atStart => exact ⟨0, by omega, rfl, s2⟩
  case round =>
    obtain ⟨k, hk, rfl, hs⟩ := hrel
    have qs := hs.hold
    simp only [Holds, and_true] at qs
    rcases hk with rfl | rfl | rfl
    · go_wp2_with fail
      go_loopw [19] (fun i wr => ∃ j : Int, (j = 0 ∨ j = 1 ∨ j = 2) ∧ i = .int .i64 j ∧ St w wr (fun _ => True) [(b, 0, Value.int .i64 (mins n0 n1 n2 n3 (0 + j.toNat))), (b, 1, .int .i64 (maxs n0 n1 n2 n3 (0 + j.toNat))), (w.heap.size + 1 + 1, 0, .int .i64 0), (w.heap.size + 1 + 1, 1, .int .i64 0), (w.heap.size + 1, 0, .int .i64 p'), (w.heap.size + 1, 1, .int .i64 q')]) (fun i _ => (2 - intOf i).toNat)
      case atStart => exact ⟨0, by omega, rfl, hs⟩
      case round =>
        obtain ⟨j, hj, rfl, ht⟩ := hrel
        have qt := ht.hold
        simp only [Holds, and_true] at qt
        clear hs qs
        rcases hj with rfl | rfl | rfl
        · go_wp2_with fail
          refine (h0.out _).mono ?_
          rintro e w2 ⟨rfl, rfl⟩
          go_wp2_with fail
          refine (ejoin_any _ _ _ _ _).mono ?_
          rintro e w3 ⟨rfl, hb3⟩
          have s3 := ht.call hb3
          have q3 := s3.hold
          simp only [Holds, and_true] at q3
          have s4 := (s3.put20 (by omega) ⟨by dsimp only; omega, by dsimp only; omega, by dsimp only; omega, by dsimp only; omega, trivial⟩ (.int .i64 (mins n0 n1 n2 n3 1))).put21 (by omega) ⟨by dsimp only; omega, by dsimp only; omega, by dsimp only; omega, by dsimp only; omega, trivial⟩ (.int .i64 (maxs n0 n1 n2 n3 1))
          clear qt ht hb3
          go_wp2_with fail
          go_roundw
          case rel => exact ⟨1, by omega, rfl, s4⟩
          case measure => simp [intOf]
        · go_wp2_with fail
          refine (h1.out _).mono ?_
          rintro e w2 ⟨rfl, rfl⟩
          go_wp2_with fail
          refine (ejoin_any _ _ _ _ _).mono ?_
          rintro e w3 ⟨rfl, hb3⟩
          have s3 := ht.call hb3
          have q3 := s3.hold
          simp only [Holds, and_true] at q3
          have s4 := (s3.put20 (by omega) ⟨by dsimp only; omega, by dsimp only; omega, by dsimp only; omega, by dsimp only; omega, trivial⟩ (.int .i64 (mins n0 n1 n2 n3 2))).put21 (by omega) ⟨by dsimp only; omega, by dsimp only; omega, by dsimp only; omega, by dsimp only; omega, trivial⟩ (.int .i64 (maxs n0 n1 n2 n3 2))
          clear qt ht hb3
          go_wp2_with fail
          go_roundw
          case rel => exact ⟨2, by omega, rfl, s4⟩
          case measure => simp [intOf]
        · go_wp2_with fail
          go_roundw
          case rel => exact ⟨1, by omega, rfl, ht⟩
          case measure => simp [intOf]
    · go_wp2_with fail
      go_loopw [19] (fun i wr => ∃ j : Int, (j = 0 ∨ j = 1 ∨ j = 2) ∧ i = .int .i64 j ∧ St w wr (fun _ => True) [(b, 0, Value.int .i64 (mins n0 n1 n2 n3 (2 + j.toNat))), (b, 1, .int .i64 (maxs n0 n1 n2 n3 (2 + j.toNat))), (w.heap.size + 1 + 1, 0, .int .i64 0), (w.heap.size + 1 + 1, 1, .int .i64 0), (w.heap.size + 1, 0, .int .i64 p'), (w.heap.size + 1, 1, .int .i64 q')]) (fun i _ => (2 - intOf i).toNat)
      case atStart => exact ⟨0, by omega, rfl, hs⟩
      case round =>
        obtain ⟨j, hj, rfl, ht⟩ := hrel
        have qt := ht.hold
        simp only [Holds, and_true] at qt
        clear hs qs
        rcases hj with rfl | rfl | rfl
        · go_wp2_with fail
          refine (h2.out _).mono ?_
          rintro e w2 ⟨rfl, rfl⟩
          go_wp2_with fail
          refine (ejoin_any _ _ _ _ _).mono ?_
          rintro e w3 ⟨rfl, hb3⟩
          have s3 := ht.call hb3
          have q3 := s3.hold
          simp only [Holds, and_true] at q3
          have s4 := (s3.put20 (by omega) ⟨by dsimp only; omega, by dsimp only; omega, by dsimp only; omega, by dsimp only; omega, trivial⟩ (.int .i64 (mins n0 n1 n2 n3 3))).put21 (by omega) ⟨by dsimp only; omega, by dsimp only; omega, by dsimp only; omega, by dsimp only; omega, trivial⟩ (.int .i64 (maxs n0 n1 n2 n3 3))
          clear qt ht hb3
          go_wp2_with fail
          go_roundw
          case rel => exact ⟨1, by omega, rfl, s4⟩
          case measure => simp [intOf]
        · go_wp2_with fail
          refine (h3.out _).mono ?_
          rintro e w2 ⟨rfl, rfl⟩
          go_wp2_with fail
          refine (ejoin_any _ _ _ _ _).mono ?_
          rintro e w3 ⟨rfl, hb3⟩
          have s3 := ht.call hb3
          have q3 := s3.hold
          simp only [Holds, and_true] at q3
          have s4 := (s3.put20 (by omega) ⟨by dsimp only; omega, by dsimp only; omega, by dsimp only; omega, by dsimp only; omega, trivial⟩ (.int .i64 (mins n0 n1 n2 n3 4))).put21 (by omega) ⟨by dsimp only; omega, by dsimp only; omega, by dsimp only; omega, by dsimp only; omega, trivial⟩ (.int .i64 (maxs n0 n1 n2 n3 4))
          clear qt ht hb3
          go_wp2_with fail
          go_roundw
          case rel => exact ⟨2, by omega, rfl, s4⟩
          case measure => simp [intOf]
        · go_wp2_with fail
          go_roundw
          case rel => exact ⟨2, by omega, rfl, ht⟩
          case measure => simp [intOf]
    · go_wp2_with fail
      refine bodyPost_ret (v := (Value.agg #[Value.int .i64 (mins n0 n1 n2 n3 4), Value.int .i64 (maxs n0 n1 n2 n3 4)])) ?_ rfl ⟨rfl, ?_⟩
      · simp [results, Tryd.results42, go_sem, qs]
      · (repeat' (first | exact s4.bel | exact s3.bel | exact s2.bel | exact s1.bel | exact hs.bel | refine Below.setCell ?_ (by dsimp only; omega) _ | refine Below.alloc ?_ (by first | (simp; done) | (simp; omega)) _ | refine Below.drew ?_ | exact Below.refl _ _))

end Go.Proofs.YtegibkjopkakhaaDoor
