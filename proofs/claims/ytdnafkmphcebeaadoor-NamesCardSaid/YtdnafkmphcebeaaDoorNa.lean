/- The walk of 'rayconelaw1.Names'. -/
import Derived.Test.YtdnafkmphcebeaaDoorEe
import Derived.Test.YtdnafkmphcebeaaDoorKi
namespace Go.Proofs.YtdnafkmphcebeaaDoor
open Go.RowKit Go.Extern.Stop Go.Stop Go.Extern

theorem IntsAt_lit (w : World) (t : TypeId) (l : List Int) : IntsAt (w.alloc (.cells (l.map (Value.int .i64)).toArray t)) (some ⟨w.heap.size, 0, none⟩) l := by
  refine .inr ⟨w.heap.size, 0, rfl, by simp, fun i hi => ?_⟩
  rw [World.cell?_alloc_at _ _ _ _ rfl]
  simp [hi]

def tailOf : Nat → ByteArray
  | 0 => ⟨#[116, 101, 120, 116]⟩
  | 1 => ⟨#[98, 111, 117, 110, 100]⟩
  | 2 => ⟨#[115, 104, 97, 112, 101]⟩
  | 3 => ⟨#[101, 109, 112, 116, 121]⟩
  | 4 => ⟨#[110, 97, 109, 101]⟩
  | 5 => ⟨#[110, 111, 110, 101]⟩
  | 6 => ⟨#[111, 114, 100, 101, 114]⟩
  | _ => ⟨#[112, 114, 111, 111, 102]⟩

def fullOf : Nat → ByteArray
  | 0 => ⟨#[114, 97, 121, 99, 111, 110, 101, 58, 32, 116, 101, 120, 116]⟩
  | 1 => ⟨#[114, 97, 121, 99, 111, 110, 101, 58, 32, 98, 111, 117, 110, 100]⟩
  | 2 => ⟨#[114, 97, 121, 99, 111, 110, 101, 58, 32, 115, 104, 97, 112, 101]⟩
  | 3 => ⟨#[114, 97, 121, 99, 111, 110, 101, 58, 32, 101, 109, 112, 116, 121]⟩
  | 4 => ⟨#[114, 97, 121, 99, 111, 110, 101, 58, 32, 110, 97, 109, 101]⟩
  | 5 => ⟨#[114, 97, 121, 99, 111, 110, 101, 58, 32, 110, 111, 110, 101]⟩
  | 6 => ⟨#[114, 97, 121, 99, 111, 110, 101, 58, 32, 111, 114, 100, 101, 114]⟩
  | _ => ⟨#[114, 97, 121, 99, 111, 110, 101, 58, 32, 112, 114, 111, 111, 102]⟩

/-- What the errors read as. -/
def Texts (w : World) (a : Nat → Addr) : Prop := ∀ k, k < 8 → ∃ b o, a k = ⟨b, o, none⟩ ∧ w.cell? ⟨b, o, none⟩ = some (.string (fullOf k))

theorem Texts.below {w w' : World} {a : Nat → Addr} (h : Texts w a) (hb : Below w.heap.size w w') : Texts w' a := by
  intro k hk
  obtain ⟨b, o, e, hc⟩ := h k hk
  exact ⟨b, o, e, (hb.cell (World.block_lt_of_cell? w _ hc)).trans hc⟩

theorem coded_yes (k : Nat) (hk : k < 8) (a : Nat → Addr) (x : Addr) (Hx : Hid (x = a k)) (w : World) (hS : Sents w a) :
    Calls Tryd.prog 8 #[.iface 48 (.pointer (some x)), .int .i64 ((k : Int) + 1)] w fun e w' => e = .returned (.bool true) ∧ Below w.heap.size w w' := by
  refine (coded_sent k hk ((k : Int) + 1) a x Hx w hS).mono ?_
  rintro e w' ⟨rfl, h⟩
  exact ⟨by simp, h⟩

theorem Tryd.methodError (v : Value) (w : World) : (Go.method 258 48 v "Error").run Tryd.prog w = .ok (102, v) w := by kernel_rfl

theorem tail_full (k : Nat) (hk : k < 8) : (⟨#[114, 97, 121, 99, 111, 110, 101, 58, 32]⟩ : ByteArray) ++ tailOf k = fullOf k ∧ (tailOf k).size ≤ 5 := by
  match k, hk with
  | 0, _ => decide
  | 1, _ => decide
  | 2, _ => decide
  | 3, _ => decide
  | 4, _ => decide
  | 5, _ => decide
  | 6, _ => decide
  | 7, _ => decide

def bounds : List Int := [2147483648, 4611686018427387904, 5, 24, 60, 4, 1099511627776, 1048576, 1099511627776, 16, 12, 8, 4000, 12, 120, 20000, 40, 6, 200, 16]

theorem bounds_arr : (bounds.map (Value.int .i64)).toArray = #[Value.int IntKind.i64 2147483648, Value.int IntKind.i64 4611686018427387904, Value.int IntKind.i64 5, Value.int IntKind.i64 24, Value.int IntKind.i64 60, Value.int IntKind.i64 4, Value.int IntKind.i64 1099511627776, Value.int IntKind.i64 1048576, Value.int IntKind.i64 1099511627776, Value.int IntKind.i64 16, Value.int IntKind.i64 12, Value.int IntKind.i64 8, Value.int IntKind.i64 4000, Value.int IntKind.i64 12, Value.int IntKind.i64 120, Value.int IntKind.i64 20000, Value.int IntKind.i64 40, Value.int IntKind.i64 6, Value.int IntKind.i64 200, Value.int IntKind.i64 16] := by simp only [bounds, List.map_cons, List.map_nil]

theorem names_world (w : World) : IntsAt ((w.alloc (.cells #[Value.int IntKind.i64 2147483648, Value.int IntKind.i64 4611686018427387904, Value.int IntKind.i64 5, Value.int IntKind.i64 24, Value.int IntKind.i64 60, Value.int IntKind.i64 4, Value.int IntKind.i64 1099511627776, Value.int IntKind.i64 1048576, Value.int IntKind.i64 1099511627776, Value.int IntKind.i64 16, Value.int IntKind.i64 12, Value.int IntKind.i64 8, Value.int IntKind.i64 4000, Value.int IntKind.i64 12, Value.int IntKind.i64 120, Value.int IntKind.i64 20000, Value.int IntKind.i64 40, Value.int IntKind.i64 6, Value.int IntKind.i64 200, Value.int IntKind.i64 16] 3)).alloc (.cells #[Value.int IntKind.i64 2147483648, Value.int IntKind.i64 4611686018427387904, Value.int IntKind.i64 5, Value.int IntKind.i64 24, Value.int IntKind.i64 60, Value.int IntKind.i64 4, Value.int IntKind.i64 1099511627776, Value.int IntKind.i64 1048576, Value.int IntKind.i64 1099511627776, Value.int IntKind.i64 16, Value.int IntKind.i64 12, Value.int IntKind.i64 8, Value.int IntKind.i64 4000, Value.int IntKind.i64 12, Value.int IntKind.i64 120, Value.int IntKind.i64 20000, Value.int IntKind.i64 40, Value.int IntKind.i64 6, Value.int IntKind.i64 200, Value.int IntKind.i64 16] 3)) (some ⟨w.heap.size, 0, none⟩) bounds ∧ IntsAt ((w.alloc (.cells #[Value.int IntKind.i64 2147483648, Value.int IntKind.i64 4611686018427387904, Value.int IntKind.i64 5, Value.int IntKind.i64 24, Value.int IntKind.i64 60, Value.int IntKind.i64 4, Value.int IntKind.i64 1099511627776, Value.int IntKind.i64 1048576, Value.int IntKind.i64 1099511627776, Value.int IntKind.i64 16, Value.int IntKind.i64 12, Value.int IntKind.i64 8, Value.int IntKind.i64 4000, Value.int IntKind.i64 12, Value.int IntKind.i64 120, Value.int IntKind.i64 20000, Value.int IntKind.i64 40, Value.int IntKind.i64 6, Value.int IntKind.i64 200, Value.int IntKind.i64 16] 3)).alloc (.cells #[Value.int IntKind.i64 2147483648, Value.int IntKind.i64 4611686018427387904, Value.int IntKind.i64 5, Value.int IntKind.i64 24, Value.int IntKind.i64 60, Value.int IntKind.i64 4, Value.int IntKind.i64 1099511627776, Value.int IntKind.i64 1048576, Value.int IntKind.i64 1099511627776, Value.int IntKind.i64 16, Value.int IntKind.i64 12, Value.int IntKind.i64 8, Value.int IntKind.i64 4000, Value.int IntKind.i64 12, Value.int IntKind.i64 120, Value.int IntKind.i64 20000, Value.int IntKind.i64 40, Value.int IntKind.i64 6, Value.int IntKind.i64 200, Value.int IntKind.i64 16] 3)) (some ⟨w.heap.size + 1, 0, none⟩) bounds ∧ Below w.heap.size w ((w.alloc (.cells #[Value.int IntKind.i64 2147483648, Value.int IntKind.i64 4611686018427387904, Value.int IntKind.i64 5, Value.int IntKind.i64 24, Value.int IntKind.i64 60, Value.int IntKind.i64 4, Value.int IntKind.i64 1099511627776, Value.int IntKind.i64 1048576, Value.int IntKind.i64 1099511627776, Value.int IntKind.i64 16, Value.int IntKind.i64 12, Value.int IntKind.i64 8, Value.int IntKind.i64 4000, Value.int IntKind.i64 12, Value.int IntKind.i64 120, Value.int IntKind.i64 20000, Value.int IntKind.i64 40, Value.int IntKind.i64 6, Value.int IntKind.i64 200, Value.int IntKind.i64 16] 3)).alloc (.cells #[Value.int IntKind.i64 2147483648, Value.int IntKind.i64 4611686018427387904, Value.int IntKind.i64 5, Value.int IntKind.i64 24, Value.int IntKind.i64 60, Value.int IntKind.i64 4, Value.int IntKind.i64 1099511627776, Value.int IntKind.i64 1048576, Value.int IntKind.i64 1099511627776, Value.int IntKind.i64 16, Value.int IntKind.i64 12, Value.int IntKind.i64 8, Value.int IntKind.i64 4000, Value.int IntKind.i64 12, Value.int IntKind.i64 120, Value.int IntKind.i64 20000, Value.int IntKind.i64 40, Value.int IntKind.i64 6, Value.int IntKind.i64 200, Value.int IntKind.i64 16] 3)) := by
  rw [← bounds_arr]
  refine ⟨(IntsAt_lit w 3 bounds).below ((Below.refl _ _).alloc (Nat.le_refl _) _), ?_, ((Below.refl _ _).alloc (Nat.le_refl _) _).alloc (by simp) _⟩
  have h := IntsAt_lit (w.alloc (.cells (bounds.map (Value.int .i64)).toArray 3)) 3 bounds
  rw [World.size_alloc] at h
  exact h

set_option maxHeartbeats 1000000 in
set_option maxRecDepth 100000 in
theorem names_true (a : Nat → Addr) (w : World) (hS : Sents w a) (hT : Texts w a) :
    Calls Tryd.prog 3 #[] w fun e w' => e = .returned (.bool true) ∧ Below w.heap.size w w' := by
  obtain ⟨W2, hW2⟩ : ∃ W2, W2 = (w.alloc (.cells #[Value.int IntKind.i64 2147483648, Value.int IntKind.i64 4611686018427387904, Value.int IntKind.i64 5, Value.int IntKind.i64 24, Value.int IntKind.i64 60, Value.int IntKind.i64 4, Value.int IntKind.i64 1099511627776, Value.int IntKind.i64 1048576, Value.int IntKind.i64 1099511627776, Value.int IntKind.i64 16, Value.int IntKind.i64 12, Value.int IntKind.i64 8, Value.int IntKind.i64 4000, Value.int IntKind.i64 12, Value.int IntKind.i64 120, Value.int IntKind.i64 20000, Value.int IntKind.i64 40, Value.int IntKind.i64 6, Value.int IntKind.i64 200, Value.int IntKind.i64 16] 3)).alloc (.cells #[Value.int IntKind.i64 2147483648, Value.int IntKind.i64 4611686018427387904, Value.int IntKind.i64 5, Value.int IntKind.i64 24, Value.int IntKind.i64 60, Value.int IntKind.i64 4, Value.int IntKind.i64 1099511627776, Value.int IntKind.i64 1048576, Value.int IntKind.i64 1099511627776, Value.int IntKind.i64 16, Value.int IntKind.i64 12, Value.int IntKind.i64 8, Value.int IntKind.i64 4000, Value.int IntKind.i64 12, Value.int IntKind.i64 120, Value.int IntKind.i64 20000, Value.int IntKind.i64 40, Value.int IntKind.i64 6, Value.int IntKind.i64 200, Value.int IntKind.i64 16] 3) := ⟨_, rfl⟩
  have hNW := names_world w
  rw [← hW2] at hNW
  obtain ⟨hI1, hI2, hb0⟩ := hNW
  have HW2 := hide hW2
  clear hW2
  go_enter Tryd.func3, Tryd.ntmps3
  go_wp2_with fail
  rw [← HW2.out]
  clear HW2
  refine (sameInts_any _ _ 20 20 20 20 bounds bounds W2 hI1 hI2 rfl rfl (by omega)).mono ?_
  rintro e w1 ⟨rfl, hb1⟩
  have hb2 : Below w.heap.size w w1 := hb0.trans (hb1.mono hb0.size)
  have hS1 := hS.below hb2
  have e0 : w1.cell? ⟨0, 0, none⟩ = some (.iface 48 (.pointer (some (a 0)))) := hS1.cell 0 (by omega)
  have e1 : w1.cell? ⟨1, 0, none⟩ = some (.iface 48 (.pointer (some (a 1)))) := hS1.cell 1 (by omega)
  have e2 : w1.cell? ⟨2, 0, none⟩ = some (.iface 48 (.pointer (some (a 2)))) := hS1.cell 2 (by omega)
  have e3 : w1.cell? ⟨3, 0, none⟩ = some (.iface 48 (.pointer (some (a 3)))) := hS1.cell 3 (by omega)
  have e4 : w1.cell? ⟨4, 0, none⟩ = some (.iface 48 (.pointer (some (a 4)))) := hS1.cell 4 (by omega)
  have e5 : w1.cell? ⟨5, 0, none⟩ = some (.iface 48 (.pointer (some (a 5)))) := hS1.cell 5 (by omega)
  have e6 : w1.cell? ⟨6, 0, none⟩ = some (.iface 48 (.pointer (some (a 6)))) := hS1.cell 6 (by omega)
  have e7 : w1.cell? ⟨7, 0, none⟩ = some (.iface 48 (.pointer (some (a 7)))) := hS1.cell 7 (by omega)
  have hcE : ∀ j, j < 8 → ((w1.alloc (.cells #[.iface 48 (.pointer (some (a 0))), .iface 48 (.pointer (some (a 1))), .iface 48 (.pointer (some (a 2))), .iface 48 (.pointer (some (a 3))), .iface 48 (.pointer (some (a 4))), .iface 48 (.pointer (some (a 5))), .iface 48 (.pointer (some (a 6))), .iface 48 (.pointer (some (a 7)))] 25)).alloc (.cells #[Value.string ⟨#[116, 101, 120, 116]⟩, Value.string ⟨#[98, 111, 117, 110, 100]⟩, Value.string ⟨#[115, 104, 97, 112, 101]⟩, Value.string ⟨#[101, 109, 112, 116, 121]⟩, Value.string ⟨#[110, 97, 109, 101]⟩, Value.string ⟨#[110, 111, 110, 101]⟩, Value.string ⟨#[111, 114, 100, 101, 114]⟩, Value.string ⟨#[112, 114, 111, 111, 102]⟩] 9)).cell? ⟨w1.heap.size, j, none⟩ = some (.iface 48 (.pointer (some (a j)))) := by
    intro j hj
    rw [World.cell?_alloc_past _ _ _ (by simp), World.cell?_alloc_at _ _ _ _ rfl]
    match j, hj with
    | 0, _ => rfl
    | 1, _ => rfl
    | 2, _ => rfl
    | 3, _ => rfl
    | 4, _ => rfl
    | 5, _ => rfl
    | 6, _ => rfl
    | 7, _ => rfl
  have hcT : ∀ j, j < 8 → ((w1.alloc (.cells #[.iface 48 (.pointer (some (a 0))), .iface 48 (.pointer (some (a 1))), .iface 48 (.pointer (some (a 2))), .iface 48 (.pointer (some (a 3))), .iface 48 (.pointer (some (a 4))), .iface 48 (.pointer (some (a 5))), .iface 48 (.pointer (some (a 6))), .iface 48 (.pointer (some (a 7)))] 25)).alloc (.cells #[Value.string ⟨#[116, 101, 120, 116]⟩, Value.string ⟨#[98, 111, 117, 110, 100]⟩, Value.string ⟨#[115, 104, 97, 112, 101]⟩, Value.string ⟨#[101, 109, 112, 116, 121]⟩, Value.string ⟨#[110, 97, 109, 101]⟩, Value.string ⟨#[110, 111, 110, 101]⟩, Value.string ⟨#[111, 114, 100, 101, 114]⟩, Value.string ⟨#[112, 114, 111, 111, 102]⟩] 9)).cell? ⟨w1.heap.size + 1, j, none⟩ = some (.string (tailOf j)) := by
    intro j hj
    rw [World.cell?_alloc_at _ _ _ _ (by simp)]
    match j, hj with
    | 0, _ => rfl
    | 1, _ => rfl
    | 2, _ => rfl
    | 3, _ => rfl
    | 4, _ => rfl
    | 5, _ => rfl
    | 6, _ => rfl
    | 7, _ => rfl
  have hb3 : Below w.heap.size w ((w1.alloc (.cells #[.iface 48 (.pointer (some (a 0))), .iface 48 (.pointer (some (a 1))), .iface 48 (.pointer (some (a 2))), .iface 48 (.pointer (some (a 3))), .iface 48 (.pointer (some (a 4))), .iface 48 (.pointer (some (a 5))), .iface 48 (.pointer (some (a 6))), .iface 48 (.pointer (some (a 7)))] 25)).alloc (.cells #[Value.string ⟨#[116, 101, 120, 116]⟩, Value.string ⟨#[98, 111, 117, 110, 100]⟩, Value.string ⟨#[115, 104, 97, 112, 101]⟩, Value.string ⟨#[101, 109, 112, 116, 121]⟩, Value.string ⟨#[110, 97, 109, 101]⟩, Value.string ⟨#[110, 111, 110, 101]⟩, Value.string ⟨#[111, 114, 100, 101, 114]⟩, Value.string ⟨#[112, 114, 111, 111, 102]⟩] 9)) := (hb2.alloc hb2.size _).alloc (by have := hb2.size; simp; omega) _
  have hz3 : w1.heap.size + 1 < ((w1.alloc (.cells #[.iface 48 (.pointer (some (a 0))), .iface 48 (.pointer (some (a 1))), .iface 48 (.pointer (some (a 2))), .iface 48 (.pointer (some (a 3))), .iface 48 (.pointer (some (a 4))), .iface 48 (.pointer (some (a 5))), .iface 48 (.pointer (some (a 6))), .iface 48 (.pointer (some (a 7)))] 25)).alloc (.cells #[Value.string ⟨#[116, 101, 120, 116]⟩, Value.string ⟨#[98, 111, 117, 110, 100]⟩, Value.string ⟨#[115, 104, 97, 112, 101]⟩, Value.string ⟨#[101, 109, 112, 116, 121]⟩, Value.string ⟨#[110, 97, 109, 101]⟩, Value.string ⟨#[110, 111, 110, 101]⟩, Value.string ⟨#[111, 114, 100, 101, 114]⟩, Value.string ⟨#[112, 114, 111, 111, 102]⟩] 9)).heap.size := by simp
  have hS3 : Sents ((w1.alloc (.cells #[.iface 48 (.pointer (some (a 0))), .iface 48 (.pointer (some (a 1))), .iface 48 (.pointer (some (a 2))), .iface 48 (.pointer (some (a 3))), .iface 48 (.pointer (some (a 4))), .iface 48 (.pointer (some (a 5))), .iface 48 (.pointer (some (a 6))), .iface 48 (.pointer (some (a 7)))] 25)).alloc (.cells #[Value.string ⟨#[116, 101, 120, 116]⟩, Value.string ⟨#[98, 111, 117, 110, 100]⟩, Value.string ⟨#[115, 104, 97, 112, 101]⟩, Value.string ⟨#[101, 109, 112, 116, 121]⟩, Value.string ⟨#[110, 97, 109, 101]⟩, Value.string ⟨#[110, 111, 110, 101]⟩, Value.string ⟨#[111, 114, 100, 101, 114]⟩, Value.string ⟨#[112, 114, 111, 111, 102]⟩] 9)) a := hS.below hb3
  have hT3 : Texts ((w1.alloc (.cells #[.iface 48 (.pointer (some (a 0))), .iface 48 (.pointer (some (a 1))), .iface 48 (.pointer (some (a 2))), .iface 48 (.pointer (some (a 3))), .iface 48 (.pointer (some (a 4))), .iface 48 (.pointer (some (a 5))), .iface 48 (.pointer (some (a 6))), .iface 48 (.pointer (some (a 7)))] 25)).alloc (.cells #[Value.string ⟨#[116, 101, 120, 116]⟩, Value.string ⟨#[98, 111, 117, 110, 100]⟩, Value.string ⟨#[115, 104, 97, 112, 101]⟩, Value.string ⟨#[101, 109, 112, 116, 121]⟩, Value.string ⟨#[110, 97, 109, 101]⟩, Value.string ⟨#[110, 111, 110, 101]⟩, Value.string ⟨#[111, 114, 100, 101, 114]⟩, Value.string ⟨#[112, 114, 111, 111, 102]⟩] 9)) a := hT.below hb3
  obtain ⟨W, hW⟩ : ∃ W, W = (w1.alloc (.cells #[.iface 48 (.pointer (some (a 0))), .iface 48 (.pointer (some (a 1))), .iface 48 (.pointer (some (a 2))), .iface 48 (.pointer (some (a 3))), .iface 48 (.pointer (some (a 4))), .iface 48 (.pointer (some (a 5))), .iface 48 (.pointer (some (a 6))), .iface 48 (.pointer (some (a 7)))] 25)).alloc (.cells #[Value.string ⟨#[116, 101, 120, 116]⟩, Value.string ⟨#[98, 111, 117, 110, 100]⟩, Value.string ⟨#[115, 104, 97, 112, 101]⟩, Value.string ⟨#[101, 109, 112, 116, 121]⟩, Value.string ⟨#[110, 97, 109, 101]⟩, Value.string ⟨#[110, 111, 110, 101]⟩, Value.string ⟨#[111, 114, 100, 101, 114]⟩, Value.string ⟨#[112, 114, 111, 111, 102]⟩] 9) := ⟨_, rfl⟩
  rw [← hW] at hcE hcT hb3 hS3 hT3 hz3
  have HW := hide hW
  clear hW
  go_wp2_with fail
  rw [← HW.out]
  clear HW e0 e1 e2 e3 e4 e5 e6 e7 hS1
  go_loopw [5] (fun i wr => ∃ j : Nat, j ≤ 8 ∧ i = .int .i64 j ∧ Below W.heap.size W wr) (fun i _ => 8 - (intOf i).toNat)
  case atStart => exact ⟨0, Nat.zero_le _, rfl, Below.refl _ _⟩
  case round =>
    obtain ⟨j, hj, rfl, hbr⟩ := hrel
    have hbw : Below w.heap.size w wr := hb3.trans (hbr.mono hb3.size)
    have hSr := hS3.below hbr
    by_cases hj8 : j < 8
    · obtain ⟨pb, po, hae, hcs⟩ := (hT3.below hbr) j hj8
      have hsz := hbr.size
      have hcEj : wr.cell? ⟨w1.heap.size, j, none⟩ = some (.iface 48 (.pointer (some ⟨pb, po, none⟩))) := by rw [hbr.cell (p := ⟨w1.heap.size, j, none⟩) (by dsimp only; omega), hcE j hj8, hae]
      have hcTj : wr.cell? ⟨w1.heap.size + 1, j, none⟩ = some (.string (tailOf j)) := by rw [hbr.cell (p := ⟨w1.heap.size + 1, j, none⟩) (by dsimp only; omega), hcT j hj8]
      have Hae := hide hae
      have Hae' := hide hae.symm
      have HcE := hide hcE
      have HcT := hide hcT
      clear hae hcE hcT
      go_wp2_with fail
      refine (code_fault j hj8 a wr.heap.size _ (hSr.below ((Below.refl _ _).alloc (Nat.le_refl _) _)) (by simp) (by rw [Hae.out]; simp)).mono ?_
      rintro e w4 ⟨rfl, hb4⟩
      have hb5 : Below wr.heap.size wr w4 := ((Below.refl _ _).alloc (Nat.le_refl _) _).trans (hb4.mono (by simp))
      have q1 := (hb5.cell (p := ⟨w1.heap.size, j, none⟩) (by dsimp only; omega)).trans hcEj
      have q2 := (hb5.cell (p := ⟨w1.heap.size + 1, j, none⟩) (by dsimp only; omega)).trans hcTj
      have q3 := (hb5.cell (World.block_lt_of_cell? wr _ hcs)).trans hcs
      have hS4 := hSr.below hb5
      have hz4 : w1.heap.size + 1 < w4.heap.size := by have := hb5.size; omega
      have hbw4 : Below w.heap.size w w4 := hbw.trans (hb5.mono hbw.size)
      clear hcEj hcTj hcs
      obtain ⟨hfull, htl⟩ := tail_full j hj8
      obtain ⟨s, hs⟩ : ∃ s, s = fullOf j := ⟨_, rfl⟩
      obtain ⟨t, ht⟩ : ∃ t, t = tailOf j := ⟨_, rfl⟩
      rw [← hs, ← ht] at hfull
      rw [← hs] at q3
      rw [← ht] at q2 htl
      clear hs ht
      have hadd : ∀ W : World, (Op.stringOp .add (⟨#[114, 97, 121, 99, 111, 110, 101, 58, 32]⟩ : ByteArray) t).run Tryd.prog W = .ok (.string s) W := by
        intro W
        rw [← hfull]
        exact run_string_add_sum W _ _ (by have : (⟨#[114, 97, 121, 99, 111, 110, 101, 58, 32]⟩ : ByteArray).size = 9 := rfl; omega)
      clear hfull
      have hz5 : w1.heap.size < w4.heap.size := by omega
      have mE := Tryd.methodError
      have hwr : IntKind.i64.wrap ((j : Int) + 1) = (j : Int) + 1 := wrap_small _ (by omega) (by omega)
      go_wp2_with fail
      go_region_held3 (fun w' => (∀ b' o', b' < w4.heap.size → w'.cell? ⟨b', o', none⟩ = (w4).cell? ⟨b', o', none⟩) ∧ (∀ b' o', b' < w4.heap.size → w'.frozen? ⟨b', o', none⟩ = (w4).frozen? ⟨b', o', none⟩) ∧ w4.heap.size ≤ w4.heap.size ∧ w4.heap.size ≤ w'.heap.size ∧ Below w.heap.size w w') (first | (exact keepC (by assumption) (by assumption)) | (exact keepD (by assumption)) | (exact keepE (by dsimp only; omega) (by dsimp only; omega) (by assumption)) | (exact keepE (by dsimp only; omega) (by dsimp only; omega) (keepE (by dsimp only; omega) (by dsimp only; omega) (by assumption))) | (exact ⟨fun _ _ _ => rfl, fun _ _ _ => rfl, by omega, by simp, Below.drew (by assumption)⟩))
        (first
          | (go_at_call 102; refine (error_text pb po s _ ?_).mono ?_; (simp [*]); rintro e w5 ⟨rfl, rfl⟩)
          | (go_at_call 8; refine (coded_yes j hj8 a ⟨pb, po, none⟩ Hae' _ (hS4.below (Below.refl _ _).drew)).mono ?_; rintro e w5 ⟨rfl, hb6⟩))
      go_wp2_with fail
      go_roundw
      case rel => exact ⟨j + 1, by omega, by go_num, ((hbr.trans (hb5.mono hsz)).drew).trans (hb6.mono (Nat.le_trans hsz hb5.size))⟩
      case measure => simp [intOf]; omega
    · have hne : ∀ i, i < 8 → (⟨wr.heap.size, 0, none⟩ : Addr) ≠ a i := by
        intro i hi e
        obtain ⟨c, t, h⟩ := hSr.row i hi
        have := lt_of_block h
        rw [← e] at this
        exact Nat.lt_irrefl _ this
      have Hne := hide hne
      clear hne
      go_wp2_with fail
      refine (errors_new _ _).mono ?_
      rintro e w4 ⟨rfl, hw4⟩
      have hb4 : Below wr.heap.size wr w4 := by rw [hw4]; exact (Below.refl _ _).alloc (Nat.le_refl _) _
      have hr4 : ∃ c t, w4.heap[wr.heap.size]? = some (.cells c t (0, 0)) := by rw [hw4]; exact ⟨_, _, heap_alloc_new _ _⟩
      clear hw4
      have hS4 := hSr.below hb4
      have hbw4 : Below w.heap.size w w4 := hbw.trans (hb4.mono hbw.size)
      go_wp2_with fail
      refine (code_new ⟨wr.heap.size, 0, none⟩ a _ hS4 Hne.out hr4).mono ?_
      rintro e w5 ⟨rfl, hb5⟩
      have hbw5 : Below w.heap.size w w5 := hbw4.trans (hb5.mono hbw4.size)
      go_wp2_with fail
      refine (coded_nil 0 _).mono ?_
      rintro e w6 ⟨rfl, hb6⟩
      go_wp2_with fail
      go_ret
      exact ⟨by simp, hbw5.trans (hb6.mono hbw5.size)⟩

end Go.Proofs.YtdnafkmphcebeaaDoor
