/- What every text uses: what a walk keeps of the world, slices of ints. -/
import Derived.Test.YtmeaemjdmjhmdaaDoorProg
import Derived.WalkKit
import Derived.WalkSpells
import Derived.WalkLawsBesides
import Derived.Deep.RegionHeld3
import Derived.BigQuiet
import Derived.Deep.QuietTactic
namespace Go.Proofs.YtmeaemjdmjhmdaaDoor
open Go.RowKit

def sgn3 (x y : Int) : Int := if x < y then -1 else if y < x then 1 else 0

theorem bcell {W w1 : World} (hb : Below W.heap.size W w1) : (∀ b o, b < W.heap.size → w1.cell? ⟨b, o, none⟩ = W.cell? ⟨b, o, none⟩) ∧ (∀ b o, b < W.heap.size → w1.frozen? ⟨b, o, none⟩ = W.frozen? ⟨b, o, none⟩) :=
  ⟨fun b o h => hb.cell (p := ⟨b, o, none⟩) h, fun b o h => hb.frozen (p := ⟨b, o, none⟩) h⟩

theorem frozen?_setCell' (W : World) (p q : Addr) (v : Value) : (W.setCell p v).frozen? q = W.frozen? q := by
  simp

/-- What a walk holds of the world: the boxes of the parameters read as they were laid, no mark of a box has turned, nothing that was there has turned. -/
theorem keepC {C B : Nat} {W0 w W w1 : World} (hb : Below W.heap.size W w1) (h : (∀ b o, b < C → W.cell? ⟨b, o, none⟩ = W0.cell? ⟨b, o, none⟩) ∧ (∀ b o, b < B → W.frozen? ⟨b, o, none⟩ = W0.frozen? ⟨b, o, none⟩) ∧ C ≤ B ∧ B ≤ W.heap.size ∧ Below w.heap.size w W) :
    (∀ b o, b < C → w1.cell? ⟨b, o, none⟩ = W0.cell? ⟨b, o, none⟩) ∧ (∀ b o, b < B → w1.frozen? ⟨b, o, none⟩ = W0.frozen? ⟨b, o, none⟩) ∧ C ≤ B ∧ B ≤ w1.heap.size ∧ Below w.heap.size w w1 := by
  obtain ⟨h1, h2, h3, h4, h5⟩ := h
  have hs := hb.size
  have hs5 := h5.size
  exact ⟨fun b o hlt => (hb.cell (p := ⟨b, o, none⟩) (by show b < _; omega)).trans (h1 b o hlt), fun b o hlt => (hb.frozen (p := ⟨b, o, none⟩) (by show b < _; omega)).trans (h2 b o hlt), h3, by omega, h5.trans (hb.mono hs5)⟩

theorem keepD {C B : Nat} {W0 w W : World} (h : (∀ b o, b < C → W.cell? ⟨b, o, none⟩ = W0.cell? ⟨b, o, none⟩) ∧ (∀ b o, b < B → W.frozen? ⟨b, o, none⟩ = W0.frozen? ⟨b, o, none⟩) ∧ C ≤ B ∧ B ≤ W.heap.size ∧ Below w.heap.size w W) :
    (∀ b o, b < C → W.drew.cell? ⟨b, o, none⟩ = W0.cell? ⟨b, o, none⟩) ∧ (∀ b o, b < B → W.drew.frozen? ⟨b, o, none⟩ = W0.frozen? ⟨b, o, none⟩) ∧ C ≤ B ∧ B ≤ W.drew.heap.size ∧ Below w.heap.size w W.drew :=
  keepC (Below.refl _ _).drew h

theorem keepE {C B : Nat} {W0 w W : World} {p : Addr} {v : Value} (hp : C ≤ p.block) (hw : w.heap.size ≤ p.block) (h : (∀ b o, b < C → W.cell? ⟨b, o, none⟩ = W0.cell? ⟨b, o, none⟩) ∧ (∀ b o, b < B → W.frozen? ⟨b, o, none⟩ = W0.frozen? ⟨b, o, none⟩) ∧ C ≤ B ∧ B ≤ W.heap.size ∧ Below w.heap.size w W) :
    (∀ b o, b < C → (W.setCell p v).cell? ⟨b, o, none⟩ = W0.cell? ⟨b, o, none⟩) ∧ (∀ b o, b < B → (W.setCell p v).frozen? ⟨b, o, none⟩ = W0.frozen? ⟨b, o, none⟩) ∧ C ≤ B ∧ B ≤ (W.setCell p v).heap.size ∧ Below w.heap.size w (W.setCell p v) := by
  obtain ⟨h1, h2, h3, h4, h5⟩ := h
  have e : ∀ b o, b < C → (W.setCell p v).cell? ⟨b, o, none⟩ = W.cell? ⟨b, o, none⟩ := fun b o hlt => World.cell?_of_block (Below.heap_setCell W p v b (by omega))
  exact ⟨fun b o hlt => (e b o hlt).trans (h1 b o hlt), fun b o hlt => by rw [frozen?_setCell']; exact h2 b o hlt, h3, by simpa [World.setCell] using h4, h5.setCell hw v⟩

theorem S_bel {C B : Nat} {W0 w W : World} (h : (∀ b o, b < C → W.cell? ⟨b, o, none⟩ = W0.cell? ⟨b, o, none⟩) ∧ (∀ b o, b < B → W.frozen? ⟨b, o, none⟩ = W0.frozen? ⟨b, o, none⟩) ∧ C ≤ B ∧ B ≤ W.heap.size ∧ Below w.heap.size w W) : Below w.heap.size w W := h.2.2.2.2

/-- What a cell holds. -/
def cellOf (w : World) (b o : Nat) : Value := (w.cell? ⟨b, o, none⟩).getD undef

theorem cellOf_some {w : World} {b o : Nat} (h : (w.cell? ⟨b, o, none⟩).isSome = true) : w.cell? ⟨b, o, none⟩ = some (cellOf w b o) := by
  unfold cellOf; obtain ⟨v, hv⟩ := Option.isSome_iff_exists.1 h; rw [hv]; rfl

theorem keepCR {C B r : Nat} {W0 w W w1 : World} (hb : Below W.heap.size W w1) (h : (∀ b o, b < C → W.cell? ⟨b, o, none⟩ = W0.cell? ⟨b, o, none⟩) ∧ (∀ b o, b < B → W.frozen? ⟨b, o, none⟩ = W0.frozen? ⟨b, o, none⟩) ∧ C ≤ B ∧ B ≤ W.heap.size ∧ Below w.heap.size w W ∧ (∀ o, o < 2 → W.cell? ⟨r, o, none⟩ = some (cellOf W r o))) (hr : r < B) :
    (∀ b o, b < C → w1.cell? ⟨b, o, none⟩ = W0.cell? ⟨b, o, none⟩) ∧ (∀ b o, b < B → w1.frozen? ⟨b, o, none⟩ = W0.frozen? ⟨b, o, none⟩) ∧ C ≤ B ∧ B ≤ w1.heap.size ∧ Below w.heap.size w w1 ∧ (∀ o, o < 2 → w1.cell? ⟨r, o, none⟩ = some (cellOf w1 r o)) := by
  obtain ⟨h1, h2, h3, h4, h5, h6⟩ := h
  obtain ⟨k1, k2, k3, k4, k5⟩ := keepC hb ⟨h1, h2, h3, h4, h5⟩
  refine ⟨k1, k2, k3, k4, k5, fun o ho => cellOf_some ?_⟩
  rw [hb.cell (p := ⟨r, o, none⟩) (by show r < _; omega), h6 o ho]; rfl

theorem keepDR {C B r : Nat} {W0 w W : World} (h : (∀ b o, b < C → W.cell? ⟨b, o, none⟩ = W0.cell? ⟨b, o, none⟩) ∧ (∀ b o, b < B → W.frozen? ⟨b, o, none⟩ = W0.frozen? ⟨b, o, none⟩) ∧ C ≤ B ∧ B ≤ W.heap.size ∧ Below w.heap.size w W ∧ (∀ o, o < 2 → W.cell? ⟨r, o, none⟩ = some (cellOf W r o))) (hr : r < B) :
    (∀ b o, b < C → W.drew.cell? ⟨b, o, none⟩ = W0.cell? ⟨b, o, none⟩) ∧ (∀ b o, b < B → W.drew.frozen? ⟨b, o, none⟩ = W0.frozen? ⟨b, o, none⟩) ∧ C ≤ B ∧ B ≤ W.drew.heap.size ∧ Below w.heap.size w W.drew ∧ (∀ o, o < 2 → W.drew.cell? ⟨r, o, none⟩ = some (cellOf W.drew r o)) :=
  keepCR (Below.refl _ _).drew h hr

theorem keepER {C B r : Nat} {W0 w W : World} {p : Addr} {v : Value} (hp : C ≤ p.block) (hw : w.heap.size ≤ p.block) (h : (∀ b o, b < C → W.cell? ⟨b, o, none⟩ = W0.cell? ⟨b, o, none⟩) ∧ (∀ b o, b < B → W.frozen? ⟨b, o, none⟩ = W0.frozen? ⟨b, o, none⟩) ∧ C ≤ B ∧ B ≤ W.heap.size ∧ Below w.heap.size w W ∧ (∀ o, o < 2 → W.cell? ⟨r, o, none⟩ = some (cellOf W r o))) :
    (∀ b o, b < C → (W.setCell p v).cell? ⟨b, o, none⟩ = W0.cell? ⟨b, o, none⟩) ∧ (∀ b o, b < B → (W.setCell p v).frozen? ⟨b, o, none⟩ = W0.frozen? ⟨b, o, none⟩) ∧ C ≤ B ∧ B ≤ (W.setCell p v).heap.size ∧ Below w.heap.size w (W.setCell p v) ∧ (∀ o, o < 2 → (W.setCell p v).cell? ⟨r, o, none⟩ = some (cellOf (W.setCell p v) r o)) := by
  obtain ⟨h1, h2, h3, h4, h5, h6⟩ := h
  obtain ⟨k1, k2, k3, k4, k5⟩ := keepE (v := v) hp hw ⟨h1, h2, h3, h4, h5⟩
  refine ⟨k1, k2, k3, k4, k5, fun o ho => cellOf_some ?_⟩
  obtain ⟨v', hv'⟩ := cell?_setCell_some (w := W) (p := p) (x := v) (h6 o ho)
  rw [hv']; rfl

/-- The box of a result, as it is laid. -/
theorem boxR (w : World) (c : Array Value) (t : TypeId) (n : Nat) (hn : n = w.heap.size) (hc : c.size = 2) : ∀ o, o < 2 → (w.alloc (.cells c t)).drew.cell? ⟨n, o, none⟩ = some (cellOf (w.alloc (.cells c t)).drew n o) := by
  intro o ho
  refine cellOf_some ?_
  show ((w.alloc (.cells c t)).cell? ⟨n, o, none⟩).isSome = true
  rw [World.cell?_alloc_at _ _ _ _ hn]
  simp [hc, ho]

theorem hide {p : Prop} (h : p) : Hid p := h
theorem unhide {p : Prop} (h : Hid p) : p := h

theorem wrap_small (x : Int) (h1 : -9223372036854775808 ≤ x) (h2 : x ≤ 9223372036854775807) : IntKind.i64.wrap x = x := by
  rw [IntKind.wrap_i64]; omega

theorem gcd_step (a b : Nat) : Nat.gcd b (a % b) = Nat.gcd a b := by
  rw [Nat.gcd_comm b (a % b), ← Nat.gcd_rec, Nat.gcd_comm]

theorem ret_int {k : IntKind} {a b : Int} (h : a = b) : Ending.returned (.int k a) = .returned (.int k b) := by rw [h]

theorem ret_bool {a b : Bool} (h : a = b) : Ending.returned (.bool a) = .returned (.bool b) := by rw [h]

theorem Tryd.info3 : (Tryd.prog.info? 3).map (fun i => (i.zero, i.size, i.bytes)) = some (some (.int .i64 0), 1, 8) := by kernel_rfl

/-- A slice of ints that can be read: its numbers. -/
def IntsAt (w : World) (a : Option Addr) (l : List Int) : Prop :=
  l = [] ∨ ∃ b off, a = some ⟨b, off, none⟩ ∧ b < w.heap.size ∧ ∀ i, i < l.length → w.cell? ⟨b, off + i, none⟩ = some (.int .i64 (l.getD i 0))

theorem IntsAt.below {w w' : World} {a : Option Addr} {l : List Int} (h : IntsAt w a l) (hb : Below w.heap.size w w') : IntsAt w' a l := by
  rcases h with h | ⟨b, off, h1, h2, h3⟩
  · exact .inl h
  · exact .inr ⟨b, off, h1, Nat.lt_of_lt_of_le h2 hb.size, fun i hi => (hb.cell (p := ⟨b, off + i, none⟩) h2).trans (h3 i hi)⟩

theorem owns_below {W w1 : World} {base e size n : Nat} {v : Value} {xs : List Value} (h : W.ownsRow base e size v n xs) (hb : Below W.heap.size W w1) : w1.ownsRow base e size v n xs := by
  obtain ⟨h1, h2⟩ := h
  refine ⟨h1, ?_⟩
  rcases h2 with h2 | ⟨g, cap, cur, e1, e2, e3, e4⟩
  · exact .inl h2
  · exact .inr ⟨g, cap, cur, e1, e2, (hb.block g (lt_of_block e3)).trans e3, e4⟩

theorem IntsAt_of_owns {w : World} {base e g n cap : Nat} {l : List Int} (h : w.ownsRow base e 1 (.slice (some ⟨g, 0, none⟩) n cap) n (l.map (Value.int .i64))) (hn : n = l.length) : IntsAt w (some ⟨g, 0, none⟩) l := by
  refine .inr ⟨g, 0, rfl, (h.lt g rfl).2, fun i hi => ?_⟩
  have h1 := h.cellAt i (by omega)
  rw [Nat.zero_add, h1]
  simp [hi]

theorem IntsAt_of_own {w : World} {base e n : Nat} {v : Value} {l : List Int} (h : w.ownsRow base e 1 v n (l.map (Value.int .i64))) : ∃ a cap, v = .slice a l.length cap ∧ IntsAt w a l := by
  have hl : n = l.length := by have := h.1; simp at this; omega
  subst hl
  rcases h.2 with ⟨rfl, hn⟩ | ⟨g, cap, cur, rfl, _⟩
  · have : l = [] := List.length_eq_zero_iff.1 hn
    subst this
    exact ⟨none, 0, rfl, .inl rfl⟩
  · exact ⟨_, _, rfl, IntsAt_of_owns h rfl⟩

end Go.Proofs.YtmeaemjdmjhmdaaDoor
