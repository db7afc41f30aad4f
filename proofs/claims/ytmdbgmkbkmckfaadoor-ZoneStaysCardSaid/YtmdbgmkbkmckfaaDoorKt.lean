/- A box of four cells that is stored into. -/
import Derived.Test.YtmdbgmkbkmckfaaDoorKs
namespace Go.Proofs.YtmdbgmkbkmckfaaDoor
open Go.RowKit

theorem Apart.c {b o : Nat} {L : List (Nat × Nat × Value)} (h : Apart b L) : ApartC b o L := by
  induction L with
  | nil => trivial
  | cons x L ih => exact ⟨.inl h.1, ih h.2⟩

theorem St.put0 {w W : World} {Z : World → Prop} {b : Nat} {u0 u1 u2 u3 : Value} {L : List (Nat × Nat × Value)} (h : St w W Z ((b, 0, u0) :: (b, 1, u1) :: (b, 2, u2) :: (b, 3, u3) :: L)) (hb : w.heap.size ≤ b) (ap : Apart b L) (v : Value) :
    St w (W.setCell ⟨b, 0, none⟩ v) Z ((b, 0, v) :: (b, 1, u1) :: (b, 2, u2) :: (b, 3, u3) :: L) :=
  St.set1 [] _ h hb trivial ⟨.inr (by simp), .inr (by simp), .inr (by simp), ap.c⟩ v
theorem St.put1 {w W : World} {Z : World → Prop} {b : Nat} {u0 u1 u2 u3 : Value} {L : List (Nat × Nat × Value)} (h : St w W Z ((b, 0, u0) :: (b, 1, u1) :: (b, 2, u2) :: (b, 3, u3) :: L)) (hb : w.heap.size ≤ b) (ap : Apart b L) (v : Value) :
    St w (W.setCell ⟨b, 1, none⟩ v) Z ((b, 0, u0) :: (b, 1, v) :: (b, 2, u2) :: (b, 3, u3) :: L) :=
  St.set1 [(b, 0, u0)] _ h hb ⟨.inr (by simp), trivial⟩ ⟨.inr (by simp), .inr (by simp), ap.c⟩ v
theorem St.put2 {w W : World} {Z : World → Prop} {b : Nat} {u0 u1 u2 u3 : Value} {L : List (Nat × Nat × Value)} (h : St w W Z ((b, 0, u0) :: (b, 1, u1) :: (b, 2, u2) :: (b, 3, u3) :: L)) (hb : w.heap.size ≤ b) (ap : Apart b L) (v : Value) :
    St w (W.setCell ⟨b, 2, none⟩ v) Z ((b, 0, u0) :: (b, 1, u1) :: (b, 2, v) :: (b, 3, u3) :: L) :=
  St.set1 [(b, 0, u0), (b, 1, u1)] _ h hb ⟨.inr (by simp), .inr (by simp), trivial⟩ ⟨.inr (by simp), ap.c⟩ v
theorem St.put3 {w W : World} {Z : World → Prop} {b : Nat} {u0 u1 u2 u3 : Value} {L : List (Nat × Nat × Value)} (h : St w W Z ((b, 0, u0) :: (b, 1, u1) :: (b, 2, u2) :: (b, 3, u3) :: L)) (hb : w.heap.size ≤ b) (ap : Apart b L) (v : Value) :
    St w (W.setCell ⟨b, 3, none⟩ v) Z ((b, 0, u0) :: (b, 1, u1) :: (b, 2, u2) :: (b, 3, v) :: L) :=
  St.set1 [(b, 0, u0), (b, 1, u1), (b, 2, u2)] _ h hb ⟨.inr (by simp), .inr (by simp), .inr (by simp), trivial⟩ ap.c v

/-- A new box behind a call. -/
theorem boxed {W w' : World} {v0 v1 v2 v3 : Value} {t : TypeId} (hb : Below (W.alloc (.cells #[v0, v1, v2, v3] t)).drew.heap.size (W.alloc (.cells #[v0, v1, v2, v3] t)).drew w') : Holds w' [(W.heap.size, 0, v0), (W.heap.size, 1, v1), (W.heap.size, 2, v2), (W.heap.size, 3, v3)] := by
  have h : Holds (W.alloc (.cells #[v0, v1, v2, v3] t)).drew [(W.heap.size, 0, v0), (W.heap.size, 1, v1), (W.heap.size, 2, v2), (W.heap.size, 3, v3)] := by
    have := ((⟨Below.refl _ _, trivial, trivial, fun _ _ _ _ => trivial⟩ : St W W (fun _ => True) []).box4 t v0 v1 v2 v3).drew.hold
    exact this
  exact h.below hb

theorem boxed' {W w' : World} {v0 v1 v2 v3 : Value} {t : TypeId} (hb : Below (W.alloc (.cells #[v0, v1, v2, v3] t)).heap.size (W.alloc (.cells #[v0, v1, v2, v3] t)) w') : Holds w' [(W.heap.size, 0, v0), (W.heap.size, 1, v1), (W.heap.size, 2, v2), (W.heap.size, 3, v3)] := by
  have h : Holds (W.alloc (.cells #[v0, v1, v2, v3] t)) [(W.heap.size, 0, v0), (W.heap.size, 1, v1), (W.heap.size, 2, v2), (W.heap.size, 3, v3)] := by
    have := ((⟨Below.refl _ _, trivial, trivial, fun _ _ _ _ => trivial⟩ : St W W (fun _ => True) []).box4 t v0 v1 v2 v3).hold
    exact this
  exact h.below hb

theorem Holds.apart_ge {w : World} {L : List (Nat × Nat × Value)} (h : Holds w L) {b : Nat} (hb : w.heap.size ≤ b) : Apart b L := by
  induction L with
  | nil => trivial
  | cons x L ih => exact ⟨by have := h.1.2.1; omega, ih h.2⟩

theorem St.add {w W : World} {Z : World → Prop} {L L' : List (Nat × Nat × Value)} (h : St w W Z L) (k : Holds W L') : St w W Z (L' ++ L) := ⟨h.bel, Holds.append.2 ⟨k, h.hold⟩, h.sent, h.cl⟩

/-- A box that was made early, filled late. -/
theorem St.late {w W W2 : World} {Z : World → Prop} {L : List (Nat × Nat × Value)} {b : Nat} {u0 u1 u2 u3 : Value} (h : St w W Z L) (h2 : Holds W2 L) (hw : w.heap.size ≤ W2.heap.size) (hb : W2.heap.size ≤ b) (k : Holds W [(b, 0, u0), (b, 1, u1), (b, 2, u2), (b, 3, u3)]) (v0 v1 v2 v3 : Value) :
    St w ((((W.setCell ⟨b, 0, none⟩ v0).setCell ⟨b, 1, none⟩ v1).setCell ⟨b, 2, none⟩ v2).setCell ⟨b, 3, none⟩ v3) Z ((b, 0, v0) :: (b, 1, v1) :: (b, 2, v2) :: (b, 3, v3) :: L) := by
  have ap := h2.apart_ge hb
  have h0 : St w W Z ((b, 0, u0) :: (b, 1, u1) :: (b, 2, u2) :: (b, 3, u3) :: L) := h.add k
  exact (((h0.put0 (by omega) ap v0).put1 (by omega) ap v1).put2 (by omega) ap v2).put3 (by omega) ap v3

/-- All errors, and a list of ints. -/
def SIZ (a : Nat → Addr) (x : Option Addr) (l : List Int) (W : World) : Prop := Sents W a ∧ IntsAt W x l
theorem St.startSI {w : World} {a : Nat → Addr} {x : Option Addr} {l : List Int} (h : Sents w a) (k : IntsAt w x l) : St w w (SIZ a x l) [] :=
  ⟨Below.refl _ _, trivial, ⟨h, k⟩, fun _ _ q hb => ⟨h.stays q.1 hb, k.stays q.2 hb⟩⟩
theorem St.ss {w W : World} {a : Nat → Addr} {x : Option Addr} {l : List Int} {L : List (Nat × Nat × Value)} (h : St w W (SIZ a x l) L) : Sents W a := h.sent.1
theorem St.si {w W : World} {a : Nat → Addr} {x : Option Addr} {l : List Int} {L : List (Nat × Nat × Value)} (h : St w W (SIZ a x l) L) : IntsAt W x l := h.sent.2

/-- A cell of a list of ints. -/
theorem IntsAt.get {W : World} {x : Option Addr} {l : List Int} (h : IntsAt W x l) (k : Nat) (hk : k < l.length) (y : Int) (hy : y = l.getD k 0) : ∃ b off, x = some ⟨b, off, none⟩ ∧ W.cell? ⟨b, off + k, none⟩ = some (.int .i64 y) := by
  rcases h with rfl | ⟨b, off, h1, _, h3⟩
  · simp at hk
  · exact ⟨b, off, h1, by rw [hy]; exact h3 k hk⟩

end Go.Proofs.YtmdbgmkbkmckfaaDoor
