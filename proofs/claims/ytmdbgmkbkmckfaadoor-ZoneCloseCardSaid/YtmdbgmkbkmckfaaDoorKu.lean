/- Boxes of two cells. -/
import Derived.Test.YtmdbgmkbkmckfaaDoorKt
namespace Go.Proofs.YtmdbgmkbkmckfaaDoor
open Go.RowKit

theorem St.put20 {w W : World} {Z : World → Prop} {b : Nat} {u0 u1 : Value} {L : List (Nat × Nat × Value)} (h : St w W Z ((b, 0, u0) :: (b, 1, u1) :: L)) (hb : w.heap.size ≤ b) (ap : Apart b L) (v : Value) :
    St w (W.setCell ⟨b, 0, none⟩ v) Z ((b, 0, v) :: (b, 1, u1) :: L) :=
  St.set1 [] _ h hb trivial ⟨.inr (by simp), ap.c⟩ v
theorem St.put21 {w W : World} {Z : World → Prop} {b : Nat} {u0 u1 : Value} {L : List (Nat × Nat × Value)} (h : St w W Z ((b, 0, u0) :: (b, 1, u1) :: L)) (hb : w.heap.size ≤ b) (ap : Apart b L) (v : Value) :
    St w (W.setCell ⟨b, 1, none⟩ v) Z ((b, 0, u0) :: (b, 1, v) :: L) :=
  St.set1 [(b, 0, u0)] _ h hb ⟨.inr (by simp), trivial⟩ ap.c v

theorem boxed2 {W w' : World} {v0 v1 : Value} {t : TypeId} (hb : Below (W.alloc (.cells #[v0, v1] t)).drew.heap.size (W.alloc (.cells #[v0, v1] t)).drew w') : Holds w' [(W.heap.size, 0, v0), (W.heap.size, 1, v1)] := by
  have h : Holds (W.alloc (.cells #[v0, v1] t)).drew [(W.heap.size, 0, v0), (W.heap.size, 1, v1)] := by
    have := ((⟨Below.refl _ _, trivial, trivial, fun _ _ _ _ => trivial⟩ : St W W (fun _ => True) []).box2 t v0 v1).drew.hold
    exact this
  exact h.below hb
theorem boxed2' {W w' : World} {v0 v1 : Value} {t : TypeId} (hb : Below (W.alloc (.cells #[v0, v1] t)).heap.size (W.alloc (.cells #[v0, v1] t)) w') : Holds w' [(W.heap.size, 0, v0), (W.heap.size, 1, v1)] := by
  have h : Holds (W.alloc (.cells #[v0, v1] t)) [(W.heap.size, 0, v0), (W.heap.size, 1, v1)] := by
    have := ((⟨Below.refl _ _, trivial, trivial, fun _ _ _ _ => trivial⟩ : St W W (fun _ => True) []).box2 t v0 v1).hold
    exact this
  exact h.below hb

theorem St.late2 {w W W2 : World} {Z : World → Prop} {L : List (Nat × Nat × Value)} {b : Nat} {u0 u1 : Value} (h : St w W Z L) (h2 : Holds W2 L) (hw : w.heap.size ≤ W2.heap.size) (hb : W2.heap.size ≤ b) (k : Holds W [(b, 0, u0), (b, 1, u1)]) (v0 v1 : Value) :
    St w ((W.setCell ⟨b, 0, none⟩ v0).setCell ⟨b, 1, none⟩ v1) Z ((b, 0, v0) :: (b, 1, v1) :: L) := by
  have ap := h2.apart_ge hb
  have h0 : St w W Z ((b, 0, u0) :: (b, 1, u1) :: L) := h.add k
  exact (h0.put20 (by omega) ap v0).put21 (by omega) ap v1

end Go.Proofs.YtmdbgmkbkmckfaaDoor
