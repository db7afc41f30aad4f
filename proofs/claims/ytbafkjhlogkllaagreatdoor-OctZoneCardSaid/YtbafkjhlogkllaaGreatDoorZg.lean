/- Zones: the reference closes over and over. -/
import Derived.Test.YtbafkjhlogkllaaGreatDoorZh
import Derived.Test.YtbafkjhlogkllaaGreatDoorKu
namespace Go.Proofs.YtbafkjhlogkllaaGreatDoor
open Go.RowKit
set_option linter.unusedVariables false

theorem Holds.only {w w' : World} {L : List (Nat × Nat × Value)} {b : Nat} (h : Holds w L) (k : Only b w w') (ap : Apart b L) : Holds w' L := by
  induction L with
  | nil => trivial
  | cons x L ih => exact ⟨⟨(k.cell ⟨x.1, x.2.1, none⟩ ap.1).trans h.1.1, by rw [k.size]; exact h.1.2.1, (k.fr _).trans h.1.2.2⟩, ih h.2 ap.2⟩
theorem St.only {w W W' : World} {L : List (Nat × Nat × Value)} {b : Nat} (h : St w W (fun _ => True) L) (k : Only b W W') (ap : Apart b L) (hb : w.heap.size ≤ b) : St w W' (fun _ => True) L :=
  ⟨h.bel.trans (k.bel _ hb), h.hold.only k ap, trivial, fun _ _ _ _ => trivial⟩

theorem St.start1' (w : World) : St w w (fun _ => True) [] := ⟨Below.refl _ _, trivial, trivial, fun _ _ _ _ => trivial⟩

theorem lower_as (b off n c k : Nat) (i most : Int) (hi : Hid (i = k)) (l : List Ce) (hn : Hid (n = l.length)) (hk : k < n) (hb : n ≤ 1000) (w : World) (hR : RowC w b off l) (hF : ∀ o, w.frozen? ⟨b, o, none⟩ = false) :
    Calls Tryz.prog 25 #[.slice (some ⟨b, off, none⟩) n c, .int .i64 i, .int .i64 most] w fun e w' => (e = .returned (.bool (lowR (l.getD k ceZ) most))) ∧ RowC w' b off (lowL l k most) ∧ Only b w w' := by
  rw [hi.out]; exact lower_any b off n c k most l w hR hF hn hk hb

theorem at_place {n i j k : Nat} (hk : k < n) (hj : j < n) : ((i * n + j) * n + k) / n / n = i ∧ ((i * n + j) * n + k) / n % n = j ∧ ((i * n + j) * n + k) % n = k := by
  have n0 : 0 < n := by omega
  have e1 : ((i * n + j) * n + k) / n = i * n + j := by rw [Nat.mul_comm, Nat.mul_add_div n0, Nat.div_eq_of_lt hk]; rfl
  rw [e1]
  refine ⟨?_, ?_, ?_⟩
  · rw [Nat.mul_comm, Nat.mul_add_div n0, Nat.div_eq_of_lt hj]; rfl
  · rw [Nat.mul_comm, Nat.mul_add_mod, Nat.mod_eq_of_lt hj]
  · rw [Nat.mul_comm, Nat.mul_add_mod, Nat.mod_eq_of_lt hk]

/-- What closing answers. -/
def CloPost (w : World) (Ni : Int) (n len : Nat) (F : List Ce) (e : Ending) (w' : World) : Prop :=
  Below w.heap.size w w' ∧ (((∃ i, i < n ∧ (F.getD (i * n + i) ceZ).m < 0) ∧ e = .returned (.tuple #[(.agg #[.int .i64 0, (.slice none 0 0)]), .bool false])) ∨
    ((∀ i, i < n → 0 ≤ (F.getD (i * n + i) ceZ).m) ∧ ∃ (g cap : Nat), e = .returned (.tuple #[(.agg #[.int .i64 Ni, (.slice (some ⟨g, 0, none⟩) len cap)]), .bool true]) ∧ w.heap.size ≤ g ∧ (∀ o, w'.frozen? ⟨g, o, none⟩ = false) ∧ RowC w' g 0 (F.map clipC)))

end Go.Proofs.YtbafkjhlogkllaaGreatDoor
