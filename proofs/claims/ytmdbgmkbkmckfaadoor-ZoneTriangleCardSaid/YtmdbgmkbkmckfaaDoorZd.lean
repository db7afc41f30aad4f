/- Zones: the reference's cells: lowered, near, right. -/
import Derived.Test.YtmdbgmkbkmckfaaDoorZc
import Derived.Deep.LoopGhost
import Derived.Deep.DeepCutAuto
namespace Go.Proofs.YtmdbgmkbkmckfaaDoor
open Go.RowKit
set_option linter.unusedVariables false

/-- Cells of which one is lowered. -/
def lowC (c : Ce) (most : Int) : Ce := if c.h = true ∧ c.m ≤ most then c else ⟨true, most⟩
def lowR (c : Ce) (most : Int) : Bool := decide (¬ (c.h = true ∧ c.m ≤ most))
def lowL (l : List Ce) (k : Nat) (most : Int) : List Ce := l.set k (lowC (l.getD k ceZ) most)
theorem lowL_len (l : List Ce) (k : Nat) (most : Int) : (lowL l k most).length = l.length := by simp [lowL]
theorem lowL_same {l : List Ce} {k : Nat} {most : Int} (hk : k < l.length) (h : (l.getD k ceZ).h = true ∧ (l.getD k ceZ).m ≤ most) : lowL l k most = l := by
  unfold lowL lowC
  rw [if_pos h]
  apply List.ext_getElem?
  intro i
  by_cases e : i = k
  · subst e; simp [hk]
  · rw [List.getElem?_set_ne (fun h => e h.symm)]

/-- What of a world is as it was but for one block. -/
structure Only (b : Nat) (w w' : World) : Prop where
  cell : ∀ p : Addr, p.block ≠ b → w'.cell? p = w.cell? p
  fr : ∀ p : Addr, w'.frozen? p = w.frozen? p
  size : w'.heap.size = w.heap.size
  bel : ∀ B, B ≤ b → Below B w w'

theorem Only.refl (b : Nat) (w : World) : Only b w w := ⟨fun _ _ => rfl, fun _ => rfl, rfl, fun _ _ => Below.refl _ _⟩
theorem Only.trans {b : Nat} {w w1 w2 : World} (h : Only b w w1) (k : Only b w1 w2) : Only b w w2 :=
  ⟨fun p hp => (k.cell p hp).trans (h.cell p hp), fun p => (k.fr p).trans (h.fr p), k.size.trans h.size, fun B hB => (h.bel B hB).trans (k.bel B hB)⟩
theorem Only.set (b o : Nat) (w : World) (v : Value) : Only b w (w.setCell ⟨b, o, none⟩ v) :=
  ⟨fun p hp => World.cell?_of_block (Below.heap_setCell w ⟨b, o, none⟩ v p.block hp), fun p => frozen?_setCell' w _ p v, by simp [World.setCell], fun B hB => (Below.refl _ _).setCell hB _⟩

set_option maxRecDepth 20000 in
set_option maxHeartbeats 2000000 in
theorem lower_any (b off n c k : Nat) (most : Int) (l : List Ce) (w : World) (hR : RowC w b off l) (hF : ∀ o, w.frozen? ⟨b, o, none⟩ = false) (hn : Hid (n = l.length)) (hk : k < n) (hb : n ≤ 1000) :
    Calls Tryd.prog 41 #[.slice (some ⟨b, off, none⟩) n c, .int .i64 k, .int .i64 most] w fun e w' => e = .returned (.bool (lowR (l.getD k ceZ) most)) ∧ RowC w' b off (lowL l k most) ∧ Only b w w' := by
  have hkl : k < l.length := by rw [← hn.out]; exact hk
  obtain ⟨⟨ch, cm⟩, hc⟩ : ∃ C, C = l.getD k ceZ := ⟨_, rfl⟩
  have h1 := hR.has k hkl
  have h2 := hR.most k hkl
  rw [← hc] at h1 h2
  have hlt := hR.lt
  have f1 := hF (off + k * 2)
  have f2 := hF (off + k * 2 + 1)
  have hkn : (k : Int) < (n : Int) := by omega
  obtain ⟨rb, hrb⟩ : ∃ rb, rb = lowR (l.getD k ceZ) most := ⟨_, rfl⟩
  rw [← hrb]
  have Hrb := hide hrb
  have HC := hide hc
  have HR := hide hR
  clear hc hR hF hrb
  cases ch
  · go_enter Tryd.func41, Tryd.ntmps41
    go_wp2
    go_ret
    refine ⟨ret_bool (by rw [Hrb.out]; unfold lowR; rw [← HC.out]; simp; try omega), ?_, (Only.set b _ w _).trans (Only.set b _ _ _)⟩
    have := HR.out.set hkl ⟨true, most⟩
    unfold lowL lowC
    rw [← HC.out, if_neg (by simp)]
    exact this
  · by_cases hle : cm ≤ most
    · go_enter Tryd.func41, Tryd.ntmps41
      go_wp2
      go_ret
      refine ⟨ret_bool (by rw [Hrb.out]; unfold lowR; rw [← HC.out]; simp [hle]), ?_, Only.refl _ _⟩
      rw [lowL_same hkl (by rw [← HC.out]; exact ⟨rfl, hle⟩)]
      exact HR.out
    · go_enter Tryd.func41, Tryd.ntmps41
      go_wp2
      go_ret
      refine ⟨ret_bool (by rw [Hrb.out]; unfold lowR; rw [← HC.out]; simp; try omega), ?_, (Only.set b _ w _).trans (Only.set b _ _ _)⟩
      have := HR.out.set hkl ⟨true, most⟩
      unfold lowL lowC
      rw [← HC.out, if_neg (by rintro ⟨_, h⟩; dsimp only at h; omega)]
      exact this

end Go.Proofs.YtmdbgmkbkmckfaaDoor
