/- From a row's condition on some listed errors to what the walks ask. -/
import Derived.Test.YtijbjahedfmfgabDoorEm
import Derived.Test.YtijbjahedfmfgabDoorIx
namespace Go.Proofs.YtijbjahedfmfgabDoor
open Go.RowKit Go.ChangeShapes

theorem errt_of_laid {W : World} (h : laidMetH Tryd.prog [("raycone/api.ErrText", Rows.laid_raycone_api_ErrText), ("raycone/api.ErrBound", Rows.laid_raycone_api_ErrBound), ("raycone/api.ErrShape", Rows.laid_raycone_api_ErrShape)] W) : ∃ a : Nat → Addr, ErrT W a := by
  have h' : laidMet Tryd.prog ((sentL.take 3).map fun x => (x.1, sentDatum "*errors.errorString" x.2)) W := h
  obtain ⟨ps, hV, hnd, hrows⟩ := h'
  obtain ⟨ads, hlen, hnda, _, hall⟩ := laid_list glob Tryd.underlying27 Tryd.rowE Tryd.underlying105 Tryd.underlying127 rfl rfl Tryd.underlying9 Tryd.cellsE Tryd.cellsS (sentL.take 3) ps (fun x hx => glob_ok x (List.mem_of_mem_take hx)) hV hnd hrows
  have h2 : (sentL.take 3).length = 3 := rfl
  have at_ : ∀ k, k < 3 → W.cell? ⟨gvar k, 0, none⟩ = some (.iface 105 (.pointer (some (ads.getD k default)))) := by
    intro k hk
    have := (hall k (by omega)).1
    have e : glob ((sentL.take 3).getD k default).1 = gvar k := by
      rcases (show k = 0 ∨ k = 1 ∨ k = 2 by omega) with rfl | rfl | rfl <;> decide
    rw [e] at this
    exact this
  exact ⟨fun k => ads.getD k default, ⟨at_ 1 (by omega), at_ 2 (by omega)⟩, at_ 0 (by omega)⟩

end Go.Proofs.YtijbjahedfmfgabDoor
