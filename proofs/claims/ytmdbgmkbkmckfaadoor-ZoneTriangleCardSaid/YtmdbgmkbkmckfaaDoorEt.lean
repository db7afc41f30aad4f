/- From a row's condition on three listed errors (bound, shape, empty) to what the walks ask. -/
import Derived.Test.YtmdbgmkbkmckfaaDoorEm
import Derived.Test.YtmdbgmkbkmckfaaDoorKs
namespace Go.Proofs.YtmdbgmkbkmckfaaDoor
open Go.RowKit Go.ChangeShapes

theorem errs3_of_laid {W : World} (h : laidMetH Tryd.prog [("raycone/api.ErrBound", Rows.laid_raycone_api_ErrBound), ("raycone/api.ErrShape", Rows.laid_raycone_api_ErrShape), ("raycone/api.ErrEmpty", Rows.laid_raycone_api_ErrEmpty)] W) : ∃ a : Nat → Addr, ErrS W a ∧ ErrAt W a 3 := by
  have h' : laidMet Tryd.prog (((sentL.drop 1).take 3).map fun x => (x.1, sentDatum "*errors.errorString" x.2)) W := h
  obtain ⟨ps, hV, hnd, hrows⟩ := h'
  obtain ⟨ads, hlen, hnda, _, hall⟩ := laid_list glob Tryd.underlying32 Tryd.rowE Tryd.underlying140 Tryd.underlying161 rfl rfl Tryd.underlying9 Tryd.cellsE Tryd.cellsS ((sentL.drop 1).take 3) ps (fun x hx => glob_ok x (List.mem_of_mem_drop (List.mem_of_mem_take hx))) hV hnd hrows
  have h2 : ((sentL.drop 1).take 3).length = 3 := rfl
  refine ⟨fun k => ads.getD (k - 1) default, ⟨?_, ?_⟩, ?_⟩
  · have := (hall 0 (by omega)).1
    have e : glob (((sentL.drop 1).take 3).getD 0 default).1 = gvar 1 := by decide
    rw [e] at this
    exact this
  · have := (hall 1 (by omega)).1
    have e : glob (((sentL.drop 1).take 3).getD 1 default).1 = gvar 2 := by decide
    rw [e] at this
    exact this
  · have := (hall 2 (by omega)).1
    have e : glob (((sentL.drop 1).take 3).getD 2 default).1 = gvar 3 := by decide
    rw [e] at this
    exact this

end Go.Proofs.YtmdbgmkbkmckfaaDoor
