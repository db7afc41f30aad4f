/- From a row's condition on some listed errors to what the walks ask. -/
import Derived.Test.YtcbjlimpnclipaaDoorEm
import Derived.Test.YtcbjlimpnclipaaDoorKs
namespace Go.Proofs.YtcbjlimpnclipaaDoor
open Go.RowKit Go.ChangeShapes

theorem errs_of_laid {W : World} (h : laidMetH Tryd.prog [("raycone/api.ErrBound", Rows.laid_raycone_api_ErrBound), ("raycone/api.ErrShape", Rows.laid_raycone_api_ErrShape)] W) : ∃ a : Nat → Addr, ErrS W a := by
  have h' : laidMet Tryd.prog (((sentL.drop 1).take 2).map fun x => (x.1, sentDatum "*errors.errorString" x.2)) W := h
  obtain ⟨ps, hV, hnd, hrows⟩ := h'
  obtain ⟨ads, hlen, hnda, _, hall⟩ := laid_list glob Tryd.underlying32 Tryd.rowE Tryd.underlying154 Tryd.underlying175 rfl rfl Tryd.underlying9 Tryd.cellsE Tryd.cellsS ((sentL.drop 1).take 2) ps (fun x hx => glob_ok x (List.mem_of_mem_drop (List.mem_of_mem_take hx))) hV hnd hrows
  have h2 : ((sentL.drop 1).take 2).length = 2 := rfl
  refine ⟨fun k => ads.getD (k - 1) default, ?_, ?_⟩
  · have := (hall 0 (by omega)).1
    have e : glob (((sentL.drop 1).take 2).getD 0 default).1 = gvar 1 := by decide
    rw [e] at this
    exact this
  · have := (hall 1 (by omega)).1
    have e : glob (((sentL.drop 1).take 2).getD 1 default).1 = gvar 2 := by decide
    rw [e] at this
    exact this

end Go.Proofs.YtcbjlimpnclipaaDoor
