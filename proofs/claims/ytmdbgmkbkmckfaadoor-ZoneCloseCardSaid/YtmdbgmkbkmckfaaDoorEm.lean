/- From the row's condition on the listed variables to what the walks ask: the errors of package api, and the handle of the type error. -/
import Derived.Test.YtmdbgmkbkmckfaaDoorRows
import Derived.Test.YtmdbgmkbkmckfaaDoorEl
namespace Go.Proofs.YtmdbgmkbkmckfaaDoor
open Go.RowKit Go.ChangeShapes

theorem Tryd.star : "*errors.errorString" = "*" ++ "errors.errorString" := by decide
theorem Tryd.rowE (u : TypeId) (h : Tryd.prog.typeName? 3 u = some "*errors.errorString") : u = 140 :=
  typeName_ptr_named (nm := "errors.errorString") (by rw [← Tryd.star]; kernel_rfl) (by kernel_rfl) (by decide) u (by rw [← Tryd.star]; exact h)
theorem Tryd.cellsE : Tryd.prog.cellsOf 161 = 1 := by kernel_rfl
theorem Tryd.cellsS : Tryd.prog.cellsOf 9 = 1 := by kernel_rfl
theorem Tryd.et : Tryd.prog.globalNamed "errors.errorType" = some 8 := by kernel_rfl
theorem Tryd.rt : (Tryd.prog.cutTypes.find? (·.1 == "internal/reflectlite.rtype")).map (·.2) = some 126 := by kernel_rfl
theorem Tryd.oneRow : ((List.range 173).filter fun t => Tryd.prog.rowNamed t [101, 114, 114, 111, 114]) = [32] := by kernel_rfl
theorem Tryd.typesSize : Tryd.prog.types.size = 173 := by kernel_rfl

def sentL : List (String × List UInt8) := [("raycone/api.ErrText", [114, 97, 121, 99, 111, 110, 101, 58, 32, 116, 101, 120, 116]), ("raycone/api.ErrBound", [114, 97, 121, 99, 111, 110, 101, 58, 32, 98, 111, 117, 110, 100]), ("raycone/api.ErrShape", [114, 97, 121, 99, 111, 110, 101, 58, 32, 115, 104, 97, 112, 101]), ("raycone/api.ErrEmpty", [114, 97, 121, 99, 111, 110, 101, 58, 32, 101, 109, 112, 116, 121]), ("raycone/api.ErrName", [114, 97, 121, 99, 111, 110, 101, 58, 32, 110, 97, 109, 101]), ("raycone/api.ErrNone", [114, 97, 121, 99, 111, 110, 101, 58, 32, 110, 111, 110, 101]), ("raycone/api.ErrOrder", [114, 97, 121, 99, 111, 110, 101, 58, 32, 111, 114, 100, 101, 114]), ("raycone/api.ErrProof", [114, 97, 121, 99, 111, 110, 101, 58, 32, 112, 114, 111, 111, 102])]

def glob (n : String) : Nat := if n == "raycone/api.ErrText" then 3 else if n == "raycone/api.ErrBound" then 0 else if n == "raycone/api.ErrShape" then 1 else if n == "raycone/api.ErrEmpty" then 2 else if n == "raycone/api.ErrName" then 4 else if n == "raycone/api.ErrNone" then 5 else if n == "raycone/api.ErrOrder" then 6 else if n == "raycone/api.ErrProof" then 7 else 0

theorem glob_ok : ∀ x ∈ sentL, Tryd.prog.globalNamed x.1 = some (glob x.1) ∧ (Tryd.prog.globals[glob x.1]?).map (·.type) = some 32 := by
  intro x hx
  simp only [sentL, List.mem_cons, List.not_mem_nil, or_false] at hx
  rcases hx with rfl | rfl | rfl | rfl | rfl | rfl | rfl | rfl <;> exact ⟨by kernel_rfl, by kernel_rfl⟩

/-- What the errors read as, byte by byte. -/
def textOf (k : Nat) : List UInt8 := (sentL.getD k default).2

theorem glob_gvar (k : Nat) (hk : k < 8) : glob (sentL.getD k default).1 = gvar k := by
  rcases (show k = 0 ∨ k = 1 ∨ k = 2 ∨ k = 3 ∨ k = 4 ∨ k = 5 ∨ k = 6 ∨ k = 7 by omega) with rfl | rfl | rfl | rfl | rfl | rfl | rfl | rfl <;> decide

theorem handle_of (W : World) (h : handlesMet Tryd.prog [("errors.errorType", Rows.laid_errors_errorType)] W) : W.cell? ⟨8, 0, none⟩ = some (.iface 126 (.agg #[.pointer (some ⟨9, 32, none⟩)])) := by
  obtain ⟨name, u, ty, e1, e2, e3, e4, e5⟩ := h _ (List.mem_singleton.2 rfl)
  have en : name = [101, 114, 114, 111, 114] := (Option.some.inj e1).symm
  subst en
  obtain rfl := Option.some.inj (Tryd.rt.symm.trans e2)
  have hm : ty ∈ (List.range 173).filter fun t => Tryd.prog.rowNamed t [101, 114, 114, 111, 114] := List.mem_filter.2 ⟨List.mem_range.2 (by rw [← Tryd.typesSize]; exact e3), e4⟩
  rw [Tryd.oneRow] at hm
  obtain rfl := List.mem_singleton.1 hm
  have hh : typeHandle Tryd.prog 32 = .pointer (some ⟨9, 32, none⟩) := by kernel_rfl
  rw [hh] at e5
  simpa using World.var?_cell Tryd.et e5 0

theorem sents_of_laid {W : World} (h : laidMetH Tryd.prog [("errors.errorType", Rows.laid_errors_errorType), ("raycone/api.ErrText", Rows.laid_raycone_api_ErrText), ("raycone/api.ErrBound", Rows.laid_raycone_api_ErrBound), ("raycone/api.ErrShape", Rows.laid_raycone_api_ErrShape), ("raycone/api.ErrEmpty", Rows.laid_raycone_api_ErrEmpty), ("raycone/api.ErrName", Rows.laid_raycone_api_ErrName), ("raycone/api.ErrNone", Rows.laid_raycone_api_ErrNone), ("raycone/api.ErrOrder", Rows.laid_raycone_api_ErrOrder), ("raycone/api.ErrProof", Rows.laid_raycone_api_ErrProof)] W) :
    ∃ a : Nat → Addr, Sents W a ∧ ∀ k, k < 8 → ∃ s : ByteArray, W.cell? (a k) = some (.string s) ∧ s.data.toList = textOf k := by
  have h' : laidMet Tryd.prog (sentL.map fun x => (x.1, sentDatum "*errors.errorString" x.2)) W ∧ handlesMet Tryd.prog [("errors.errorType", Rows.laid_errors_errorType)] W := h
  obtain ⟨⟨ps, hV, hnd, hrows⟩, hH⟩ := h'
  obtain ⟨ads, hlen, hnda, _, hall⟩ := laid_list glob Tryd.underlying32 Tryd.rowE Tryd.underlying140 Tryd.underlying161 rfl rfl Tryd.underlying9 Tryd.cellsE Tryd.cellsS sentL ps glob_ok hV hnd hrows
  have h8 : sentL.length = 8 := rfl
  refine ⟨fun k => ads.getD k default, ⟨?_, ?_, ?_, handle_of W hH⟩, ?_⟩
  · intro k hk
    have := (hall k (by omega)).1
    rw [glob_gvar k hk] at this
    exact this
  · intro k hk
    exact (hall k (by omega)).2.2
  · intro i j hi hj hij e
    have hi' : i < ads.length := by omega
    have hj' : j < ads.length := by omega
    simp only [List.getD_eq_getElem?_getD, List.getElem?_eq_getElem hi', List.getElem?_eq_getElem hj', Option.getD_some] at e
    rcases Nat.lt_or_gt_of_ne hij with h | h
    · exact List.pairwise_iff_getElem.1 hnda i j hi' hj' h e
    · exact List.pairwise_iff_getElem.1 hnda j i hj' hi' h e.symm
  · intro k hk
    exact (hall k (by omega)).2.1

end Go.Proofs.YtmdbgmkbkmckfaaDoor
