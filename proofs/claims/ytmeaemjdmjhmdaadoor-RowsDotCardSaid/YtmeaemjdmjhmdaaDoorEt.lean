/- What a list of listed errors of errors.New's make gives: their pointers, all different, and their texts. -/
import Derived.Test.YtmeaemjdmjhmdaaDoorEc
import Derived.Stop.LaidErr
import Derived.LaidHandle
import Derived.Test.YtmeaemjdmjhmdaaDoorRows
import Derived.Test.YtmeaemjdmjhmdaaDoorKu
namespace Go.Proofs.YtmeaemjdmjhmdaaDoor
open Go.RowKit Go.ChangeShapes

def sentDatum (nm : String) (text : List UInt8) : DataW Unit := .iface nm (.ptr (.agg [.lit (.string text)]))

theorem laid_list {P : Program} {nm : String} {W : World} {ti tp te ts : TypeId} {ms : Array (String × TypeId)} {f : Field} (gl : String → Nat)
    (hi : P.underlying ti = some (.interface ms)) (hrow : ∀ u, P.typeName? 3 u = some nm → u = tp)
    (hp : P.underlying tp = some (.pointer te)) (he : P.underlying te = some (.struct #[f])) (hft : f.type = ts) (hfo : f.offset = 0) (hs : P.underlying ts = some .string) (hc : P.cellsOf te = 1) (hcs : P.cellsOf ts = 1) :
    ∀ (L : List (String × List UInt8)) (ps : List MemPlace), (∀ x ∈ L, P.globalNamed x.1 = some (gl x.1) ∧ (P.globals[gl x.1]?).map (·.type) = some ti) →
      DataW.LaidVars P W (L.map fun x => (x.1, sentDatum nm x.2)) ps → ps.Nodup →
      (∀ b off, MemPlace.cell b off ∈ ps → (∃ c t, W.heap[b]? = some (.cells c t (0, 0))) ∧ ∀ u v, W.cell? ⟨b, off, none⟩ = some (.iface u v) → Value.okWide P W .any 0 u v) →
      ∃ ads : List Addr, ads.length = L.length ∧ ads.Nodup ∧ (∀ a ∈ ads, MemPlace.cell a.block a.off ∈ ps) ∧
        ∀ i, i < L.length → W.cell? ⟨gl (L.getD i default).1, 0, none⟩ = some (.iface tp (.pointer (some (ads.getD i default)))) ∧
          (∃ s : ByteArray, W.cell? (ads.getD i default) = some (.string s) ∧ s.data.toList = (L.getD i default).2) ∧ ∃ c t, W.heap[(ads.getD i default).block]? = some (.cells c t (0, 0)) := by
  intro L
  induction L with
  | nil => intro ps _ _ _ _; exact ⟨[], rfl, List.nodup_nil, by simp, fun i hi => by simp at hi⟩
  | cons x L ih =>
    intro ps hL hV hnd hrows
    obtain ⟨g0, t0, cs0, f0, p0, q0, hg0, ht0, hv0, hd0, hrest, rfl⟩ := hV
    obtain ⟨hgx, htx⟩ := hL x (by simp)
    obtain rfl := Option.some.inj (hgx.symm.trans hg0)
    obtain rfl := Option.some.inj (htx.symm.trans ht0)
    obtain ⟨l0⟩ := cs0
    have ok0 : ∀ u v, l0 = [.iface u v] → Value.okWide P W .any 0 u v := fun u v e => by
      subst e
      exact (hrows (gl x.1) 0 (by simp [MemPlace.row])).2 u v (by simpa using World.var?_cell hg0 hv0 0)
    obtain ⟨a0, s0, rfl, hc0, hs0, _, rfl⟩ := errorString_of_trod hi hrow hp he hft hfo hs hc hcs hd0 ok0
    obtain ⟨ads, hlen, hnda, hmem, hall⟩ := ih q0 (fun y hy => hL y (by simp [hy])) hrest (List.Nodup.sublist (List.sublist_append_right _ _) hnd) (fun b off hm => hrows b off (List.mem_append_right _ hm))
    refine ⟨a0 :: ads, by simp [hlen], ?_, ?_, ?_⟩
    · refine List.nodup_cons.2 ⟨fun hin => ?_, hnda⟩
      have h1 := hmem a0 hin
      have h2 : MemPlace.cell a0.block a0.off ∈ MemPlace.row a0 1 := by simp [MemPlace.row]
      rw [List.append_assoc, List.nodup_append] at hnd
      have h3 := (List.nodup_append.1 hnd.2.1).2.2 _ h2 _ h1
      exact h3 rfl
    · intro a ha
      rcases List.mem_cons.1 ha with rfl | ha
      · simp [MemPlace.row]
      · exact List.mem_append_right _ (hmem a ha)
    · intro i hi'
      cases i with
      | zero =>
        refine ⟨by simpa using World.var?_cell hg0 hv0 0, ⟨s0, by simpa using hc0, by simpa using hs0⟩, ?_⟩
        simpa using (hrows a0.block a0.off (by simp [MemPlace.row])).1
      | succ i => simpa using hall i (by simpa using hi')

end Go.Proofs.YtmeaemjdmjhmdaaDoor

/- From the row's condition on the listed variables to what the walks ask: the errors of package api, and the handle of the type error. -/
namespace Go.Proofs.YtmeaemjdmjhmdaaDoor
open Go.RowKit Go.ChangeShapes

theorem Tryd.star : "*errors.errorString" = "*" ++ "errors.errorString" := by decide
theorem Tryd.rowE (u : TypeId) (h : Tryd.prog.typeName? 3 u = some "*errors.errorString") : u = 118 :=
  typeName_ptr_named (nm := "errors.errorString") (by rw [← Tryd.star]; kernel_rfl) (by kernel_rfl) (by decide) u (by rw [← Tryd.star]; exact h)
theorem Tryd.cellsE : Tryd.prog.cellsOf 139 = 1 := by kernel_rfl
theorem Tryd.cellsS : Tryd.prog.cellsOf 9 = 1 := by kernel_rfl
theorem Tryd.et : Tryd.prog.globalNamed "errors.errorType" = some 8 := by kernel_rfl
theorem Tryd.rt : (Tryd.prog.cutTypes.find? (·.1 == "internal/reflectlite.rtype")).map (·.2) = some 96 := by kernel_rfl
theorem Tryd.oneRow : ((List.range 151).filter fun t => Tryd.prog.rowNamed t [101, 114, 114, 111, 114]) = [25] := by kernel_rfl
theorem Tryd.typesSize : Tryd.prog.types.size = 151 := by kernel_rfl

def sentL : List (String × List UInt8) := [("raycone/api.ErrText", [114, 97, 121, 99, 111, 110, 101, 58, 32, 116, 101, 120, 116]), ("raycone/api.ErrBound", [114, 97, 121, 99, 111, 110, 101, 58, 32, 98, 111, 117, 110, 100]), ("raycone/api.ErrShape", [114, 97, 121, 99, 111, 110, 101, 58, 32, 115, 104, 97, 112, 101]), ("raycone/api.ErrEmpty", [114, 97, 121, 99, 111, 110, 101, 58, 32, 101, 109, 112, 116, 121]), ("raycone/api.ErrName", [114, 97, 121, 99, 111, 110, 101, 58, 32, 110, 97, 109, 101]), ("raycone/api.ErrNone", [114, 97, 121, 99, 111, 110, 101, 58, 32, 110, 111, 110, 101]), ("raycone/api.ErrOrder", [114, 97, 121, 99, 111, 110, 101, 58, 32, 111, 114, 100, 101, 114]), ("raycone/api.ErrProof", [114, 97, 121, 99, 111, 110, 101, 58, 32, 112, 114, 111, 111, 102])]

def glob (n : String) : Nat := if n == "raycone/api.ErrText" then 2 else if n == "raycone/api.ErrBound" then 0 else if n == "raycone/api.ErrShape" then 1 else if n == "raycone/api.ErrEmpty" then 3 else if n == "raycone/api.ErrName" then 4 else if n == "raycone/api.ErrNone" then 5 else if n == "raycone/api.ErrOrder" then 6 else if n == "raycone/api.ErrProof" then 7 else 0

theorem glob_ok : ∀ x ∈ sentL, Tryd.prog.globalNamed x.1 = some (glob x.1) ∧ (Tryd.prog.globals[glob x.1]?).map (·.type) = some 25 := by
  intro x hx
  simp only [sentL, List.mem_cons, List.not_mem_nil, or_false] at hx
  rcases hx with rfl | rfl | rfl | rfl | rfl | rfl | rfl | rfl <;> exact ⟨by kernel_rfl, by kernel_rfl⟩

/-- What the errors read as, byte by byte. -/
def textOf (k : Nat) : List UInt8 := (sentL.getD k default).2

theorem glob_gvar (k : Nat) (hk : k < 8) : glob (sentL.getD k default).1 = gvar k := by
  rcases (show k = 0 ∨ k = 1 ∨ k = 2 ∨ k = 3 ∨ k = 4 ∨ k = 5 ∨ k = 6 ∨ k = 7 by omega) with rfl | rfl | rfl | rfl | rfl | rfl | rfl | rfl <;> decide

theorem handle_of (W : World) (h : handlesMet Tryd.prog [("errors.errorType", Rows.laid_errors_errorType)] W) : W.cell? ⟨8, 0, none⟩ = some (.iface 96 (.agg #[.pointer (some ⟨11, 25, none⟩)])) := by
  obtain ⟨name, u, ty, e1, e2, e3, e4, e5⟩ := h _ (List.mem_singleton.2 rfl)
  have en : name = [101, 114, 114, 111, 114] := (Option.some.inj e1).symm
  subst en
  obtain rfl := Option.some.inj (Tryd.rt.symm.trans e2)
  have hm : ty ∈ (List.range 151).filter fun t => Tryd.prog.rowNamed t [101, 114, 114, 111, 114] := List.mem_filter.2 ⟨List.mem_range.2 (by rw [← Tryd.typesSize]; exact e3), e4⟩
  rw [Tryd.oneRow] at hm
  obtain rfl := List.mem_singleton.1 hm
  have hh : typeHandle Tryd.prog 25 = .pointer (some ⟨11, 25, none⟩) := by kernel_rfl
  rw [hh] at e5
  simpa using World.var?_cell Tryd.et e5 0

theorem sents_of_laid {W : World} (h : laidMetH Tryd.prog [("errors.errorType", Rows.laid_errors_errorType), ("raycone/api.ErrText", Rows.laid_raycone_api_ErrText), ("raycone/api.ErrBound", Rows.laid_raycone_api_ErrBound), ("raycone/api.ErrShape", Rows.laid_raycone_api_ErrShape), ("raycone/api.ErrEmpty", Rows.laid_raycone_api_ErrEmpty), ("raycone/api.ErrName", Rows.laid_raycone_api_ErrName), ("raycone/api.ErrNone", Rows.laid_raycone_api_ErrNone), ("raycone/api.ErrOrder", Rows.laid_raycone_api_ErrOrder), ("raycone/api.ErrProof", Rows.laid_raycone_api_ErrProof)] W) :
    ∃ a : Nat → Addr, Sents W a ∧ ∀ k, k < 8 → ∃ s : ByteArray, W.cell? (a k) = some (.string s) ∧ s.data.toList = textOf k := by
  have h' : laidMet Tryd.prog (sentL.map fun x => (x.1, sentDatum "*errors.errorString" x.2)) W ∧ handlesMet Tryd.prog [("errors.errorType", Rows.laid_errors_errorType)] W := h
  obtain ⟨⟨ps, hV, hnd, hrows⟩, hH⟩ := h'
  obtain ⟨ads, hlen, hnda, _, hall⟩ := laid_list glob Tryd.underlying25 Tryd.rowE Tryd.underlying118 Tryd.underlying139 rfl rfl Tryd.underlying9 Tryd.cellsE Tryd.cellsS sentL ps glob_ok hV hnd hrows
  have h8 : sentL.length = 8 := rfl
  refine ⟨fun k => ads.getD k default, ⟨?_, ?_, ?_, handle_of W hH⟩, ?_⟩
  · intro k hk
    have := (hall k (by omega)).1
    rw [glob_gvar k hk] at this
    exact this
  · intro k hk
    exact (hall k (by omega)).2.2
  · intro i j hi hj hij e
    have hi' : i < ads.length := by omega
    have hj' : j < ads.length := by omega
    simp only [List.getD_eq_getElem?_getD, List.getElem?_eq_getElem hi', List.getElem?_eq_getElem hj', Option.getD_some] at e
    rcases Nat.lt_or_gt_of_ne hij with h | h
    · exact List.pairwise_iff_getElem.1 hnda i j hi' hj' h e
    · exact List.pairwise_iff_getElem.1 hnda j i hj' hi' h e.symm
  · intro k hk
    exact (hall k (by omega)).2.1

end Go.Proofs.YtmeaemjdmjhmdaaDoor

/- From a row's condition on some listed errors to what the walks ask. -/
namespace Go.Proofs.YtmeaemjdmjhmdaaDoor
open Go.RowKit Go.ChangeShapes

theorem errs_of_laid {W : World} (h : laidMetH Tryd.prog [("raycone/api.ErrBound", Rows.laid_raycone_api_ErrBound), ("raycone/api.ErrShape", Rows.laid_raycone_api_ErrShape)] W) : ∃ a : Nat → Addr, ErrS W a := by
  have h' : laidMet Tryd.prog (((sentL.drop 1).take 2).map fun x => (x.1, sentDatum "*errors.errorString" x.2)) W := h
  obtain ⟨ps, hV, hnd, hrows⟩ := h'
  obtain ⟨ads, hlen, hnda, _, hall⟩ := laid_list glob Tryd.underlying25 Tryd.rowE Tryd.underlying118 Tryd.underlying139 rfl rfl Tryd.underlying9 Tryd.cellsE Tryd.cellsS ((sentL.drop 1).take 2) ps (fun x hx => glob_ok x (List.mem_of_mem_drop (List.mem_of_mem_take hx))) hV hnd hrows
  have h2 : ((sentL.drop 1).take 2).length = 2 := rfl
  refine ⟨fun k => ads.getD (k - 1) default, ?_, ?_⟩
  · have := (hall 0 (by omega)).1
    have e : glob (((sentL.drop 1).take 2).getD 0 default).1 = gvar 1 := by decide
    rw [e] at this
    exact this
  · have := (hall 1 (by omega)).1
    have e : glob (((sentL.drop 1).take 2).getD 1 default).1 = gvar 2 := by decide
    rw [e] at this
    exact this

end Go.Proofs.YtmeaemjdmjhmdaaDoor

/- From a row's condition on three listed errors (bound, shape, empty) to what the walks ask. -/
namespace Go.Proofs.YtmeaemjdmjhmdaaDoor
open Go.RowKit Go.ChangeShapes

theorem errs3_of_laid {W : World} (h : laidMetH Tryd.prog [("raycone/api.ErrBound", Rows.laid_raycone_api_ErrBound), ("raycone/api.ErrShape", Rows.laid_raycone_api_ErrShape), ("raycone/api.ErrEmpty", Rows.laid_raycone_api_ErrEmpty)] W) : ∃ a : Nat → Addr, ErrS W a ∧ ErrAt W a 3 := by
  have h' : laidMet Tryd.prog (((sentL.drop 1).take 3).map fun x => (x.1, sentDatum "*errors.errorString" x.2)) W := h
  obtain ⟨ps, hV, hnd, hrows⟩ := h'
  obtain ⟨ads, hlen, hnda, _, hall⟩ := laid_list glob Tryd.underlying25 Tryd.rowE Tryd.underlying118 Tryd.underlying139 rfl rfl Tryd.underlying9 Tryd.cellsE Tryd.cellsS ((sentL.drop 1).take 3) ps (fun x hx => glob_ok x (List.mem_of_mem_drop (List.mem_of_mem_take hx))) hV hnd hrows
  have h2 : ((sentL.drop 1).take 3).length = 3 := rfl
  refine ⟨fun k => ads.getD (k - 1) default, ⟨?_, ?_⟩, ?_⟩
  · have := (hall 0 (by omega)).1
    have e : glob (((sentL.drop 1).take 3).getD 0 default).1 = gvar 1 := by decide
    rw [e] at this
    exact this
  · have := (hall 1 (by omega)).1
    have e : glob (((sentL.drop 1).take 3).getD 1 default).1 = gvar 2 := by decide
    rw [e] at this
    exact this
  · have := (hall 2 (by omega)).1
    have e : glob (((sentL.drop 1).take 3).getD 2 default).1 = gvar 3 := by decide
    rw [e] at this
    exact this

end Go.Proofs.YtmeaemjdmjhmdaaDoor
