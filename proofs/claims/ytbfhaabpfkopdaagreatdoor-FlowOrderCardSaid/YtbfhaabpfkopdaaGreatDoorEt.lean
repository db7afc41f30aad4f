/- What a list of listed errors of errors.New's make gives: their pointers, all different, and their texts. -/
import Derived.Test.YtbfhaabpfkopdaaGreatDoorEc
import Derived.Stop.LaidErr
import Derived.LaidHandle
import Derived.Test.YtbfhaabpfkopdaaGreatDoorRows
import Derived.Test.YtbfhaabpfkopdaaGreatDoorKu
namespace Go.Proofs.YtbfhaabpfkopdaaGreatDoor
open Go.RowKit Go.ChangeShapes

def sentDatum (nm : String) (text : List UInt8) : DataW Unit := .iface nm (.ptr (.agg [.lit (.string text)]))

theorem laid_list {P : Program} {nm : String} {W : World} {ti tp te ts : TypeId} {ms : Array (String × TypeId)} {f : Field} (gl : String → Nat)
    (hi : P.underlying ti = some (.interface ms)) (hrow : ∀ u, P.typeName? 3 u = some nm → u = tp)
    (hp : P.underlying tp = some (.pointer te)) (he : P.underlying te = some (.struct #[f])) (hft : f.type = ts) (hfo : f.offset = 0) (hs : P.underlying ts = some .string) (hc : P.cellsOf te = 1) (hcs : P.cellsOf ts = 1) :
    ∀ (L : List (String × List UInt8)) (ps : List MemPlace), (∀ x ∈ L, P.globalNamed x.1 = some (gl x.1) ∧ (P.globals[gl x.1]?).map (·.type) = some ti) →
      DataW.LaidVars P W (L.map fun x => (x.1, sentDatum nm x.2)) ps → ps.Nodup →
      (∀ b off, MemPlace.cell b off ∈ ps → (∃ c t, W.heap[b]? = some (.cells c t (0, 0))) ∧ ∀ u v, W.cell? ⟨b, off, none⟩ = some (.iface u v) → Value.okWide P W .any 0 u v) →
      ∃ ads : List Addr, ads.length = L.length ∧ ads.Nodup ∧ (∀ a ∈ ads, MemPlace.cell a.block a.off ∈ ps) ∧
        ∀ i, i < L.length → W.cell? ⟨gl (L.getD i default).1, 0, none⟩ = some (.iface tp (.pointer (some (ads.getD i default)))) ∧
          (∃ s : ByteArray, W.cell? (ads.getD i default) = some (.string s) ∧ s.data.toList = (L.getD i default).2) ∧ ∃ c t, W.heap[(ads.getD i default).block]? = some (.cells c t (0, 0)) := by
  intro L
  induction L with
  | nil => intro ps _ _ _ _; exact ⟨[], rfl, List.nodup_nil, by simp, fun i hi => by simp at hi⟩
  | cons x L ih =>
    intro ps hL hV hnd hrows
    obtain ⟨g0, t0, cs0, f0, p0, q0, hg0, ht0, hv0, hd0, hrest, rfl⟩ := hV
    obtain ⟨hgx, htx⟩ := hL x (by simp)
    obtain rfl := Option.some.inj (hgx.symm.trans hg0)
    obtain rfl := Option.some.inj (htx.symm.trans ht0)
    obtain ⟨l0⟩ := cs0
    have ok0 : ∀ u v, l0 = [.iface u v] → Value.okWide P W .any 0 u v := fun u v e => by
      subst e
      exact (hrows (gl x.1) 0 (by simp [MemPlace.row])).2 u v (by simpa using World.var?_cell hg0 hv0 0)
    obtain ⟨a0, s0, rfl, hc0, hs0, _, rfl⟩ := errorString_of_trod hi hrow hp he hft hfo hs hc hcs hd0 ok0
    obtain ⟨ads, hlen, hnda, hmem, hall⟩ := ih q0 (fun y hy => hL y (by simp [hy])) hrest (List.Nodup.sublist (List.sublist_append_right _ _) hnd) (fun b off hm => hrows b off (List.mem_append_right _ hm))
    refine ⟨a0 :: ads, by simp [hlen], ?_, ?_, ?_⟩
    · refine List.nodup_cons.2 ⟨fun hin => ?_, hnda⟩
      have h1 := hmem a0 hin
      have h2 : MemPlace.cell a0.block a0.off ∈ MemPlace.row a0 1 := by simp [MemPlace.row]
      rw [List.append_assoc, List.nodup_append] at hnd
      have h3 := (List.nodup_append.1 hnd.2.1).2.2 _ h2 _ h1
      exact h3 rfl
    · intro a ha
      rcases List.mem_cons.1 ha with rfl | ha
      · simp [MemPlace.row]
      · exact List.mem_append_right _ (hmem a ha)
    · intro i hi'
      cases i with
      | zero =>
        refine ⟨by simpa using World.var?_cell hg0 hv0 0, ⟨s0, by simpa using hc0, by simpa using hs0⟩, ?_⟩
        simpa using (hrows a0.block a0.off (by simp [MemPlace.row])).1
      | succ i => simpa using hall i (by simpa using hi')

end Go.Proofs.YtbfhaabpfkopdaaGreatDoor

/- From the row's condition on the listed variables to what the walks ask: the errors of package api, and the handle of the type error. -/
namespace Go.Proofs.YtbfhaabpfkopdaaGreatDoor
open Go.RowKit Go.ChangeShapes

theorem Tryz.star : "*errors.errorString" = "*" ++ "errors.errorString" := by decide
theorem Tryz.rowE (u : TypeId) (h : Tryz.prog.typeName? 3 u = some "*errors.errorString") : u = 421 :=
  typeName_ptr_named (nm := "errors.errorString") (by rw [← Tryz.star]; kernel_rfl) (by kernel_rfl) (by decide) u (by rw [← Tryz.star]; exact h)
theorem Tryz.cellsE : Tryz.prog.cellsOf 423 = 1 := by kernel_rfl
theorem Tryz.cellsS : Tryz.prog.cellsOf 9 = 1 := by kernel_rfl
theorem Tryz.et : Tryz.prog.globalNamed "errors.errorType" = some 8 := by kernel_rfl
theorem Tryz.rt : (Tryz.prog.cutTypes.find? (·.1 == "internal/reflectlite.rtype")).map (·.2) = some 316 := by kernel_rfl
theorem Tryz.oneRow : ((List.range 453).filter fun t => Tryz.prog.rowNamed t [101, 114, 114, 111, 114]) = [36] := by kernel_rfl
theorem Tryz.typesSize : Tryz.prog.types.size = 453 := by kernel_rfl

def sentL : List (String × List UInt8) := [("raycone/api.ErrText", [114, 97, 121, 99, 111, 110, 101, 58, 32, 116, 101, 120, 116]), ("raycone/api.ErrBound", [114, 97, 121, 99, 111, 110, 101, 58, 32, 98, 111, 117, 110, 100]), ("raycone/api.ErrShape", [114, 97, 121, 99, 111, 110, 101, 58, 32, 115, 104, 97, 112, 101]), ("raycone/api.ErrEmpty", [114, 97, 121, 99, 111, 110, 101, 58, 32, 101, 109, 112, 116, 121]), ("raycone/api.ErrName", [114, 97, 121, 99, 111, 110, 101, 58, 32, 110, 97, 109, 101]), ("raycone/api.ErrNone", [114, 97, 121, 99, 111, 110, 101, 58, 32, 110, 111, 110, 101]), ("raycone/api.ErrOrder", [114, 97, 121, 99, 111, 110, 101, 58, 32, 111, 114, 100, 101, 114]), ("raycone/api.ErrProof", [114, 97, 121, 99, 111, 110, 101, 58, 32, 112, 114, 111, 111, 102])]

def glob (n : String) : Nat := if n == "raycone/api.ErrText" then 2 else if n == "raycone/api.ErrBound" then 0 else if n == "raycone/api.ErrShape" then 1 else if n == "raycone/api.ErrEmpty" then 3 else if n == "raycone/api.ErrName" then 4 else if n == "raycone/api.ErrNone" then 5 else if n == "raycone/api.ErrOrder" then 6 else if n == "raycone/api.ErrProof" then 7 else 0

/-- What the errors read as, byte by byte. -/
def textOf (k : Nat) : List UInt8 := (sentL.getD k default).2

theorem handle_of (W : World) (h : handlesMet Tryz.prog [("errors.errorType", Rows.laid_errors_errorType)] W) : W.cell? ⟨8, 0, none⟩ = some (.iface 316 (.agg #[.pointer (some ⟨17, 36, none⟩)])) := by
  obtain ⟨name, u, ty, e1, e2, e3, e4, e5⟩ := h _ (List.mem_singleton.2 rfl)
  have en : name = [101, 114, 114, 111, 114] := (Option.some.inj e1).symm
  subst en
  obtain rfl := Option.some.inj (Tryz.rt.symm.trans e2)
  have hm : ty ∈ (List.range 453).filter fun t => Tryz.prog.rowNamed t [101, 114, 114, 111, 114] := List.mem_filter.2 ⟨List.mem_range.2 (by rw [← Tryz.typesSize]; exact e3), e4⟩
  rw [Tryz.oneRow] at hm
  obtain rfl := List.mem_singleton.1 hm
  have hh : typeHandle Tryz.prog 36 = .pointer (some ⟨17, 36, none⟩) := by kernel_rfl
  rw [hh] at e5
  simpa using World.var?_cell Tryz.et e5 0

end Go.Proofs.YtbfhaabpfkopdaaGreatDoor

/- From a row's condition on some listed errors to what the walks ask. -/
namespace Go.Proofs.YtbfhaabpfkopdaaGreatDoor
open Go.RowKit Go.ChangeShapes

end Go.Proofs.YtbfhaabpfkopdaaGreatDoor

/- From a row's condition on three listed errors (bound, shape, empty) to what the walks ask. -/
namespace Go.Proofs.YtbfhaabpfkopdaaGreatDoor
open Go.RowKit Go.ChangeShapes

end Go.Proofs.YtbfhaabpfkopdaaGreatDoor
