/- From the row's condition on the sixteen listed variables to what the walks ask: the errors of package api, the handle of the type error, two errors and a table of the library. -/
import Derived.Test.YtbfhaabpfkopdaaGreatDoorEt
import Derived.Test.YtbfhaabpfkopdaaGreatDoorLs
import Derived.Lib.LaidTab
import Derived.Stop.Joined
import Derived.Lay
import Derived.SevenTiedAt
namespace Go.Proofs.YtbfhaabpfkopdaaGreatDoor
open Go.RowKit Go.ChangeShapes
set_option linter.unusedVariables false

/-- The sixteen. -/
abbrev laid16 : List (String × DataW Unit) := [("math/bits.deBruijn32tab", Rows.laid_math_bits_deBruijn32tab), ("math/bits.deBruijn64tab", Rows.laid_math_bits_deBruijn64tab), ("internal/strconv.uint64pow10", Rows.laid_internal_strconv_uint64pow10), ("unicode/utf8.acceptRanges", Rows.laid_unicode_utf8_acceptRanges), ("errors.errorType", Rows.laid_errors_errorType), ("raycone/api.ErrText", Rows.laid_raycone_api_ErrText), ("raycone/api.ErrBound", Rows.laid_raycone_api_ErrBound), ("raycone/api.ErrShape", Rows.laid_raycone_api_ErrShape), ("raycone/api.ErrEmpty", Rows.laid_raycone_api_ErrEmpty), ("raycone/api.ErrName", Rows.laid_raycone_api_ErrName), ("raycone/api.ErrNone", Rows.laid_raycone_api_ErrNone), ("raycone/api.ErrOrder", Rows.laid_raycone_api_ErrOrder), ("raycone/api.ErrProof", Rows.laid_raycone_api_ErrProof), ("strconv.ErrRange", Rows.laid_strconv_ErrRange), ("strconv.ErrSyntax", Rows.laid_strconv_ErrSyntax), ("unicode/utf8.first", Rows.laid_unicode_utf8_first)]

theorem laidMet_tail {P : Program} {x : String × DataW Unit} {l : List (String × DataW Unit)} {W : World} (h : laidMet P (x :: l) W) : laidMet P l W := by
  obtain ⟨ps, ⟨g, t, cs, fuel, p, q, _, _, _, _, hr, rfl⟩, hnd, hrows⟩ := h
  exact ⟨q, hr, List.Nodup.sublist (List.sublist_append_right _ _) hnd, fun b off hm => hrows b off (List.mem_append_right _ hm)⟩
theorem laidVars_app {P : Program} {W : World} : ∀ (A B : List (String × DataW Unit)) (ps : List MemPlace), DataW.LaidVars P W (A ++ B) ps → ∃ p q, ps = p ++ q ∧ DataW.LaidVars P W A p ∧ DataW.LaidVars P W B q
  | [], B, ps, h => ⟨[], ps, rfl, rfl, h⟩
  | x :: A, B, ps, h => by
    obtain ⟨g, t, cs, fuel, p, q, h1, h2, h3, h4, hr, rfl⟩ := h
    obtain ⟨p', q', rfl, hA, hB⟩ := laidVars_app A B q hr
    exact ⟨_, q', by rw [← List.append_assoc], ⟨g, t, cs, fuel, p, p', h1, h2, h3, h4, hA, rfl⟩, hB⟩
theorem laidMet_head {P : Program} {A B : List (String × DataW Unit)} {W : World} (h : laidMet P (A ++ B) W) : laidMet P A W := by
  obtain ⟨ps, hv, hnd, hrows⟩ := h
  obtain ⟨p, q, rfl, hA, _⟩ := laidVars_app A B ps hv
  exact ⟨p, hA, List.Nodup.sublist (List.sublist_append_left _ _) hnd, fun b off hm => hrows b off (List.mem_append_left _ hm)⟩
def sentM : List (String × List UInt8) := sentL ++ [("strconv.ErrRange", [118, 97, 108, 117, 101, 32, 111, 117, 116, 32, 111, 102, 32, 114, 97, 110, 103, 101]), ("strconv.ErrSyntax", [105, 110, 118, 97, 108, 105, 100, 32, 115, 121, 110, 116, 97, 120])]
def globM (n : String) : Nat := if n == "strconv.ErrRange" then 12 else if n == "strconv.ErrSyntax" then 11 else glob n
theorem globM_ok : ∀ x ∈ sentM, Tryz.prog.globalNamed x.1 = some (globM x.1) ∧ (Tryz.prog.globals[globM x.1]?).map (·.type) = some 36 := by
  intro x hx
  simp only [sentM, sentL, List.cons_append, List.nil_append, List.mem_cons, List.not_mem_nil, or_false] at hx
  rcases hx with rfl | rfl | rfl | rfl | rfl | rfl | rfl | rfl | rfl | rfl <;> exact ⟨by kernel_rfl, by kernel_rfl⟩
theorem globM_gvar (k : Nat) (hk : k < 8) : globM (sentM.getD k default).1 = gvar k := by
  rcases (show k = 0 ∨ k = 1 ∨ k = 2 ∨ k = 3 ∨ k = 4 ∨ k = 5 ∨ k = 6 ∨ k = 7 by omega) with rfl | rfl | rfl | rfl | rfl | rfl | rfl | rfl <;> decide
theorem all_of_laid {W : World} (h : laidMetH Tryz.prog laid16 W) : ∃ a : Nat → Addr, Sents W a ∧ LgW W := by
  have h' : laidMet Tryz.prog ([("math/bits.deBruijn32tab", Rows.laid_math_bits_deBruijn32tab), ("math/bits.deBruijn64tab", Rows.laid_math_bits_deBruijn64tab), ("internal/strconv.uint64pow10", Rows.laid_internal_strconv_uint64pow10), ("unicode/utf8.acceptRanges", Rows.laid_unicode_utf8_acceptRanges)] ++ ((sentM.map fun x => (x.1, sentDatum "*errors.errorString" x.2)) ++ [("unicode/utf8.first", Rows.laid_unicode_utf8_first)])) W ∧ handlesMet Tryz.prog [("errors.errorType", Rows.laid_errors_errorType)] W := h
  obtain ⟨h1, hH⟩ := h'
  have ht := laidMet_tail (laidMet_tail h1)
  have hT : Lib.TabIs Tryz.prog W "internal/strconv.uint64pow10" .u64 Lib.pow10Tab :=
    Lib.tabIs_of_head (g := 13) (t := 416) (e := 394) (n := 20) (by kernel_rfl) (by kernel_rfl) Tryz.underlying416 Tryz.underlying394 (by kernel_rfl) (by kernel_rfl) ht
  obtain ⟨ps, hV, hnd, hrows⟩ := laidMet_head (A := sentM.map fun x => (x.1, sentDatum "*errors.errorString" x.2)) (B := [("unicode/utf8.first", Rows.laid_unicode_utf8_first)]) (laidMet_tail (laidMet_tail ht))
  obtain ⟨ads, hlen, hnda, _, hall⟩ := laid_list globM Tryz.underlying36 Tryz.rowE Tryz.underlying421 Tryz.underlying423 rfl rfl Tryz.underlying9 Tryz.cellsE Tryz.cellsS sentM ps globM_ok hV hnd hrows
  have h10 : sentM.length = 10 := rfl
  refine ⟨fun k => ads.getD k default, ⟨?_, ?_, ?_, handle_of W hH⟩, ⟨_, (hall 9 (by omega)).1, .inr ⟨_, _, rfl⟩⟩, ⟨_, (hall 8 (by omega)).1, .inr ⟨_, _, rfl⟩⟩, hT⟩
  · intro k hk
    have := (hall k (by omega)).1
    rw [globM_gvar k hk] at this
    exact this
  · intro k hk
    exact (hall k (by omega)).2.2
  · intro i j hi hj hij e
    have hi' : i < ads.length := by omega
    have hj' : j < ads.length := by omega
    simp only [List.getD_eq_getElem?_getD, List.getElem?_eq_getElem hi', List.getElem?_eq_getElem hj', Option.getD_some] at e
    rcases Nat.lt_or_gt_of_ne hij with h | h
    · exact List.pairwise_iff_getElem.1 hnda i j hi' hj' h e
    · exact List.pairwise_iff_getElem.1 hnda j i hj' hi' h e.symm
end Go.Proofs.YtbfhaabpfkopdaaGreatDoor

/- A world in which the sixteen listed variables read as they are laid: the witness of the rows. -/
namespace Go.Proofs.YtbfhaabpfkopdaaGreatDoor
open Go.RowKit Go.ChangeShapes
set_option linter.unusedVariables false

/-- The fifteen that are no handles. -/
abbrev laid15 : List (String × DataW Unit) := [("math/bits.deBruijn32tab", Rows.laid_math_bits_deBruijn32tab), ("math/bits.deBruijn64tab", Rows.laid_math_bits_deBruijn64tab), ("internal/strconv.uint64pow10", Rows.laid_internal_strconv_uint64pow10), ("unicode/utf8.acceptRanges", Rows.laid_unicode_utf8_acceptRanges), ("raycone/api.ErrText", Rows.laid_raycone_api_ErrText), ("raycone/api.ErrBound", Rows.laid_raycone_api_ErrBound), ("raycone/api.ErrShape", Rows.laid_raycone_api_ErrShape), ("raycone/api.ErrEmpty", Rows.laid_raycone_api_ErrEmpty), ("raycone/api.ErrName", Rows.laid_raycone_api_ErrName), ("raycone/api.ErrNone", Rows.laid_raycone_api_ErrNone), ("raycone/api.ErrOrder", Rows.laid_raycone_api_ErrOrder), ("raycone/api.ErrProof", Rows.laid_raycone_api_ErrProof), ("strconv.ErrRange", Rows.laid_strconv_ErrRange), ("strconv.ErrSyntax", Rows.laid_strconv_ErrSyntax), ("unicode/utf8.first", Rows.laid_unicode_utf8_first)]
/-- The settled world with the handle of the type error. -/
noncomputable def base16 (os : Os) : World :=
  { World.holding Tryz.prog os ⟨#[], #[], []⟩ with heap := (World.holding Tryz.prog os ⟨#[], #[], []⟩).heap.modify 8 fun
      | .cells _ t fr => .cells #[.iface 316 (.agg #[.pointer (some ⟨17, 36, none⟩)])] t fr
      | o => o }
noncomputable def wit16 (os : Os) : World := (base16 os).layVars Tryz.prog laid15
theorem wit16_os (os : Os) : (wit16 os).os = os := World.layVars_os _ _ _
theorem wit16_all : (laid15.filter fun x => (laid15.map (·.1)).contains x.1) = laid15 := by kernel_rfl
theorem wit16_rest : (laid15.filter fun x => !(laid15.map (·.1)).contains x.1) = [] := by kernel_rfl
theorem wit16_fits (os : Os) : (base16 os).layFits Tryz.prog laid15 [] = true := by kernel_rfl
theorem wit16_ifaces (os : Os) : (base16 os).layIfaces Tryz.prog laid15 (wit16 os) = true := by kernel_rfl
theorem wit16_part : (laid16.filter fun x => x.2.handleName?.isNone) = laid15 := by kernel_rfl
theorem met16 (os : Os) (args : Array Value) : laidMetH Tryz.prog laid16 ((wit16 os).forCall (fun _ _ => 0) ⟨#[], args, []⟩).memory := by
  have h : laidMet Tryz.prog laid15 (wit16 os) := laidMet_layVars (w0 := base16 os) (laid15.map (·.1)) [] (by rw [wit16_all]; rfl) (by rw [wit16_all]; exact wit16_fits os) (by rw [wit16_all]; exact wit16_ifaces os) (by rw [wit16_rest]; exact LaidIn.none)
  refine laidMetH_of_parts3 (fuel := 8) ?_ (by kernel_rfl) (by kernel_rfl)
  rw [wit16_part]
  exact h.of_heap (by simp [World.memory, World.forCall, Input.heap])
theorem wit16_shaped (os : Os) (args : Array Value) : ((wit16 os).forCall (fun _ _ => 0) ⟨#[], args, []⟩).Shaped Tryz.prog := World.shaped_of_ZipB (by kernel_rfl) (by kernel_rfl)
end Go.Proofs.YtbfhaabpfkopdaaGreatDoor

/- Closed facts of the program that every row asks. -/
namespace Go.Proofs.YtbfhaabpfkopdaaGreatDoor
open Go.RowKit
theorem andT {a b : Bool} (h : a = true) (k : b = true) : (a && b) = true := by rw [h, k]; rfl
theorem jf1 : (laidOutB Tryz.prog) = true := by kernel_rfl
theorem jf2 : (mapsRowed Tryz.prog) = true := by kernel_rfl
theorem jf6 : ((Tryz.prog.stops == [])) = true := by kernel_rfl
theorem jf8 : ((Tryz.prog.stopKnobs == [])) = true := by kernel_rfl
theorem jf24 : (Tryz.prog.stopsHeard) = true := by kernel_rfl
theorem jf25 : (Tryz.prog.mayEnter) = true := by kernel_rfl
end Go.Proofs.YtbfhaabpfkopdaaGreatDoor
