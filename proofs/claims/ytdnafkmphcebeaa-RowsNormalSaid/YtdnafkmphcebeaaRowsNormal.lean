/- 'rayconelaw1.RowsNormal' answers true and leaves its argument as it was: for every list of ints that is handed in, with no condition. (The row of this statement, proved off the walk of the Go text.) -/
import Derived.Test.YtdnafkmphcebeaaRows
import Derived.Test.YtdnafkmphcebeaaKn
import Derived.ProofKit
import Derived.OpenShut
import Derived.ShutString
import Derived.ChangeOld
import Derived.Below
namespace Go.Proofs.Ytdnafkmphcebeaa
open Go.ChangeShapes Go.WideShapes Go.ChangeAt Go.RowKit
open Go.ChangeMaps (open_string shut_string)
set_option linter.unusedVariables false

theorem own : ownKnob Try.prog.godebug = none := by kernel_rfl
theorem laidOut : laidOutB Try.prog = true := by kernel_rfl

/-- A slice of ints that came in. -/
def IsRow (k : IntKind) (w : World) (a : Option Addr) (len cap : Nat) (zs : List Int) : Prop :=
  (a = none ∧ len = 0 ∧ cap = 0 ∧ zs = []) ∨
  ∃ x, a = some x ∧ len ≤ cap ∧ cap ≤ maxLen ∧ zs.length = cap ∧ (∀ i, i < zs.length → w.cell? (x.add i) = some (.int k (zs.getD i 0))) ∧ ∀ n ∈ zs, (Lit.int k n).wf = true

theorem IntsAt_of_IsRow {w : World} {a : Option Addr} {len cap : Nat} {zs : List Int} (h : IsRow .i64 w a len cap zs) : ∃ l : List Int, len = l.length ∧ IntsAt w a l ∧ len ≤ 9223372036854775807 := by
  rcases h with ⟨rfl, rfl, rfl, rfl⟩ | ⟨x, rfl, hl, hm, hz, hcell, hwz⟩
  · exact ⟨[], rfl, .inl rfl, by omega⟩
  · unfold maxLen at hm
    by_cases h0 : len = 0
    · subst h0; exact ⟨[], rfl, .inl rfl, by omega⟩
    · refine ⟨zs.take len, by simp; omega, .inr ?_, by omega⟩
      obtain ⟨b, off, spot⟩ := x
      have hc := hcell 0 (by omega)
      have hspot : spot = none := by simpa [Addr.add] using World.cell?_spot hc
      subst hspot
      have hb : b < w.heap.size := by
        have hc0 : w.cell? ⟨b, off, none⟩ = some (.int .i64 (zs.getD 0 0)) := by simpa [Addr.add] using hc
        exact World.block_lt_of_cell? w _ hc0
      refine ⟨b, off, rfl, hb, fun i hi => ?_⟩
      have hi' : i < len := by simp at hi; omega
      have h1 := hcell i (by omega)
      have e : (⟨b, off, none⟩ : Addr).add i = ⟨b, off + i, none⟩ := by
        unfold Addr.add; split
        · rename_i h0; subst h0; simp
        · rfl
      rw [e] at h1
      rw [h1]
      simp [hi', show i < zs.length by omega]

set_option maxHeartbeats 1000000 in
/-- The statement's walk: whatever ints are handed in, true. -/
theorem rowsNormal_true (a : Option Addr) (n c : Nat) (l : List Int) (w : World) (hA : n ≤ 400 → IntsAt w a l) (hl : n = l.length) (hn : n ≤ 9223372036854775807) :
    Calls Try.prog 3 #[.slice a n c] w fun e w' => e = .returned (.bool true) ∧ Below w.heap.size w w' := by
  have Hl := hide hl
  clear hl
  by_cases h400 : n ≤ 400
  · have hA := hA h400
    have hd : decide ((400 : Int) < (n : Int)) = false := decide_eq_false (by omega)
    cases hL : largeB l with
    | true =>
      have HL := hide hL
      clear hL
      go_enter Try.func3, Try.ntmps3
      go_wp2_with (go_at_call 4; refine (halves_true _).mono ?_; rintro e w1 ⟨rfl, hb1⟩)
      refine (large_as a n c l true _ (hA.below hb1) Hl HL (by omega)).mono ?_
      rintro e w2 ⟨rfl, hb2⟩
      go_wp2_with fail
      go_ret
      exact ⟨rfl, hb1.trans (hb2.mono hb1.size)⟩
    | false =>
      have hf : Fits l := fun x hx => by have := largeB_false hL x hx; omega
      have HL := hide hL
      clear hL
      go_enter Try.func3, Try.ntmps3
      go_wp2_with (go_at_call 4; refine (halves_true _).mono ?_; rintro e w1 ⟨rfl, hb1⟩)
      refine (large_as a n c l false _ (hA.below hb1) Hl HL (by omega)).mono ?_
      rintro e w2 ⟨rfl, hb2⟩
      have hA2 := (hA.below hb1).below hb2
      have hb12 := hb1.trans (hb2.mono hb1.size)
      clear hb1 hb2
      go_wp2_with fail
      refine (intsCopy_as a n c l _ hA2 Hl (by omega)).mono ?_
      rintro e w3 ⟨a3, c3, rfl, hA3, hb3⟩
      have hb13 := hb12.trans (hb3.mono hb12.size)
      go_wp2_with fail
      refine (normal_as a3 n c3 l _ hA3 Hl hf (by omega)).mono ?_
      rintro e w4 ⟨g4, rfl, hg4, hA4, hb4⟩
      have hb14 := hb13.trans (hb4.mono hb13.size)
      have hA5 := (hA2.below hb3).below hb4
      go_wp2_with fail
      refine (normalOf_as a n c l _ hA5 Hl hf (by omega)).mono ?_
      rintro e w5 ⟨a6, c6, rfl, hA6, hb5⟩
      have hb15 := hb14.trans (hb5.mono hb14.size)
      go_wp2_with fail
      refine (sameInts_any _ _ n _ n _ _ _ _ (hA4.below hb5) hA6 (by rw [List.length_map]; exact Hl.out) (by rw [List.length_map]; exact Hl.out) (by omega)).mono ?_
      rintro e w6 ⟨rfl, hb6⟩
      go_wp2_with fail
      go_ret
      exact ⟨by simp, hb15.trans (hb6.mono hb15.size)⟩
  · have hd : (400 : Int) < (n : Int) := by omega
    go_enter Try.func3, Try.ntmps3
    go_wp2_with (go_at_call 4; refine (halves_true _).mono ?_; rintro e w1 ⟨rfl, hb1⟩)
    go_ret
    exact ⟨rfl, hb1⟩

theorem rowsNormal_walk (a0 : Option Addr) (len0 cap0 : Nat) (z0 : List Int) (w : World) (w0 : IsRow .i64 w a0 len0 cap0 z0) :
    Calls Try.prog 3 #[.slice a0 len0 cap0] w fun e w' => e = .returned (.bool true) ∧ Below w.heap.size w w' := by
  obtain ⟨l, hl, hI, hc⟩ := IntsAt_of_IsRow w0
  exact rowsNormal_true a0 len0 cap0 l w (fun _ => hI) hl hc

set_option maxRecDepth 100000 in
theorem rowsNormal_lifted (os : Os) (started : os.Started) (H : Type) (enc : TypeId × Value → H) :
    ReturnsInHanded {} Try.checked os 3 .any (Rows.rowsNormalSpec.pre6 enc Try.prog Try.f3 Rows.rowsNormalRow.domain false) (Rows.rowsNormalSpec.post enc Try.prog Try.f3 false true false false) := by
  refine returnsInHanded_of_change (C := Try.checked) own started (by kernel_rfl) Try.func3
    (ChangeSpec.witness6 (enc := enc) (C := Try.checked) false ⟨#[], #[.slice none 0 0], []⟩ 8 (by kernel_rfl) (by kernel_rfl) (by kernel_rfl) (by kernel_rfl)) ?_
  intro W base args ds gs before hval0 hW hcnd _
  have hval : ∀ (j : Nat) t v, Try.f3.params[j]? = some t → args[j]? = some v → Value.okWide Try.prog W .any base t v := hval0
  have hW' := hW
  obtain ⟨p, q, hA0, hV, rfl, hfz, hnd⟩ := hW
  have hA : DataW.TrodAll enc Try.prog W 0 (fun _ => true) true Try.f3.params.toList args.toList ds p := hA0
  rw [Try.params3] at hA hval
  obtain ⟨v0, vs0, d0, ds0, p0, q0, hargs, rfl, rfl, h0, r0⟩ := trodAll_cons hA
  obtain ⟨rfl, rfl, rfl⟩ := trodAll_nil r0
  obtain rfl : args = #[v0] := by cases args; simp_all
  obtain ⟨rfl, rfl⟩ := trodVars_none hV
  obtain ⟨a0, len0, cap0, rfl⟩ := okWide_slice Try.underlying22 (hval 0 22 v0 rfl rfl)
  have k0 := h0
  have lt0 : ∀ x ∈ p0, x.block < W.heap.size := by obtain ⟨m, hm⟩ := k0; exact DataW.trod_lt m _ _ _ hm
  obtain ⟨z0, w0⟩ : ∃ zs, IsRow .i64 W a0 len0 cap0 zs := by
    obtain ⟨fuel, hf⟩ := h0
    rcases open_ints Try.underlying22 Try.underlying3 (by kernel_rfl) hf with ⟨hcs, _⟩ | ⟨x, l, c, zs, hcs, _, hl, hm, hz, _, hcell, hwz⟩
    · simp [Value.cells] at hcs
      obtain ⟨rfl, rfl, rfl⟩ := hcs
      exact ⟨[], .inl ⟨rfl, rfl, rfl, rfl⟩⟩
    · simp [Value.cells] at hcs
      obtain ⟨rfl, rfl, rfl⟩ := hcs
      exact ⟨zs, .inr ⟨_, rfl, hl, hm, by simpa using hz, hcell, hwz⟩⟩
  clear hA0 hval0
  refine (rowsNormal_walk a0 len0 cap0 z0 W w0).mono fun e W' ⟨he, bel⟩ => ?_
  subst he
  exact ⟨_, rfl, _, _, _, [], _, [], hW', trodAll_mk1 (shut_bool Try.underlying4 _), (trodAll_cons_mk (Below.trod laidOut (by kernel_rfl) (of_decide_eq_true (by kernel_rfl)) k0 bel lt0) trodAll_mk0), rfl, bel.frame _, fun h => by cases h⟩

theorem rowsNormal_over : Rows.rowsNormalRow.holds Try.pinned (OpenSpec.ofChange Rows.rowsNormalSpec) :=
  OpenClaim.holds_of_wide 3 Try.f3 rfl rfl rfl rfl rfl rfl rfl ⟨rfl, rfl, rfl, rfl, rfl⟩ rfl rfl rfl rfl rfl (by kernel_rfl) Try.func3 (by kernel_rfl)
    (of_decide_eq_true (by kernel_rfl)) (by unfold Func.isWrapper; first | (rw [if_pos (by decide +kernel)]; kernel_rfl) | (rw [if_neg (by decide +kernel)]; exact ⟨rfl, rfl⟩))
    (fun os started H enc _ => rowsNormal_lifted os started H enc)

theorem rowsNormal_holds : Rows.RowsNormalSaid := rowsNormal_over
#print axioms rowsNormal_holds
end Go.Proofs.Ytdnafkmphcebeaa
