/- The language: textOf: a program written whole, or nothing. -/
import Derived.Test.YtbfhaabpfkopdaaGreatDoorVa
import Derived.Test.YtbfhaabpfkopdaaGreatDoorM2
import Derived.Lib.UnsafeStr
import Derived.Shelf.Strings.BuilderK
namespace Go.Proofs.YtbfhaabpfkopdaaGreatDoor
open Go.RowKit
set_option linter.unusedVariables false

set_option maxRecDepth 20000 in
set_option maxHeartbeats 2000000 in
/-- String of a writer that holds something. -/
theorem string_any (w0 : World) (q r : Nat) (st : Wst) (w : World) (h : Wr w0 w q r st) (h0 : st.1 ≠ []) : Calls Tryz.prog 114 #[.pointer (some ⟨q, 0, none⟩)] w fun e w' => e = .returned (.string (bs st.1)) ∧ Below w0.heap.size w w' := by
  obtain ⟨ad, v, hq, ha, hown, hne⟩ := h.blk
  have hl0 : st.1.length ≠ 0 := by simpa using h0
  have hl4 := h.len
  have hown' := hown
  obtain ⟨g, cap, cur, rfl, hbg, hg, hnc, hcm, hcs, htake⟩ : ∃ g cap cur, v = .slice (some ⟨g, 0, none⟩) st.1.length cap ∧ w0.heap.size ≤ g ∧ w.heap[g]? = some (.cells cur 5 (0, 0)) ∧ st.1.length ≤ cap ∧ cap ≤ maxLen ∧ cur.size = cap * 1 ∧ cur.toList.take (st.1.length * 1) = bc st.1 := by
    rcases hown'.2 with ⟨_, hz⟩ | ⟨g, cap, cur, hv, k1, k2, k3, k4, k5, k6⟩
    · exact absurd hz hl0
    · exact ⟨g, cap, cur, hv, k1, k2, k3, k4, k5, k6⟩
  have c1 : w.drew.cell? ⟨q, 1, none⟩ = some (.slice (some ⟨g, 0, none⟩) st.1.length cap) := by
    have : w.drew.heap[q]? = _ := hq
    rw [Lib.cell_of_heap this]; rfl
  have hSD : (Builtin.unsafeSliceData_ #[239] 292 #[.slice (some ⟨g, 0, none⟩) st.1.length cap]).run Tryz.prog w.drew = .ok (.pointer (some ⟨g, 0, none⟩)) w.drew :=
    Lib.run_unsafeSliceData_row _ _ _ _ _ _ (by omega)
  have hUS : (Builtin.unsafeString_ #[292, 3] 9 #[.pointer (some ⟨g, 0, none⟩), .int .i64 st.1.length]).run Tryz.prog w.drew = .ok (.string ⟨st.1.toArray⟩) (w.drew.freeze ⟨g, 0, none⟩ st.1.length) := by
    refine Lib.run_unsafeString_row w.drew 292 3 9 5 Tryz.underlying292 (by kernel_rfl) g cur.size (by have hg' : w.drew.heap[g]? = some (.cells cur 5 (0, 0)) := hg; simp [World.shape?, hg']) st.1 h0 (by omega) (by omega) ?_
    intro j x hx
    have hj := some_lt hx
    have hg' : w.drew.heap[g]? = some (.cells cur 5 (0, 0)) := hg
    rw [World.news_of_block hg' j (.int .u8 x.toNat)]
    have hb : (bc st.1)[j]? = some (.int .u8 x.toNat) := by simp [bc, hx]
    rw [← htake, List.getElem?_take] at hb
    split at hb
    · exact hb
    · cases hb
  have hbf : Below w0.heap.size w (w.drew.freeze ⟨g, 0, none⟩ st.1.length) := Lib.below_freeze (Below.drew (Below.refl w0.heap.size w)) (p := ⟨g, 0, none⟩) hbg _
  go_enter Tryz.func114, Tryz.ntmps114
  go_wp2_with fail
  go_region
  all_goals (go_wp2_with fail; go_ret; exact ⟨rfl, hbf⟩)

theorem tb_none (w : World) : (Instr.typeAssert .nilIface 20 235 true).run Tryz.prog w = .ok (.tuple #[.agg #[], .bool false]) w := by kernel_rfl
theorem tb_some (w : World) : (Instr.typeAssert noT 20 235 true).run Tryz.prog w = .ok (.tuple #[.agg #[], .bool true]) w := by kernel_rfl
/-- The deferred closure of a frame that returns: nothing is caught. -/
theorem textOf1_idle (p q : Addr) (w : World) : CallsD Tryz.prog 112 #[.pointer (some p), .pointer (some q)] .returning w fun e u' w' => e = .returned (.tuple #[]) ∧ u' = .returning ∧ w' = w.alloc (.cells #[] 235) := by
  refine callsD_of_wpS Tryz.func112 rfl fun c₀ cs hu => ?_
  have ta := tb_none
  apply wpS_seq
  apply wpS_region
  simp [wpOpsS, go_sem, recoverD, hu, Tryz.ntmps112, Exit.thenS, ta]
  apply wpS_seq
  apply wpS_region
  simp [wpOpsS, go_sem, Exit.thenS]
  refine wpS_cond (t := false) (by simp [Act.eval, Array.replicate]) ?_
  simp only [Bool.false_eq_true, if_false]
  refine wpS_of_wp (wp_skip ?_)
  cases c₀
  simp_all [bodyPostS, results, Tryz.results112]
set_option maxRecDepth 20000 in
/-- .. of a frame that panics: it is caught, and told. -/
theorem textOf1_caught (p q : Nat) (w : World) {u v : Value} (hp : BoxN w p [u]) (hq : BoxN w q [v]) (hne : p ≠ q) :
    CallsD Tryz.prog 112 #[.pointer (some ⟨p, 0, none⟩), .pointer (some ⟨q, 0, none⟩)] (.panicking [{ v := noT, recovered := false }]) w fun e u' w' =>
      e = .returned (.tuple #[]) ∧ u' = .panicking [{ v := noT, recovered := true }] ∧ w' = ((w.alloc (.cells #[] 235)).setCell ⟨p, 0, none⟩ (.string ⟨#[]⟩)).setCell ⟨q, 0, none⟩ (.bool false) := by
  have hb := (Below.refl w.heap.size w).alloc (Nat.le_refl _) (.cells #[] 235)
  have k0 := (hp.bel hb).cell 0 _ rfl
  have f0 := (hp.bel hb).fr 0
  have j0 := (hq.bel hb).cell 0 _ rfl
  have g0 := (hq.bel hb).fr 0
  refine callsD_of_wpS Tryz.func112 rfl fun c₀ cs hu => ?_
  have ta := tb_some
  apply wpS_seq
  apply wpS_region
  simp [wpOpsS, go_sem, recoverD, hu, Tryz.ntmps112, Exit.thenS, ta]
  apply wpS_seq
  apply wpS_region
  simp [wpOpsS, go_sem, Exit.thenS]
  refine wpS_cond (t := true) (by simp [Act.eval, Array.replicate]) ?_
  simp only [if_true]
  apply wpS_region
  simp [wpOpsS, go_sem, k0, f0, j0, g0, bodyPostS, results, Tryz.results112]
end Go.Proofs.YtbfhaabpfkopdaaGreatDoor

/- The language: textOf: a program written whole, or nothing. -/
namespace Go.Proofs.YtbfhaabpfkopdaaGreatDoor
open Go.RowKit
set_option linter.unusedVariables false

def textV (x : Option Bs) : Value := match x with
  | some t => .tuple #[.string (bs t), .bool true]
  | none => .tuple #[.string ⟨#[]⟩, .bool false]
theorem writeF_ne {p : Pg} {st : Wst} (h : pgW p ([], 0) = some st) : st.1 ≠ [] := by
  unfold pgW at h
  obtain ⟨s1, _, h⟩ := some_bind h
  obtain ⟨s2, _, h⟩ := some_bind h
  obtain ⟨s3, _, h⟩ := some_bind h
  obtain ⟨s4, _, h⟩ := some_bind h
  obtain ⟨s5, _, h⟩ := some_bind h
  have h : (if 4000 < s5.1.length + 2 then none else some (s5.1 ++ [125, 10], s5.2)) = some st := h
  split at h
  · cases h
  · cases h; simp
set_option maxRecDepth 20000 in
set_option maxHeartbeats 4000000 in
theorem textOf_any (p : Pg) (v : Value) (w : World) (hL : LgW w) (hs : PgSm p) (hV : PgV w Any v p) : Calls Tryz.prog 68 #[v] w fun e w' => e = .returned (textV (writeF p)) ∧ Below w.heap.size w w' := by
  have hmf : ∀ (fn : Fn) (first cap : Array Value) (w : World), (Instr.makeFunc fn first cap).run Tryz.prog w = .ok (.func fn first cap) w := fun _ _ _ _ => rfl
  obtain ⟨xv, cv, xa, ca, xp, cp, xm, cm, rfl, hv, ha, hp, hm⟩ := hV
  have hb0 : Below w.heap.size w (((w.alloc (Obj.cells #[.slice xv p.vars.length cv, .slice xa p.arrays.length ca, .slice xp p.procs.length cp, .slice xm p.main.length cm] 42)).alloc (Obj.cells #[.string ⟨#[]⟩] 9)).alloc (Obj.cells #[.bool false] 4)) := (((Below.refl _ _).alloc (Nat.le_refl _) _).alloc (by simp) _).alloc (by simp; omega) _
  have G0 : BoxN (((w.alloc (Obj.cells #[.slice xv p.vars.length cv, .slice xa p.arrays.length ca, .slice xp p.procs.length cp, .slice xm p.main.length cm] 42)).alloc (Obj.cells #[.string ⟨#[]⟩] 9)).alloc (Obj.cells #[.bool false] 4)) w.heap.size [.slice xv p.vars.length cv, .slice xa p.arrays.length ca, .slice xp p.procs.length cp, .slice xm p.main.length cm] := (BoxN.new w 42 [.slice xv p.vars.length cv, .slice xa p.arrays.length ca, .slice xp p.procs.length cp, .slice xm p.main.length cm]).bel (((Below.refl _ _).alloc (Nat.le_refl _) _).alloc (by simp) _)
  have S0 : BoxN (((w.alloc (Obj.cells #[.slice xv p.vars.length cv, .slice xa p.arrays.length ca, .slice xp p.procs.length cp, .slice xm p.main.length cm] 42)).alloc (Obj.cells #[.string ⟨#[]⟩] 9)).alloc (Obj.cells #[.bool false] 4)) (w.heap.size + 1) [.string ⟨#[]⟩] := by
    have := (BoxN.new (w.alloc (Obj.cells #[.slice xv p.vars.length cv, .slice xa p.arrays.length ca, .slice xp p.procs.length cp, .slice xm p.main.length cm] 42)) 9 [.string ⟨#[]⟩]).bel ((Below.refl _ _).alloc (Nat.le_refl _) (Obj.cells #[.bool false] 4)); rw [World.size_alloc] at this; exact this
  have T0 : BoxN (((w.alloc (Obj.cells #[.slice xv p.vars.length cv, .slice xa p.arrays.length ca, .slice xp p.procs.length cp, .slice xm p.main.length cm] 42)).alloc (Obj.cells #[.string ⟨#[]⟩] 9)).alloc (Obj.cells #[.bool false] 4)) (w.heap.size + 1 + 1) [.bool false] := by
    have := BoxN.new ((w.alloc (Obj.cells #[.slice xv p.vars.length cv, .slice xa p.arrays.length ca, .slice xp p.procs.length cp, .slice xm p.main.length cm] 42)).alloc (Obj.cells #[.string ⟨#[]⟩] 9)) 4 [.bool false]; rw [World.size_alloc, World.size_alloc] at this; exact this
  obtain ⟨W0, hW0⟩ : ∃ W, W = ((w.alloc (Obj.cells #[.slice xv p.vars.length cv, .slice xa p.arrays.length ca, .slice xp p.procs.length cp, .slice xm p.main.length cm] 42)).alloc (Obj.cells #[.string ⟨#[]⟩] 9)).alloc (Obj.cells #[.bool false] 4) := ⟨_, rfl⟩
  rw [← hW0] at hb0 G0 S0 T0
  have hL0 := hL.below hb0
  have H1 := hide (wordRoles_any W0)
  go_enter_defers Tryz.func68, Tryz.ntmps68
  go_upto_region 1 with fail
  change Code.wp _ _ _ _ (((w.alloc (Obj.cells #[.slice xv p.vars.length cv, .slice xa p.arrays.length ca, .slice xp p.procs.length cp, .slice xm p.main.length cm] 42)).alloc (Obj.cells #[.string ⟨#[]⟩] 9)).alloc (Obj.cells #[.bool false] 4))
  rw [← hW0]
  clear hW0
  obtain ⟨g, hg⟩ : ∃ g, g = w.heap.size := ⟨_, rfl⟩
  have hg1 : w.heap.size ≤ g := by omega
  have hg2 : g ≤ w.heap.size := by omega
  rw [← hg] at G0 S0 T0 hb0 ⊢
  clear hg
  go_wp2_with fail
  refine H1.out.mono ?_
  rintro e w1 ⟨rfl, hr1, hb1⟩
  have hbw1 := hb0.trans (hb1.mono (by have := G0.lt; omega))
  have kp : ∀ b, b < w.heap.size → w1.heap[b]? = w.heap[b]? := fun b hb => hbw1.block b (by omega)
  have szw := hbw1.size
  have hv1 : RowAt strVals 1 w1 Any xv p.vars := hv.keep strVals_keeps szw (fun b _ hb => kp b hb) (fun _ _ _ => trivial)
  have ha1 : RowAt arVals 2 w1 Any xa p.arrays := ha.keep arVals_keeps szw (fun b _ hb => kp b hb) (fun _ _ _ => trivial)
  have hp1 : RowAt pcVals 7 w1 Any xp p.procs := hp.keep pcVals_keeps szw (fun b _ hb => kp b hb) (fun _ _ _ => trivial)
  have hm1 : StmsAt w1 Any xm p.main := hm.keep szw (fun b _ hb => kp b hb) (fun _ _ _ => trivial)
  clear hv ha hp hm kp
  have hL1 := hL0.below hb1
  have hb2 := (Below.refl w1.heap.size w1).alloc (Nat.le_refl _) (Obj.cells #[.pointer none, .slice none 0 0, .map (some W0.heap.size), .int .i64 0] 243)
  have hq2 : (w1.alloc (Obj.cells #[.pointer none, .slice none 0 0, .map (some W0.heap.size), .int .i64 0] 243)).heap[w1.heap.size]? = some (.cells #[.pointer none, .slice none 0 0, .map (some W0.heap.size), .int .i64 0] 243 (0, 0)) := heap_alloc_new w1 _
  have hW2 : Wr w1 (w1.alloc (Obj.cells #[.pointer none, .slice none 0 0, .map (some W0.heap.size), .int .i64 0] 243)) w1.heap.size W0.heap.size ([], 0) := ⟨hr1, hL1, hb2, Nat.le_refl _, ⟨.pointer none, .slice none 0 0, hq2, .inl rfl, World.ownsRow_nil _ _ _ _, fun e => by cases e⟩, by simp, by simp⟩
  clear hq2
  obtain ⟨W2, hW2e⟩ : ∃ W, W = w1.alloc (Obj.cells #[.pointer none, .slice none 0 0, .map (some W0.heap.size), .int .i64 0] 243) := ⟨_, rfl⟩
  rw [← hW2e] at hW2 hb2
  go_upto_region 3 with fail
  change Code.wp _ _ _ _ (w1.alloc (Obj.cells #[.pointer none, .slice none 0 0, .map (some W0.heap.size), .int .i64 0] 243))
  rw [← hW2e]
  clear hW2e H1
  have G2 := (G0.bel hb1).bel hb2
  have hbw2 := hbw1.trans (hb2.mono (by have := (G0.bel hb1).lt; omega))
  have q0 := G2.cell 0 _ rfl
  have q1 := G2.cell 1 _ rfl
  have q2 := G2.cell 2 _ rfl
  have q3 := G2.cell 3 _ rfl
  have H3 := hide (programw_any w1 w1.heap.size W0.heap.size W2 p ([], 0) xv xa xp xm _ _ _ cv ca cp cm hW2 hs rfl rfl rfl hv1 ha1 hp1 hm1)
  have S1 := S0.bel hb1
  have T1 := T0.bel hb1
  have gq : g < w1.heap.size ∧ g + 1 < w1.heap.size ∧ g + 1 + 1 < w1.heap.size := by have := (G0.bel hb1).lt; have := S1.lt; have := T1.lt; omega
  go_wp2_with fail
  refine H3.out.mono ?_
  intro e w3 hP
  have Hf : Hid (writeF p = (pgW p ([], 0)).map Prod.fst) := rfl
  cases e3 : pgW p ([], 0) with
  | none =>
    rw [e3] at hP Hf
    obtain ⟨hF3, rfl, hb3⟩ := hP
    have Hf : Hid (writeF p = none) := Hf.out
    clear H3 q0 q1 q2 q3 hW2
    have S3 := S1.bel hb3
    have T3 := T1.bel hb3
    have hbw3 := hbw1.trans (hb3.mono (by omega))
    go_wp2_with fail
    refine leaves_cons (f := 112) (args := #[.pointer (some ⟨g + 1, 0, none⟩), .pointer (some ⟨g + 1 + 1, 0, none⟩)]) (by simp) (by simp [go_sem]) ?_
    refine (textOf1_caught (g + 1) (g + 1 + 1) w3 S3 T3 (by omega)).mono ?_
    rintro e u' w9 ⟨rfl, rfl, hw9⟩
    have hbA := (Below.refl w3.heap.size w3).alloc (Nat.le_refl _) (.cells #[] 235)
    have S9 : BoxN w9 (g + 1) [.string ⟨#[]⟩] := by
      rw [hw9]
      have := ((S3.bel hbA).put 0 (by simp) (.string ⟨#[]⟩)).other (q := ⟨g + 1 + 1, 0, none⟩) (by show g + 1 + 1 ≠ _; omega) (.bool false)
      simpa using this
    have T9 : BoxN w9 (g + 1 + 1) [.bool false] := by
      rw [hw9]
      have := ((T3.bel hbA).other (q := ⟨g + 1, 0, none⟩) (by show g + 1 ≠ _; omega) (.string ⟨#[]⟩)).put 0 (by simp) (.bool false)
      simpa using this
    have hbF : Below g w w9 := by
      rw [hw9]
      exact ((hbw3.trans (hbA.mono (by have := hbw3.size; omega))).setCell (p := ⟨g + 1, 0, none⟩) (by show g ≤ g + 1; omega) _).setCell (p := ⟨g + 1 + 1, 0, none⟩) (by show g ≤ g + 1 + 1; omega) _
    have j0 := S9.cell 0 _ rfl
    have k0 := T9.cell 0 _ rfl
    clear hw9
    simp [Leaves, settle, results, Tryz.results68, go_sem, j0, k0]
    refine ⟨?_, hbF.mono hg1⟩
    rw [Hf.out]; rfl
  | some st =>
    rw [e3] at hP Hf
    obtain ⟨hF3, rfl, hW3⟩ := hP
    have Hf : Hid (writeF p = some st.1) := Hf.out
    clear H3 q0 q1 q2 q3 hW2
    have hne := writeF_ne e3
    have H4 := hide (string_any w1 w1.heap.size W0.heap.size st w3 hW3 hne)
    have hb3 := hW3.bel
    obtain ⟨qq, hqq⟩ : ∃ z, Hid (z = w1.heap.size) := ⟨_, rfl⟩
    go_wp2_with fail
    refine H4.out.mono ?_
    rintro e w4 ⟨rfl, hb4⟩
    have hb4 := hb3.trans hb4
    have S4 := S1.bel hb4
    have T4 := T1.bel hb4
    have hbw4 := hbw1.trans (hb4.mono (by omega))
    have k0 := S4.cell 0 _ rfl
    have f0 := S4.fr 0
    have j0 := T4.cell 0 _ rfl
    have g0 := T4.fr 0
    go_wp2_with fail
    refine leaves_cons (f := 112) (args := #[.pointer (some ⟨g + 1, 0, none⟩), .pointer (some ⟨g + 1 + 1, 0, none⟩)]) (by simp) (by simp [go_sem]) ?_
    refine (textOf1_idle ⟨g + 1, 0, none⟩ ⟨g + 1 + 1, 0, none⟩ _).mono ?_
    rintro e u' w9 ⟨rfl, rfl, hw9⟩
    have S8 := ((S4.put 0 (by simp) (.string (bs st.1))).other (q := ⟨g + 1 + 1, 0, none⟩) (by show g + 1 + 1 ≠ _; omega) (.bool true))
    have T8 := ((T4.other (q := ⟨g + 1, 0, none⟩) (by show g + 1 ≠ _; omega) (.string (bs st.1))).put 0 (by simp) (.bool true))
    have hb8 := (hbw4.setCell (p := ⟨g + 1, 0, none⟩) (by show g ≤ g + 1; omega) (.string (bs st.1))).setCell (p := ⟨g + 1 + 1, 0, none⟩) (by show g ≤ g + 1 + 1; omega) (.bool true)
    have S9 : BoxN w9 (g + 1) [.string (bs st.1)] := by rw [hw9]; simpa using S8.bel ((Below.refl _ _).alloc (Nat.le_refl _) _)
    have T9 : BoxN w9 (g + 1 + 1) [.bool true] := by rw [hw9]; simpa using T8.bel ((Below.refl _ _).alloc (Nat.le_refl _) _)
    have hbF : Below g w w9 := by rw [hw9]; exact hb8.alloc (by have := hb8.size; omega) _
    clear k0 j0 f0 g0
    have k0 := S9.cell 0 _ rfl
    have j0 := T9.cell 0 _ rfl
    clear hw9 S8 T8 hb8
    simp [Leaves, settle, results, Tryz.results68, go_sem, k0, j0]
    refine ⟨?_, hbF.mono hg1⟩
    rw [Hf.out]; rfl
end Go.Proofs.YtbfhaabpfkopdaaGreatDoor
