/- The language: Read. -/
import Derived.Test.YtbfhaabpfkopdaaGreatDoorL7
import Derived.Defers
import Derived.Recover
namespace Go.Proofs.YtbfhaabpfkopdaaGreatDoor
open Go.RowKit
set_option linter.unusedVariables false

/-- A reader is made. -/
def NewR (a : Nat → Addr) (s : Bs) (w : World) (e : Ending) (w' : World) : Prop := ∃ w0 p r, e = .returned (.pointer (some ⟨p, 0, none⟩)) ∧ Rd w0 w' a p r s (wordAt s 0) ∧ Below w.heap.size w w' ∧ w.heap.size ≤ p
set_option maxRecDepth 20000 in
set_option maxHeartbeats 2000000 in
theorem newReader_any (a : Nat → Addr) (s : Bs) (w : World) (hS : Sents w a) (hL : LgW w) (hs : s.length ≤ 4000) : Calls Tryz.prog 65 #[.string (bs s)] w fun e w' => NewR a s w e w' := by
  have H1 := hide (wordRoles_any w)
  go_enter Tryz.func65, Tryz.ntmps65
  go_wp2_with fail
  refine H1.out.mono ?_
  rintro e w1 ⟨rfl, hr1, hb1⟩
  have hS1 := hS.below hb1
  have hL1 := hL.below hb1
  have hE1 : Env w1 a w.heap.size := ⟨hS1, hL1, hr1⟩
  have hb2 := (Below.refl w1.heap.size w1).alloc (Nat.le_refl _) (.cells #[.string (bs s), .map (some w.heap.size), .int .i64 0, .string ⟨#[]⟩, .int .i64 0] 226)
  have B2 := BoxN.new w1 226 [.string (bs s), .map (some w.heap.size), .int .i64 0, .string ⟨#[]⟩, .int .i64 0]
  go_upto_region 2 with fail
  change Code.wp _ _ _ _ (w1.alloc (.cells #[.string (bs s), .map (some w.heap.size), .int .i64 0, .string ⟨#[]⟩, .int .i64 0] 226))
  obtain ⟨W2, hW2⟩ : ∃ W, W = w1.alloc (.cells #[.string (bs s), .map (some w.heap.size), .int .i64 0, .string ⟨#[]⟩, .int .i64 0] 226) := ⟨_, rfl⟩
  have B2 : BoxN W2 w1.heap.size [.string (bs s), .map (some w.heap.size), .int .i64 0, .string ⟨#[]⟩, .int .i64 0] := by rw [hW2]; exact B2
  have hb2 : Below w1.heap.size w1 W2 := by rw [hW2]; exact hb2
  rw [← hW2]
  clear hW2
  have H3 := hide (wordFrom_any w.heap.size 0 s W2 (hr1.below hb2) (hL1.below hb2) (by omega) (by omega))
  have c1 := B2.cell 1 _ rfl
  go_wp2_with fail
  refine H3.out.mono ?_
  rintro e w3 ⟨rfl, hb3⟩
  have B3 := B2.bel hb3
  have k2 := B3.cell 2 _ rfl
  have k3 := B3.cell 3 _ rfl
  have k4 := B3.cell 4 _ rfl
  have f2 := B3.fr 2
  have f3 := B3.fr 3
  have f4 := B3.fr 4
  unfold wdV
  go_wp2_with fail
  go_ret
  have B4 := ((B3.put 2 (by simp) (.int .i64 (wordAt s 0).role)).put 3 (by simp) (.string (bs (wordAt s 0).text))).put 4 (by simp) (.int .i64 (wordAt s 0).pos)
  have hbA : Below w1.heap.size w1 w3 := hb2.trans (hb3.mono hb2.size)
  refine ⟨w1, w1.heap.size, w.heap.size, rfl, ⟨hE1, ((hbA.setCell (p := ⟨w1.heap.size, 2, none⟩) (Nat.le_refl _) _).setCell (p := ⟨w1.heap.size, 3, none⟩) (Nat.le_refl _) _).setCell (p := ⟨w1.heap.size, 4, none⟩) (Nat.le_refl _) _, Nat.le_refl _, B4.lt, B4.cell 0 _ rfl, B4.cell 1 _ rfl, B4.cell 2 _ rfl, B4.cell 3 _ rfl, B4.cell 4 _ rfl, B4.fr, wordAt_in s 0, hs⟩, ?_, hb1.size⟩
  exact (((hb1.trans (hbA.mono hb1.size)).setCell (p := ⟨w1.heap.size, 2, none⟩) hb1.size _).setCell (p := ⟨w1.heap.size, 3, none⟩) hb1.size _).setCell (p := ⟨w1.heap.size, 4, none⟩) hb1.size _

set_option maxRecDepth 20000 in
set_option maxHeartbeats 2000000 in
theorem clone_any (l : Bs) (hl : l.length ≤ 1000000) (w : World) : Calls Tryz.prog 66 #[.string (bs l)] w fun e w' => e = .returned (.string (bs l)) ∧ Below w.heap.size w w' := by
  have H1 := hide (clone_lite l hl w)
  go_enter Tryz.func66, Tryz.ntmps66
  go_wp2_with fail
  refine H1.out.mono ?_
  rintro e w1 ⟨rfl, hb1⟩
  go_wp2_with fail
  go_ret
  exact ⟨rfl, hb1⟩

theorem ta_none (w : World) : (Instr.typeAssert .nilIface 20 158 true).run Tryz.prog w = .ok (.tuple #[.pointer none, .bool false]) w := by kernel_rfl
theorem ta_some (v : Value) (w : World) : (Instr.typeAssert (.iface 158 v) 20 158 true).run Tryz.prog w = .ok (.tuple #[v, .bool true]) w := by kernel_rfl
/-- The deferred closure of a frame that returns: nothing is caught. -/
theorem read1_idle (p q : Addr) (w : World) : CallsD Tryz.prog 64 #[.pointer (some p), .pointer (some q)] .returning w fun e u' w' => e = .returned (.tuple #[]) ∧ u' = .returning ∧ w' = w := by
  refine callsD_of_wpS Tryz.func64 rfl fun c₀ cs hu => ?_
  have ta := ta_none
  apply wpS_seq
  apply wpS_region
  simp [wpOpsS, go_sem, recoverD, hu, Tryz.ntmps64, Exit.thenS, ta]
  apply wpS_seq
  apply wpS_region
  simp [wpOpsS, go_sem, Exit.thenS]
  refine wpS_cond (t := false) (by simp [Act.eval, Array.replicate]) ?_
  simp only [Bool.false_eq_true, if_false]
  refine wpS_of_wp (wp_skip ?_)
  cases c₀
  simp_all [bodyPostS, results, Tryz.results64]
set_option maxRecDepth 20000 in
/-- .. of a frame that panics, with a fault: it is caught, and told. -/
theorem read1_caught (p q N : Nat) (w : World) {vs : List Value} {ev : Value} (hp : BoxN w p vs) (hvs : ∃ u0 u1 u2 u3, vs = [u0, u1, u2, u3]) (hq : BoxN w q [ev]) (hne : p ≠ q) :
    CallsD Tryz.prog 64 #[.pointer (some ⟨p, 0, none⟩), .pointer (some ⟨q, 0, none⟩)] (.panicking [{ v := .iface 158 (.pointer (some ⟨N, 0, none⟩)), recovered := false }]) w fun e u' w' =>
      e = .returned (.tuple #[]) ∧ u' = .panicking [{ v := .iface 158 (.pointer (some ⟨N, 0, none⟩)), recovered := true }] ∧ w' = (putAll w p [(0, .slice none 0 0), (1, .slice none 0 0), (2, .slice none 0 0), (3, .slice none 0 0)]).setCell ⟨q, 0, none⟩ (.iface 158 (.pointer (some ⟨N, 0, none⟩))) := by
  obtain ⟨u0, u1, u2, u3, rfl⟩ := hvs
  have k0 := hp.cell 0 _ rfl
  have k1 := hp.cell 1 _ rfl
  have k2 := hp.cell 2 _ rfl
  have k3 := hp.cell 3 _ rfl
  have f0 := hp.fr 0
  have f1 := hp.fr 1
  have f2 := hp.fr 2
  have f3 := hp.fr 3
  have j0 := hq.cell 0 _ rfl
  have g0 := hq.fr 0
  refine callsD_of_wpS Tryz.func64 rfl fun c₀ cs hu => ?_
  have ta := ta_some
  apply wpS_seq
  apply wpS_region
  simp [wpOpsS, go_sem, recoverD, hu, Tryz.ntmps64, Exit.thenS, ta]
  apply wpS_seq
  apply wpS_region
  simp [wpOpsS, go_sem, Exit.thenS]
  refine wpS_cond (t := true) (by simp [Act.eval, Array.replicate]) ?_
  simp only [if_true]
  apply wpS_region
  simp [wpOpsS, go_sem, k0, k1, k2, k3, f0, f1, f2, f3, j0, g0, bodyPostS, results, Tryz.results64, putAll]

theorem PgV.keep {W W' : World} {ok ok' : Nat → Prop} {v : Value} {x : Pg} (h : PgV W ok v x) (hs : W.heap.size ≤ W'.heap.size) (hk : ∀ b, ok b → b < W.heap.size → W'.heap[b]? = W.heap[b]?) (ho : ∀ b, ok b → b < W.heap.size → ok' b) : PgV W' ok' v x := by
  obtain ⟨xv, cv, xa, ca, xp, cp, xm, cm, rfl, h1, h2, h3, h4⟩ := h
  exact ⟨xv, cv, xa, ca, xp, cp, xm, cm, rfl, h1.keep strVals_keeps hs hk ho, h2.keep arVals_keeps hs hk ho, h3.keep pcVals_keeps hs hk ho, h4.keep hs hk ho⟩
theorem Gr.belowN {p B : Nat} {w W W' : World} (h : Gr p W W') (hb : Below w.heap.size w W) (hp : B < p) (hB : w.heap.size ≤ B := by omega) : Below w.heap.size w W' :=
  ⟨h.os.trans hb.os, h.tape.trans hb.tape, h.output.trans hb.output, Nat.le_trans hb.size h.size, fun i hi => (h.block i (Nat.lt_of_lt_of_le hi hb.size) (fun e => by cases e; omega)).trans (hb.block i hi)⟩
/-- What Read answers. -/
def ReadP (a : Nat → Addr) (s : Bs) (w : World) (e : Ending) (w' : World) : Prop := Below w.heap.size w w' ∧ match readF s with
  | .ok x _ => ∃ v, e = .returned (.tuple #[v, .nilIface]) ∧ PgV w' (fun b => w.heap.size ≤ b) v x
  | .err c pos => ∃ N, e = .returned (.tuple #[(Value.agg #[.slice none 0 0, .slice none 0 0, .slice none 0 0, .slice none 0 0]), .iface 158 (.pointer (some ⟨N, 0, none⟩))]) ∧ FaultAt w' a N c pos ∧ N < w'.heap.size
  | .out => False
set_option maxRecDepth 20000 in
set_option maxHeartbeats 4000000 in
theorem read_any (a : Nat → Addr) (s : Bs) (w : World) (hS : Sents w a) (hL : LgW w) (hs : s.length ≤ 4000) : Calls Tryz.prog 28 #[.string (bs s)] w fun e w' => ReadP a s w e w' := by
  have hmf : ∀ (fn : Fn) (first cap : Array Value) (w : World), (Instr.makeFunc fn first cap).run Tryz.prog w = .ok (.func fn first cap) w := fun _ _ _ _ => rfl
  have esz : ((bs s).size : Int) = (s.length : Int) := by rw [bs_size]
  have hs' : ¬ (4000 : Int) < (s.length : Int) := by omega
  have hb0 : Below w.heap.size w ((w.alloc (Obj.cells #[.slice none 0 0, .slice none 0 0, .slice none 0 0, .slice none 0 0] 42)).alloc (Obj.cells #[.nilIface] 36)) := ((Below.refl _ _).alloc (Nat.le_refl _) _).alloc (by simp) _
  have Z0 : BoxN ((w.alloc (Obj.cells #[.slice none 0 0, .slice none 0 0, .slice none 0 0, .slice none 0 0] 42)).alloc (Obj.cells #[.nilIface] 36)) w.heap.size [.slice none 0 0, .slice none 0 0, .slice none 0 0, .slice none 0 0] := (BoxN.new w 42 [.slice none 0 0, .slice none 0 0, .slice none 0 0, .slice none 0 0]).bel ((Below.refl _ _).alloc (Nat.le_refl _) _)
  have E0 : BoxN ((w.alloc (Obj.cells #[.slice none 0 0, .slice none 0 0, .slice none 0 0, .slice none 0 0] 42)).alloc (Obj.cells #[.nilIface] 36)) (w.heap.size + 1) [.nilIface] := by have := BoxN.new (w.alloc (Obj.cells #[.slice none 0 0, .slice none 0 0, .slice none 0 0, .slice none 0 0] 42)) 36 [.nilIface]; rw [World.size_alloc] at this; exact this
  obtain ⟨W0, hW0⟩ : ∃ W, W = (w.alloc (Obj.cells #[.slice none 0 0, .slice none 0 0, .slice none 0 0, .slice none 0 0] 42)).alloc (Obj.cells #[.nilIface] 36) := ⟨_, rfl⟩
  have H1 := hide (clone_any s (by omega) W0)
  rw [← hW0] at hb0 Z0 E0
  have hS0 := hS.below hb0
  have hL0 := hL.below hb0
  have hne : Hid (readF s ≠ .out) := readF_ends hs
  go_enter_defers Tryz.func28, Tryz.ntmps28
  go_upto_region 1 with fail
  change Code.wp _ _ _ _ ((w.alloc (Obj.cells #[.slice none 0 0, .slice none 0 0, .slice none 0 0, .slice none 0 0] 42)).alloc (Obj.cells #[.nilIface] 36))
  rw [← hW0]
  clear hW0
  go_wp2_with fail
  refine H1.out.mono ?_
  rintro e w1 ⟨rfl, hb1⟩
  have H2 := hide (newReader_any a s w1 (hS0.below hb1) (hL0.below hb1) hs)
  go_wp2_with fail
  refine H2.out.mono ?_
  rintro e w2 ⟨w00, p, r, rfl, hR2, hb2, hp2⟩
  have H3 := hide (program_any w00 a p r 5000 5000 14 s (by omega) (by omega) (wordAt s 0) w2 hR2 hne.out)
  have hbA : Below w.heap.size w w2 := (hb0.trans (hb1.mono hb0.size)).trans (hb2.mono (hb0.trans (hb1.mono hb0.size)).size)
  have Z2 := (Z0.bel hb1).bel hb2
  have E2 := (E0.bel hb1).bel hb2
  have hpz : w.heap.size + 1 < p := by have := E0.lt; have := hb1.size; omega
  go_wp2_with fail
  refine H3.out.mono ?_
  intro e w3 hP
  have Hf : Hid (readF s = prgF s 5000 5000 14 (wordAt s 0)) := rfl
  cases e3 : prgF s 5000 5000 14 (wordAt s 0) with
  | out => exact absurd (by rw [Hf.out, e3]) hne.out
  | err c pos =>
    rw [e3] at hP Hf
    obtain ⟨hG3, N, rfl, hF, hltx⟩ := hP
    clear e3 H3 H2 H1
    have Z3 := Z2.gr hG3 (by omega)
    have E3 := E2.gr hG3 (by omega)
    go_wp2_with fail
    refine leaves_cons (f := 64) (args := #[.pointer (some ⟨w.heap.size, 0, none⟩), .pointer (some ⟨w.heap.size + 1, 0, none⟩)]) (by simp) (by simp [go_sem]) ?_
    refine (read1_caught w.heap.size (w.heap.size + 1) N w3 Z3 ⟨_, _, _, _, rfl⟩ E3 (by omega)).mono ?_
    rintro e u' w9 ⟨rfl, rfl, hw9⟩
    have Z8 : BoxN (putAll w3 w.heap.size [(0, .slice none 0 0), (1, .slice none 0 0), (2, .slice none 0 0), (3, .slice none 0 0)]) w.heap.size [.slice none 0 0, .slice none 0 0, .slice none 0 0, .slice none 0 0] := by
      have := (((Z3.put 0 (by simp) (.slice none 0 0)).put 1 (by simp) (.slice none 0 0)).put 2 (by simp) (.slice none 0 0)).put 3 (by simp) (.slice none 0 0)
      exact this
    have Z9 : BoxN w9 w.heap.size [.slice none 0 0, .slice none 0 0, .slice none 0 0, .slice none 0 0] := by rw [hw9]; exact Z8.other (q := ⟨w.heap.size + 1, 0, none⟩) (by show w.heap.size + 1 ≠ _; omega) _
    obtain ⟨pb1, pb2⟩ := putAll_block w.heap.size [(0, .slice none 0 0), (1, .slice none 0 0), (2, .slice none 0 0), (3, .slice none 0 0)] w3
    have E9 : BoxN w9 (w.heap.size + 1) [.iface 158 (.pointer (some ⟨N, 0, none⟩))] := by
      have E8 : BoxN (putAll w3 w.heap.size [(0, .slice none 0 0), (1, .slice none 0 0), (2, .slice none 0 0), (3, .slice none 0 0)]) (w.heap.size + 1) [.nilIface] := ((((E3.other (q := ⟨w.heap.size, 0, none⟩) (by show w.heap.size ≠ _; omega) _).other (q := ⟨w.heap.size, 1, none⟩) (by show w.heap.size ≠ _; omega) _).other (q := ⟨w.heap.size, 2, none⟩) (by show w.heap.size ≠ _; omega) _).other (q := ⟨w.heap.size, 3, none⟩) (by show w.heap.size ≠ _; omega) _)
      rw [hw9]; simpa using E8.put 0 (by simp) (.iface 158 (.pointer (some ⟨N, 0, none⟩)))
    have bl9 : ∀ b, b ≠ w.heap.size → b ≠ w.heap.size + 1 → w9.heap[b]? = w3.heap[b]? := fun b h1 h2 => by
      rw [hw9]; exact (Below.heap_setCell _ ⟨w.heap.size + 1, 0, none⟩ _ b (fun e => h2 e)).trans (pb2 b h1)
    have sz9 : w9.heap.size = w3.heap.size := by rw [hw9]; simpa [World.setCell] using pb1
    have hN0 : N ≠ w.heap.size := fun e => by
      have := hF.c0
      rw [e] at this
      have k := Z3.cell 0 _ rfl
      rw [this] at k; cases k
    have hN1 : N ≠ w.heap.size + 1 := fun e => by
      have := hF.c0
      rw [e] at this
      have k := E3.cell 0 _ rfl
      rw [this] at k; cases k
    have same : ∀ o, w9.cell? ⟨N, o, none⟩ = w3.cell? ⟨N, o, none⟩ := fun o => World.cell?_of_block (w := w3) (bl9 N hN0 hN1)
    have hbF : Below w.heap.size w w9 := by
      rw [hw9]
      have hb3 : Below w.heap.size w w3 := hG3.belowN hbA hpz
      exact (((((hb3.setCell (p := ⟨w.heap.size, 0, none⟩) (Nat.le_refl _) _).setCell (p := ⟨w.heap.size, 1, none⟩) (Nat.le_refl _) _).setCell (p := ⟨w.heap.size, 2, none⟩) (Nat.le_refl _) _).setCell (p := ⟨w.heap.size, 3, none⟩) (Nat.le_refl _) _).setCell (p := ⟨w.heap.size + 1, 0, none⟩) (Nat.le_succ _) _)
    have fin : ReadP a s w (.returned (.tuple #[(Value.agg #[.slice none 0 0, .slice none 0 0, .slice none 0 0, .slice none 0 0]), .iface 158 (.pointer (some ⟨N, 0, none⟩))])) w9 := by
      refine ⟨hbF, ?_⟩
      rw [Hf.out]
      exact ⟨N, rfl, ⟨(same 0).trans hF.c0, (same 1).trans hF.c1⟩, by omega⟩
    have k0 := Z9.cell 0 _ rfl
    have k1 := Z9.cell 1 _ rfl
    have k2 := Z9.cell 2 _ rfl
    have k3 := Z9.cell 3 _ rfl
    have j0 := E9.cell 0 _ rfl
    clear hw9 Z8 bl9 same
    simp [Leaves, settle, results, Tryz.results28, go_sem, k0, k1, k2, k3, j0]
    exact fin
  | ok x d3 =>
    rw [e3] at hP Hf
    obtain ⟨hG3, v3, rfl, hR3, hV3⟩ := hP
    clear e3 H3 H2 H1
    have Z3 := Z2.gr hG3 (by omega)
    have E3 := E2.gr hG3 (by omega)
    obtain ⟨xv, cv, xa, ca, xp, cp, xm, cm, rfl, h1, h2, h3, h4⟩ := hV3
    have k0 := Z3.cell 0 _ rfl
    have k1 := Z3.cell 1 _ rfl
    have k2 := Z3.cell 2 _ rfl
    have k3 := Z3.cell 3 _ rfl
    have f0 := Z3.fr 0
    have f1 := Z3.fr 1
    have f2 := Z3.fr 2
    have f3 := Z3.fr 3
    have j0 := E3.cell 0 _ rfl
    have g0 := E3.fr 0
    go_wp2_with fail
    refine leaves_cons (f := 64) (args := #[.pointer (some ⟨w.heap.size, 0, none⟩), .pointer (some ⟨w.heap.size + 1, 0, none⟩)]) (by simp) (by simp [go_sem]) ?_
    refine (read1_idle ⟨w.heap.size, 0, none⟩ ⟨w.heap.size + 1, 0, none⟩ _).mono ?_
    rintro e u' w9 ⟨rfl, rfl, hw9⟩
    have Z8 := (((Z3.put 0 (by simp) (.slice xv x.vars.length cv)).put 1 (by simp) (.slice xa x.arrays.length ca)).put 2 (by simp) (.slice xp x.procs.length cp)).put 3 (by simp) (.slice xm x.main.length cm)
    have Z9 : BoxN w9 w.heap.size [.slice xv x.vars.length cv, .slice xa x.arrays.length ca, .slice xp x.procs.length cp, .slice xm x.main.length cm] := by rw [hw9]; exact Z8.other (q := ⟨w.heap.size + 1, 0, none⟩) (by show w.heap.size + 1 ≠ _; omega) _
    have E9 : BoxN w9 (w.heap.size + 1) [.nilIface] := by
      have E8 := ((((E3.other (q := ⟨w.heap.size, 0, none⟩) (by show w.heap.size ≠ _; omega) (.slice xv x.vars.length cv)).other (q := ⟨w.heap.size, 1, none⟩) (by show w.heap.size ≠ _; omega) (.slice xa x.arrays.length ca)).other (q := ⟨w.heap.size, 2, none⟩) (by show w.heap.size ≠ _; omega) (.slice xp x.procs.length cp)).other (q := ⟨w.heap.size, 3, none⟩) (by show w.heap.size ≠ _; omega) (.slice xm x.main.length cm))
      rw [hw9]; simpa using E8.put 0 (by simp) .nilIface
    obtain ⟨pb1, pb2⟩ := putAll_block w.heap.size [(0, .slice xv x.vars.length cv), (1, .slice xa x.arrays.length ca), (2, .slice xp x.procs.length cp), (3, .slice xm x.main.length cm)] w3
    have bl9 : ∀ b, w2.heap.size ≤ b → b < w3.heap.size → w9.heap[b]? = w3.heap[b]? := fun b h1 _ => by
      have hz := E2.lt
      rw [hw9]; exact (Below.heap_setCell _ ⟨w.heap.size + 1, 0, none⟩ _ b (fun e => by have e : b = w.heap.size + 1 := e; omega)).trans (pb2 b (by omega))
    have sz9 : w9.heap.size = w3.heap.size := by rw [hw9]; simp [World.setCell]
    have hbF : Below w.heap.size w w9 := by
      rw [hw9]
      have hb3 : Below w.heap.size w w3 := hG3.belowN hbA hpz
      exact (((((hb3.setCell (p := ⟨w.heap.size, 0, none⟩) (Nat.le_refl _) _).setCell (p := ⟨w.heap.size, 1, none⟩) (Nat.le_refl _) _).setCell (p := ⟨w.heap.size, 2, none⟩) (Nat.le_refl _) _).setCell (p := ⟨w.heap.size, 3, none⟩) (Nat.le_refl _) _).setCell (p := ⟨w.heap.size + 1, 0, none⟩) (Nat.le_succ _) _)
    have sz2 := hbA.size
    have fin : ReadP a s w (.returned (.tuple #[.agg #[.slice xv x.vars.length cv, .slice xa x.arrays.length ca, .slice xp x.procs.length cp, .slice xm x.main.length cm], .nilIface])) w9 := by
      refine ⟨hbF, ?_⟩
      rw [Hf.out]
      exact ⟨_, rfl, PgV.keep (ok := fun b => w2.heap.size ≤ b) ⟨xv, cv, xa, ca, xp, cp, xm, cm, rfl, h1, h2, h3, h4⟩ (Nat.le_of_eq sz9.symm) bl9 (fun b q _ => by have : w2.heap.size ≤ b := q; show w.heap.size ≤ b; omega)⟩
    clear k0 k1 k2 k3 j0
    have k0 := Z9.cell 0 _ rfl
    have k1 := Z9.cell 1 _ rfl
    have k2 := Z9.cell 2 _ rfl
    have k3 := Z9.cell 3 _ rfl
    have j0 := E9.cell 0 _ rfl
    clear hw9 Z8 bl9
    simp [Leaves, settle, results, Tryz.results28, go_sem, k0, k1, k2, k3, j0]
    exact fin
end Go.Proofs.YtbfhaabpfkopdaaGreatDoor
