/- The language: an array read. -/
import Derived.Test.YtbfhaabpfkopdaaGreatDoorL3
namespace Go.Proofs.YtbfhaabpfkopdaaGreatDoor
open Go.RowKit
set_option linter.unusedVariables false

/-- Two words wanted; the row of them is made just ahead. -/
theorem want2 (w0 : World) (a : Nat → Addr) (p r : Nat) (s t u : Bs) (d : Wd) (W : World) (h : Rd w0 W a p r s d) :
    Calls Tryz.prog 107 #[.pointer (some ⟨p, 0, none⟩), .slice (some ⟨W.heap.size, 0, none⟩) 2 2] (W.alloc (.cells #[.string (bs t), .string (bs u)] 9)) fun e W' => RPost w0 a p r s (wantL s [t, u] d) (fun _ v _ => v = .tuple #[]) W e W' := by
  have hlt := h.lt
  have hS : StrsAt (W.alloc (.cells #[.string (bs t), .string (bs u)] 9)) p W.heap.size [t, u] := ⟨by omega, by simp, fun i x hi => by
    rcases i with _ | _ | i
    · cases hi; simp
    · cases hi; simp
    · cases hi⟩
  have HW := want_any w0 a p r W.heap.size 2 2 s [t, u] d _ (h.alloc (.cells #[.string (bs t), .string (bs u)] 9)) hS rfl (by omega)
  refine HW.mono ?_
  intro e W' hP
  have hG0 : Gr p W (W.alloc (.cells #[.string (bs t), .string (bs u)] 9)) := (Gr.refl _ _).alloc _
  cases e1 : wantL s [t, u] d with
  | out => rw [e1] at hP; exact ⟨hG0.trans hP.1, trivial⟩
  | err c pos =>
    rw [e1] at hP
    obtain ⟨hG, hP⟩ := hP
    exact ⟨hG0.trans hG, hP⟩
  | ok x d1 =>
    rw [e1] at hP
    obtain ⟨hG, hP⟩ := hP
    exact ⟨hG0.trans hG, hP⟩
theorem wantL_ne (s : Bs) : ∀ (l : List Bs) (d : Wd), wantL s l d ≠ .out
  | [], d => fun e => by cases e
  | t :: l, d => by
    show (wantW s t d).bind _ ≠ .out
    unfold wantW
    split
    · exact wantL_ne s l _
    · intro e; cases e
theorem wantR_ne (s : Bs) (q : Int) (d : Wd) : wantR s q d ≠ .out := by
  unfold wantR; split <;> (intro e; cases e)
theorem wantW_ne (s t : Bs) (d : Wd) : wantW s t d ≠ .out := by
  unfold wantW; split <;> (intro e; cases e)
theorem numF_ne (s : Bs) (d : Wd) : numF s d ≠ .out := by
  unfold numF wantR; split <;> (intro e; cases e)

theorem number_num (w0 : World) (a : Nat → Addr) (p r : Nat) (s : Bs) (d : Wd) (w : World) (h : Rd w0 w a p r s d) :
    Calls Tryz.prog 162 #[.pointer (some ⟨p, 0, none⟩)] w fun e w' => RPost w0 a p r s (numF s d) (fun _ v n => v = .int .i64 n) w e w' := number_any w0 a p r s d w h
/-- An array that is being read: the result's box rb, the box qb. -/
structure AB (w0 w W : World) (a : Nat → Addr) (p r : Nat) (s : Bs) (d : Wd) (rb qb : Nat) (nm : Bs) (n : Int) : Prop where
  hp : p < w.heap.size
  hR : Rd w0 W a p r s d
  hG : Gr p w W
  hrb : w.heap.size ≤ rb
  hqb : w.heap.size ≤ qb
  hne : rb ≠ qb
  Z : BoxN W rb [.string ⟨#[]⟩, .int .i64 0]
  B : BoxN W qb [.string (bs nm), .int .i64 n]
theorem AB.call {w0 w W W' : World} {a : Nat → Addr} {p r : Nat} {s : Bs} {d d' : Wd} {rb qb : Nat} {nm : Bs} {n : Int} (h : AB w0 w W a p r s d rb qb nm n) (hg : Gr p W W') (hR : Rd w0 W' a p r s d') : AB w0 w W' a p r s d' rb qb nm n := by
  have h1 := h.hp
  have h2 := h.hrb
  have h3 := h.hqb
  exact ⟨h.hp, hR, h.hG.trans hg, h2, h3, h.hne, h.Z.gr hg (by omega), h.B.gr hg (by omega)⟩
theorem AB.set {w0 w W : World} {a : Nat → Addr} {p r : Nat} {s : Bs} {d : Wd} {rb qb : Nat} {nm nm' : Bs} {n n' : Int} (h : AB w0 w W a p r s d rb qb nm n) (j : Nat) (v : Value) (hj : j < 2) (e : [Value.string (bs nm), .int .i64 n].set j v = [.string (bs nm'), .int .i64 n']) : AB w0 w (W.setCell ⟨qb, j, none⟩ v) a p r s d rb qb nm' n' := by
  have h1 := h.hp
  have h2 := h.hrb
  have h3 := h.hqb
  exact ⟨h.hp, h.hR.setO (q := ⟨qb, j, none⟩) (by show p < qb; omega) v, h.hG.setN (q := ⟨qb, j, none⟩) h3 v, h2, h3, h.hne, h.Z.other (q := ⟨qb, j, none⟩) (fun k => h.hne k.symm) v, by have := h.B.put j (by simpa using hj) v; rw [e] at this; exact this⟩
/-- An array as a value. -/
def ArV (v : Value) (x : Ar) : Prop := v = .agg #[.string (bs x.name), .int .i64 x.size]

set_option maxRecDepth 20000 in
set_option maxHeartbeats 4000000 in
theorem array_any (w0 : World) (a : Nat → Addr) (p r : Nat) (s : Bs) (d : Wd) (w : World) (h : Rd w0 w a p r s d) :
    Calls Tryz.prog 108 #[.pointer (some ⟨p, 0, none⟩)] w fun e w' => RPost w0 a p r s (arrF s d) (fun _ v x => ArV v x) w e w' := by
  obtain ⟨res, hres⟩ : ∃ res, res = arrF s d := ⟨_, rfl⟩
  have He : Hid (res = (wantR s 2 d).bind fun nm d => (wantW s [91] d).bind fun _ d => (numF s d).bind fun n d => (wantL s [[93], [59]] d).bind fun _ d => .ok ⟨nm, n⟩ d) := hres
  rw [← hres]
  clear hres
  have hpw := h.lt
  have S : AB w0 w ((w.alloc (Obj.cells #[.string ⟨#[]⟩, .int .i64 0] 119)).alloc (Obj.cells #[.string ⟨#[]⟩, .int .i64 0] 119)) a p r s d w.heap.size (w.heap.size + 1) [] 0 := by
    have hb := (Below.refl (w.alloc (Obj.cells #[.string ⟨#[]⟩, .int .i64 0] 119)).heap.size (w.alloc (Obj.cells #[.string ⟨#[]⟩, .int .i64 0] 119))).alloc (Nat.le_refl _) (Obj.cells #[.string ⟨#[]⟩, .int .i64 0] 119)
    have Z0 : BoxN (w.alloc (Obj.cells #[.string ⟨#[]⟩, .int .i64 0] 119)) w.heap.size [.string ⟨#[]⟩, .int .i64 0] := BoxN.new w 119 [.string ⟨#[]⟩, .int .i64 0]
    have Z1 := BoxN.new (w.alloc (Obj.cells #[.string ⟨#[]⟩, .int .i64 0] 119)) 119 [.string ⟨#[]⟩, .int .i64 0]
    have e1 : (w.alloc (Obj.cells #[.string ⟨#[]⟩, .int .i64 0] 119)).heap.size = w.heap.size + 1 := by simp
    rw [e1] at Z1
    exact ⟨hpw, (h.alloc _).alloc _, ((Gr.refl _ _).alloc _).alloc _, Nat.le_refl _, by omega, by omega, Z0.bel hb, Z1⟩
  go_enter Tryz.func108, Tryz.ntmps108
  go_upto_region 2 with fail
  obtain ⟨W0, hW0⟩ : ∃ W, W = (w.alloc (Obj.cells #[.string ⟨#[]⟩, .int .i64 0] 119)).alloc (Obj.cells #[.string ⟨#[]⟩, .int .i64 0] 119) := ⟨_, rfl⟩
  obtain ⟨qb, hqb⟩ : ∃ q, q = w.heap.size + 1 := ⟨_, rfl⟩
  rw [← hW0, ← hqb] at S
  change Code.wp _ _ _ _ ((w.alloc (Obj.cells #[.string ⟨#[]⟩, .int .i64 0] 119)).alloc (Obj.cells #[.string ⟨#[]⟩, .int .i64 0] 119))
  rw [← hW0, ← hqb]
  have hrq : Hid (w.heap.size < qb) := by show _ < _; omega
  clear hW0 hqb
  have H1 := hide (name_any w0 a p r s d W0 S.hR)
  go_wp2_with fail
  refine H1.out.mono ?_
  intro e w1 hP
  cases e1 : wantR s 2 d with
  | out => exact absurd e1 (wantR_ne _ _ _)
  | err c pos =>
    rw [e1] at hP He
    obtain ⟨hGx, N, rfl, hF, hltx⟩ := hP
    go_wp2_with fail
    refine ⟨rfl, ?_⟩
    rw [He.out]
    exact ⟨S.hG.trans hGx, N, rfl, hF, hltx⟩
  | ok y1 d1 =>
    rw [e1] at hP He
    obtain ⟨hG1, v1, rfl, hR1, rfl⟩ := hP
    clear e1 H1
    have T1 := S.call hG1 hR1
    have He : Hid (res = (wantW s [91] d1).bind fun _ d => (numF s d).bind fun n d => (wantL s [[93], [59]] d).bind fun _ d => .ok ⟨y1, n⟩ d) := He.out
    have k1 := T1.B.cell 0 _ rfl
    have f1 := T1.B.fr 0
    have S1 := T1.set 0 (.string (bs y1)) (by omega) rfl
    obtain ⟨W1, hW1⟩ : ∃ W, W = w1.setCell ⟨qb, 0, none⟩ (.string (bs y1)) := ⟨_, rfl⟩
    rw [← hW1] at S1
    go_upto_region 3 with fail
    change Code.wp _ _ _ _ (w1.setCell ⟨qb, 0, none⟩ (.string (bs y1)))
    rw [← hW1]
    clear hW1 k1 f1 T1
    have H2 := hide (want1 w0 a p r s [91] d1 W1 S1.hR)
    go_wp2_with fail
    refine H2.out.mono ?_
    intro e w2 hP
    cases e2 : wantW s [91] d1 with
    | out => exact absurd e2 (wantW_ne _ _ _)
    | err c pos =>
      rw [e2] at hP He
      obtain ⟨hGx, N, rfl, hF, hltx⟩ := hP
      go_wp2_with fail
      refine ⟨rfl, ?_⟩
      rw [He.out]
      exact ⟨S1.hG.trans hGx, N, rfl, hF, hltx⟩
    | ok y2 d2 =>
      rw [e2] at hP He
      obtain ⟨hG2, v2, rfl, hR2, rfl⟩ := hP
      clear e2 H2
      have T2 := S1.call hG2 hR2
      have He : Hid (res = (numF s d2).bind fun n d => (wantL s [[93], [59]] d).bind fun _ d => .ok ⟨y1, n⟩ d) := He.out
      have H3 := hide (number_num w0 a p r s d2 w2 T2.hR)
      go_wp2_with fail
      refine H3.out.mono ?_
      intro e w3 hP
      cases e3 : numF s d2 with
      | out => exact absurd e3 (numF_ne _ _)
      | err c pos =>
        rw [e3] at hP He
        obtain ⟨hGx, N, rfl, hF, hltx⟩ := hP
        go_wp2_with fail
        refine ⟨rfl, ?_⟩
        rw [He.out]
        exact ⟨T2.hG.trans hGx, N, rfl, hF, hltx⟩
      | ok y3 d3 =>
        rw [e3] at hP He
        obtain ⟨hG3, v3, rfl, hR3, rfl⟩ := hP
        clear e3 H3
        have T3 := T2.call hG3 hR3
        have He : Hid (res = (wantL s [[93], [59]] d3).bind fun _ d => .ok ⟨y1, y3⟩ d) := He.out
        have k3 := T3.B.cell 1 _ rfl
        have f3 := T3.B.fr 1
        have S3 := T3.set 1 (.int .i64 y3) (by omega) rfl
        obtain ⟨W3, hW3⟩ : ∃ W, W = w3.setCell ⟨qb, 1, none⟩ (.int .i64 y3) := ⟨_, rfl⟩
        rw [← hW3] at S3
        go_upto_region 5 with fail
        change Code.wp _ _ _ _ (w3.setCell ⟨qb, 1, none⟩ (.int .i64 y3))
        rw [← hW3]
        clear hW3 k3 f3 T3
        have H4 := hide (want2 w0 a p r s [93] [59] d3 W3 S3.hR)
        go_wp2_with fail
        refine H4.out.mono ?_
        intro e w4 hP
        cases e4 : wantL s [[93], [59]] d3 with
        | out => exact absurd e4 (wantL_ne _ _ _)
        | err c pos =>
          rw [e4] at hP He
          obtain ⟨hGx, N, rfl, hF, hltx⟩ := hP
          go_wp2_with fail
          refine ⟨rfl, ?_⟩
          rw [He.out]
          exact ⟨S3.hG.trans hGx, N, rfl, hF, hltx⟩
        | ok y4 d4 =>
          rw [e4] at hP He
          obtain ⟨hG4, v4, rfl, hR4, rfl⟩ := hP
          clear e4 H4
          have T4 := S3.call hG4 hR4
          have He : Hid (res = .ok ⟨y1, y3⟩ d4) := He.out
          have hB := T4.B
          have k0 := hB.cell 0 _ rfl
          have k1 := hB.cell 1 _ rfl
          have j0 := T4.Z.cell 0 _ rfl
          have j1 := T4.Z.cell 1 _ rfl
          have f0 := T4.Z.fr 0
          have f1 := T4.Z.fr 1
          have hpq : p < w.heap.size := hpw
          obtain ⟨fR, fG, _, _⟩ := putAll_keeps hpw (Nat.le_refl w.heap.size) [(0, .string (bs y1)), (1, .int .i64 y3)] w4 T4.hR T4.hG
          go_wp2_with fail
          refine bodyPost_ret (v := .agg #[.string (bs y1), .int .i64 y3]) (by simp [results, Tryz.results108, go_sem, j0, j1]) rfl ?_
          rw [He.out]
          exact ⟨fG, _, rfl, fR, rfl⟩
end Go.Proofs.YtbfhaabpfkopdaaGreatDoor

/- The language: a procedure that is being read: its boxes; one parameter (procedure$1). -/
namespace Go.Proofs.YtbfhaabpfkopdaaGreatDoor
open Go.RowKit
set_option linter.unusedVariables false

/-- A text's cell. -/
def strVals : Rds Bs := fun W ok vs t => vs = [.string (bs t)]
theorem strVals_keeps : KeepsV strVals := fun W W' ok ok' vs t h _ _ _ => h
theorem Tryz.infoStr : (Tryz.prog.info? 9).map (fun i => (i.zero, i.size, i.bytes)) = some (some (.string ⟨#[]⟩), 1, 16) := by kernel_rfl
def nullEx : Ex := ⟨[], 0, [], []⟩
/-- A procedure's cells. -/
def pcVals : Rds Pc := fun W ok vs x => ∃ xp cp xb cb xe ce, vs = [.string (bs x.name), .slice xp x.params.length cp, .slice xb x.body.length cb, .string (bs x.ret.op), .int .i64 x.ret.n, .string (bs x.ret.name), .slice xe x.ret.l.length ce] ∧ RowAt strVals 1 W ok xp x.params ∧ StmsAt W ok xb x.body ∧ ExsAt W ok xe x.ret.l
theorem pcVals_keeps : KeepsV pcVals := by
  rintro W W' ok ok' vs x ⟨xp, cp, xb, cb, xe, ce, rfl, h1, h2, h3⟩ hs hk ho
  exact ⟨xp, cp, xb, cb, xe, ce, rfl, h1.keep strVals_keeps hs hk ho, h2.keep hs hk ho, h3.keep hs hk ho⟩

/-- A procedure that is being read: the result's box rb, the box bx of the reader's pointer, the procedure's box qb with parameters that grow. -/
structure PR (p rb bx qb : Nat) (nm : Bs) (body : List Stm) (ret : Ex) (W : World) (l : List Bs) (v : Value) (xss : List (List Value)) (xb : Option Addr) (cb : Nat) (xe : Option Addr) (ce : Nat) : Prop where
  lay : p < rb ∧ p < bx ∧ rb < qb ∧ bx < qb ∧ rb ≠ bx
  Z : BoxN W rb [.string ⟨#[]⟩, .slice none 0 0, .slice none 0 0, .string ⟨#[]⟩, .int .i64 0, .string ⟨#[]⟩, .slice none 0 0]
  X : BoxN W bx [.pointer (some ⟨p, 0, none⟩)]
  g : GRow strVals 9 1 W (qb + 1) v l xss
  hb : StmsAt W (fun b => qb + 1 ≤ b ∧ v.ownBlock ≠ some b) xb body
  he : ExsAt W (fun b => qb + 1 ≤ b ∧ v.ownBlock ≠ some b) xe ret.l
  B : BoxN W qb [.string (bs nm), v, .slice xb body.length cb, .string (bs ret.op), .int .i64 ret.n, .string (bs ret.name), .slice xe ret.l.length ce]
theorem PR.call {p rb bx qb : Nat} {nm : Bs} {body : List Stm} {ret : Ex} {W W' : World} {l : List Bs} {v : Value} {xss : List (List Value)} {xb : Option Addr} {cb : Nat} {xe : Option Addr} {ce : Nat} (h : PR p rb bx qb nm body ret W l v xss xb cb xe ce) (hg : Gr p W W') : PR p rb bx qb nm body ret W' l v xss xb cb xe ce := by
  obtain ⟨l1, l2, l3, l4, l5⟩ := h.lay
  have kp : ∀ b, (qb + 1 ≤ b ∧ v.ownBlock ≠ some b) → b < W.heap.size → W'.heap[b]? = W.heap[b]? := fun b k hlt => hg.block b hlt (fun e => by cases e; have := k.1; omega)
  exact ⟨h.lay, h.Z.gr hg (by omega), h.X.gr hg (by omega), h.g.keep strVals_keeps hg (fun q e => by cases e; omega), h.hb.keep hg.size kp (fun _ k _ => k), h.he.keep hg.size kp (fun _ k _ => k), h.B.gr hg (by omega)⟩
/-- A store into a field of the procedure's box. -/
theorem PR.set {p rb bx qb : Nat} {nm nm' : Bs} {body body' : List Stm} {ret ret' : Ex} {W : World} {l : List Bs} {v : Value} {xss : List (List Value)} {xb xb' : Option Addr} {cb cb' : Nat} {xe xe' : Option Addr} {ce ce' : Nat} (h : PR p rb bx qb nm body ret W l v xss xb cb xe ce) (j : Nat) (u : Value) (hj : j < 7)
    (hb : StmsAt W (fun b => qb + 1 ≤ b ∧ v.ownBlock ≠ some b) xb' body') (he : ExsAt W (fun b => qb + 1 ≤ b ∧ v.ownBlock ≠ some b) xe' ret'.l)
    (e : [Value.string (bs nm), v, .slice xb body.length cb, .string (bs ret.op), .int .i64 ret.n, .string (bs ret.name), .slice xe ret.l.length ce].set j u = [.string (bs nm'), v, .slice xb' body'.length cb', .string (bs ret'.op), .int .i64 ret'.n, .string (bs ret'.name), .slice xe' ret'.l.length ce']) : PR p rb bx qb nm' body' ret' (W.setCell ⟨qb, j, none⟩ u) l v xss xb' cb' xe' ce' := by
  obtain ⟨l1, l2, l3, l4, l5⟩ := h.lay
  have kp : ∀ b, (qb + 1 ≤ b ∧ v.ownBlock ≠ some b) → b < W.heap.size → (W.setCell ⟨qb, j, none⟩ u).heap[b]? = W.heap[b]? := fun b k hlt => Below.heap_setCell W _ _ b (fun e => by have e : b = qb := e; have := k.1; omega)
  have sz : W.heap.size ≤ (W.setCell ⟨qb, j, none⟩ u).heap.size := by simp [World.setCell]
  exact ⟨h.lay, h.Z.other (q := ⟨qb, j, none⟩) (by show qb ≠ rb; omega) _, h.X.other (q := ⟨qb, j, none⟩) (by show qb ≠ bx; omega) _, h.g.set strVals_keeps (q := ⟨qb, j, none⟩) (by show qb < qb + 1; omega) _, hb.keep sz kp (fun _ k _ => k), he.keep sz kp (fun _ k _ => k), by have := h.B.put j (by simpa using hj) u; rw [e] at this; exact this⟩
/-- One parameter more; the box holds the new row. -/
theorem PR.app {p rb bx qb gB cap6 : Nat} {nm t : Bs} {body : List Stm} {ret : Ex} {W w6 : World} {l : List Bs} {v : Value} {xss : List (List Value)} {xb : Option Addr} {cb : Nat} {xe : Option Addr} {ce : Nat} (h : PR p rb bx qb nm body ret W l v xss xb cb xe ce)
    (own : w6.ownsRow (qb + 1) 9 1 (.slice (some ⟨gB, 0, none⟩) (l.length + 1) cap6) (l.length + 1) (xss.flatten ++ [.string (bs t)])) (hg : W.grownBy w6 v.ownBlock) (hat : v.ownBlock = some gB ∨ W.heap.size ≤ gB) :
    PR p rb bx qb nm body ret (w6.setCell ⟨qb, 1, none⟩ (.slice (some ⟨gB, 0, none⟩) (l.length + 1) cap6)) (l ++ [t]) (.slice (some ⟨gB, 0, none⟩) (l.length + 1) cap6) (xss ++ [[.string (bs t)]]) xb cb xe ce := by
  obtain ⟨l1, l2, l3, l4, l5⟩ := h.lay
  have lo : ∀ q, v.ownBlock = some q → qb + 1 ≤ q := fun q e => (h.g.own.lt q e).1
  have g6 := h.g.app strVals_keeps (vs := [.string (bs t)]) (e := t) rfl rfl rfl own hg hat
  have ok : ∀ b, (qb + 1 ≤ b ∧ v.ownBlock ≠ some b) → b < W.heap.size → qb + 1 ≤ b ∧ (Value.slice (some ⟨gB, 0, none⟩) (l.length + 1) cap6).ownBlock ≠ some b := fun b k hlt => ⟨k.1, fun e => by
    have e : some gB = some b := e
    cases e
    rcases hat with q | q
    · exact k.2 q
    · omega⟩
  have kp : ∀ b, (qb + 1 ≤ b ∧ v.ownBlock ≠ some b) → b < W.heap.size → (w6.setCell ⟨qb, 1, none⟩ (.slice (some ⟨gB, 0, none⟩) (l.length + 1) cap6)).heap[b]? = W.heap[b]? := fun b k hlt =>
    (Below.heap_setCell w6 _ _ b (fun e => by have e : b = qb := e; have := k.1; omega)).trans (hg.block b hlt (fun e => k.2 e.symm))
  have sz : W.heap.size ≤ (w6.setCell ⟨qb, 1, none⟩ (.slice (some ⟨gB, 0, none⟩) (l.length + 1) cap6)).heap.size := by simpa [World.setCell] using hg.size
  refine ⟨h.lay, (h.Z.grown hg (fun e => by have := lo _ e; omega)).other (q := ⟨qb, 1, none⟩) (by show qb ≠ rb; omega) _, (h.X.grown hg (fun e => by have := lo _ e; omega)).other (q := ⟨qb, 1, none⟩) (by show qb ≠ bx; omega) _, g6.set strVals_keeps (q := ⟨qb, 1, none⟩) (by show qb < qb + 1; omega) _, h.hb.keep sz kp ok, h.he.keep sz kp ok, ?_⟩
  simpa using (h.B.grown hg (fun e => by have := lo _ e; omega)).put 1 (by simp) (.slice (some ⟨gB, 0, none⟩) (l.length + 1) cap6)
def PB (p rb bx qb : Nat) (nm : Bs) (body : List Stm) (ret : Ex) (W : World) (l : List Bs) : Prop := ∃ v xss xb cb xe ce, PR p rb bx qb nm body ret W l v xss xb cb xe ce

theorem enters_pr1 : Enters 164 := enters_of Tryz.func164 (by kernel_rfl) rfl
set_option maxRecDepth 20000 in
set_option maxHeartbeats 4000000 in
theorem procedure1_any (w0 wb : World) (a : Nat → Addr) (p r rb bx qb : Nat) (s nm : Bs) (body : List Stm) (ret : Ex) (hb : wb.heap.size ≤ rb ∧ wb.heap.size ≤ bx ∧ wb.heap.size ≤ qb) : OneC w0 wb a p r s 164 #[.pointer (some ⟨qb, 0, none⟩), .pointer (some ⟨bx, 0, none⟩)] (PB p rb bx qb nm body ret) (prmF s) := by
  intro w d l h hG hC hne0
  obtain ⟨res, hres⟩ : ∃ res, res = prmF s l d := ⟨_, rfl⟩
  have He := hide hres
  rw [← hres] at hne0 ⊢
  have hne := hide hne0
  clear hne0 hres
  unfold prmF at He
  by_cases hl : 5000 < l.length
  · rw [if_pos hl] at He
    exact absurd He.out hne.out
  rw [if_neg hl] at He
  obtain ⟨v, xss, xb, cb, xe, ce, hC⟩ := hC
  have g := hC.g
  have B := hC.B
  obtain ⟨l1, l2, l3, l4, l5⟩ := hC.lay
  obtain ⟨vx, vc, rfl⟩ := g.form
  have x0 := hC.X.cell 0 _ rfl
  have b1 := B.cell 1 _ rfl
  obtain ⟨i0, hi0, hz0, hz1, hz2⟩ := info_parts Tryz.infoStr
  cases e1 : wantR s 2 d with
  | out => exact absurd e1 (wantR_ne _ _ _)
  | err c pos =>
    rw [e1] at He
    have HE : Hid (∀ W : World, Rd w0 W a p r s d → Calls Tryz.prog 106 #[.pointer (some ⟨p, 0, none⟩)] W fun e W' => RPost w0 a p r s (.err c pos) (fun _ v t => v = .string (bs t)) W e W') := fun W hW => by
      have := name_any w0 a p r s d W hW
      rw [e1] at this; exact this
    clear e1
    go_enter Tryz.func164, Tryz.ntmps164
    refine wp_region_held (S := fun w' => w'.cell? ⟨qb, 1, none⟩ = some (.slice vx l.length vc) ∧ w'.cell? ⟨bx, 0, none⟩ = some (.pointer (some ⟨p, 0, none⟩))) (by kernel_rfl) ?_
    have hS9 : w.drew.cell? ⟨qb, 1, none⟩ = some (.slice vx l.length vc) ∧ w.drew.cell? ⟨bx, 0, none⟩ = some (.pointer (some ⟨p, 0, none⟩)) := ⟨b1, x0⟩
    (refine wpAnyH_take (i := 0) (v := ?_) rfl (by kernel_rfl) (by kernel_rfl) (by kernel_rfl) (fun _ _ _ h => h) (Or.inl ⟨by rfl, ?_⟩) hS9 ?_; rotate_left 1; (intro w' hSw; (try dsimp only at hSw); go_simp); (try rfl); (try dsimp only [Act.put]))
    (refine wpAnyH_take (i := 1) (v := ?_) rfl (by kernel_rfl) (by kernel_rfl) (by kernel_rfl) (fun _ _ _ h => h) (Or.inl ⟨by rfl, ?_⟩) hS9 ?_; rotate_left 1; (intro w' hSw; (try dsimp only at hSw); go_simp); (try rfl); (try dsimp only [Act.put]))
    (refine wpAnyH_take (i := 2) (v := ?_) rfl (by kernel_rfl) (by kernel_rfl) (by kernel_rfl) (fun _ _ _ h => h) (Or.inl ⟨by rfl, ?_⟩) hS9 ?_; rotate_left 1; (intro w' hSw; (try dsimp only at hSw); go_simp); (try rfl); (try dsimp only [Act.put]))
    refine wpAnyH_all (rs := [3]) (by kernel_rfl) (by simp) ?_
    intro i hi
    obtain rfl : i = 3 := by simpa using hi
    unfold wpOp
    go_simp
    refine Or.inl ((HE.out _ (h.below (Below.refl _ _).drew)).mono ?_)
    rintro e w3 ⟨hG3, N, rfl, hFa, hlt3⟩
    refine ⟨rfl, ?_⟩
    rw [He.out]
    exact ⟨hG.trans ((Gr.of (Below.refl _ _).drew).trans hG3), N, rfl, hFa, hlt3⟩
  | ok t d2 =>
    rw [e1] at He
    have He2 : Hid (res = .ok (l ++ [t]) d2) := He.out
    have HE : Hid (∀ W : World, Rd w0 W a p r s d → Calls Tryz.prog 106 #[.pointer (some ⟨p, 0, none⟩)] W fun e W' => RPost w0 a p r s (.ok t d2) (fun _ v t => v = .string (bs t)) W e W') := fun W hW => by
      have := name_any w0 a p r s d W hW
      rw [e1] at this; exact this
    clear e1 He
    go_enter Tryz.func164, Tryz.ntmps164
    refine wp_region_any (by kernel_rfl) (wpTill_any (S := fun w' => w'.cell? ⟨qb, 1, none⟩ = some (.slice vx l.length vc) ∧ w'.cell? ⟨bx, 0, none⟩ = some (.pointer (some ⟨p, 0, none⟩))) (E := 7) _ _ _ _ ?_)
    have hS9 : w.drew.cell? ⟨qb, 1, none⟩ = some (.slice vx l.length vc) ∧ w.drew.cell? ⟨bx, 0, none⟩ = some (.pointer (some ⟨p, 0, none⟩)) := ⟨b1, x0⟩
    (refine wpTill_take (i := 0) (v := ?_) rfl rfl (by decide) (by kernel_rfl) (by kernel_rfl) (by kernel_rfl) (by kernel_rfl) (by kernel_rfl) (fun _ _ _ h => h) (Or.inl ⟨by rfl, ?_⟩) hS9 ?_; rotate_left 1; (intro w' hSw; (try dsimp only at hSw); go_simp); (try rfl); (try dsimp only [Act.put]))
    (refine wpTill_take (i := 1) (v := ?_) rfl rfl (by decide) (by kernel_rfl) (by kernel_rfl) (by kernel_rfl) (by kernel_rfl) (by kernel_rfl) (fun _ _ _ h => h) (Or.inl ⟨by rfl, ?_⟩) hS9 ?_; rotate_left 1; (intro w' hSw; (try dsimp only at hSw); go_simp); (try rfl); (try dsimp only [Act.put]))
    (refine wpTill_take (i := 2) (v := ?_) rfl rfl (by decide) (by kernel_rfl) (by kernel_rfl) (by kernel_rfl) (by kernel_rfl) (by kernel_rfl) (fun _ _ _ h => h) (Or.inl ⟨by rfl, ?_⟩) hS9 ?_; rotate_left 1; (intro w' hSw; (try dsimp only at hSw); go_simp); (try rfl); (try dsimp only [Act.put]))
    refine wpTill_all (rs := [3]) (by kernel_rfl) (by simp) ?_
    intro i hi
    obtain rfl : i = 3 := by simpa using hi
    unfold wpOp
    go_simp
    refine Or.inl ((HE.out _ (h.below (Below.refl _ _).drew)).mono ?_)
    rintro e w3 ⟨hG3, v3, rfl, hR3, rfl⟩
    have hG3' := (Gr.of (p := p) (Below.refl w.heap.size w).drew).trans hG3
    have g3 := g.keep strVals_keeps hG3' (fun q e => by cases e; omega)
    have C3 := hC.call hG3'
    have B3 := B.gr hG3' (by omega)
    have b1' := B3.cell 1 _ rfl
    have x1' := C3.X.cell 0 _ rfl
    refine ⟨⟨b1', x1'⟩, ?_⟩
    refine wpTill_all (rs := [4]) (by kernel_rfl) (by simp) ?_
    intro i hi
    obtain rfl : i = 4 := by simpa using hi
    unfold wpOp
    go_simp
    have hbB := (Below.refl w3.heap.size w3).alloc (Nat.le_refl _) (.cells #[.string (bs t)] 9)
    refine Or.inl ⟨⟨(hbB.cell B3.lt).trans b1', (hbB.cell C3.X.lt).trans x1'⟩, ?_⟩
    refine wpTill_all (rs := [5]) (by kernel_rfl) (by simp) ?_
    intro i hi
    obtain rfl : i = 5 := by simpa using hi
    have g4 := g3.bel strVals_keeps hbB
    have hszB := B3.lt
    refine wpOp_step rfl (fun K' hK => ?_)
    refine step_append_lies _ (by rfl) _ _ 22 (by rfl) (qb + 1) 9 i0 _ 1 16 Tryz.underlying22 hi0 hz0 hz1 hz2 rfl (by decide) (.slice vx l.length vc) l.length xss.flatten (by first | rfl | simp [Act.eval, Act.put]) g4.own ⟨w3.heap.size, 0, none⟩ 1 1 [.string (bs t)] (by first | rfl | simp [Act.eval, Act.put]) rfl (cells_new _ _ _) (by intro u hu; simp at hu; rw [hu]; rfl) (by omega) (by unfold maxLen; omega) (by omega) (by simp; omega) (w3.heap.size + 1) (by simp) ?_
    have C4 := C3.call (Gr.of (p := p) hbB)
    have B4 := B3.bel hbB
    have hR4 := hR3.below hbB
    have hG4 := (hG.trans hG3').below hbB
    intro gB cap6 w6 own6 hg6 hat6 hlt6
    have lo : ∀ q, (Value.slice vx l.length vc).ownBlock = some q → qb + 1 ≤ q := fun q e => (g4.own.lt q e).1
    have C6 := C4.app own6 hg6 (hat6.imp id (fun e => by rw [e]; simp))
    have B6 := B4.grown hg6 (fun e => by have := lo _ e; omega)
    have b6 := B6.cell 1 _ rfl
    have f6 := B6.fr 1
    have hR6 : Rd w0 w6 a p r s d2 := hR4.grownO hg6 (fun q e => by have := lo q e; omega)
    have hG6 : Gr p wb w6 := hG4.grownN hg6 (fun q e => by have := lo q e; omega)
    have x6 := (C4.X.grown hg6 (fun e => by have := lo _ e; omega)).cell 0 _ rfl
    have hS9 : w6.cell? ⟨qb, 1, none⟩ = some (.slice vx l.length vc) ∧ w6.cell? ⟨bx, 0, none⟩ = some (.pointer (some ⟨p, 0, none⟩)) := ⟨b6, x6⟩
    refine hK _ _ ⟨fun _ => hS9, ?_⟩
    change wpTill _ _ _ _ _ _ _ _ (Act.put _ (some 7) _) _
    dsimp only [Act.put]
    (refine wpTill_take (i := 6) (v := ?_) rfl rfl (by decide) (by kernel_rfl) (by kernel_rfl) (by kernel_rfl) (by kernel_rfl) (by kernel_rfl) (fun _ _ _ h => h) (Or.inl ⟨by rfl, ?_⟩) hS9 ?_; rotate_left 1; (intro w' hSw; (try dsimp only at hSw); go_simp); (try rfl); (try dsimp only [Act.put]))
    refine wpTill_all (rs := [7]) (by kernel_rfl) (by simp) ?_
    intro i hi
    obtain rfl : i = 7 := by simpa using hi
    unfold wpOp
    go_simp
    refine Or.inl ⟨by kernel_rfl, ?_⟩
    go_end0
    rw [He2.out]
    exact ⟨hG6.setN (q := ⟨qb, 1, none⟩) hb.2.2 _, _, rfl, hR6.setO (q := ⟨qb, 1, none⟩) (by show p < qb; omega) _, rfl, _, _, _, _, _, _, C6⟩
end Go.Proofs.YtbfhaabpfkopdaaGreatDoor
