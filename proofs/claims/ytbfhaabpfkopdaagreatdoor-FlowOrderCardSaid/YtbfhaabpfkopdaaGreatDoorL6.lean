/- The language: a procedure read. -/
import Derived.Test.YtbfhaabpfkopdaaGreatDoorL5
namespace Go.Proofs.YtbfhaabpfkopdaaGreatDoor
open Go.RowKit
set_option linter.unusedVariables false

theorem putAll_block (q : Nat) : ∀ (l : List (Nat × Value)) (W : World), (putAll W q l).heap.size = W.heap.size ∧ ∀ b, b ≠ q → (putAll W q l).heap[b]? = W.heap[b]?
  | [], W => ⟨rfl, fun _ _ => rfl⟩
  | (o, v) :: l, W => by
    obtain ⟨h1, h2⟩ := putAll_block q l (W.setCell ⟨q, o, none⟩ v)
    exact ⟨h1.trans (by simp [World.setCell]), fun b hb => (h2 b hb).trans (Below.heap_setCell W ⟨q, o, none⟩ v b (fun e => hb e))⟩
/-- A procedure as a value. -/
def PcV (W : World) (ok : Nat → Prop) (v : Value) (x : Pc) : Prop := ∃ vs : List Value, v = .agg vs.toArray ∧ pcVals W ok vs x
/-- A procedure that is being read, with the reader. -/
structure PS (w0 w W : World) (a : Nat → Addr) (p r : Nat) (s : Bs) (d : Wd) (rb bx qb : Nat) (nm : Bs) (body : List Stm) (ret : Ex) (l : List Bs) (v : Value) (xss : List (List Value)) (xb : Option Addr) (cb : Nat) (xe : Option Addr) (ce : Nat) : Prop where
  hR : Rd w0 W a p r s d
  hG : Gr p w W
  hb : w.heap.size ≤ rb ∧ w.heap.size ≤ bx ∧ w.heap.size ≤ qb
  C : PR p rb bx qb nm body ret W l v xss xb cb xe ce
theorem PS.call {w0 w W : World} {a : Nat → Addr} {p r : Nat} {s : Bs} {d : Wd} {rb bx qb : Nat} {nm : Bs} {body : List Stm} {ret : Ex} {l : List Bs} {v : Value} {xss : List (List Value)} {xb : Option Addr} {cb : Nat} {xe : Option Addr} {ce : Nat} {W' : World} {d' : Wd} (h : PS w0 w W a p r s d rb bx qb nm body ret l v xss xb cb xe ce) (hg : Gr p W W') (hR : Rd w0 W' a p r s d') : PS w0 w W' a p r s d' rb bx qb nm body ret l v xss xb cb xe ce := ⟨hR, h.hG.trans hg, h.hb, h.C.call hg⟩
theorem PS.ptr {w0 w W : World} {a : Nat → Addr} {p r : Nat} {s : Bs} {d : Wd} {rb bx qb : Nat} {nm : Bs} {body : List Stm} {ret : Ex} {l : List Bs} {v : Value} {xss : List (List Value)} {xb : Option Addr} {cb : Nat} {xe : Option Addr} {ce : Nat} (h : PS w0 w W a p r s d rb bx qb nm body ret l v xss xb cb xe ce) : W.cell? ⟨bx, 0, none⟩ = some (.pointer (some ⟨p, 0, none⟩)) := h.C.X.cell 0 _ rfl
theorem PS.set {w0 w W : World} {a : Nat → Addr} {p r : Nat} {s : Bs} {d : Wd} {rb bx qb : Nat} {nm : Bs} {body : List Stm} {ret : Ex} {l : List Bs} {v : Value} {xss : List (List Value)} {xb : Option Addr} {cb : Nat} {xe : Option Addr} {ce : Nat} {nm' : Bs} {body' : List Stm} {ret' : Ex} {xb' : Option Addr} {cb' : Nat} {xe' : Option Addr} {ce' : Nat} (h : PS w0 w W a p r s d rb bx qb nm body ret l v xss xb cb xe ce) (j : Nat) (u : Value) (hj : j < 7)
    (hb : StmsAt W (fun b => qb + 1 ≤ b ∧ v.ownBlock ≠ some b) xb' body') (he : ExsAt W (fun b => qb + 1 ≤ b ∧ v.ownBlock ≠ some b) xe' ret'.l)
    (e : [Value.string (bs nm), v, .slice xb body.length cb, .string (bs ret.op), .int .i64 ret.n, .string (bs ret.name), .slice xe ret.l.length ce].set j u = [.string (bs nm'), v, .slice xb' body'.length cb', .string (bs ret'.op), .int .i64 ret'.n, .string (bs ret'.name), .slice xe' ret'.l.length ce']) : PS w0 w (W.setCell ⟨qb, j, none⟩ u) a p r s d rb bx qb nm' body' ret' l v xss xb' cb' xe' ce' := by
  obtain ⟨l1, l2, l3, l4, l5⟩ := h.C.lay
  exact ⟨h.hR.setO (q := ⟨qb, j, none⟩) (by show p < qb; omega) u, h.hG.setN (q := ⟨qb, j, none⟩) h.hb.2.2 u, h.hb, h.C.set j u hj hb he e⟩
/-- What a call has made anew is apart from the box and the parameters. -/
theorem PS.apart {w0 w W : World} {a : Nat → Addr} {p r : Nat} {s : Bs} {d : Wd} {rb bx qb : Nat} {nm : Bs} {body : List Stm} {ret : Ex} {l : List Bs} {v : Value} {xss : List (List Value)} {xb : Option Addr} {cb : Nat} {xe : Option Addr} {ce : Nat} (h : PS w0 w W a p r s d rb bx qb nm body ret l v xss xb cb xe ce) : ∀ b, W.heap.size ≤ b → qb + 1 ≤ b ∧ v.ownBlock ≠ some b := fun b k => by
  have := h.C.B.lt
  exact ⟨by omega, fun e => by have := (h.C.g.own.lt b e).2; omega⟩
/-- A term is stored: four cells. -/
theorem PS.term {w0 w W : World} {a : Nat → Addr} {p r : Nat} {s : Bs} {d : Wd} {rb bx qb : Nat} {nm : Bs} {body : List Stm} {ret : Ex} {l : List Bs} {v : Value} {xss : List (List Value)} {xb : Option Addr} {cb : Nat} {xe : Option Addr} {ce : Nat} (h : PS w0 w W a p r s d rb bx qb nm body nullEx l v xss xb cb xe ce) (e : Ex) (x : Option Addr) (cx : Nat) (hx : ExsAt W (fun b => qb + 1 ≤ b ∧ v.ownBlock ≠ some b) x e.l) :
    PS w0 w ((((W.setCell ⟨qb, 3, none⟩ (.string (bs e.op))).setCell ⟨qb, 4, none⟩ (.int .i64 e.n)).setCell ⟨qb, 5, none⟩ (.string (bs e.name))).setCell ⟨qb, 6, none⟩ (.slice x e.l.length cx)) a p r s d rb bx qb nm body e l v xss xb cb x cx := by
  have kp : ∀ (V : World) (j : Nat) (u : Value) (b : Nat), (qb + 1 ≤ b ∧ v.ownBlock ≠ some b) → b < V.heap.size → (V.setCell ⟨qb, j, none⟩ u).heap[b]? = V.heap[b]? := fun V j u b k hlt => Below.heap_setCell V _ _ b (fun e => by have e : b = qb := e; have := k.1; omega)
  have sz : ∀ (V : World) (j : Nat) (u : Value), V.heap.size ≤ (V.setCell ⟨qb, j, none⟩ u).heap.size := fun V j u => by simp [World.setCell]
  have h1 : PS w0 w (W.setCell ⟨qb, 3, none⟩ (.string (bs e.op))) a p r s d rb bx qb nm body ⟨e.op, 0, [], []⟩ l v xss xb cb xe ce := h.set 3 _ (by omega) h.C.hb (ExsAt.nil _) rfl
  have h2 := h1.set (ret' := ⟨e.op, e.n, [], []⟩) (xe' := xe) (ce' := ce) 4 (.int .i64 e.n) (by omega) h1.C.hb (ExsAt.nil _) rfl
  have h3 := h2.set (ret' := ⟨e.op, e.n, e.name, []⟩) (xe' := xe) (ce' := ce) 5 (.string (bs e.name)) (by omega) h2.C.hb (ExsAt.nil _) rfl
  exact h3.set (ret' := e) (xe' := x) (ce' := cx) 6 (.slice x e.l.length cx) (by omega) h3.C.hb (((hx.keep (sz _ _ _) (kp _ _ _) (fun _ k _ => k)).keep (sz _ _ _) (kp _ _ _) (fun _ k _ => k)).keep (sz _ _ _) (kp _ _ _) (fun _ k _ => k)) rfl
/-- The procedure is stored into the result's box, and returned. -/
theorem PS.fin {w0 w W : World} {a : Nat → Addr} {p r : Nat} {s : Bs} {d : Wd} {rb bx qb : Nat} {nm : Bs} {body : List Stm} {ret : Ex} {l : List Bs} {v : Value} {xss : List (List Value)} {xb : Option Addr} {cb : Nat} {xe : Option Addr} {ce : Nat} (h : PS w0 w W a p r s d rb bx qb nm body ret l v xss xb cb xe ce) (hpw : p < w.heap.size) (m : List (Nat × Value)) : Rd w0 (putAll W rb m) a p r s d ∧ Gr p w (putAll W rb m) ∧
    pcVals (putAll W rb m) (fun b => w.heap.size ≤ b) [.string (bs nm), v, .slice xb body.length cb, .string (bs ret.op), .int .i64 ret.n, .string (bs ret.name), .slice xe ret.l.length ce] ⟨nm, l, body, ret⟩ := by
  obtain ⟨l1, l2, l3, l4, l5⟩ := h.C.lay
  obtain ⟨b1, b2, b3⟩ := h.hb
  obtain ⟨k1, k2⟩ := putAll_block rb m W
  obtain ⟨f1, f2, _, _⟩ := putAll_keeps hpw b1 m W h.hR h.hG
  obtain ⟨x, cap, rfl, hrow⟩ := h.C.g.row strVals_keeps (by omega)
  exact ⟨f1, f2, x, cap, xb, cb, xe, ce, rfl, hrow.keep strVals_keeps (by omega) (fun b q _ => k2 b (by have : qb + 1 ≤ b := q; omega)) (fun b q _ => by have : qb + 1 ≤ b := q; show w.heap.size ≤ b; omega), h.C.hb.keep (by omega) (fun b q _ => k2 b (by have := q.1; omega)) (fun b q _ => by have := q.1; show w.heap.size ≤ b; omega), h.C.he.keep (by omega) (fun b q _ => k2 b (by have := q.1; omega)) (fun b q _ => by have := q.1; show w.heap.size ≤ b; omega)⟩

set_option maxRecDepth 20000 in
set_option maxHeartbeats 8000000 in
theorem procedure_any (w0 : World) (a : Nat → Addr) (p r k n m : Nat) (s : Bs) (hk : k ≤ 1000000) (hn : n ≤ 1000000) (d : Wd) (w : World) (h : Rd w0 w a p r s d) (hne0 : prcF s k n m d ≠ .out) :
    Calls Tryz.prog 109 #[.pointer (some ⟨p, 0, none⟩)] w fun e w' => RPost w0 a p r s (prcF s k n m d) (fun W' v x => PcV W' (fun b => w.heap.size ≤ b) v x) w e w' := by
  obtain ⟨res, hres⟩ : ∃ res, res = prcF s k n m d := ⟨_, rfl⟩
  have He : Hid (res = (wantR s 2 d).bind fun nm d => (wantW s [40] d).bind fun _ d => (listF s (prmF s) n [] d).bind fun ps d => (wantW s [123] d).bind fun _ d =>
    (stsF s k n m 1 d).bind fun b d => (wantW s [114, 101, 116, 117, 114, 110] d).bind fun _ d => (exF s k 2 1 d).bind fun e d => (wantL s [[59], [125]] d).bind fun _ d => .ok ⟨nm, ps, b, e⟩ d) := hres
  rw [← hres] at hne0 ⊢
  have hne := hide hne0
  clear hres hne0
  have hpw := h.lt
  have S0 : PS w0 w (((w.alloc (Obj.cells #[.pointer (some ⟨p, 0, none⟩)] 160)).alloc (Obj.cells #[.string ⟨#[]⟩, .slice none 0 0, .slice none 0 0, .string ⟨#[]⟩, .int .i64 0, .string ⟨#[]⟩, .slice none 0 0] 124)).alloc (Obj.cells #[.string ⟨#[]⟩, .slice none 0 0, .slice none 0 0, .string ⟨#[]⟩, .int .i64 0, .string ⟨#[]⟩, .slice none 0 0] 124)) a p r s d (w.heap.size + 1) w.heap.size (w.heap.size + 2) [] [] nullEx [] (.slice none 0 0) [] none 0 none 0 := by
    have e1 : (w.alloc (Obj.cells #[.pointer (some ⟨p, 0, none⟩)] 160)).heap.size = w.heap.size + 1 := by simp
    have e2 : ((w.alloc (Obj.cells #[.pointer (some ⟨p, 0, none⟩)] 160)).alloc (Obj.cells #[.string ⟨#[]⟩, .slice none 0 0, .slice none 0 0, .string ⟨#[]⟩, .int .i64 0, .string ⟨#[]⟩, .slice none 0 0] 124)).heap.size = w.heap.size + 2 := by simp
    have X0 := BoxN.new w 160 [.pointer (some ⟨p, 0, none⟩)]
    have Z0 := BoxN.new (w.alloc (Obj.cells #[.pointer (some ⟨p, 0, none⟩)] 160)) 124 [.string ⟨#[]⟩, .slice none 0 0, .slice none 0 0, .string ⟨#[]⟩, .int .i64 0, .string ⟨#[]⟩, .slice none 0 0]
    have Q0 := BoxN.new ((w.alloc (Obj.cells #[.pointer (some ⟨p, 0, none⟩)] 160)).alloc (Obj.cells #[.string ⟨#[]⟩, .slice none 0 0, .slice none 0 0, .string ⟨#[]⟩, .int .i64 0, .string ⟨#[]⟩, .slice none 0 0] 124)) 124 [.string ⟨#[]⟩, .slice none 0 0, .slice none 0 0, .string ⟨#[]⟩, .int .i64 0, .string ⟨#[]⟩, .slice none 0 0]
    rw [e1] at Z0
    rw [e2] at Q0
    have hb1 := (Below.refl (w.alloc (Obj.cells #[.pointer (some ⟨p, 0, none⟩)] 160)).heap.size (w.alloc (Obj.cells #[.pointer (some ⟨p, 0, none⟩)] 160))).alloc (Nat.le_refl _) (Obj.cells #[.string ⟨#[]⟩, .slice none 0 0, .slice none 0 0, .string ⟨#[]⟩, .int .i64 0, .string ⟨#[]⟩, .slice none 0 0] 124)
    have hb2 := (Below.refl ((w.alloc (Obj.cells #[.pointer (some ⟨p, 0, none⟩)] 160)).alloc (Obj.cells #[.string ⟨#[]⟩, .slice none 0 0, .slice none 0 0, .string ⟨#[]⟩, .int .i64 0, .string ⟨#[]⟩, .slice none 0 0] 124)).heap.size ((w.alloc (Obj.cells #[.pointer (some ⟨p, 0, none⟩)] 160)).alloc (Obj.cells #[.string ⟨#[]⟩, .slice none 0 0, .slice none 0 0, .string ⟨#[]⟩, .int .i64 0, .string ⟨#[]⟩, .slice none 0 0] 124))).alloc (Nat.le_refl _) (Obj.cells #[.string ⟨#[]⟩, .slice none 0 0, .slice none 0 0, .string ⟨#[]⟩, .int .i64 0, .string ⟨#[]⟩, .slice none 0 0] 124)
    exact ⟨((h.alloc _).alloc _).alloc _, (((Gr.refl _ _).alloc _).alloc _).alloc _, ⟨by omega, by omega, by omega⟩, ⟨by omega, by omega, by omega, by omega, by omega⟩, Z0.bel hb2, (X0.bel hb1).bel hb2, GRow.nil _ _ _ _ _, StmsAt.nil _, ExsAt.nil _, Q0⟩
  go_enter Tryz.func109, Tryz.ntmps109
  go_upto_region 2 with fail
  obtain ⟨W0, hW0⟩ : ∃ W, W = ((w.alloc (Obj.cells #[.pointer (some ⟨p, 0, none⟩)] 160)).alloc (Obj.cells #[.string ⟨#[]⟩, .slice none 0 0, .slice none 0 0, .string ⟨#[]⟩, .int .i64 0, .string ⟨#[]⟩, .slice none 0 0] 124)).alloc (Obj.cells #[.string ⟨#[]⟩, .slice none 0 0, .slice none 0 0, .string ⟨#[]⟩, .int .i64 0, .string ⟨#[]⟩, .slice none 0 0] 124) := ⟨_, rfl⟩
  rw [← hW0] at S0
  change Code.wp _ _ _ _ (((w.alloc (Obj.cells #[.pointer (some ⟨p, 0, none⟩)] 160)).alloc (Obj.cells #[.string ⟨#[]⟩, .slice none 0 0, .slice none 0 0, .string ⟨#[]⟩, .int .i64 0, .string ⟨#[]⟩, .slice none 0 0] 124)).alloc (Obj.cells #[.string ⟨#[]⟩, .slice none 0 0, .slice none 0 0, .string ⟨#[]⟩, .int .i64 0, .string ⟨#[]⟩, .slice none 0 0] 124))
  rw [← hW0]
  obtain ⟨qb, hqb⟩ : ∃ q, q = w.heap.size + 2 := ⟨_, rfl⟩
  obtain ⟨rb, hrb⟩ : ∃ q, q = w.heap.size + 1 := ⟨_, rfl⟩
  obtain ⟨bx, hbx⟩ : ∃ q, q = w.heap.size := ⟨_, rfl⟩
  have q1 : w.heap.size + 1 + 1 = qb := by omega
  rw [← hqb, ← hrb, ← hbx] at S0
  try rw [q1]
  try rw [← hqb]
  try rw [← hrb]
  try rw [← hbx]
  clear hW0 hqb hrb hbx q1
  have x1' := S0.ptr
  have H1 := hide (name_any w0 a p r s d W0 S0.hR)
  go_wp2_with fail
  refine H1.out.mono ?_
  intro e w1 hP
  cases e1 : wantR s 2 d with
  | out => exact absurd (by rw [He.out, e1]; rfl) hne.out
  | err c pos =>
    rw [e1] at hP He
    obtain ⟨hGx, N, rfl, hF, hltx⟩ := hP
    go_wp2_with fail
    refine ⟨rfl, ?_⟩
    rw [He.out]
    exact ⟨S0.hG.trans hGx, N, rfl, hF, hltx⟩
  | ok y1 d1 =>
    rw [e1] at hP He
    obtain ⟨hG1, v1, rfl, hR1, rfl⟩ := hP
    clear e1 H1 x1'
    have T1 := S0.call hG1 hR1
    have He : Hid (res = (wantW s [40] d1).bind fun _ d => (listF s (prmF s) n [] d).bind fun ps d => (wantW s [123] d).bind fun _ d => (stsF s k n m 1 d).bind fun b d => (wantW s [114, 101, 116, 117, 114, 110] d).bind fun _ d => (exF s k 2 1 d).bind fun e d => (wantL s [[59], [125]] d).bind fun _ d => .ok ⟨y1, ps, b, e⟩ d) := He.out
    have k1 := T1.C.B.cell 0 _ rfl
    have f1 := T1.C.B.fr 0
    have S1 := T1.set (nm' := y1) 0 (.string (bs y1)) (by omega) T1.C.hb T1.C.he rfl
    obtain ⟨W1, hW1⟩ : ∃ W, W = w1.setCell ⟨qb, 0, none⟩ (.string (bs y1)) := ⟨_, rfl⟩
    rw [← hW1] at S1
    go_upto_region 3 with fail
    change Code.wp _ _ _ _ (w1.setCell ⟨qb, 0, none⟩ (.string (bs y1)))
    rw [← hW1]
    clear hW1 k1 f1 T1
    have x2' := S1.ptr
    have H2 := hide (want1 w0 a p r s [40] d1 W1 S1.hR)
    go_wp2_with fail
    refine H2.out.mono ?_
    intro e w2 hP
    cases e2 : wantW s [40] d1 with
    | out => exact absurd (by rw [He.out, e2]; rfl) hne.out
    | err c pos =>
      rw [e2] at hP He
      obtain ⟨hGx, N, rfl, hF, hltx⟩ := hP
      go_wp2_with fail
      refine ⟨rfl, ?_⟩
      rw [He.out]
      exact ⟨S1.hG.trans hGx, N, rfl, hF, hltx⟩
    | ok y2 d2 =>
      rw [e2] at hP He
      obtain ⟨hG2, v2, rfl, hR2, rfl⟩ := hP
      clear e2 H2 x2'
      have T2 := S1.call hG2 hR2
      have He : Hid (res = (listF s (prmF s) n [] d2).bind fun ps d => (wantW s [123] d).bind fun _ d => (stsF s k n m 1 d).bind fun b d => (wantW s [114, 101, 116, 117, 114, 110] d).bind fun _ d => (exF s k 2 1 d).bind fun e d => (wantL s [[59], [125]] d).bind fun _ d => .ok ⟨y1, ps, b, e⟩ d) := He.out
      have x3' := T2.ptr
      have HF3 : Hid (listF s (prmF s) n [] d2 ≠ .out) := fun k => hne.out (by rw [He.out, k]; rfl)
      have H3 := hide (list_any w0 w a p r 164 n #[.pointer (some ⟨qb, 0, none⟩), .pointer (some ⟨bx, 0, none⟩)] s (PB p rb bx qb y1 [] nullEx) (prmF s) [] d2 w2 (hide enters_pr1) (hide (procedure1_any w0 w a p r rb bx qb s y1 [] nullEx T2.hb)) (hide (fun W W' x hx hg => by obtain ⟨v, xss, xb, cb, xe, ce, hx⟩ := hx; exact ⟨v, xss, xb, cb, xe, ce, hx.call hg⟩)) T2.hR T2.hG (hide ⟨_, _, _, _, _, _, T2.C⟩) HF3)
      go_wp2_with fail
      refine H3.out.mono ?_
      intro e w3 hP
      cases e3 : listF s (prmF s) n [] d2 with
      | out => exact absurd (by rw [He.out, e3]; rfl) hne.out
      | err c pos =>
        rw [e3] at hP He
        obtain ⟨hGx, N, rfl, hF, hltx⟩ := hP
        go_wp2_with fail
        refine ⟨rfl, ?_⟩
        rw [He.out]
        exact ⟨hGx, N, rfl, hF, hltx⟩
      | ok y3 d3 =>
        rw [e3] at hP He
        obtain ⟨hG3, v3, rfl, hR3, rfl, vp, xss, xb, cb, xe, ce, C3⟩ := hP
        have T3 : PS w0 w w3 a p r s d3 rb bx qb y1 [] nullEx y3 vp xss xb cb xe ce := ⟨hR3, hG3, T2.hb, C3⟩
        clear e3 H3 x3' HF3 C3
        have He : Hid (res = (wantW s [123] d3).bind fun _ d => (stsF s k n m 1 d).bind fun b d => (wantW s [114, 101, 116, 117, 114, 110] d).bind fun _ d => (exF s k 2 1 d).bind fun e d => (wantL s [[59], [125]] d).bind fun _ d => .ok ⟨y1, y3, b, e⟩ d) := He.out
        have x4' := T3.ptr
        have H4 := hide (want1 w0 a p r s [123] d3 w3 T3.hR)
        go_wp2_with fail
        refine H4.out.mono ?_
        intro e w4 hP
        cases e4 : wantW s [123] d3 with
        | out => exact absurd (by rw [He.out, e4]; rfl) hne.out
        | err c pos =>
          rw [e4] at hP He
          obtain ⟨hGx, N, rfl, hF, hltx⟩ := hP
          go_wp2_with fail
          refine ⟨rfl, ?_⟩
          rw [He.out]
          exact ⟨T3.hG.trans hGx, N, rfl, hF, hltx⟩
        | ok y4 d4 =>
          rw [e4] at hP He
          obtain ⟨hG4, v4, rfl, hR4, rfl⟩ := hP
          clear e4 H4 x4'
          have T4 := T3.call hG4 hR4
          have He : Hid (res = (stsF s k n m 1 d4).bind fun b d => (wantW s [114, 101, 116, 117, 114, 110] d).bind fun _ d => (exF s k 2 1 d).bind fun e d => (wantL s [[59], [125]] d).bind fun _ d => .ok ⟨y1, y3, b, e⟩ d) := He.out
          have x5' := T4.ptr
          have HF5 : Hid (stsF s k n m 1 d4 ≠ .out) := fun k => hne.out (by rw [He.out, k]; rfl)
          have ap5 := T4.apart
          have H5 := hide (sts_any w0 a p r k n s hk hn m 1 (by omega) w4 d4 T4.hR HF5.out)
          go_wp2_with fail
          refine H5.out.mono ?_
          intro e w5 hP
          cases e5 : stsF s k n m 1 d4 with
          | out => exact absurd (by rw [He.out, e5]; rfl) hne.out
          | err c pos =>
            rw [e5] at hP He
            obtain ⟨hGx, N, rfl, hF, hltx⟩ := hP
            go_wp2_with fail
            refine ⟨rfl, ?_⟩
            rw [He.out]
            exact ⟨T4.hG.trans hGx, N, rfl, hF, hltx⟩
          | ok y5 d5 =>
            rw [e5] at hP He
            obtain ⟨hG5, v5, rfl, hR5, x5, cap5, rfl, hX5⟩ := hP
            clear e5 H5 x5'
            have T5 := T4.call hG5 hR5
            have He : Hid (res = (wantW s [114, 101, 116, 117, 114, 110] d5).bind fun _ d => (exF s k 2 1 d).bind fun e d => (wantL s [[59], [125]] d).bind fun _ d => .ok ⟨y1, y3, y5, e⟩ d) := He.out
            have k5 := T5.C.B.cell 2 _ rfl
            have f5 := T5.C.B.fr 2
            have S5 := T5.set (body' := y5) (xb' := x5) (cb' := cap5) 2 (.slice x5 y5.length cap5) (by omega) (hX5.mono ap5) T5.C.he rfl
            obtain ⟨W5, hW5⟩ : ∃ W, W = w5.setCell ⟨qb, 2, none⟩ (.slice x5 y5.length cap5) := ⟨_, rfl⟩
            rw [← hW5] at S5
            go_upto_region 7 with fail
            change Code.wp _ _ _ _ (w5.setCell ⟨qb, 2, none⟩ (.slice x5 y5.length cap5))
            rw [← hW5]
            clear hW5 k5 f5 T5
            have x6' := S5.ptr
            have H6 := hide (want1 w0 a p r s [114, 101, 116, 117, 114, 110] d5 W5 S5.hR)
            go_wp2_with fail
            refine H6.out.mono ?_
            intro e w6 hP
            cases e6 : wantW s [114, 101, 116, 117, 114, 110] d5 with
            | out => exact absurd (by rw [He.out, e6]; rfl) hne.out
            | err c pos =>
              rw [e6] at hP He
              obtain ⟨hGx, N, rfl, hF, hltx⟩ := hP
              go_wp2_with fail
              refine ⟨rfl, ?_⟩
              rw [He.out]
              exact ⟨S5.hG.trans hGx, N, rfl, hF, hltx⟩
            | ok y6 d6 =>
              rw [e6] at hP He
              obtain ⟨hG6, v6, rfl, hR6, rfl⟩ := hP
              clear e6 H6 x6'
              have T6 := S5.call hG6 hR6
              have He : Hid (res = (exF s k 2 1 d6).bind fun e d => (wantL s [[59], [125]] d).bind fun _ d => .ok ⟨y1, y3, y5, e⟩ d) := He.out
              have x7' := T6.ptr
              have HF7 : Hid (exF s k 2 1 d6 ≠ .out) := fun k => hne.out (by rw [He.out, k]; rfl)
              have ap7 := T6.apart
              have H7 := hide (ex_any w0 a p r s k 2 (by omega) 1 (by omega) w6 d6 T6.hR HF7.out)
              go_wp2_with fail
              refine H7.out.mono ?_
              intro e w7 hP
              cases e7 : exF s k 2 1 d6 with
              | out => exact absurd (by rw [He.out, e7]; rfl) hne.out
              | err c pos =>
                rw [e7] at hP He
                obtain ⟨hGx, N, rfl, hF, hltx⟩ := hP
                go_wp2_with fail
                refine ⟨rfl, ?_⟩
                rw [He.out]
                exact ⟨T6.hG.trans hGx, N, rfl, hF, hltx⟩
              | ok y7 d7 =>
                rw [e7] at hP He
                obtain ⟨hG7, v7, rfl, hR7, x7, cap7, rfl, hX7⟩ := hP
                clear e7 H7 x7'
                have T7 := T6.call hG7 hR7
                have He : Hid (res = (wantL s [[59], [125]] d7).bind fun _ d => .ok ⟨y1, y3, y5, y7⟩ d) := He.out
                have k3 := T7.C.B.cell 3 _ rfl
                have k4 := T7.C.B.cell 4 _ rfl
                have k5 := T7.C.B.cell 5 _ rfl
                have k6 := T7.C.B.cell 6 _ rfl
                have f3 := T7.C.B.fr 3
                have f4 := T7.C.B.fr 4
                have f5 := T7.C.B.fr 5
                have f6 := T7.C.B.fr 6
                have S7 := T7.term (ret := nullEx) y7 x7 cap7 (hX7.mono (fun b q _ => ap7 b q))
                obtain ⟨W7, hW7⟩ : ∃ W, W = (((w7.setCell ⟨qb, 3, none⟩ (.string (bs y7.op))).setCell ⟨qb, 4, none⟩ (.int .i64 y7.n)).setCell ⟨qb, 5, none⟩ (.string (bs y7.name))).setCell ⟨qb, 6, none⟩ (.slice x7 y7.l.length cap7) := ⟨_, rfl⟩
                rw [← hW7] at S7
                go_upto_region 9 with fail
                change Code.wp _ _ _ _ ((((w7.setCell ⟨qb, 3, none⟩ (.string (bs y7.op))).setCell ⟨qb, 4, none⟩ (.int .i64 y7.n)).setCell ⟨qb, 5, none⟩ (.string (bs y7.name))).setCell ⟨qb, 6, none⟩ (.slice x7 y7.l.length cap7))
                rw [← hW7]
                clear hW7 k3 k4 k5 k6 f3 f4 f5 f6 T7
                have x8' := S7.ptr
                have H8 := hide (want2 w0 a p r s [59] [125] d7 W7 S7.hR)
                go_wp2_with fail
                refine H8.out.mono ?_
                intro e w8 hP
                cases e8 : wantL s [[59], [125]] d7 with
                | out => exact absurd (by rw [He.out, e8]; rfl) hne.out
                | err c pos =>
                  rw [e8] at hP He
                  obtain ⟨hGx, N, rfl, hF, hltx⟩ := hP
                  go_wp2_with fail
                  refine ⟨rfl, ?_⟩
                  rw [He.out]
                  exact ⟨S7.hG.trans hGx, N, rfl, hF, hltx⟩
                | ok y8 d8 =>
                  rw [e8] at hP He
                  obtain ⟨hG8, v8, rfl, hR8, rfl⟩ := hP
                  clear e8 H8 x8'
                  have T8 := S7.call hG8 hR8
                  have He : Hid (res = .ok ⟨y1, y3, y5, y7⟩ d8) := He.out
                  obtain ⟨vx, vc, rfl⟩ := T8.C.g.form
                  have k0 := T8.C.B.cell 0 _ rfl
                  have k1 := T8.C.B.cell 1 _ rfl
                  have k2 := T8.C.B.cell 2 _ rfl
                  have k3 := T8.C.B.cell 3 _ rfl
                  have k4 := T8.C.B.cell 4 _ rfl
                  have k5 := T8.C.B.cell 5 _ rfl
                  have k6 := T8.C.B.cell 6 _ rfl
                  have j0 := T8.C.Z.cell 0 _ rfl
                  have j1 := T8.C.Z.cell 1 _ rfl
                  have j2 := T8.C.Z.cell 2 _ rfl
                  have j3 := T8.C.Z.cell 3 _ rfl
                  have j4 := T8.C.Z.cell 4 _ rfl
                  have j5 := T8.C.Z.cell 5 _ rfl
                  have j6 := T8.C.Z.cell 6 _ rfl
                  have f0 := T8.C.Z.fr 0
                  have f1 := T8.C.Z.fr 1
                  have f2 := T8.C.Z.fr 2
                  have f3 := T8.C.Z.fr 3
                  have f4 := T8.C.Z.fr 4
                  have f5 := T8.C.Z.fr 5
                  have f6 := T8.C.Z.fr 6
                  obtain ⟨fR, fG, fV⟩ := T8.fin hpw [(0, .string (bs y1)), (1, .slice vx y3.length vc), (2, .slice x5 y5.length cap5), (3, .string (bs y7.op)), (4, .int .i64 y7.n), (5, .string (bs y7.name)), (6, .slice x7 y7.l.length cap7)]
                  go_wp2_with fail
                  refine bodyPost_ret (v := .agg #[.string (bs y1), .slice vx y3.length vc, .slice x5 y5.length cap5, .string (bs y7.op), .int .i64 y7.n, .string (bs y7.name), .slice x7 y7.l.length cap7]) (by simp [results, Tryz.results109, go_sem, j0, j1, j2, j3, j4, j5, j6]) rfl ?_
                  rw [He.out]
                  exact ⟨fG, _, rfl, fR, _, rfl, fV⟩
end Go.Proofs.YtbfhaabpfkopdaaGreatDoor
