/- The language: a writer: put, indent, count, between, pick. -/
import Derived.Test.YtbfhaabpfkopdaaGreatDoorL9
namespace Go.Proofs.YtbfhaabpfkopdaaGreatDoor
open Go.RowKit
set_option linter.unusedVariables false

theorem putW_step (l : List Bs) (i : Nat) (t : Bs) (h : l[i]? = some t) (st : Wst) : putW (l.drop i) st = if 4000 < st.1.length + t.length then none else putW (l.drop (i + 1)) (st.1 ++ t, st.2) := by
  have : l.drop i = t :: l.drop (i + 1) := by
    have hi : i < l.length := by
      rcases Nat.lt_or_ge i l.length with k | k
      · exact k
      · rw [List.getElem?_eq_none k] at h; cases h
    rw [List.drop_eq_getElem_cons hi]
    rw [List.getElem?_eq_getElem hi] at h
    cases h
    rfl
  rw [this]; rfl
/-- Texts in a block. -/
def strsV (l : List Bs) : List Value := l.map fun t => .string (bs t)
set_option maxRecDepth 20000 in
set_option maxHeartbeats 4000000 in
theorem put_any (w0 : World) (q r b n cap : Nat) (st : Wst) (l : List Bs) (w : World) (h : Wr w0 w q r st) (hB : BoxT w b 9 (strsV l)) (hn : Hid (n = l.length)) (hn9 : n ≤ 9) :
    Calls Tryz.prog 167 #[.pointer (some ⟨q, 0, none⟩), .slice (some ⟨b, 0, none⟩) n cap] w fun e w' => WPost w0 q r (putW l st) w e w' := by
  have hbq : b ≠ q := fun e => by
    obtain ⟨ad, v, hq, _⟩ := h.blk
    unfold BoxT at hB
    rw [e, hq] at hB
    simp at hB
  go_enter Tryz.func167, Tryz.ntmps167
  go_wp2_with fail
  go_loopg [8] n (fun gh iv wx => ∃ (i : Nat) (st' : Wst), i + gh = n ∧ iv = .int .i64 i ∧ Wr w0 wx q r st' ∧ Fr q w wx ∧ Hid (putW l st = putW (l.drop i) st'))
  case atStart => exact ⟨0, st, by omega, rfl, h, Fr.refl _ _, rfl⟩
  case round =>
    clear h
    obtain ⟨i, st', hig, rfl, h, hF, He⟩ := hrel
    have hB' := hB.fr hF hbq (by decide)
    by_cases hi : i < n
    · have hi' : (i : Int) < (n : Int) := by omega
      obtain ⟨t, ht⟩ : ∃ t, l[i]? = some t := ⟨_, List.getElem?_eq_getElem (by rw [← hn.out]; exact hi)⟩
      have hc := hB'.cell i (.string (bs t)) (by simp [strsV, ht])
      have hst := putW_step l i t ht st'
      have HL := hide (len_any w0 q r st' wr h)
      have hlen := h.len
      have esz : ((bs t).size : Int) = (t.length : Int) := by rw [bs_size]
      have hsub : IntKind.i64.wrap (4000 - (st'.1.length : Int)) = 4000 - (st'.1.length : Int) := wrap_small _ (by omega) (by omega)
      by_cases hfit : 4000 < st'.1.length + t.length
      · rw [if_pos hfit] at hst
        have Hst : Hid (putW l st = none) := by show _ = _; rw [He.out, hst]
        have hfit' : 4000 - (st'.1.length : Int) < (t.length : Int) := by omega
        clear He hst ht
        have hbel := h.bel
        go_wp2_with fail
        refine HL.out.mono ?_
        rintro e w1 ⟨rfl, hw1⟩
        rw [hw1]
        clear hw1 w1 HL
        go_wp2_with fail
        refine ⟨rfl, ?_⟩
        show WPost _ _ _ _ _ _ _
        rw [Hst.out]
        exact ⟨hF, rfl, hbel⟩
      · rw [if_neg hfit] at hst
        have Hst : Hid (putW l st = putW (l.drop (i + 1)) (st'.1 ++ t, st'.2)) := by show _ = _; rw [He.out, hst]
        have hfit' : ¬ 4000 - (st'.1.length : Int) < (t.length : Int) := by omega
        have HW := hide (writeString_any w0 q r st' t wr h (by omega))
        clear He hst ht
        go_wp2_with fail
        refine HL.out.mono ?_
        rintro e w1 ⟨rfl, hw1⟩
        rw [hw1]
        clear hw1 w1 HL
        go_wp2_with fail
        refine HW.out.mono ?_
        rintro e w2 ⟨rfl, hF2, hW2⟩
        go_wp2_with fail
        go_roundg (n - (i + 1))
        case measure => omega
        case rel => exact ⟨i + 1, (st'.1 ++ t, st'.2), by omega, by go_num, hW2, hF.trans hF2, Hst.out⟩
    · have hi' : ¬ (i : Int) < (n : Int) := by omega
      have Hst : Hid (putW l st = some st') := by
        show _ = _
        rw [He.out, List.drop_eq_nil_of_le (by rw [← hn.out]; omega)]; rfl
      go_wp2_with fail
      go_end0
      show WPost _ _ _ _ _ _ _
      rw [Hst.out]
      exact ⟨hF, rfl, h⟩
theorem WPost.after {w0 W0 W : World} {q r : Nat} {res : Option Wst} {e : Ending} {W' : World} (hF : Fr q W0 W) (h : WPost w0 q r res W e W') : WPost w0 q r res W0 e W' := by
  cases res with
  | none => exact ⟨hF.trans h.1, h.2⟩
  | some st => exact ⟨hF.trans h.1, h.2⟩
/-- Texts put; the row of them is made just ahead. -/
theorem put_new (w0 : World) (q r n : Nat) (st : Wst) (l : List Bs) (W : World) (h : Wr w0 W q r st) (hn : n = l.length) (hn9 : n ≤ 9) :
    Calls Tryz.prog 167 #[.pointer (some ⟨q, 0, none⟩), .slice (some ⟨W.heap.size, 0, none⟩) n n] (W.alloc (.cells (strsV l).toArray 9)) fun e W' => WPost w0 q r (putW l st) W e W' :=
  (put_any w0 q r W.heap.size n n st l _ (h.alloc _) (BoxT.new W 9 (strsV l)) hn hn9).mono fun e W' hP => hP.after ((Fr.refl _ _).alloc _)
theorem put1 (w0 : World) (q r : Nat) (st : Wst) (t1 : Bs) (W : World) (h : Wr w0 W q r st) :
    Calls Tryz.prog 167 #[.pointer (some ⟨q, 0, none⟩), .slice (some ⟨W.heap.size, 0, none⟩) 1 1] (W.alloc (.cells #[.string (bs t1)] 9)) fun e W' => WPost w0 q r (putW [t1] st) W e W' := put_new w0 q r 1 st [t1] W h rfl (by omega)
theorem put2 (w0 : World) (q r : Nat) (st : Wst) (t1 t2 : Bs) (W : World) (h : Wr w0 W q r st) :
    Calls Tryz.prog 167 #[.pointer (some ⟨q, 0, none⟩), .slice (some ⟨W.heap.size, 0, none⟩) 2 2] (W.alloc (.cells #[.string (bs t1), .string (bs t2)] 9)) fun e W' => WPost w0 q r (putW [t1, t2] st) W e W' := put_new w0 q r 2 st [t1, t2] W h rfl (by omega)
theorem put3 (w0 : World) (q r : Nat) (st : Wst) (t1 t2 t3 : Bs) (W : World) (h : Wr w0 W q r st) :
    Calls Tryz.prog 167 #[.pointer (some ⟨q, 0, none⟩), .slice (some ⟨W.heap.size, 0, none⟩) 3 3] (W.alloc (.cells #[.string (bs t1), .string (bs t2), .string (bs t3)] 9)) fun e W' => WPost w0 q r (putW [t1, t2, t3] st) W e W' := put_new w0 q r 3 st [t1, t2, t3] W h rfl (by omega)
theorem put4s (w0 : World) (q r : Nat) (st : Wst) (t1 t2 t3 t4 : Bs) (W : World) (h : Wr w0 W q r st) :
    Calls Tryz.prog 167 #[.pointer (some ⟨q, 0, none⟩), .slice (some ⟨W.heap.size, 0, none⟩) 4 4] (W.alloc (.cells #[.string (bs t1), .string (bs t2), .string (bs t3), .string (bs t4)] 9)) fun e W' => WPost w0 q r (putW [t1, t2, t3, t4] st) W e W' := put_new w0 q r 4 st [t1, t2, t3, t4] W h rfl (by omega)
theorem put5 (w0 : World) (q r : Nat) (st : Wst) (t1 t2 t3 t4 t5 : Bs) (W : World) (h : Wr w0 W q r st) :
    Calls Tryz.prog 167 #[.pointer (some ⟨q, 0, none⟩), .slice (some ⟨W.heap.size, 0, none⟩) 5 5] (W.alloc (.cells #[.string (bs t1), .string (bs t2), .string (bs t3), .string (bs t4), .string (bs t5)] 9)) fun e W' => WPost w0 q r (putW [t1, t2, t3, t4, t5] st) W e W' := put_new w0 q r 5 st [t1, t2, t3, t4, t5] W h rfl (by omega)

set_option maxRecDepth 20000 in
set_option maxHeartbeats 4000000 in
theorem indent_any (w0 : World) (q r n : Nat) (st : Wst) (w : World) (h : Wr w0 w q r st) (hn : n ≤ 1000000) :
    Calls Tryz.prog 212 #[.pointer (some ⟨q, 0, none⟩), .int .i64 n] w fun e w' => WPost w0 q r (indW n st) w e w' := by
  go_enter Tryz.func212, Tryz.ntmps212
  go_wp2_with fail
  go_loopg [5] n (fun gh iv wx => ∃ (i : Nat) (st' : Wst), i + gh = n ∧ iv = .int .i64 i ∧ Wr w0 wx q r st' ∧ Fr q w wx ∧ Hid (indW n st = indW gh st'))
  case atStart => exact ⟨0, st, by omega, rfl, h, Fr.refl _ _, rfl⟩
  case round =>
    clear h
    obtain ⟨i, st', hig, rfl, h, hF, He⟩ := hrel
    cases gk with
    | zero =>
      have hi' : ¬ (i : Int) < (n : Int) := by omega
      have Hst : Hid (indW n st = some st') := He.out
      clear He
      go_wp2_with fail
      go_end0
      show WPost _ _ _ _ _ _ _
      rw [Hst.out]
      exact ⟨hF, rfl, h⟩
    | succ gg =>
      have hi' : (i : Int) < (n : Int) := by omega
      have H1 := hide (put1 w0 q r st' [32, 32] wr h)
      have He1 : Hid (indW n st = (putW [[32, 32]] st').bind fun st => indW gg st) := He.out
      clear He
      go_wp2_with fail
      refine H1.out.mono ?_
      intro e w1 hP
      cases e1 : putW [[32, 32]] st' with
      | none =>
        rw [e1] at hP He1
        obtain ⟨hF1, rfl, hb1⟩ := hP
        have Hst : Hid (indW n st = none) := He1.out
        go_wp2_with fail
        refine ⟨rfl, ?_⟩
        show WPost _ _ _ _ _ _ _
        rw [Hst.out]
        exact ⟨hF.trans hF1, rfl, hb1⟩
      | some st1 =>
        rw [e1] at hP He1
        obtain ⟨hF1, rfl, hW1⟩ := hP
        go_wp2_with fail
        go_roundg gg
        case measure => omega
        case rel => exact ⟨i + 1, st1, by omega, by go_num, hW1, hF.trans hF1, He1.out⟩

set_option maxRecDepth 20000 in
set_option maxHeartbeats 4000000 in
theorem count_any (w0 : World) (q r : Nat) (st : Wst) (w : World) (h : Wr w0 w q r st) :
    Calls Tryz.prog 249 #[.pointer (some ⟨q, 0, none⟩)] w fun e w' => WPost w0 q r (if 4000 < st.2 + 1 then none else some (st.1, st.2 + 1)) w e w' := by
  obtain ⟨ad, v, hq, ha, hown, hne⟩ := h.blk
  have hcnt := h.cnt
  have hge := h.ge
  have c3 : w.cell? ⟨q, 3, none⟩ = some (.int .i64 st.2) := by rw [Lib.cell_of_heap hq]; rfl
  have f3 : w.frozen? ⟨q, 3, none⟩ = false := Lib.frozen_of_heap hq 3
  have hw1 : IntKind.i64.wrap ((st.2 : Int) + 1) = (st.2 : Int) + 1 := wrap_small _ (by omega) (by omega)
  have hF : Fr q w (w.setCell ⟨q, 3, none⟩ (.int .i64 ((st.2 : Int) + 1))) := ⟨by simp [World.setCell], (Lib.OthersKept.refl _ _ w).setCell ⟨q, 3, none⟩ rfl _⟩
  have hb := h.bel.setCell (p := ⟨q, 3, none⟩) hge (.int .i64 ((st.2 : Int) + 1))
  by_cases hc : 4000 < st.2 + 1
  · rw [if_pos hc]
    have hc' : (4000 : Int) < (st.2 : Int) + 1 := by omega
    go_enter Tryz.func249, Tryz.ntmps249
    go_wp2_with fail
    exact ⟨rfl, hF, rfl, hb⟩
  · rw [if_neg hc]
    have hc' : ¬ (4000 : Int) < (st.2 : Int) + 1 := by omega
    have hW : Wr w0 (w.setCell ⟨q, 3, none⟩ (.int .i64 ((st.2 : Int) + 1))) q r (st.1, st.2 + 1) := by
      refine ⟨h.roles, h.lg, hb, hge, ⟨ad, v, ?_, ha, ?_, hne⟩, h.len, by omega⟩
      · rw [Lib.heap_setCell_same hq]; rfl
      · exact hown.kept (row := some q) ⟨rfl, rfl, rfl, by simp [World.setCell], fun i hi hr => Below.heap_setCell w ⟨q, 3, none⟩ _ i (fun e => hr (by have e : i = q := e; rw [e]))⟩ (.inr (fun e => hne e))
    go_enter Tryz.func249, Tryz.ntmps249
    go_wp2_with fail
    go_end0
    exact ⟨hF, rfl, hW⟩
end Go.Proofs.YtbfhaabpfkopdaaGreatDoor

/- The language: a writer: terms. -/
namespace Go.Proofs.YtbfhaabpfkopdaaGreatDoor
open Go.RowKit
set_option linter.unusedVariables false

/-- All texts and numbers of a term are such as memory can hold. -/
inductive ExSm : Ex → Prop
  | mk (e : Ex) (ho : e.op.length ≤ maxLen) (hn : -9223372036854775808 ≤ e.n ∧ e.n ≤ 9223372036854775807) (hl : e.l.length ≤ maxLen) (h : ∀ (i : Nat) (a : Ex), e.l[i]? = some a → ExSm a) : ExSm e
theorem ExSm.op {e : Ex} (h : ExSm e) : e.op.length ≤ maxLen := by cases h; assumption
theorem ExSm.num {e : Ex} (h : ExSm e) : -9223372036854775808 ≤ e.n ∧ e.n ≤ 9223372036854775807 := by cases h; assumption
theorem ExSm.len {e : Ex} (h : ExSm e) : e.l.length ≤ maxLen := by cases h; assumption
theorem ExSm.at {e a : Ex} {i : Nat} (h : ExSm e) (hi : e.l[i]? = some a) : ExSm a := by cases h with | mk _ _ _ _ h => exact h i a hi
abbrev Any : Nat → Prop := fun _ => True
/-- An element of a row of terms. -/
theorem ExsAt.elem {W : World} {ok : Nat → Prop} {x : Option Addr} {l : List Ex} (h : ExsAt W ok x l) {i : Nat} {a : Ex} (hi : l[i]? = some a) : ∃ b off xa ca, x = some ⟨b, off, none⟩ ∧ b < W.heap.size ∧ W.cell? ⟨b, off + i * 4, none⟩ = some (.string (bs a.op)) ∧ W.cell? ⟨b, off + i * 4 + 1, none⟩ = some (.int .i64 a.n) ∧ W.cell? ⟨b, off + i * 4 + 2, none⟩ = some (.string (bs a.name)) ∧ W.cell? ⟨b, off + i * 4 + 3, none⟩ = some (.slice xa a.l.length ca) ∧ ExsAt W ok xa a.l := by
  cases h with
  | nil => cases hi
  | row b off l A ca hB hlt c0 c1 c2 c3 hr => exact ⟨b, off, A i, ca i, rfl, hlt, c0 i a hi, c1 i a hi, c2 i a hi, c3 i a hi, hr i a hi⟩

def PickP (w0 : World) (a : Ex) (e : Ending) : Prop := ∃ xa ca, e = .returned (.agg #[.string (bs a.op), .int .i64 a.n, .string (bs a.name), .slice xa a.l.length ca]) ∧ ExsAt w0 Any xa a.l
set_option maxRecDepth 20000 in
set_option maxHeartbeats 2000000 in
theorem pick_none (l : List Ex) (i : Nat) (x : Option Addr) (cap : Nat) (w : World) (hl : l.length ≤ maxLen) (hi : l.length ≤ i) (hi9 : i ≤ 9) :
    Calls Tryz.prog 250 #[.slice x l.length cap, .int .i64 i] w fun e w' => e = .panicked [{ v := noT, recovered := false }] ∧ Below w.heap.size w w' := by
  unfold maxLen at hl
  have hi' : (l.length : Int) ≤ (i : Int) := by omega
  go_enter Tryz.func250, Tryz.ntmps250
  go_wp2_with fail
  exact ⟨rfl, rfl, (Below.refl _ _).alloc (Nat.le_refl _) _⟩
set_option maxRecDepth 20000 in
set_option maxHeartbeats 2000000 in
theorem pick_some (w0 : World) (l : List Ex) (i : Nat) (a : Ex) (x : Option Addr) (cap : Nat) (w : World) (hb : Below w0.heap.size w0 w) (hx : ExsAt w0 Any x l) (hl : l.length ≤ maxLen) (hi : l[i]? = some a) (hi9 : i ≤ 9) :
    Calls Tryz.prog 250 #[.slice x l.length cap, .int .i64 i] w fun e w' => PickP w0 a e ∧ Below w.heap.size w w' := by
  obtain ⟨b, off, xa, ca, rfl, hlt, k0, k1, k2, k3, hX⟩ := hx.elem hi
  have hil : i < l.length := by
    rcases Nat.lt_or_ge i l.length with k | k
    · exact k
    · rw [List.getElem?_eq_none k] at hi; cases hi
  have hi' : ¬ (l.length : Int) ≤ (i : Int) := by omega
  have hi2 : (i : Int) < (l.length : Int) := by omega
  unfold maxLen at hl
  have hb1 : Below w0.heap.size w0 (w.alloc (.cells #[.string ⟨#[]⟩, .int .i64 0, .string ⟨#[]⟩, .slice none 0 0] 121)) := hb.alloc hb.size _
  have c0 := (hb1.cell hlt).trans k0
  have c1 := (hb1.cell hlt).trans k1
  have c2 := (hb1.cell hlt).trans k2
  have c3 := (hb1.cell hlt).trans k3
  have B := BoxN.new w 121 [.string ⟨#[]⟩, .int .i64 0, .string ⟨#[]⟩, .slice none 0 0]
  have j0 := B.cell 0 _ rfl
  have j1 := B.cell 1 _ rfl
  have j2 := B.cell 2 _ rfl
  have j3 := B.cell 3 _ rfl
  have f0 := B.fr 0
  have f1 := B.fr 1
  have f2 := B.fr 2
  have f3 := B.fr 3
  have hbw : Below w.heap.size w (w.alloc (.cells #[.string ⟨#[]⟩, .int .i64 0, .string ⟨#[]⟩, .slice none 0 0] 121)) := (Below.refl _ _).alloc (Nat.le_refl _) _
  obtain ⟨W1, hW1⟩ : ∃ W, W = w.alloc (.cells #[.string ⟨#[]⟩, .int .i64 0, .string ⟨#[]⟩, .slice none 0 0] 121) := ⟨_, rfl⟩
  rw [show (#[Value.string ⟨#[]⟩, .int .i64 0, .string ⟨#[]⟩, .slice none 0 0] : Array Value) = [Value.string ⟨#[]⟩, .int .i64 0, .string ⟨#[]⟩, .slice none 0 0].toArray from rfl, ] at hW1 c0 c1 c2 c3 hbw
  rw [← hW1] at c0 c1 c2 c3 j0 j1 j2 j3 f0 f1 f2 f3 hbw
  go_enter Tryz.func250, Tryz.ntmps250
  go_upto_region 1 with fail
  change Code.wp _ _ _ _ (w.alloc (.cells [Value.string ⟨#[]⟩, .int .i64 0, .string ⟨#[]⟩, .slice none 0 0].toArray 121))
  rw [← hW1]
  clear hW1
  obtain ⟨g, hg⟩ : ∃ g, Hid (g = w.heap.size) := ⟨_, rfl⟩
  go_wp2_with fail
  refine bodyPost_ret (v := .agg #[.string (bs a.op), .int .i64 a.n, .string (bs a.name), .slice xa a.l.length ca]) (by simp [results, Tryz.results250, go_sem, j0, j1, j2, j3]) rfl ?_
  exact ⟨⟨xa, ca, rfl, hX⟩, (((hbw.setCell (p := ⟨w.heap.size, 0, none⟩) (Nat.le_refl _) _).setCell (p := ⟨w.heap.size, 1, none⟩) (Nat.le_refl _) _).setCell (p := ⟨w.heap.size, 2, none⟩) (Nat.le_refl _) _).setCell (p := ⟨w.heap.size, 3, none⟩) (Nat.le_refl _) _⟩

/-- How a term is written. -/
def TermC (w0 : World) (q r k : Nat) : Prop := ∀ (W : World) (e : Ex) (x : Option Addr) (cap : Nat) (least : Int) (st : Wst), Wr w0 W q r st → 4001 ≤ st.2 + k → ExSm e → ExsAt w0 Any x e.l → 0 ≤ least → least ≤ 9 →
  Calls Tryz.prog 213 #[.pointer (some ⟨q, 0, none⟩), .agg #[.string (bs e.op), .int .i64 e.n, .string (bs e.name), .slice x e.l.length cap], .int .i64 least] W fun e' W' => WPost w0 q r (exW k e least st) W e' W'
theorem pickW_none {l : List Ex} {i : Nat} {F : Ex → Option Wst} (h : l[i]? = none) : pickW l i F = none := by unfold pickW; rw [h]
theorem pickW_some {l : List Ex} {i : Nat} {F : Ex → Option Wst} {a : Ex} (h : l[i]? = some a) : pickW l i F = F a := by unfold pickW; rw [h]
theorem none_le {l : List Ex} {i : Nat} (h : l[i]? = none) : l.length ≤ i := by simpa using h
/-- Writing puts behind; terms are counted upward. -/
def Up (st st' : Wst) : Prop := st.1.length ≤ st'.1.length ∧ st.2 ≤ st'.2
theorem putW_up : ∀ (l : List Bs) (st st' : Wst), putW l st = some st' → st.1.length ≤ st'.1.length ∧ st'.2 = st.2
  | [], st, st', h => by cases h; exact ⟨Nat.le_refl _, rfl⟩
  | t :: l, st, st', h => by
    have h : (if 4000 < st.1.length + t.length then none else putW l (st.1 ++ t, st.2)) = some st' := h
    split at h
    · cases h
    · obtain ⟨h1, h2⟩ := putW_up l _ st' h
      exact ⟨by simp at h1; omega, h2⟩
theorem exW_up : ∀ (k : Nat) (e : Ex) (least : Int) (st st' : Wst), exW k e least st = some st' → Up st st'
  | 0, e, least, st, st', h => by cases h
  | k + 1, e, least, st, st', h => by
    have pairUp : ∀ (sg : Int) (st st' : Wst), pairW (exW k) e sg st = some st' → Up st st' := fun sg st st' h => by
      unfold pairW at h
      cases h0 : e.l[0]? with
      | none => rw [pickW_none h0] at h; cases h
      | some a0 =>
        rw [pickW_some h0] at h
        cases e1 : exW k a0 sg st with
        | none => rw [e1] at h; cases h
        | some s1 =>
          rw [e1] at h
          have u1 := exW_up k a0 sg st s1 e1
          have h : ((putW [[32], e.op, [32]] s1).bind fun st => pickW e.l 1 fun b => exW k b (sg + 1) st) = some st' := h
          cases e2 : putW [[32], e.op, [32]] s1 with
          | none => rw [e2] at h; cases h
          | some s2 =>
            rw [e2] at h
            have u2 := putW_up _ _ _ e2
            have h : (pickW e.l 1 fun b => exW k b (sg + 1) s2) = some st' := h
            cases h1 : e.l[1]? with
            | none => rw [pickW_none h1] at h; cases h
            | some a1 =>
              rw [pickW_some h1] at h
              have u3 := exW_up k a1 _ s2 st' h
              exact ⟨by have := u1.1; have := u2.1; have := u3.1; omega, by have := u1.2; have := u2.2; have := u3.2; omega⟩
    unfold exW at h
    split at h
    · cases h
    split at h
    · have := putW_up _ _ _ h; exact ⟨this.1, by have := this.2; simp at this; omega⟩
    split at h
    · have := putW_up _ _ _ h; exact ⟨this.1, by have := this.2; simp at this; omega⟩
    split at h
    · cases e1 : putW [e.name, [91]] (st.1, st.2 + 1) with
      | none => rw [e1] at h; cases h
      | some s1 =>
        rw [e1] at h
        have u1 := putW_up _ _ _ e1
        have h : ((pickW e.l 0 fun a => exW k a 7 s1).bind fun st => putW [[93]] st) = some st' := h
        cases h0 : e.l[0]? with
        | none => rw [pickW_none h0] at h; cases h
        | some a0 =>
          rw [pickW_some h0] at h
          cases e2 : exW k a0 7 s1 with
          | none => rw [e2] at h; cases h
          | some s2 =>
            rw [e2] at h
            have u2 := exW_up k a0 7 s1 s2 e2
            have u3 := putW_up [[93]] s2 st' h
            exact ⟨by have := u1.1; have := u2.1; have := u3.1; simp at *; omega, by have := u1.2; have := u2.2; have := u3.2; simp at *; omega⟩
    split at h
    · cases e1 : putW [[45]] (st.1, st.2 + 1) with
      | none => rw [e1] at h; cases h
      | some s1 =>
        rw [e1] at h
        have u1 := putW_up _ _ _ e1
        have h : (pickW e.l 0 fun a => exW k a 9 s1) = some st' := h
        cases h0 : e.l[0]? with
        | none => rw [pickW_none h0] at h; cases h
        | some a0 =>
          rw [pickW_some h0] at h
          have u2 := exW_up k a0 9 s1 st' h
          exact ⟨by have := u1.1; have := u2.1; simp at *; omega, by have := u1.2; have := u2.2; simp at *; omega⟩
    split at h
    · cases h
    split at h
    · cases e1 : putW [[40]] (st.1, st.2 + 1) with
      | none => rw [e1] at h; cases h
      | some s1 =>
        rw [e1] at h
        have u1 := putW_up _ _ _ e1
        have h : ((pairW (exW k) e (roleTab e.op) s1).bind fun st => putW [[41]] st) = some st' := h
        cases e2 : pairW (exW k) e (roleTab e.op) s1 with
        | none => rw [e2] at h; cases h
        | some s2 =>
          rw [e2] at h
          have u2 := pairUp _ _ _ e2
          have u3 := putW_up [[41]] s2 st' h
          exact ⟨by have := u1.1; have := u2.1; have := u3.1; simp at *; omega, by have := u1.2; have := u2.2; have := u3.2; simp at *; omega⟩
    · have u2 := pairUp _ _ _ h
      exact ⟨u2.1, by have := u2.2; simp at *; omega⟩

set_option maxRecDepth 20000 in
set_option maxHeartbeats 4000000 in
theorem pair_any (w0 : World) (q r k : Nat) (HT : Hid (TermC w0 q r k)) (w : World) (e : Ex) (x : Option Addr) (cap : Nat) (sign : Int) (st : Wst) (h : Wr w0 w q r st) (hk : 4001 ≤ st.2 + k) (hs : ExSm e) (hx : ExsAt w0 Any x e.l) (hg1 : 0 ≤ sign) (hg2 : sign ≤ 8) :
    Calls Tryz.prog 251 #[.pointer (some ⟨q, 0, none⟩), .agg #[.string (bs e.op), .int .i64 e.n, .string (bs e.name), .slice x e.l.length cap], .int .i64 sign] w fun e' w' => WPost w0 q r (pairW (exW k) e sign st) w e' w' := by
  obtain ⟨res, hres⟩ : ∃ res, res = pairW (exW k) e sign st := ⟨_, rfl⟩
  have He : Hid (res = (pickW e.l 0 fun a => exW k a sign st).bind fun st => (putW [[32], e.op, [32]] st).bind fun st => pickW e.l 1 fun b => exW k b (sign + 1) st) := hres
  rw [← hres]
  clear hres
  have hlen := hs.len
  have B := BoxT.new w 121 [.string (bs e.op), .int .i64 e.n, .string (bs e.name), .slice x e.l.length cap]
  have hW0 := h.alloc (.cells [.string (bs e.op), .int .i64 e.n, .string (bs e.name), .slice x e.l.length cap].toArray 121)
  have F0 : Fr q w (w.alloc (.cells [.string (bs e.op), .int .i64 e.n, .string (bs e.name), .slice x e.l.length cap].toArray 121)) := (Fr.refl _ _).alloc _
  have hbq : w.heap.size ≠ q := by have := h.lt; omega
  obtain ⟨W0, hW0e⟩ : ∃ W, W = w.alloc (.cells [.string (bs e.op), .int .i64 e.n, .string (bs e.name), .slice x e.l.length cap].toArray 121) := ⟨_, rfl⟩
  rw [← hW0e] at B hW0 F0
  have hw1 : IntKind.i64.wrap (sign + 1) = sign + 1 := wrap_small _ (by omega) (by omega)
  go_enter Tryz.func251, Tryz.ntmps251
  go_upto_region 1 with fail
  change Code.wp _ _ _ _ (w.alloc (.cells [.string (bs e.op), .int .i64 e.n, .string (bs e.name), .slice x e.l.length cap].toArray 121))
  rw [← hW0e]
  obtain ⟨g, hg⟩ : ∃ g, g = w.heap.size := ⟨_, rfl⟩
  rw [← hg] at B hbq ⊢
  clear hg hW0e h
  have c3 := B.cell 3 _ rfl
  cases e0 : e.l[0]? with
  | none =>
    have H0 := hide (pick_none e.l 0 x cap W0 hlen (none_le e0) (by omega))
    have He1 : Hid (res = none) := by show _ = _; rw [He.out, pickW_none e0]; rfl
    have hbel := hW0.bel
    go_wp2_with fail
    refine H0.out.mono ?_
    rintro e' w1 ⟨rfl, hb1⟩
    go_wp2_with fail
    refine ⟨rfl, ?_⟩
    show WPost _ _ _ _ _ _ _
    rw [He1.out]
    exact ⟨F0.trans (Fr.of hb1), rfl, hbel.trans (hb1.mono hbel.size)⟩
  | some a0 =>
    have H0 := hide (pick_some w0 e.l 0 a0 x cap W0 hW0.bel hx hlen e0 (by omega))
    have He1 : Hid (res = (exW k a0 sign st).bind fun st => (putW [[32], e.op, [32]] st).bind fun st => pickW e.l 1 fun b => exW k b (sign + 1) st) := by show _ = _; rw [He.out, pickW_some e0]
    clear He
    go_wp2_with fail
    refine H0.out.mono ?_
    rintro e' w1 ⟨⟨xa, ca, rfl, hxa⟩, hb1⟩
    have hW1 := hW0.below hb1
    have B1 := B.bel hb1
    have H1 := hide (HT.out w1 a0 xa ca sign st hW1 hk (hs.at e0) hxa hg1 (by omega))
    go_wp2_with fail
    refine H1.out.mono ?_
    intro e' w2 hP
    have F1 := F0.trans (Fr.of hb1)
    cases e1 : exW k a0 sign st with
    | none =>
      rw [e1] at hP He1
      obtain ⟨hF2, rfl, hb2⟩ := hP
      go_wp2_with fail
      refine ⟨rfl, ?_⟩
      show WPost _ _ _ _ _ _ _
      rw [He1.out]
      exact ⟨F1.trans hF2, rfl, hb2⟩
    | some s1 =>
      rw [e1] at hP He1
      obtain ⟨hF2, rfl, hW2⟩ := hP
      have u1 := exW_up _ _ _ _ _ e1
      have He2 : Hid (res = (putW [[32], e.op, [32]] s1).bind fun st => pickW e.l 1 fun b => exW k b (sign + 1) st) := He1.out
      clear He1 e1 H1 H0
      have B2 := B1.fr hF2 hbq (by decide)
      have F2 := F1.trans hF2
      have k0 := B2.cell 0 _ rfl
      have H2 := hide (put3 w0 q r s1 [32] e.op [32] w2 hW2)
      go_wp2_with fail
      refine H2.out.mono ?_
      intro e' w3 hP
      cases e2 : putW [[32], e.op, [32]] s1 with
      | none =>
        rw [e2] at hP He2
        obtain ⟨hF3, rfl, hb3⟩ := hP
        go_wp2_with fail
        refine ⟨rfl, ?_⟩
        show WPost _ _ _ _ _ _ _
        rw [He2.out]
        exact ⟨F2.trans hF3, rfl, hb3⟩
      | some s2 =>
        rw [e2] at hP He2
        obtain ⟨hF3, rfl, hW3⟩ := hP
        have u2 := putW_up _ _ _ e2
        have He3 : Hid (res = pickW e.l 1 fun b => exW k b (sign + 1) s2) := He2.out
        clear He2 e2 H2
        have B3 := B2.fr hF3 hbq (by decide)
        have F3 := F2.trans hF3
        have k3 := B3.cell 3 _ rfl
        cases e4 : e.l[1]? with
        | none =>
          have H4 := hide (pick_none e.l 1 x cap w3 hlen (none_le e4) (by omega))
          have He4 : Hid (res = none) := by show _ = _; rw [He3.out, pickW_none e4]
          have hbel := hW3.bel
          go_wp2_with fail
          refine H4.out.mono ?_
          rintro e' w4 ⟨rfl, hb4⟩
          go_wp2_with fail
          refine ⟨rfl, ?_⟩
          show WPost _ _ _ _ _ _ _
          rw [He4.out]
          exact ⟨F3.trans (Fr.of hb4), rfl, hbel.trans (hb4.mono hbel.size)⟩
        | some a1 =>
          have H4 := hide (pick_some w0 e.l 1 a1 x cap w3 hW3.bel hx hlen e4 (by omega))
          have He4 : Hid (res = exW k a1 (sign + 1) s2) := by show _ = _; rw [He3.out, pickW_some e4]
          clear He3
          go_wp2_with fail
          refine H4.out.mono ?_
          rintro e' w4 ⟨⟨xb, cb, rfl, hxb⟩, hb4⟩
          have hW4 := hW3.below hb4
          have F4 := F3.trans (Fr.of hb4)
          have H5 := hide (HT.out w4 a1 xb cb (sign + 1) s2 hW4 (by have := u1.2; have := u2.2; omega) (hs.at e4) hxb (by omega) (by omega))
          go_wp2_with fail
          refine H5.out.mono ?_
          intro e' w5 hP
          cases e5 : exW k a1 (sign + 1) s2 with
          | none =>
            rw [e5] at hP He4
            obtain ⟨hF5, rfl, hb5⟩ := hP
            go_wp2_with fail
            refine ⟨rfl, ?_⟩
            show WPost _ _ _ _ _ _ _
            rw [He4.out]
            exact ⟨F4.trans hF5, rfl, hb5⟩
          | some s5 =>
            rw [e5] at hP He4
            obtain ⟨hF5, rfl, hW5⟩ := hP
            go_wp2_with fail
            go_end0
            show WPost _ _ _ _ _ _ _
            rw [He4.out]
            exact ⟨F4.trans hF5, rfl, hW5⟩
end Go.Proofs.YtbfhaabpfkopdaaGreatDoor
