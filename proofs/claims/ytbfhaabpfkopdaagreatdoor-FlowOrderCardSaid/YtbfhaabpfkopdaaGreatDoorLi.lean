/- The language: the reader: its words (pass, take, want ..). -/
import Derived.Test.YtbfhaabpfkopdaaGreatDoorLf
import Derived.Deep.RegionLaw
import Derived.Deep.AppendLies
import Derived.Maps.AppendAt
import Derived.StillTailTactics
namespace Go.Proofs.YtbfhaabpfkopdaaGreatDoor
open Go.RowKit
set_option linter.unusedVariables false

/-- What a reader leans on: the errors, the library's variables, the roles. -/
structure Env (w : World) (a : Nat → Addr) (r : Nat) : Prop where
  sents : Sents w a
  lg : LgW w
  roles : RolesAt w r
theorem Env.below {w w' : World} {a : Nat → Addr} {r : Nat} (h : Env w a r) (hb : Below w.heap.size w w') : Env w' a r := ⟨h.sents.below hb, h.lg.below hb, h.roles.below hb⟩
/-- A reader in its block p, over what was there in w0; its text, the word ahead. -/
structure Rd (w0 W : World) (a : Nat → Addr) (p r : Nat) (s : Bs) (d : Wd) : Prop where
  env : Env w0 a r
  bel : Below w0.heap.size w0 W
  ge : w0.heap.size ≤ p
  lt : p < W.heap.size
  c0 : W.cell? ⟨p, 0, none⟩ = some (.string (bs s))
  c1 : W.cell? ⟨p, 1, none⟩ = some (.map (some r))
  c2 : W.cell? ⟨p, 2, none⟩ = some (.int .i64 d.role)
  c3 : W.cell? ⟨p, 3, none⟩ = some (.string (bs d.text))
  c4 : W.cell? ⟨p, 4, none⟩ = some (.int .i64 d.pos)
  fr : ∀ o, W.frozen? ⟨p, o, none⟩ = false
  ins : InS s d
  ls : s.length ≤ 4000
theorem Rd.below {w0 W W' : World} {a : Nat → Addr} {p r : Nat} {s : Bs} {d : Wd} (h : Rd w0 W a p r s d) (hb : Below W.heap.size W W') : Rd w0 W' a p r s d :=
  ⟨h.env, h.bel.trans (hb.mono h.bel.size), h.ge, Nat.lt_of_lt_of_le h.lt hb.size, (hb.cell h.lt).trans h.c0, (hb.cell h.lt).trans h.c1, (hb.cell h.lt).trans h.c2, (hb.cell h.lt).trans h.c3, (hb.cell h.lt).trans h.c4, fun o => (hb.frozen h.lt).trans (h.fr o), h.ins, h.ls⟩
/-- The next word stored. -/
theorem Rd.pass {w0 W : World} {a : Nat → Addr} {p r : Nat} {s : Bs} {d : Wd} (h : Rd w0 W a p r s d) (d' : Wd) (hi : InS s d') :
    Rd w0 (((W.setCell ⟨p, 2, none⟩ (.int .i64 d'.role)).setCell ⟨p, 3, none⟩ (.string (bs d'.text))).setCell ⟨p, 4, none⟩ (.int .i64 d'.pos)) a p r s d' := by
  have hne : ∀ {i j : Nat}, i ≠ j → (⟨p, i, none⟩ : Addr) ≠ ⟨p, j, none⟩ := fun k e => k (by cases e; rfl)
  have same : ∀ (V : World) (o : Nat) (u v : Value), V.cell? ⟨p, o, none⟩ = some u → (V.setCell ⟨p, o, none⟩ v).cell? ⟨p, o, none⟩ = some v := fun V o u v hu => World.cell?_setCell_same V _ _ hu
  have oth : ∀ (V : World) (o o' : Nat) (v : Value), o ≠ o' → (V.setCell ⟨p, o, none⟩ v).cell? ⟨p, o', none⟩ = V.cell? ⟨p, o', none⟩ := fun V o o' v k => World.cell?_setCell_other V _ _ _ (hne k)
  refine ⟨h.env, ((h.bel.setCell (p := ⟨p, 2, none⟩) h.ge _).setCell (p := ⟨p, 3, none⟩) h.ge _).setCell (p := ⟨p, 4, none⟩) h.ge _, h.ge, by simpa [World.setCell] using h.lt, ?_, ?_, ?_, ?_, ?_, fun o => by simpa using h.fr o, hi, h.ls⟩
  · rw [oth _ _ _ _ (by omega), oth _ _ _ _ (by omega), oth _ _ _ _ (by omega)]; exact h.c0
  · rw [oth _ _ _ _ (by omega), oth _ _ _ _ (by omega), oth _ _ _ _ (by omega)]; exact h.c1
  · rw [oth _ _ _ _ (by omega), oth _ _ _ _ (by omega)]; exact same _ _ _ _ h.c2
  · rw [oth _ _ _ _ (by omega)]; exact same _ _ _ _ (by rw [oth _ _ _ _ (by omega)]; exact h.c3)
  · exact same _ _ _ _ (by rw [oth _ _ _ _ (by omega), oth _ _ _ _ (by omega)]; exact h.c4)

/-- Nothing but the reader's block has turned. -/
def Gr (p : Nat) (W W' : World) : Prop := W.grownBy W' (some p)
theorem Gr.below {p : Nat} {W W' W2 : World} (h : Gr p W W') (hb : Below W'.heap.size W' W2) : Gr p W W2 :=
  ⟨hb.os.trans h.os, hb.tape.trans h.tape, hb.output.trans h.output, Nat.le_trans h.size hb.size, fun i hi hne => (hb.block i (Nat.lt_of_lt_of_le hi h.size)).trans (h.block i hi hne)⟩
theorem Gr.refl (p : Nat) (W : World) : Gr p W W := World.grownBy.refl W _
theorem Gr.of {p : Nat} {W W2 : World} (hb : Below W.heap.size W W2) : Gr p W W2 := (Gr.refl p W).below hb
theorem Gr.trans {p : Nat} {W W' W2 : World} (h : Gr p W W') (k : Gr p W' W2) : Gr p W W2 := World.grownBy.trans h k
theorem Gr.set {p : Nat} {W W' : World} (h : Gr p W W') (o : Nat) (v : Value) : Gr p W (W'.setCell ⟨p, o, none⟩ v) :=
  ⟨h.os, h.tape, h.output, by simpa [World.setCell] using h.size, fun i hi hne => (Below.heap_setCell W' ⟨p, o, none⟩ v i (fun e => hne (by rw [e]))).trans (h.block i hi hne)⟩

set_option maxRecDepth 20000 in
set_option maxHeartbeats 4000000 in
theorem pass_any (w0 : World) (a : Nat → Addr) (p r : Nat) (s : Bs) (d : Wd) (w : World) (h : Rd w0 w a p r s d) :
    Calls Tryz.prog 160 #[.pointer (some ⟨p, 0, none⟩)] w fun e w' => e = .returned (.string (bs d.text)) ∧ Rd w0 w' a p r s (nextW s d) ∧ Gr p w w' := by
  obtain ⟨i, hi⟩ : ∃ i, i = d.pos + d.text.length := ⟨_, rfl⟩
  have hle := h.ins.le
  have hls := h.ls
  have hle' : i ≤ s.length := by omega
  have HW : Hid (∀ W : World, Env W a r → Calls Tryz.prog 103 #[.map (some r), .string (bs s), .int .i64 i] W fun e w' => e = .returned (wdV (nextW s d)) ∧ Below W.heap.size W w') := fun W hE => by
    rw [hi]; exact wordFrom_any r _ s W hE.roles hE.lg (by omega) (by omega)
  obtain ⟨d', hd'⟩ : ∃ d', d' = nextW s d := ⟨_, rfl⟩
  have hins' : InS s d' := by rw [hd']; exact nextW_in s d
  rw [← hd'] at HW ⊢
  have ei : (d.pos : Int) + (d.text.length : Int) = (i : Int) := by omega
  have wi : IntKind.i64.wrap (i : Int) = (i : Int) := wrap_small _ (by omega) (by omega)
  have esz : ((bs d.text).size : Int) = (d.text.length : Int) := by rw [bs_size]
  obtain ⟨_, _, hge, hlt, c0, c1, c2, c3, c4, fr, _, _⟩ := id h
  have f2 := fr 2
  have f3 := fr 3
  have f4 := fr 4
  clear hd' hi hle fr
  go_enter Tryz.func160, Tryz.ntmps160
  go_upto_region 2 with fail
  have hE : Env w a r := h.env.below h.bel
  have hE' : Env w.drew a r := hE.below (Below.refl _ _).drew
  go_region_with (first | (go_at_call 103; refine (HW.out _ (by first | exact hE | exact hE')).mono ?_; rintro e w1 ⟨rfl, hb1⟩; simp only [wdV]; have hR1 : Rd w0 w1 a p r s d := h.below ((Below.refl _ _).drew.trans (hb1.mono (Nat.le_refl _))); have k2 := hR1.c2; have k3 := hR1.c3; have k4 := hR1.c4; have g2 := hR1.fr 2; have g3 := hR1.fr 3; have g4 := hR1.fr 4))
  all_goals
    have hG1 : Gr p w w1 := (Gr.of (Below.refl _ _).drew).below hb1
    go_wp2_with fail
    go_ret
    exact ⟨rfl, hR1.pass d' hins', ((hG1.set 2 _).set 3 _).set 4 _⟩

/-- An error as the program has it. -/
def errV (a : Nat → Addr) (c : Int) : Value := .iface 421 (.pointer (some (a (c.toNat - 1))))
/-- A fault in its block. -/
structure FaultAt (W : World) (a : Nat → Addr) (N : Nat) (c : Int) (pos : Nat) : Prop where
  c0 : W.cell? ⟨N, 0, none⟩ = some (.int .i64 pos)
  c1 : W.cell? ⟨N, 1, none⟩ = some (errV a c)
/-- What a reading function answers: a value and the word ahead; or it panics, with a fault. -/
def RPost {α : Type} (w0 : World) (a : Nat → Addr) (p r : Nat) (s : Bs) (res : Res α) (V : World → Value → α → Prop) (W : World) (e : Ending) (W' : World) : Prop :=
  Gr p W W' ∧ match res with
    | .ok x d => ∃ v, e = .returned v ∧ Rd w0 W' a p r s d ∧ V W' v x
    | .err c pos => ∃ N, e = .panicked [{ v := .iface 158 (.pointer (some ⟨N, 0, none⟩)), recovered := false }] ∧ FaultAt W' a N c pos ∧ N < W'.heap.size
    | .out => True
theorem RPost.ok {α : Type} {w0 : World} {a : Nat → Addr} {p r : Nat} {s : Bs} {V : World → Value → α → Prop} {W W' : World} {x : α} {d : Wd} {v : Value} (hg : Gr p W W') (hr : Rd w0 W' a p r s d) (hv : V W' v x) : RPost w0 a p r s (.ok x d) V W (.returned v) W' := ⟨hg, v, rfl, hr, hv⟩

end Go.Proofs.YtbfhaabpfkopdaaGreatDoor

/- The language: the reader: throw, take, want, name, number, deeper. -/
namespace Go.Proofs.YtbfhaabpfkopdaaGreatDoor
open Go.RowKit
set_option linter.unusedVariables false

/-- The error in its variable. -/
theorem Rd.errT {w0 W : World} {a : Nat → Addr} {p r : Nat} {s : Bs} {d : Wd} (h : Rd w0 W a p r s d) : W.cell? ⟨2, 0, none⟩ = some (errV a 1) := (h.env.below h.bel).sents.cell 0 (by omega)
theorem Rd.errB {w0 W : World} {a : Nat → Addr} {p r : Nat} {s : Bs} {d : Wd} (h : Rd w0 W a p r s d) : W.cell? ⟨0, 0, none⟩ = some (errV a 2) := (h.env.below h.bel).sents.cell 1 (by omega)
theorem RPost.mono {α β : Type} {w0 : World} {a : Nat → Addr} {p r : Nat} {s : Bs} {c : Int} {pos : Nat} {V : World → Value → α → Prop} {V' : World → Value → β → Prop} {W0 W W' : World} {e : Ending} (hg : Gr p W0 W) (h : RPost w0 a p r s (.err c pos) V W e W') : RPost w0 a p r s (.err c pos) V' W0 e W' := ⟨hg.trans h.1, h.2⟩

set_option maxRecDepth 20000 in
set_option maxHeartbeats 2000000 in
theorem throw_any (w0 : World) (a : Nat → Addr) (p r : Nat) (s : Bs) (d : Wd) (c : Int) (w : World) (h : Rd w0 w a p r s d) :
    Calls Tryz.prog 161 #[.pointer (some ⟨p, 0, none⟩), errV a c] w fun e w' => RPost (α := Unit) w0 a p r s (.err c d.pos) (fun _ _ _ => True) w e w' := by
  obtain ⟨_, _, hge, hlt, c0, c1, c2, c3, c4, fr, _, _⟩ := id h
  unfold errV
  go_enter Tryz.func161, Tryz.ntmps161
  go_wp2_with fail
  exact ⟨rfl, Gr.of ((Below.refl _ _).alloc (Nat.le_refl _) _), _, rfl, ⟨by simp, by simp [errV]⟩, by simp⟩

set_option maxRecDepth 20000 in
set_option maxHeartbeats 2000000 in
theorem take_any (w0 : World) (a : Nat → Addr) (p r : Nat) (s t : Bs) (d : Wd) (w : World) (h : Rd w0 w a p r s d) :
    Calls Tryz.prog 105 #[.pointer (some ⟨p, 0, none⟩), .string (bs t)] w fun e w' => (if d.text = t then e = .returned (.bool true) ∧ Rd w0 w' a p r s (nextW s d) else e = .returned (.bool false) ∧ w' = w) ∧ Gr p w w' := by
  obtain ⟨_, _, hge, hlt, c0, c1, c2, c3, c4, fr, _, _⟩ := id h
  by_cases ht : d.text = t
  · have HP := hide (pass_any w0 a p r s d w h)
    simp only [if_pos ht]
    have ht' : (d.text == t) = true := by simp [ht]
    have Ht := hide ht
    clear ht
    go_enter Tryz.func105, Tryz.ntmps105
    go_wp2_with fail
    refine HP.out.mono ?_
    rintro e w1 ⟨rfl, hR1, hG1⟩
    go_wp2_with fail
    go_ret
    exact ⟨⟨rfl, hR1⟩, hG1⟩
  · simp only [if_neg ht]
    have ht' : (d.text == t) = false := by simp [ht]
    clear ht
    go_enter Tryz.func105, Tryz.ntmps105
    go_wp2_with fail
    go_ret
    exact ⟨⟨rfl, rfl⟩, Gr.refl _ _⟩

/-- Texts in memory, apart from the reader. -/
structure StrsAt (W : World) (p b : Nat) (l : List Bs) : Prop where
  ne : b ≠ p
  lt : b < W.heap.size
  cell : ∀ i t, l[i]? = some t → W.cell? ⟨b, i, none⟩ = some (.string (bs t))
theorem StrsAt.grown {W W' : World} {p b : Nat} {l : List Bs} (h : StrsAt W p b l) (hg : Gr p W W') : StrsAt W' p b l :=
  ⟨h.ne, Nat.lt_of_lt_of_le h.lt hg.size, fun i t hi => (World.grownBy.cell_far hg ⟨b, i, none⟩ h.lt (fun e => h.ne (by simpa using e))).trans (h.cell i t hi)⟩
def wantL (s : Bs) : List Bs → Wd → Res Unit
  | [], d => .ok () d
  | t :: l, d => (wantW s t d).bind fun _ d => wantL s l d
theorem wantL_step (s : Bs) (l : List Bs) (i : Nat) (t : Bs) (h : l[i]? = some t) (d : Wd) : wantL s (l.drop i) d = (wantW s t d).bind fun _ d => wantL s (l.drop (i + 1)) d := by
  have : l.drop i = t :: l.drop (i + 1) := by
    have hi : i < l.length := by
      rcases Nat.lt_or_ge i l.length with k | k
      · exact k
      · rw [List.getElem?_eq_none k] at h; cases h
    rw [List.drop_eq_getElem_cons hi]
    rw [List.getElem?_eq_getElem hi] at h
    cases h
    rfl
  rw [this]; rfl

set_option maxRecDepth 20000 in
set_option maxHeartbeats 4000000 in
theorem want_any (w0 : World) (a : Nat → Addr) (p r b n cap : Nat) (s : Bs) (l : List Bs) (d : Wd) (w : World) (h : Rd w0 w a p r s d) (hS : StrsAt w p b l) (hn : Hid (n = l.length)) (hn9 : n ≤ 9) :
    Calls Tryz.prog 107 #[.pointer (some ⟨p, 0, none⟩), .slice (some ⟨b, 0, none⟩) n cap] w fun e w' => RPost w0 a p r s (wantL s l d) (fun _ v _ => v = .tuple #[]) w e w' := by
  go_enter Tryz.func107, Tryz.ntmps107
  go_wp2_with fail
  go_loopg [8] n (fun gh iv wx => ∃ (i : Nat) (d' : Wd), i + gh = n ∧ iv = .int .i64 i ∧ Rd w0 wx a p r s d' ∧ StrsAt wx p b l ∧ Gr p w wx ∧ Hid (wantL s l d = wantL s (l.drop i) d'))
  case atStart => exact ⟨0, d, by omega, rfl, h, hS, Gr.refl _ _, rfl⟩
  case round =>
    clear h hS
    obtain ⟨i, d', hig, rfl, h, hS, hG, He⟩ := hrel
    obtain ⟨_, _, hge, hlt, c0, c1, c2, c3, c4, fr, _, _⟩ := id h
    by_cases hi : i < n
    · have hi' : (i : Int) < (n : Int) := by omega
      obtain ⟨t, ht⟩ : ∃ t, l[i]? = some t := ⟨_, List.getElem?_eq_getElem (by rw [← hn.out]; exact hi)⟩
      have hc := hS.cell i t ht
      have hbl := hS.lt
      have HT := hide (take_any w0 a p r s t d' wr h)
      have hst := wantL_step s l i t ht d'
      have eT := h.errT
      by_cases htx : d'.text = t
      · have Hst : Hid (wantL s l d = wantL s (l.drop (i + 1)) (nextW s d')) := by
          show _ = _
          rw [He.out, hst]; unfold wantW; rw [if_pos htx]; rfl
        simp only [if_pos htx] at HT
        clear He hst htx ht
        go_wp2_with fail
        refine HT.out.mono ?_
        rintro e w1 ⟨⟨rfl, hR1⟩, hG1⟩
        go_wp2_with fail
        go_roundg (n - (i + 1))
        case measure => omega
        case rel => exact ⟨i + 1, nextW s d', by omega, by go_num, hR1, hS.grown hG1, hG.trans hG1, Hst.out⟩
      · have Hst : Hid (wantL s l d = .err 1 d'.pos) := by
          show _ = _
          rw [He.out, hst]; unfold wantW; rw [if_neg htx]; rfl
        simp only [if_neg htx] at HT
        have HTh : Hid (Calls Tryz.prog 161 #[.pointer (some ⟨p, 0, none⟩), errV a 1] wr fun e w' => RPost (α := Unit) w0 a p r s (.err 1 d'.pos) (fun _ _ _ => True) wr e w') := throw_any w0 a p r s d' 1 wr h
        clear He hst htx ht
        go_wp2_with fail
        refine HT.out.mono ?_
        rintro e w1 ⟨⟨rfl, hw1⟩, hx1⟩
        rw [hw1]
        clear hx1 hw1 w1
        go_wp2_with fail
        refine HTh.out.mono ?_
        rintro e w2 hP
        obtain ⟨hG2, N, rfl, hF, hlt2⟩ := hP
        go_wp2_with fail
        refine ⟨rfl, ?_⟩
        rw [Hst.out]
        exact ⟨hG.trans hG2, N, rfl, hF, hlt2⟩
    · have hi' : ¬ (i : Int) < (n : Int) := by omega
      have Hst : Hid (wantL s l d = .ok () d') := by
        show _ = _
        rw [He.out, List.drop_eq_nil_of_le (by rw [← hn.out]; omega)]; rfl
      go_wp2_with fail
      go_end0
      rw [Hst.out]
      exact ⟨hG, _, rfl, h, rfl⟩

set_option maxRecDepth 20000 in
set_option maxHeartbeats 2000000 in
theorem wantOf_any (w0 : World) (a : Nat → Addr) (p r : Nat) (s : Bs) (q : Int) (d : Wd) (w : World) (h : Rd w0 w a p r s d) :
    Calls Tryz.prog 111 #[.pointer (some ⟨p, 0, none⟩), .int .i64 q] w fun e w' => RPost w0 a p r s (wantR s q d) (fun _ v t => v = .string (bs t)) w e w' := by
  obtain ⟨_, _, hge, hlt, c0, c1, c2, c3, c4, fr, _, _⟩ := id h
  have eT := h.errT
  unfold wantR
  by_cases hq : d.role = q
  · rw [if_pos hq]
    have HP := hide (pass_any w0 a p r s d w h)
    have hq' : (d.role == q) = true := by simp [hq]
    subst hq
    go_enter Tryz.func111, Tryz.ntmps111
    go_wp2_with fail
    refine HP.out.mono ?_
    rintro e w1 ⟨rfl, hR1, hG1⟩
    go_wp2_with fail
    go_ret
    exact ⟨hG1, _, rfl, hR1, rfl⟩
  · rw [if_neg hq]
    have HTh : Hid (Calls Tryz.prog 161 #[.pointer (some ⟨p, 0, none⟩), errV a 1] w fun e w' => RPost (α := Unit) w0 a p r s (.err 1 d.pos) (fun _ _ _ => True) w e w') := throw_any w0 a p r s d 1 w h
    have hq' : (d.role == q) = false := by simp [hq]
    go_enter Tryz.func111, Tryz.ntmps111
    go_wp2_with fail
    refine HTh.out.mono ?_
    rintro e w2 hP
    obtain ⟨hG2, N, rfl, hF, hlt2⟩ := hP
    go_wp2_with fail
    exact ⟨rfl, hG2, N, rfl, hF, hlt2⟩

set_option maxRecDepth 20000 in
set_option maxHeartbeats 2000000 in
theorem name_any (w0 : World) (a : Nat → Addr) (p r : Nat) (s : Bs) (d : Wd) (w : World) (h : Rd w0 w a p r s d) :
    Calls Tryz.prog 106 #[.pointer (some ⟨p, 0, none⟩)] w fun e w' => RPost w0 a p r s (wantR s 2 d) (fun _ v t => v = .string (bs t)) w e w' := by
  have HW := hide (wantOf_any w0 a p r s 2 d w h)
  cases hres : wantR s 2 d with
  | ok t d' =>
    rw [hres] at HW
    clear hres
    go_enter Tryz.func106, Tryz.ntmps106
    go_wp2_with fail
    refine HW.out.mono ?_
    rintro e w2 ⟨hG2, v, rfl, hR2, rfl⟩
    go_wp2_with fail
    go_ret
    exact ⟨hG2, _, rfl, hR2, rfl⟩
  | err c pos =>
    rw [hres] at HW
    clear hres
    go_enter Tryz.func106, Tryz.ntmps106
    go_wp2_with fail
    refine HW.out.mono ?_
    rintro e w2 ⟨hG2, N, rfl, hF, hlt2⟩
    go_wp2_with fail
    exact ⟨rfl, hG2, N, rfl, hF, hlt2⟩
  | out => unfold wantR at hres; split at hres <;> cases hres

/-- A word of the role of numbers is one. -/
theorem num_word {s : Bs} {i : Nat} (h : (wordAt s i).role = 3) : Lib.atoiAll (wordAt s i).text = .ok (numOf (wordAt s i).text) := by
  have h' : roleW (wordAt s i).text = 3 := h
  generalize (wordAt s i).text = t at h'
  have hn : isNum t = true := by
    unfold roleW at h'
    by_cases c : isNum t = true
    · exact c
    · exfalso
      have tabs : ∀ p ∈ tab.reverse, p.2 ≠ 3 := by decide
      have ht : roleTab t ≠ 3 := by
        unfold roleTab
        cases hf : tab.reverse.find? (fun p => p.1 == t) with
        | none => simp
        | some q => exact tabs q (List.mem_of_find?_eq_some hf)
      rw [if_neg c] at h'
      split at h'
      · exact ht h'
      · split at h'
        · omega
        · split at h' <;> omega
  unfold isNum at hn
  unfold numOf
  cases hh : Lib.atoiAll t with
  | ok v => rfl
  | «syntax» => rw [hh] at hn; cases hn
  | range => rw [hh] at hn; cases hn
set_option maxRecDepth 20000 in
set_option maxHeartbeats 2000000 in
theorem number_at (w0 : World) (a : Nat → Addr) (p r i : Nat) (s : Bs) (w : World) (h : Rd w0 w a p r s (wordAt s i)) :
    Calls Tryz.prog 162 #[.pointer (some ⟨p, 0, none⟩)] w fun e w' => RPost w0 a p r s ((wantR s 3 (wordAt s i)).bind fun t d => .ok (numOf t) d) (fun _ v n => v = .int .i64 n) w e w' := by
  have HW := hide (wantOf_any w0 a p r s 3 (wordAt s i) w h)
  by_cases hq : (wordAt s i).role = 3
  · have hres : wantR s 3 (wordAt s i) = .ok (wordAt s i).text (nextW s (wordAt s i)) := by unfold wantR; rw [if_pos hq]
    have hnum := num_word hq
    have hls := h.ls
    have hin := h.ins.le
    have HA : Hid (∀ W : World, Calls Tryz.prog 203 #[.string (bs (wordAt s i).text)] W fun e w' => e = .returned (.tuple #[.int .i64 (numOf (wordAt s i).text), .nilIface]) ∧ Below W.heap.size W w') := fun W => atoi_ok _ (by omega) _ hnum W
    rw [hres] at HW ⊢
    show Calls _ _ _ _ (fun e w' => RPost w0 a p r s (.ok (numOf (wordAt s i).text) (nextW s (wordAt s i))) _ w e w')
    generalize (wordAt s i) = d at *
    generalize numOf d.text = z at *
    clear hres hq hnum hls hin h
    go_enter Tryz.func162, Tryz.ntmps162
    go_wp2_with fail
    refine HW.out.mono ?_
    rintro e w2 ⟨hG2, v, rfl, hR2, rfl⟩
    go_wp2_with fail
    refine (HA.out _).mono ?_
    rintro e w3 ⟨rfl, hb3⟩
    go_wp2_with fail
    go_ret
    exact ⟨hG2.below hb3, _, rfl, hR2.below hb3, rfl⟩
  · have hres : wantR s 3 (wordAt s i) = .err 1 (wordAt s i).pos := by unfold wantR; rw [if_neg hq]
    rw [hres] at HW ⊢
    show Calls _ _ _ _ (fun e w' => RPost w0 a p r s (.err 1 (wordAt s i).pos) _ w e w')
    generalize (wordAt s i) = d at *
    clear hres hq h
    go_enter Tryz.func162, Tryz.ntmps162
    go_wp2_with fail
    refine HW.out.mono ?_
    rintro e w2 ⟨hG2, N, rfl, hF, hlt2⟩
    go_wp2_with fail
    exact ⟨rfl, hG2, N, rfl, hF, hlt2⟩

theorem number_any (w0 : World) (a : Nat → Addr) (p r : Nat) (s : Bs) (d : Wd) (w : World) (h : Rd w0 w a p r s d) :
    Calls Tryz.prog 162 #[.pointer (some ⟨p, 0, none⟩)] w fun e w' => RPost w0 a p r s ((wantR s 3 d).bind fun t d => .ok (numOf t) d) (fun _ v n => v = .int .i64 n) w e w' := by
  obtain ⟨i, rfl⟩ := h.ins.wd
  exact number_at w0 a p r i s w h
set_option maxRecDepth 20000 in
set_option maxHeartbeats 2000000 in
theorem deeper_any (w0 : World) (a : Nat → Addr) (p r deep : Nat) (s t : Bs) (d : Wd) (w : World) (h : Rd w0 w a p r s d) (hd : deep ≤ 100) :
    Calls Tryz.prog 274 #[.pointer (some ⟨p, 0, none⟩), .string (bs t), .int .i64 deep] w fun e w' => RPost w0 a p r s (deepW s t deep d) (fun _ v b => v = .bool b) w e w' := by
  obtain ⟨_, _, hge, hlt, c0, c1, c2, c3, c4, fr, _, _⟩ := id h
  have HT := hide (take_any w0 a p r s t d w h)
  have eB := h.errB
  unfold deepW
  by_cases ht : d.text = t
  · rw [if_pos ht]
    have ht' : (d.text == t) = true := by simp [ht]
    simp only [if_pos ht] at HT
    by_cases h12 : 12 ≤ deep
    · rw [if_pos h12]
      have h12' : (12 : Int) ≤ (deep : Int) := by omega
      have HTh : Hid (Calls Tryz.prog 161 #[.pointer (some ⟨p, 0, none⟩), errV a 2] w fun e w' => RPost (α := Unit) w0 a p r s (.err 2 d.pos) (fun _ _ _ => True) w e w') := throw_any w0 a p r s d 2 w h
      clear ht
      go_enter Tryz.func274, Tryz.ntmps274
      go_wp2_with fail
      refine HTh.out.mono ?_
      rintro e w2 hP
      obtain ⟨hG2, N, rfl, hF, hlt2⟩ := hP
      go_wp2_with fail
      exact ⟨rfl, hG2, N, rfl, hF, hlt2⟩
    · rw [if_neg h12]
      have h12' : ¬ (12 : Int) ≤ (deep : Int) := by omega
      clear ht
      go_enter Tryz.func274, Tryz.ntmps274
      go_wp2_with fail
      refine HT.out.mono ?_
      rintro e w1 ⟨⟨rfl, hR1⟩, hG1⟩
      go_wp2_with fail
      go_ret
      exact ⟨hG1, _, rfl, hR1, rfl⟩
  · rw [if_neg ht]
    have ht' : (d.text == t) = false := by simp [ht]
    simp only [if_neg ht] at HT
    clear ht
    go_enter Tryz.func274, Tryz.ntmps274
    go_wp2_with fail
    refine HT.out.mono ?_
    rintro e w1 ⟨⟨rfl, hw1⟩, hG1⟩
    subst hw1
    go_wp2_with fail
    go_ret
    exact ⟨hG1, _, rfl, h, rfl⟩
end Go.Proofs.YtbfhaabpfkopdaaGreatDoor

/- The language: terms in memory. -/
namespace Go.Proofs.YtbfhaabpfkopdaaGreatDoor
open Go.RowKit
set_option linter.unusedVariables false

/-- Terms one behind the other in memory; each block is one of those that are allowed. -/
inductive ExsAt (W : World) (ok : Nat → Prop) : Option Addr → List Ex → Prop
  | nil (x : Option Addr) : ExsAt W ok x []
  | row (b off : Nat) (l : List Ex) (xs : Nat → Option Addr) (cs : Nat → Nat) (hB : ok b) (hlt : b < W.heap.size)
      (c0 : ∀ i e, l[i]? = some e → W.cell? ⟨b, off + i * 4, none⟩ = some (.string (bs e.op)))
      (c1 : ∀ i e, l[i]? = some e → W.cell? ⟨b, off + i * 4 + 1, none⟩ = some (.int .i64 e.n))
      (c2 : ∀ i e, l[i]? = some e → W.cell? ⟨b, off + i * 4 + 2, none⟩ = some (.string (bs e.name)))
      (c3 : ∀ i e, l[i]? = some e → W.cell? ⟨b, off + i * 4 + 3, none⟩ = some (.slice (xs i) e.l.length (cs i)))
      (kids : ∀ i e, l[i]? = some e → ExsAt W ok (xs i) e.l) : ExsAt W ok (some ⟨b, off, none⟩) l
theorem ExsAt.keep {W W' : World} {ok ok' : Nat → Prop} {x : Option Addr} {l : List Ex} (h : ExsAt W ok x l) (hs : W.heap.size ≤ W'.heap.size) (hk : ∀ b, ok b → b < W.heap.size → W'.heap[b]? = W.heap[b]?) (ho : ∀ b, ok b → b < W.heap.size → ok' b) : ExsAt W' ok' x l := by
  induction h with
  | nil x => exact .nil x
  | row b off l xs cs hB hlt c0 c1 c2 c3 kids ih =>
    have same : ∀ o, W'.cell? ⟨b, o, none⟩ = W.cell? ⟨b, o, none⟩ := fun o => World.cell?_of_block (w := W) (hk b hB hlt)
    exact .row b off l xs cs (ho b hB hlt) (Nat.lt_of_lt_of_le hlt hs) (fun i e h => by rw [same]; exact c0 i e h) (fun i e h => by rw [same]; exact c1 i e h) (fun i e h => by rw [same]; exact c2 i e h) (fun i e h => by rw [same]; exact c3 i e h) ih
theorem ExsAt.bel {W W' : World} {ok : Nat → Prop} {x : Option Addr} {l : List Ex} (h : ExsAt W ok x l) (hb : Below W.heap.size W W') : ExsAt W' ok x l := h.keep hb.size (fun b _ hlt => hb.block b hlt) (fun _ k _ => k)
theorem ExsAt.gr {W W' : World} {ok : Nat → Prop} {x : Option Addr} {l : List Ex} {p : Nat} (h : ExsAt W ok x l) (hg : Gr p W W') (hp : ¬ ok p) : ExsAt W' ok x l := h.keep hg.size (fun b k hlt => hg.block b hlt (fun e => hp (by cases e; exact k))) (fun _ k _ => k)
theorem ExsAt.set {W : World} {ok : Nat → Prop} {x : Option Addr} {l : List Ex} (h : ExsAt W ok x l) {q : Addr} (hq : ¬ ok q.block) (v : Value) : ExsAt (W.setCell q v) ok x l :=
  h.keep (by simp [World.setCell]) (fun b k hlt => Below.heap_setCell W q v b (fun e => hq (e ▸ k))) (fun _ k _ => k)
theorem ExsAt.mono {W : World} {ok ok' : Nat → Prop} {x : Option Addr} {l : List Ex} (h : ExsAt W ok x l) (ho : ∀ b, ok b → b < W.heap.size → ok' b) : ExsAt W ok' x l := h.keep (Nat.le_refl _) (fun _ _ _ => rfl) ho
/-- A term as a value: its list lies in memory. -/
def ExV (W : World) (ok : Nat → Prop) (v : Value) (e : Ex) : Prop := ∃ x cap, v = .agg #[.string (bs e.op), .int .i64 e.n, .string (bs e.name), .slice x e.l.length cap] ∧ ExsAt W ok x e.l
/-- Boxes kept while a reader goes on. -/
theorem Holds.gr {W W' : World} {L : List (Nat × Nat × Value)} {p : Nat} (h : Holds W L) (hg : Gr p W W') (ap : Apart p L) : Holds W' L := by
  induction L with
  | nil => trivial
  | cons x L ih => exact ⟨⟨(World.grownBy.cell_far hg ⟨x.1, x.2.1, none⟩ h.1.2.1 (fun e => ap.1 (by simpa using e))).trans h.1.1, Nat.lt_of_lt_of_le h.1.2.1 hg.size, (World.grownBy.frozen_far hg ⟨x.1, x.2.1, none⟩ h.1.2.1 (fun e => ap.1 (by simpa using e))).trans h.1.2.2⟩, ih h.2 ap.2⟩
theorem Rd.setO {w0 W : World} {a : Nat → Addr} {p r : Nat} {s : Bs} {d : Wd} (h : Rd w0 W a p r s d) {q : Addr} (hq : p < q.block) (v : Value) : Rd w0 (W.setCell q v) a p r s d := by
  have k : ∀ o, (W.setCell q v).cell? ⟨p, o, none⟩ = W.cell? ⟨p, o, none⟩ := fun o => World.cell?_of_block (w := W) (Below.heap_setCell W q v p (by omega))
  exact ⟨h.env, h.bel.setCell (by have := h.ge; omega) _, h.ge, by simpa [World.setCell] using h.lt, by rw [k]; exact h.c0, by rw [k]; exact h.c1, by rw [k]; exact h.c2, by rw [k]; exact h.c3, by rw [k]; exact h.c4, fun o => by simpa using h.fr o, h.ins, h.ls⟩
/-- Nothing but the reader's block and what is new has turned: a new block is stored into. -/
theorem Gr.setN {p : Nat} {W W' : World} (h : Gr p W W') {q : Addr} (hq : W.heap.size ≤ q.block) (v : Value) : Gr p W (W'.setCell q v) :=
  ⟨h.os, h.tape, h.output, by simpa [World.setCell] using h.size, fun i hi hne => (Below.heap_setCell W' q v i (by omega)).trans (h.block i hi hne)⟩
theorem Gr.alloc {p : Nat} {W W' : World} (h : Gr p W W') (o : Obj) : Gr p W (W'.alloc o) := h.below ((Below.refl _ _).alloc (Nat.le_refl _) o)
theorem Rd.alloc {w0 W : World} {a : Nat → Addr} {p r : Nat} {s : Bs} {d : Wd} (h : Rd w0 W a p r s d) (o : Obj) : Rd w0 (W.alloc o) a p r s d := h.below ((Below.refl _ _).alloc (Nat.le_refl _) o)
theorem bind_ne {α β : Type} {x : Res α} {f : α → Wd → Res β} (h : x.bind f ≠ .out) : x ≠ .out := fun e => h (by rw [e]; rfl)
end Go.Proofs.YtbfhaabpfkopdaaGreatDoor
