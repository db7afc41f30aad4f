/- The language: parts with signs between (grouped). -/
import Derived.Test.YtbfhaabpfkopdaaGreatDoorLi
namespace Go.Proofs.YtbfhaabpfkopdaaGreatDoor
open Go.RowKit
set_option linter.unusedVariables false

/-- What a part is read as. -/
def PartC (w0 : World) (a : Nat → Addr) (p r : Nat) (s : Bs) (G : Nat) (deep : Nat) (F : Wd → Res Ex) : Prop :=
  ∀ (W : World) (d : Wd), Rd w0 W a p r s d → F d ≠ .out → Calls Tryz.prog G #[.pointer (some ⟨p, 0, none⟩), .int .i64 deep] W fun e W' => RPost w0 a p r s (F d) (fun W' v x => ExV W' (fun b => W.heap.size ≤ b) v x) W e W'

/-- A box of four cells. -/
def Box4 (W : World) (b : Nat) (v0 v1 v2 v3 : Value) : Prop := Holds W [(b, 0, v0), (b, 1, v1), (b, 2, v2), (b, 3, v3)]
theorem Box4.new (W : World) (t : TypeId) (v0 v1 v2 v3 : Value) : Box4 (W.alloc (.cells #[v0, v1, v2, v3] t)) W.heap.size v0 v1 v2 v3 := by
  simp [Box4, Holds]
theorem Box4.gr {W W' : World} {p b : Nat} {v0 v1 v2 v3 : Value} (h : Box4 W b v0 v1 v2 v3) (hg : Gr p W W') (hne : b ≠ p) : Box4 W' b v0 v1 v2 v3 := Holds.gr h hg ⟨hne, hne, hne, hne, trivial⟩
theorem Box4.bel {W W' : World} {b : Nat} {v0 v1 v2 v3 : Value} (h : Box4 W b v0 v1 v2 v3) (hb : Below W.heap.size W W') : Box4 W' b v0 v1 v2 v3 := Holds.below h hb
theorem Box4.lt {W : World} {b : Nat} {v0 v1 v2 v3 : Value} (h : Box4 W b v0 v1 v2 v3) : b < W.heap.size := h.1.2.1

theorem Box4.put {W : World} {b : Nat} {v0 v1 v2 v3 : Value} (h : Box4 W b v0 v1 v2 v3) (u0 u1 u2 u3 : Value) : Box4 ((((W.setCell ⟨b, 0, none⟩ (u0)).setCell ⟨b, 1, none⟩ (u1)).setCell ⟨b, 2, none⟩ (u2)).setCell ⟨b, 3, none⟩ (u3)) b u0 u1 u2 u3 := by
  obtain ⟨⟨h0, l0, f0⟩, ⟨h1, l1, f1⟩, ⟨h2, l2, f2⟩, ⟨h3, l3, f3⟩, _⟩ := h
  have hne : ∀ {i j : Nat}, i ≠ j → (⟨b, i, none⟩ : Addr) ≠ ⟨b, j, none⟩ := fun k e => k (by cases e; rfl)
  have same : ∀ (V : World) (o : Nat) (u v : Value), V.cell? ⟨b, o, none⟩ = some u → (V.setCell ⟨b, o, none⟩ v).cell? ⟨b, o, none⟩ = some v := fun V o u v hu => World.cell?_setCell_same V _ _ hu
  have oth : ∀ (V : World) (o o' : Nat) (v : Value), o ≠ o' → (V.setCell ⟨b, o, none⟩ v).cell? ⟨b, o', none⟩ = V.cell? ⟨b, o', none⟩ := fun V o o' v k => World.cell?_setCell_other V _ _ _ (hne k)
  refine ⟨⟨?_, by simpa [World.setCell] using l0, by simpa using f0⟩, ⟨?_, by simpa [World.setCell] using l0, by simpa using f1⟩, ⟨?_, by simpa [World.setCell] using l0, by simpa using f2⟩, ⟨?_, by simpa [World.setCell] using l0, by simpa using f3⟩, trivial⟩
  · dsimp only; rw [oth _ _ _ _ (by omega), oth _ _ _ _ (by omega), oth _ _ _ _ (by omega)]; exact same _ _ _ _ h0
  · dsimp only; rw [oth _ _ _ _ (by omega), oth _ _ _ _ (by omega)]; exact same _ _ _ _ (by rw [oth _ _ _ _ (by omega)]; exact h1)
  · dsimp only; rw [oth _ _ _ _ (by omega)]; exact same _ _ _ _ (by rw [oth _ _ _ _ (by omega), oth _ _ _ _ (by omega)]; exact h2)
  · exact same _ _ _ _ (by rw [oth _ _ _ _ (by omega), oth _ _ _ _ (by omega), oth _ _ _ _ (by omega)]; exact h3)

/-- Two terms put together: a new row of both, the term's box stored into. -/
theorem two_made {w0 w w3 : World} {a : Nat → Addr} {p r h9 : Nat} {s : Bs} {d2 : Wd} {e' e2 : Ex} {x' x3 : Option Addr} {u0 u1 u2 u3 : Value} (h9w : w.heap.size < h9) (hpw : p < w.heap.size) (hR : Rd w0 w3 a p r s d2)
    (b8 : Box4 w3 w.heap.size (.string ⟨#[]⟩) (.int .i64 0) (.string ⟨#[]⟩) (.slice none 0 0)) (b9 : Box4 w3 h9 u0 u1 u2 u3)
    (hX : ExsAt w3 (fun b => w.heap.size + 1 ≤ b ∧ b ≠ h9) x' e'.l) (hX3 : ExsAt w3 (fun b => w.heap.size + 1 ≤ b ∧ b ≠ h9) x3 e2.l) (hG : Gr p w w3) (t : Bs) (ty : TypeId) (cap' cap3 : Nat) :
    Rd w0 (((((w3.setCell ⟨h9, 0, none⟩ (.string (bs t))).setCell ⟨h9, 1, none⟩ (.int .i64 0)).setCell ⟨h9, 2, none⟩ (.string ⟨#[]⟩)).setCell ⟨h9, 3, none⟩ (.slice (some ⟨w3.heap.size, 0, none⟩) 2 2)).alloc (.cells #[Value.string (bs e'.op), Value.int .i64 e'.n, Value.string (bs e'.name), Value.slice x' e'.l.length cap', Value.string (bs e2.op), Value.int .i64 e2.n, Value.string (bs e2.name), Value.slice x3 e2.l.length cap3] ty)) a p r s d2 ∧
    Box4 (((((w3.setCell ⟨h9, 0, none⟩ (.string (bs t))).setCell ⟨h9, 1, none⟩ (.int .i64 0)).setCell ⟨h9, 2, none⟩ (.string ⟨#[]⟩)).setCell ⟨h9, 3, none⟩ (.slice (some ⟨w3.heap.size, 0, none⟩) 2 2)).alloc (.cells #[Value.string (bs e'.op), Value.int .i64 e'.n, Value.string (bs e'.name), Value.slice x' e'.l.length cap', Value.string (bs e2.op), Value.int .i64 e2.n, Value.string (bs e2.name), Value.slice x3 e2.l.length cap3] ty)) w.heap.size (.string ⟨#[]⟩) (.int .i64 0) (.string ⟨#[]⟩) (.slice none 0 0) ∧
    Box4 (((((w3.setCell ⟨h9, 0, none⟩ (.string (bs t))).setCell ⟨h9, 1, none⟩ (.int .i64 0)).setCell ⟨h9, 2, none⟩ (.string ⟨#[]⟩)).setCell ⟨h9, 3, none⟩ (.slice (some ⟨w3.heap.size, 0, none⟩) 2 2)).alloc (.cells #[Value.string (bs e'.op), Value.int .i64 e'.n, Value.string (bs e'.name), Value.slice x' e'.l.length cap', Value.string (bs e2.op), Value.int .i64 e2.n, Value.string (bs e2.name), Value.slice x3 e2.l.length cap3] ty)) h9 (.string (bs t)) (.int .i64 0) (.string ⟨#[]⟩) (.slice (some ⟨w3.heap.size, 0, none⟩) 2 2) ∧
    ExsAt (((((w3.setCell ⟨h9, 0, none⟩ (.string (bs t))).setCell ⟨h9, 1, none⟩ (.int .i64 0)).setCell ⟨h9, 2, none⟩ (.string ⟨#[]⟩)).setCell ⟨h9, 3, none⟩ (.slice (some ⟨w3.heap.size, 0, none⟩) 2 2)).alloc (.cells #[Value.string (bs e'.op), Value.int .i64 e'.n, Value.string (bs e'.name), Value.slice x' e'.l.length cap', Value.string (bs e2.op), Value.int .i64 e2.n, Value.string (bs e2.name), Value.slice x3 e2.l.length cap3] ty)) (fun b => w.heap.size + 1 ≤ b ∧ b ≠ h9) (some ⟨w3.heap.size, 0, none⟩) [e', e2] ∧
    Gr p w (((((w3.setCell ⟨h9, 0, none⟩ (.string (bs t))).setCell ⟨h9, 1, none⟩ (.int .i64 0)).setCell ⟨h9, 2, none⟩ (.string ⟨#[]⟩)).setCell ⟨h9, 3, none⟩ (.slice (some ⟨w3.heap.size, 0, none⟩) 2 2)).alloc (.cells #[Value.string (bs e'.op), Value.int .i64 e'.n, Value.string (bs e'.name), Value.slice x' e'.l.length cap', Value.string (bs e2.op), Value.int .i64 e2.n, Value.string (bs e2.name), Value.slice x3 e2.l.length cap3] ty)) := by
  have hp9 : p < h9 := by omega
  have hk : ¬ (fun b => w.heap.size + 1 ≤ b ∧ b ≠ h9) h9 := fun k => k.2 rfl
  have hlt := b9.lt
  obtain ⟨V, hV⟩ : ∃ V, V = ((((w3.setCell ⟨h9, 0, none⟩ (.string (bs t))).setCell ⟨h9, 1, none⟩ (.int .i64 0)).setCell ⟨h9, 2, none⟩ (.string ⟨#[]⟩)).setCell ⟨h9, 3, none⟩ (.slice (some ⟨w3.heap.size, 0, none⟩) 2 2)) := ⟨_, rfl⟩
  have hsz : V.heap.size = w3.heap.size := by rw [hV]; simp [World.setCell]
  have hbA := (Below.refl V.heap.size V).alloc (Nat.le_refl _) (.cells #[Value.string (bs e'.op), Value.int .i64 e'.n, Value.string (bs e'.name), Value.slice x' e'.l.length cap', Value.string (bs e2.op), Value.int .i64 e2.n, Value.string (bs e2.name), Value.slice x3 e2.l.length cap3] ty)
  have r1 : Rd w0 V a p r s d2 := by
    rw [hV]
    exact (((hR.setO (q := ⟨h9, 0, none⟩) hp9 _).setO (q := ⟨h9, 1, none⟩) hp9 _).setO (q := ⟨h9, 2, none⟩) hp9 _).setO (q := ⟨h9, 3, none⟩) hp9 _
  have r2 : Box4 V w.heap.size (.string ⟨#[]⟩) (.int .i64 0) (.string ⟨#[]⟩) (.slice none 0 0) := by
    rw [hV]
    have ap : Apart h9 [(w.heap.size, 0, Value.string ⟨#[]⟩), (w.heap.size, 1, .int .i64 0), (w.heap.size, 2, .string ⟨#[]⟩), (w.heap.size, 3, .slice none 0 0)] := ⟨by dsimp only; omega, by dsimp only; omega, by dsimp only; omega, by dsimp only; omega, trivial⟩
    exact Holds.setCell (Holds.setCell (Holds.setCell (Holds.setCell b8 (p := ⟨h9, 0, none⟩) ap _) (p := ⟨h9, 1, none⟩) ap _) (p := ⟨h9, 2, none⟩) ap _) (p := ⟨h9, 3, none⟩) ap _
  have r3 : Box4 V h9 (.string (bs t)) (.int .i64 0) (.string ⟨#[]⟩) (.slice (some ⟨w3.heap.size, 0, none⟩) 2 2) := by rw [hV]; exact b9.put _ _ _ _
  have r4 : ∀ {x : Option Addr} {l : List Ex}, ExsAt w3 (fun b => w.heap.size + 1 ≤ b ∧ b ≠ h9) x l → ExsAt V (fun b => w.heap.size + 1 ≤ b ∧ b ≠ h9) x l := fun h => by
    rw [hV]
    exact (((h.set (q := ⟨h9, 0, none⟩) hk _).set (q := ⟨h9, 1, none⟩) hk _).set (q := ⟨h9, 2, none⟩) hk _).set (q := ⟨h9, 3, none⟩) hk _
  have r5 : Gr p w V := by
    rw [hV]
    have k9 : w.heap.size ≤ h9 := by omega
    exact (((hG.setN (q := ⟨h9, 0, none⟩) k9 _).setN (q := ⟨h9, 1, none⟩) k9 _).setN (q := ⟨h9, 2, none⟩) k9 _).setN (q := ⟨h9, 3, none⟩) k9 _
  have hwz := hG.size
  rw [← hV]
  refine ⟨r1.below hbA, r2.bel hbA, r3.bel hbA, ?_, r5.below hbA⟩
  have cellA : ∀ o, (V.alloc (.cells #[Value.string (bs e'.op), Value.int .i64 e'.n, Value.string (bs e'.name), Value.slice x' e'.l.length cap', Value.string (bs e2.op), Value.int .i64 e2.n, Value.string (bs e2.name), Value.slice x3 e2.l.length cap3] ty)).cell? ⟨w3.heap.size, o, none⟩ = #[Value.string (bs e'.op), Value.int .i64 e'.n, Value.string (bs e'.name), Value.slice x' e'.l.length cap', Value.string (bs e2.op), Value.int .i64 e2.n, Value.string (bs e2.name), Value.slice x3 e2.l.length cap3][o]? := fun o => by
    rw [← hsz]; simp
  refine .row w3.heap.size 0 [e', e2] (fun i => if i = 0 then x' else x3) (fun i => if i = 0 then cap' else cap3) ⟨by omega, by omega⟩ (by rw [World.size_alloc]; omega) ?_ ?_ ?_ ?_ ?_
  all_goals
    intro i e hi
    rcases i with _ | _ | i
    · cases hi
      first | (rw [cellA]; rfl) | exact (r4 hX).bel hbA
    · cases hi
      first | (rw [cellA]; rfl) | exact (r4 hX3).bel hbA
    · cases hi

set_option maxRecDepth 20000 in
set_option maxHeartbeats 4000000 in
theorem grouped_any (w0 : World) (a : Nat → Addr) (p r G deep : Nat) (s : Bs) (sign : Int) (F : Wd → Res Ex) (hE : Hid (Enters G)) (HP : Hid (PartC w0 a p r s G deep F)) (k : Nat) (d : Wd) (w : World) (h : Rd w0 w a p r s d) (hne : Hid (((F d).bind fun e d => grpF s sign F k e d) ≠ .out)) :
    Calls Tryz.prog 205 #[.pointer (some ⟨p, 0, none⟩), .int .i64 sign, .func (.func G) #[.pointer (some ⟨p, 0, none⟩)] #[], .int .i64 deep] w fun e w' => RPost w0 a p r s ((F d).bind fun e d => grpF s sign F k e d) (fun W' v x => ExV W' (fun b => w.heap.size ≤ b) v x) w e w' := by
  have hEn := hE.out
  unfold Enters at hEn
  have hR0 := h.alloc (.cells #[.string ⟨#[]⟩, .int .i64 0, .string ⟨#[]⟩, .slice none 0 0] 121)
  have hF := HP.out _ d hR0 (bind_ne hne.out)
  cases hres : F d with
  | out => exact absurd hres (bind_ne hne.out)
  | err c pos =>
    rw [hres] at hF
    show Calls _ _ _ _ (fun e w' => RPost w0 a p r s (.err c pos) _ w e w')
    have HF := hide hF
    clear hF
    go_enter Tryz.func205, Tryz.ntmps205
    go_wp2_with fail
    refine HF.out.mono ?_
    rintro e w1 ⟨hG1, N, rfl, hFa, hlt1⟩
    go_wp2_with fail
    exact ⟨rfl, (Gr.of ((Below.refl _ _).alloc (Nat.le_refl _) _)).trans hG1, N, rfl, hFa, hlt1⟩
  | ok e1 d1 =>
    rw [hres] at hF
    have hne1 : Hid (grpF s sign F k e1 d1 ≠ .out) := by have := hne.out; rw [hres] at this; exact this
    show Calls _ _ _ _ (fun e w' => RPost w0 a p r s (grpF s sign F k e1 d1) _ w e w')
    have HF := hide hF
    have hpw : p < w.heap.size := h.lt
    clear hF hne hres
    go_enter Tryz.func205, Tryz.ntmps205
    go_wp2_with fail
    refine HF.out.mono ?_
    rintro e w1 ⟨hG1, v, rfl, hR1, x1, cap1, rfl, hX1⟩
    have b8 : Box4 w1 w.heap.size (.string ⟨#[]⟩) (.int .i64 0) (.string ⟨#[]⟩) (.slice none 0 0) := (Box4.new w 121 _ _ _ _).gr hG1 (by omega)
    have sz1 := hG1.size
    simp only [World.size_alloc] at sz1
    clear HF hR0
    go_wp2_with fail
    have b9 := Box4.new w1 121 (.string (bs e1.op)) (.int .i64 e1.n) (.string (bs e1.name)) (.slice x1 e1.l.length cap1)
    have hG0 : Gr p w (w1.alloc (.cells #[.string (bs e1.op), .int .i64 e1.n, .string (bs e1.name), .slice x1 e1.l.length cap1] 121)) := ((Gr.of ((Below.refl _ _).alloc (Nat.le_refl _) _)).trans hG1).alloc _
    have hX0 : ExsAt (w1.alloc (.cells #[.string (bs e1.op), .int .i64 e1.n, .string (bs e1.name), .slice x1 e1.l.length cap1] 121)) (fun b => w.heap.size + 1 ≤ b ∧ b ≠ w1.heap.size) x1 e1.l :=
      hX1.keep (by simp) (fun b _ hlt => ((Below.refl _ _).alloc (Nat.le_refl _) _).block b hlt) (fun b k hlt => ⟨by simpa using k, by omega⟩)
    have hR2 := hR1.alloc (.cells #[.string (bs e1.op), .int .i64 e1.n, .string (bs e1.name), .slice x1 e1.l.length cap1] 121)
    have b8' := b8.bel ((Below.refl _ _).alloc (Nat.le_refl _) (.cells #[.string (bs e1.op), .int .i64 e1.n, .string (bs e1.name), .slice x1 e1.l.length cap1] 121))
    clear hX1 hR1 b8
    go_loopg [10] k (fun gh t wx => ∃ (e' : Ex) (d' : Wd) (x' : Option Addr) (cap' : Nat), Rd w0 wx a p r s d' ∧ Box4 wx w.heap.size (.string ⟨#[]⟩) (.int .i64 0) (.string ⟨#[]⟩) (.slice none 0 0) ∧ Box4 wx w1.heap.size (.string (bs e'.op)) (.int .i64 e'.n) (.string (bs e'.name)) (.slice x' e'.l.length cap') ∧ ExsAt wx (fun b => w.heap.size + 1 ≤ b ∧ b ≠ w1.heap.size) x' e'.l ∧ Gr p w wx ∧ Hid (grpF s sign F k e1 d1 = grpF s sign F gh e' d') ∧ Hid (grpF s sign F gh e' d' ≠ .out))
    case atStart => exact ⟨e1, d1, x1, cap1, hR2, b8', b9, hX0, hG0, rfl, hne1⟩
    case round =>
      clear hX0 hG0 b9 hR2 b8' hne1
      obtain ⟨e', d', x', cap', h, b8, b9, hX, hG, He, hne⟩ := hrel
      cases gk with
      | zero => exact absurd rfl hne.out
      | succ g =>
        obtain ⟨_, _, hge, hlt, c0, c1, c2, c3, c4, fr, _, _⟩ := id h
        have q8 := b8
        have q9 := b9
        simp only [Box4, Holds, and_true] at q8 q9
        by_cases hr : d'.role = sign
        · have hr' : (d'.role == sign) = true := by simp [hr]
          have HPs := hide (pass_any w0 a p r s d' wr h)
          have hst : grpF s sign F (g + 1) e' d' = (F (nextW s d')).bind fun e2 d2 => grpF s sign F g ⟨d'.text, 0, [], [e', e2]⟩ d2 := by
            show (if d'.role = sign then _ else _) = _
            rw [if_pos hr]
          rw [hst] at hne He
          clear hst hr
          have hp9 : w1.heap.size ≠ p := by omega
          have hok : ¬ (fun b => w.heap.size + 1 ≤ b ∧ b ≠ w1.heap.size) p := fun k => by have := k.1; omega
          cases hres : F (nextW s d') with
          | out => rw [hres] at hne; exact absurd rfl hne.out
          | err c pos =>
            rw [hres] at He
            have HPt : Hid (∀ W : World, Rd w0 W a p r s (nextW s d') → Calls Tryz.prog G #[.pointer (some ⟨p, 0, none⟩), .int .i64 deep] W fun e W' => RPost w0 a p r s (.err c pos) (fun W' v x => ExV W' (fun b => W.heap.size ≤ b) v x) W e W') := fun W hW => by
              have := HP.out W (nextW s d') hW (by rw [hres]; intro k; cases k)
              rw [hres] at this; exact this
            clear hne hres
            go_wp2_with fail
            refine HPs.out.mono ?_
            rintro e w2 ⟨rfl, hR2, hG2⟩
            have b9' := b9.gr hG2 hp9
            have q9' := b9'
            simp only [Box4, Holds, and_true] at q9'
            have HFin : Hid (∀ (w3 : World) (N : Nat), Gr p w2.drew w3 → FaultAt w3 a N c pos → N < w3.heap.size → RPost w0 a p r s (grpF s sign F k e1 d1) (fun W' v x => ExV W' (fun b => w.heap.size ≤ b) v x) w (.panicked [{ v := .iface 158 (.pointer (some ⟨N, 0, none⟩)), recovered := false }]) w3) := fun w3 N h1 h2 h3 => by
              rw [He.out]
              exact ⟨hG.trans (hG2.trans ((Gr.of (Below.refl _ _).drew).trans h1)), N, rfl, h2, h3⟩
            go_upto_region 4 with fail
            refine wp_region_held (S := fun w' => w'.cell? ⟨w1.heap.size, 0, none⟩ = some (.string (bs e'.op)) ∧ w'.cell? ⟨w1.heap.size, 1, none⟩ = some (.int .i64 e'.n) ∧ w'.cell? ⟨w1.heap.size, 2, none⟩ = some (.string (bs e'.name)) ∧ w'.cell? ⟨w1.heap.size, 3, none⟩ = some (.slice x' e'.l.length cap')) (by kernel_rfl) ?_
            have hS9 : w2.drew.cell? ⟨w1.heap.size, 0, none⟩ = some (.string (bs e'.op)) ∧ w2.drew.cell? ⟨w1.heap.size, 1, none⟩ = some (.int .i64 e'.n) ∧ w2.drew.cell? ⟨w1.heap.size, 2, none⟩ = some (.string (bs e'.name)) ∧ w2.drew.cell? ⟨w1.heap.size, 3, none⟩ = some (.slice x' e'.l.length cap') := ⟨q9'.1.1, q9'.2.1.1, q9'.2.2.1.1, q9'.2.2.2.1⟩
            (refine wpAnyH_take (i := 0) (v := ?_) rfl (by kernel_rfl) (by kernel_rfl) (by kernel_rfl) (fun _ _ _ h => h) (Or.inl ⟨by rfl, ?_⟩) hS9 ?_; rotate_left 1; (intro w' hSw; (try dsimp only at hSw); go_simp); (try rfl); (try dsimp only [Act.put]))
            (refine wpAnyH_take (i := 1) (v := ?_) rfl (by kernel_rfl) (by kernel_rfl) (by kernel_rfl) (fun _ _ _ h => h) (Or.inl ⟨by rfl, ?_⟩) hS9 ?_; rotate_left 1; (intro w' hSw; (try dsimp only at hSw); go_simp); (try rfl); (try dsimp only [Act.put]))
            (refine wpAnyH_take (i := 2) (v := ?_) rfl (by kernel_rfl) (by kernel_rfl) (by kernel_rfl) (fun _ _ _ h => h) (Or.inl ⟨by rfl, ?_⟩) hS9 ?_; rotate_left 1; (intro w' hSw; (try dsimp only at hSw); go_simp); (try rfl); (try dsimp only [Act.put]))
            (refine wpAnyH_take (i := 3) (v := ?_) rfl (by kernel_rfl) (by kernel_rfl) (by kernel_rfl) (fun _ _ _ h => h) (Or.inl ⟨by rfl, ?_⟩) hS9 ?_; rotate_left 1; (intro w' hSw; (try dsimp only at hSw); go_simp); (try rfl); (try dsimp only [Act.put]))
            refine wpAnyH_all (rs := [4]) (by kernel_rfl) (by simp) ?_
            intro i hi
            obtain rfl : i = 4 := by simpa using hi
            unfold wpOp
            go_simp
            refine Or.inl ((HPt.out _ (hR2.below (Below.refl _ _).drew)).mono ?_)
            rintro e w3 ⟨hG3, N, rfl, hFa, hlt3⟩
            exact ⟨rfl, HFin.out w3 N hG3 hFa hlt3⟩
          | ok e2 d2 =>
            rw [hres] at He hne
            have HPt : Hid (∀ W : World, Rd w0 W a p r s (nextW s d') → Calls Tryz.prog G #[.pointer (some ⟨p, 0, none⟩), .int .i64 deep] W fun e W' => RPost w0 a p r s (.ok e2 d2) (fun W' v x => ExV W' (fun b => W.heap.size ≤ b) v x) W e W') := fun W hW => by
              have := HP.out W (nextW s d') hW (by rw [hres]; intro k; cases k)
              rw [hres] at this; exact this
            clear hres
            go_wp2_with fail
            refine HPs.out.mono ?_
            rintro e w2 ⟨rfl, hR2, hG2⟩
            have b9' := b9.gr hG2 hp9
            have b8' := b8.gr hG2 (by omega)
            have hX' := hX.gr hG2 hok
            have q9' := b9'
            simp only [Box4, Holds, and_true] at q9'
            clear h hX b8 b9 q8 q9
            go_upto_region 4 with fail
            go_region_with (first | (refine (HPt.out _ (by first | exact hR2 | exact hR2.below (Below.refl _ _).drew)).mono ?_; rintro e w3 ⟨hG3, v3, rfl, hR3, x3, cap3, rfl, hX3⟩; have b9'' := (b9'.bel (Below.refl _ _).drew).gr hG3 hp9; have q9'' := b9''; simp only [Box4, Holds, and_true] at q9''; have sz9 := b9''.lt))
            all_goals
              have hV := two_made (w := w) (h9 := w1.heap.size) (by omega) hpw hR3 (b8'.gr ((Gr.of (Below.refl _ _).drew).trans hG3) (by omega)) b9'' (hX'.gr ((Gr.of (Below.refl _ _).drew).trans hG3) hok) (hX3.mono (ok' := fun b => w.heap.size + 1 ≤ b ∧ b ≠ w1.heap.size) (fun b k _ => ⟨by have := b9'.lt; have : w2.heap.size ≤ b := k; omega, by have := b9'.lt; have : w2.heap.size ≤ b := k; omega⟩)) (hG.trans (hG2.trans ((Gr.of (Below.refl _ _).drew).trans hG3))) d'.text 121 cap' cap3
              go_wp2_with fail
              go_roundg g
              case measure => omega
              case rel => exact ⟨⟨d'.text, 0, [], [e', e2]⟩, d2, _, _, hV.1, hV.2.1, hV.2.2.1, hV.2.2.2.1, hV.2.2.2.2, He.out, hne.out⟩
        · have hr' : (d'.role == sign) = false := by simp [hr]
          have Hst : Hid (grpF s sign F k e1 d1 = .ok e' d') := by
            show _ = _
            rw [He.out]
            show (if d'.role = sign then _ else _) = _
            rw [if_neg hr]
          clear He hne hr
          go_wp2_with fail
          refine bodyPost_ret (v := .agg #[.string (bs e'.op), .int .i64 e'.n, .string (bs e'.name), .slice x' e'.l.length cap']) (by simp [results, Tryz.results205, go_sem, q8]) rfl ?_
          rw [Hst.out]
          refine ⟨?_, _, rfl, ?_, x', cap', rfl, ?_⟩
          · exact (((hG.setN (q := ⟨w.heap.size, 0, none⟩) (Nat.le_refl _) _).setN (q := ⟨w.heap.size, 1, none⟩) (Nat.le_refl _) _).setN (q := ⟨w.heap.size, 2, none⟩) (Nat.le_refl _) _).setN (q := ⟨w.heap.size, 3, none⟩) (Nat.le_refl _) _
          · exact (((h.setO (q := ⟨w.heap.size, 0, none⟩) hpw _).setO (q := ⟨w.heap.size, 1, none⟩) hpw _).setO (q := ⟨w.heap.size, 2, none⟩) hpw _).setO (q := ⟨w.heap.size, 3, none⟩) hpw _
          · have hk : ¬ (fun b => w.heap.size + 1 ≤ b ∧ b ≠ w1.heap.size) w.heap.size := fun k => by have := k.1; omega
            exact ((((hX.set (q := ⟨w.heap.size, 0, none⟩) hk _).set (q := ⟨w.heap.size, 1, none⟩) hk _).set (q := ⟨w.heap.size, 2, none⟩) hk _).set (q := ⟨w.heap.size, 3, none⟩) hk _).mono (fun b k _ => by have := k.1; omega)
end Go.Proofs.YtbfhaabpfkopdaaGreatDoor
