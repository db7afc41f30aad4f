/- The language: terms read (sum, product, part). -/
import Derived.Test.YtbfhaabpfkopdaaGreatDoorLj
namespace Go.Proofs.YtbfhaabpfkopdaaGreatDoor
open Go.RowKit
set_option linter.unusedVariables false

/-- The last: the result's box is stored into, and read. -/
theorem res4 {w0 w W : World} {a : Nat → Addr} {p r : Nat} {s : Bs} {d : Wd} {e : Ex} {x : Option Addr} {cap : Nat} (hpw : p < w.heap.size) (hG : Gr p w W) (hR : Rd w0 W a p r s d) (hX : ExsAt W (fun b => w.heap.size + 1 ≤ b) x e.l) (u0 u1 u2 u3 : Value) :
    RPost w0 a p r s (.ok e d) (fun W' v x => ExV W' (fun b => w.heap.size ≤ b) v x) w (.returned (.agg #[.string (bs e.op), .int .i64 e.n, .string (bs e.name), .slice x e.l.length cap])) ((((W.setCell ⟨w.heap.size, 0, none⟩ (u0)).setCell ⟨w.heap.size, 1, none⟩ (u1)).setCell ⟨w.heap.size, 2, none⟩ (u2)).setCell ⟨w.heap.size, 3, none⟩ (u3)) := by
  have hk : ¬ (fun b => w.heap.size + 1 ≤ b) w.heap.size := fun k => by have : w.heap.size + 1 ≤ w.heap.size := k; omega
  refine ⟨?_, _, rfl, ?_, x, cap, rfl, ?_⟩
  · exact (((hG.setN (q := ⟨w.heap.size, 0, none⟩) (Nat.le_refl _) _).setN (q := ⟨w.heap.size, 1, none⟩) (Nat.le_refl _) _).setN (q := ⟨w.heap.size, 2, none⟩) (Nat.le_refl _) _).setN (q := ⟨w.heap.size, 3, none⟩) (Nat.le_refl _) _
  · exact (((hR.setO (q := ⟨w.heap.size, 0, none⟩) hpw _).setO (q := ⟨w.heap.size, 1, none⟩) hpw _).setO (q := ⟨w.heap.size, 2, none⟩) hpw _).setO (q := ⟨w.heap.size, 3, none⟩) hpw _
  · exact ((((hX.set (q := ⟨w.heap.size, 0, none⟩) hk _).set (q := ⟨w.heap.size, 1, none⟩) hk _).set (q := ⟨w.heap.size, 2, none⟩) hk _).set (q := ⟨w.heap.size, 3, none⟩) hk _).mono (fun b k _ => by have : w.heap.size + 1 ≤ b := k; omega)
/-- A row of one term. -/
theorem one_made {W : World} {ok : Nat → Prop} {e : Ex} {x : Option Addr} (hX : ExsAt W ok x e.l) (hok : ok W.heap.size) (cap : Nat) (ty : TypeId) :
    ExsAt (W.alloc (.cells #[.string (bs e.op), .int .i64 e.n, .string (bs e.name), .slice x e.l.length cap] ty)) ok (some ⟨W.heap.size, 0, none⟩) [e] := by
  have hbA := (Below.refl W.heap.size W).alloc (Nat.le_refl _) (.cells #[.string (bs e.op), .int .i64 e.n, .string (bs e.name), .slice x e.l.length cap] ty)
  refine .row W.heap.size 0 [e] (fun _ => x) (fun _ => cap) hok (by simp) ?_ ?_ ?_ ?_ ?_
  all_goals
    intro i e' hi
    rcases i with _ | i
    · cases hi
      first | (simp; done) | exact hX.bel hbA
    · cases hi

/-- Likewise, with a new row of one term. -/
theorem res4a {w0 w W : World} {a : Nat → Addr} {p r : Nat} {s : Bs} {d : Wd} {e : Ex} {x : Option Addr} {cap : Nat} (hpw : p < w.heap.size) (hG : Gr p w W) (hR : Rd w0 W a p r s d) (hX : ExsAt W (fun b => w.heap.size + 1 ≤ b) x e.l) (op name : Bs) (ty : TypeId) (u0 u1 u2 u3 : Value) (hlt : w.heap.size < W.heap.size) :
    RPost w0 a p r s (.ok ⟨op, 0, name, [e]⟩ d) (fun W' v x => ExV W' (fun b => w.heap.size ≤ b) v x) w (.returned (.agg #[.string (bs op), .int .i64 0, .string (bs name), .slice (some ⟨W.heap.size, 0, none⟩) 1 1])) (((((W.setCell ⟨w.heap.size, 0, none⟩ (u0)).setCell ⟨w.heap.size, 1, none⟩ (u1)).setCell ⟨w.heap.size, 2, none⟩ (u2)).setCell ⟨w.heap.size, 3, none⟩ (u3)).alloc (.cells #[.string (bs e.op), .int .i64 e.n, .string (bs e.name), .slice x e.l.length cap] ty)) := by
  have hk : ¬ (fun b => w.heap.size + 1 ≤ b) w.heap.size := fun k => by have : w.heap.size + 1 ≤ w.heap.size := k; omega
  obtain ⟨V, hV⟩ : ∃ V, V = ((((W.setCell ⟨w.heap.size, 0, none⟩ (u0)).setCell ⟨w.heap.size, 1, none⟩ (u1)).setCell ⟨w.heap.size, 2, none⟩ (u2)).setCell ⟨w.heap.size, 3, none⟩ (u3)) := ⟨_, rfl⟩
  have hsz : V.heap.size = W.heap.size := by rw [hV]; simp [World.setCell]
  have r1 : Rd w0 V a p r s d := by rw [hV]; exact (((hR.setO (q := ⟨w.heap.size, 0, none⟩) hpw _).setO (q := ⟨w.heap.size, 1, none⟩) hpw _).setO (q := ⟨w.heap.size, 2, none⟩) hpw _).setO (q := ⟨w.heap.size, 3, none⟩) hpw _
  have r2 : Gr p w V := by rw [hV]; exact (((hG.setN (q := ⟨w.heap.size, 0, none⟩) (Nat.le_refl _) _).setN (q := ⟨w.heap.size, 1, none⟩) (Nat.le_refl _) _).setN (q := ⟨w.heap.size, 2, none⟩) (Nat.le_refl _) _).setN (q := ⟨w.heap.size, 3, none⟩) (Nat.le_refl _) _
  have r3 : ExsAt V (fun b => w.heap.size + 1 ≤ b) x e.l := by rw [hV]; exact (((hX.set (q := ⟨w.heap.size, 0, none⟩) hk _).set (q := ⟨w.heap.size, 1, none⟩) hk _).set (q := ⟨w.heap.size, 2, none⟩) hk _).set (q := ⟨w.heap.size, 3, none⟩) hk _
  rw [← hV, ← hsz]
  refine ⟨r2.alloc _, _, rfl, r1.alloc _, _, _, rfl, ?_⟩
  exact (one_made r3 (by show w.heap.size + 1 ≤ V.heap.size; omega) cap ty).mono (fun b k _ => by have : w.heap.size + 1 ≤ b := k; omega)

set_option maxRecDepth 20000 in
set_option maxHeartbeats 4000000 in
theorem product_any (w0 : World) (a : Nat → Addr) (p r deep : Nat) (s : Bs) (F : Wd → Res Ex) (HP : Hid (PartC w0 a p r s 246 deep F)) (k : Nat) : PartC w0 a p r s 206 deep (fun d => (F d).bind fun e d => grpF s 8 F k e d) := by
  intro w d h hne0
  have hne : ((F d).bind fun e d => grpF s 8 F k e d) ≠ .out := hne0
  have hen : Enters 246 := enters_of Tryz.func246 (by kernel_rfl) rfl
  have HG := hide (grouped_any w0 a p r 246 deep s 8 F hen HP k d (w.alloc (Obj.cells #[.string ⟨#[]⟩, .int .i64 0, .string ⟨#[]⟩, .slice none 0 0] 121)) (h.alloc _) hne)
  have hmf : ∀ (fn : Fn) (first cap : Array Value) (w : World), (Instr.makeFunc fn first cap).run Tryz.prog w = .ok (.func fn first cap) w := fun _ _ _ _ => rfl
  have hpw := h.lt
  have hG0 : Gr p w (w.alloc (Obj.cells #[.string ⟨#[]⟩, .int .i64 0, .string ⟨#[]⟩, .slice none 0 0] 121)) := Gr.of ((Below.refl _ _).alloc (Nat.le_refl _) _)
  show Calls _ _ _ _ (fun e W' => RPost w0 a p r s ((F d).bind fun e d => grpF s 8 F k e d) _ w e W')
  clear hne0
  generalize ((F d).bind fun e d => grpF s 8 F k e d) = res at HG hne ⊢
  cases res with
  | out => exact absurd rfl hne
  | err c pos =>
    go_enter Tryz.func206, Tryz.ntmps206
    go_wp2_with fail
    refine HG.out.mono ?_
    rintro e w1 ⟨hG1, N, rfl, hFa, hlt1⟩
    go_wp2_with fail
    exact ⟨rfl, hG0.trans hG1, N, rfl, hFa, hlt1⟩
  | ok e1 d1 =>
    go_enter Tryz.func206, Tryz.ntmps206
    go_wp2_with fail
    refine HG.out.mono ?_
    rintro e w1 ⟨hG1, v, rfl, hR1, x1, cap1, rfl, hX1⟩
    have b8 : Box4 w1 w.heap.size (.string ⟨#[]⟩) (.int .i64 0) (.string ⟨#[]⟩) (.slice none 0 0) := (Box4.new w 121 _ _ _ _).gr hG1 (by omega)
    have q8 := b8
    simp only [Box4, Holds, and_true] at q8
    go_wp2_with fail
    refine bodyPost_ret (v := .agg #[.string (bs e1.op), .int .i64 e1.n, .string (bs e1.name), .slice x1 e1.l.length cap1]) (by simp [results, Tryz.results206, go_sem, q8]) rfl ?_
    exact res4 hpw (hG0.trans hG1) hR1 (hX1.mono (fun b k _ => by simpa using k)) _ _ _ _
set_option maxRecDepth 20000 in
set_option maxHeartbeats 4000000 in
theorem sum_any (w0 : World) (a : Nat → Addr) (p r deep : Nat) (s : Bs) (F : Wd → Res Ex) (HP : Hid (PartC w0 a p r s 206 deep F)) (k : Nat) : PartC w0 a p r s 166 deep (fun d => (F d).bind fun e d => grpF s 7 F k e d) := by
  intro w d h hne0
  have hne : ((F d).bind fun e d => grpF s 7 F k e d) ≠ .out := hne0
  have hen : Enters 206 := enters_of Tryz.func206 (by kernel_rfl) rfl
  have HG := hide (grouped_any w0 a p r 206 deep s 7 F hen HP k d (w.alloc (Obj.cells #[.string ⟨#[]⟩, .int .i64 0, .string ⟨#[]⟩, .slice none 0 0] 121)) (h.alloc _) hne)
  have hmf : ∀ (fn : Fn) (first cap : Array Value) (w : World), (Instr.makeFunc fn first cap).run Tryz.prog w = .ok (.func fn first cap) w := fun _ _ _ _ => rfl
  have hpw := h.lt
  have hG0 : Gr p w (w.alloc (Obj.cells #[.string ⟨#[]⟩, .int .i64 0, .string ⟨#[]⟩, .slice none 0 0] 121)) := Gr.of ((Below.refl _ _).alloc (Nat.le_refl _) _)
  show Calls _ _ _ _ (fun e W' => RPost w0 a p r s ((F d).bind fun e d => grpF s 7 F k e d) _ w e W')
  clear hne0
  generalize ((F d).bind fun e d => grpF s 7 F k e d) = res at HG hne ⊢
  cases res with
  | out => exact absurd rfl hne
  | err c pos =>
    go_enter Tryz.func166, Tryz.ntmps166
    go_wp2_with fail
    refine HG.out.mono ?_
    rintro e w1 ⟨hG1, N, rfl, hFa, hlt1⟩
    go_wp2_with fail
    exact ⟨rfl, hG0.trans hG1, N, rfl, hFa, hlt1⟩
  | ok e1 d1 =>
    go_enter Tryz.func166, Tryz.ntmps166
    go_wp2_with fail
    refine HG.out.mono ?_
    rintro e w1 ⟨hG1, v, rfl, hR1, x1, cap1, rfl, hX1⟩
    have b8 : Box4 w1 w.heap.size (.string ⟨#[]⟩) (.int .i64 0) (.string ⟨#[]⟩) (.slice none 0 0) := (Box4.new w 121 _ _ _ _).gr hG1 (by omega)
    have q8 := b8
    simp only [Box4, Holds, and_true] at q8
    go_wp2_with fail
    refine bodyPost_ret (v := .agg #[.string (bs e1.op), .int .i64 e1.n, .string (bs e1.name), .slice x1 e1.l.length cap1]) (by simp [results, Tryz.results166, go_sem, q8]) rfl ?_
    exact res4 hpw (hG0.trans hG1) hR1 (hX1.mono (fun b k _ => by simpa using k)) _ _ _ _

/-- A place's term: its box is stored into, and a new row of one term. -/
theorem at_made {w0 w W : World} {a : Nat → Addr} {p r h6 : Nat} {s : Bs} {d : Wd} {e : Ex} {x : Option Addr} {ok : Nat → Prop} {z0 z1 z2 z3 u0 u1 u2 u3 : Value} (h6w : w.heap.size < h6) (hpw : p < w.heap.size) (hR : Rd w0 W a p r s d)
    (b8 : Box4 W w.heap.size z0 z1 z2 z3) (b9 : Box4 W h6 u0 u1 u2 u3) (hX : ExsAt W ok x e.l) (hk : ¬ ok h6) (hn : ok W.heap.size) (hG : Gr p w W) (v0 : Value) (ty : TypeId) (cap : Nat) :
    Rd w0 (((W.setCell ⟨h6, 0, none⟩ v0).setCell ⟨h6, 3, none⟩ (.slice (some ⟨W.heap.size, 0, none⟩) 1 1)).alloc (.cells #[.string (bs e.op), .int .i64 e.n, .string (bs e.name), .slice x e.l.length cap] ty)) a p r s d ∧
    Box4 (((W.setCell ⟨h6, 0, none⟩ v0).setCell ⟨h6, 3, none⟩ (.slice (some ⟨W.heap.size, 0, none⟩) 1 1)).alloc (.cells #[.string (bs e.op), .int .i64 e.n, .string (bs e.name), .slice x e.l.length cap] ty)) w.heap.size z0 z1 z2 z3 ∧
    Box4 (((W.setCell ⟨h6, 0, none⟩ v0).setCell ⟨h6, 3, none⟩ (.slice (some ⟨W.heap.size, 0, none⟩) 1 1)).alloc (.cells #[.string (bs e.op), .int .i64 e.n, .string (bs e.name), .slice x e.l.length cap] ty)) h6 v0 u1 u2 (.slice (some ⟨W.heap.size, 0, none⟩) 1 1) ∧
    ExsAt (((W.setCell ⟨h6, 0, none⟩ v0).setCell ⟨h6, 3, none⟩ (.slice (some ⟨W.heap.size, 0, none⟩) 1 1)).alloc (.cells #[.string (bs e.op), .int .i64 e.n, .string (bs e.name), .slice x e.l.length cap] ty)) ok (some ⟨W.heap.size, 0, none⟩) [e] ∧
    Gr p w (((W.setCell ⟨h6, 0, none⟩ v0).setCell ⟨h6, 3, none⟩ (.slice (some ⟨W.heap.size, 0, none⟩) 1 1)).alloc (.cells #[.string (bs e.op), .int .i64 e.n, .string (bs e.name), .slice x e.l.length cap] ty)) := by
  have hp9 : p < h6 := by omega
  have k9 : w.heap.size ≤ h6 := by omega
  obtain ⟨V, hV⟩ : ∃ V, V = (W.setCell ⟨h6, 0, none⟩ v0).setCell ⟨h6, 3, none⟩ (.slice (some ⟨W.heap.size, 0, none⟩) 1 1) := ⟨_, rfl⟩
  have hsz : V.heap.size = W.heap.size := by rw [hV]; simp [World.setCell]
  have hbA := (Below.refl V.heap.size V).alloc (Nat.le_refl _) (.cells #[.string (bs e.op), .int .i64 e.n, .string (bs e.name), .slice x e.l.length cap] ty)
  have r1 : Rd w0 V a p r s d := by rw [hV]; exact (hR.setO (q := ⟨h6, 0, none⟩) hp9 _).setO (q := ⟨h6, 3, none⟩) hp9 _
  have r2 : Box4 V w.heap.size z0 z1 z2 z3 := by
    rw [hV]
    have ap : Apart h6 [(w.heap.size, 0, z0), (w.heap.size, 1, z1), (w.heap.size, 2, z2), (w.heap.size, 3, z3)] := ⟨by dsimp only; omega, by dsimp only; omega, by dsimp only; omega, by dsimp only; omega, trivial⟩
    exact Holds.setCell (Holds.setCell b8 (p := ⟨h6, 0, none⟩) ap _) (p := ⟨h6, 3, none⟩) ap _
  have r3 : Box4 V h6 v0 u1 u2 (.slice (some ⟨W.heap.size, 0, none⟩) 1 1) := by
    rw [hV]
    obtain ⟨⟨h0, l0, f0⟩, ⟨h1, l1, f1⟩, ⟨h2, l2, f2⟩, ⟨h3, l3, f3⟩, _⟩ := b9
    have hne : ∀ {i j : Nat}, i ≠ j → (⟨h6, i, none⟩ : Addr) ≠ ⟨h6, j, none⟩ := fun k e => k (by cases e; rfl)
    have same : ∀ (V : World) (o : Nat) (u v : Value), V.cell? ⟨h6, o, none⟩ = some u → (V.setCell ⟨h6, o, none⟩ v).cell? ⟨h6, o, none⟩ = some v := fun V o u v hu => World.cell?_setCell_same V _ _ hu
    have oth : ∀ (V : World) (o o' : Nat) (v : Value), o ≠ o' → (V.setCell ⟨h6, o, none⟩ v).cell? ⟨h6, o', none⟩ = V.cell? ⟨h6, o', none⟩ := fun V o o' v k => World.cell?_setCell_other V _ _ _ (hne k)
    refine ⟨⟨?_, by simpa [World.setCell] using l0, by simpa using f0⟩, ⟨?_, by simpa [World.setCell] using l0, by simpa using f1⟩, ⟨?_, by simpa [World.setCell] using l0, by simpa using f2⟩, ⟨?_, by simpa [World.setCell] using l0, by simpa using f3⟩, trivial⟩
    · dsimp only; rw [oth _ _ _ _ (by omega)]; exact same _ _ _ _ h0
    · dsimp only; rw [oth _ _ _ _ (by omega), oth _ _ _ _ (by omega)]; exact h1
    · dsimp only; rw [oth _ _ _ _ (by omega), oth _ _ _ _ (by omega)]; exact h2
    · exact same _ _ _ _ (by rw [oth _ _ _ _ (by omega)]; exact h3)
  have r4 : ExsAt V ok x e.l := by rw [hV]; exact (hX.set (q := ⟨h6, 0, none⟩) hk _).set (q := ⟨h6, 3, none⟩) hk _
  have r5 : Gr p w V := by rw [hV]; exact (hG.setN (q := ⟨h6, 0, none⟩) k9 _).setN (q := ⟨h6, 3, none⟩) k9 _
  rw [← hV]
  refine ⟨r1.below hbA, r2.bel hbA, r3.bel hbA, ?_, r5.below hbA⟩
  rw [← hsz]
  exact one_made r4 (by rw [hsz]; exact hn) cap ty

set_option maxRecDepth 20000 in
set_option maxHeartbeats 8000000 in
theorem part_any (w0 : World) (a : Nat → Addr) (p r : Nat) (s : Bs) (f g : Nat → Wd → Res Ex) (hf : Hid (∀ deep, deep ≤ 12 → PartC w0 a p r s 246 deep (f deep))) (hg : Hid (∀ deep, deep ≤ 12 → PartC w0 a p r s 166 deep (g deep))) (deep : Nat) (hd : deep ≤ 12) : PartC w0 a p r s 246 deep (partF s f g deep) := by
  intro w d h hne
  have hpw := h.lt
  have hG0 : Gr p w (w.alloc (Obj.cells #[.string ⟨#[]⟩, .int .i64 0, .string ⟨#[]⟩, .slice none 0 0] 121)) := Gr.of ((Below.refl _ _).alloc (Nat.le_refl _) _)
  have h0 := h.alloc (Obj.cells #[.string ⟨#[]⟩, .int .i64 0, .string ⟨#[]⟩, .slice none 0 0] 121)
  have b0 := Box4.new w 121 (.string ⟨#[]⟩) (.int .i64 0) (.string ⟨#[]⟩) (.slice none 0 0)
  have H1 := hide (deeper_any w0 a p r deep s [45] d _ h0 (by omega))
  have Hne := hide hne
  obtain ⟨res, Hres⟩ : ∃ res, Hid (partF s f g deep d = res) := ⟨_, rfl⟩
  rw [Hres.out] at Hne ⊢
  clear hne h
  cases e1 : deepW s [45] deep d with
  | out => unfold deepW at e1; split at e1 <;> (try split at e1) <;> cases e1
  | err c pos =>
    rw [e1] at H1
    have e : res = .err c pos := by rw [← Hres.out]; unfold partF; rw [e1]; rfl
    subst e
    go_enter Tryz.func246, Tryz.ntmps246
    go_wp2_with fail
    refine H1.out.mono ?_
    rintro e w1 ⟨hG1, N, rfl, hFa, hlt1⟩
    go_wp2_with fail
    exact ⟨rfl, hG0.trans hG1, N, rfl, hFa, hlt1⟩
  | ok b1 d1 =>
    rw [e1] at H1
    cases b1 with
    | true =>
      have hdd : deep + 1 ≤ 12 := by
        unfold deepW at e1
        split at e1
        · split at e1
          · cases e1
          · omega
        · cases e1
      have hpart : partF s f g deep d = (f (deep + 1) d1).bind fun e d => .ok ⟨[110, 101, 103], 0, [], [e]⟩ d := by unfold partF; rw [e1]; rfl
      have Hr2 : Hid ((f (deep + 1) d1).bind (fun e d => .ok ⟨[110, 101, 103], 0, [], [e]⟩ d) = res) := by show _ = _; rw [← hpart]; exact Hres.out
      have hd' : (deep : Int) + 1 = ((deep + 1 : Nat) : Int) := by omega
      clear hpart Hres e1
      have HF : Hid (f (deep + 1) d1 ≠ .out) := fun k => Hne.out (by rw [← Hr2.out, k]; rfl)
      have HC := hide (hf.out (deep + 1) hdd)
      obtain ⟨dd, hdd'⟩ : ∃ dd, dd = deep + 1 := ⟨_, rfl⟩
      rw [← hdd'] at hd' HC HF Hr2
      clear hdd'
      cases e2 : f dd d1 with
      | out => exact absurd e2 HF.out
      | err c pos =>
        rw [e2] at Hr2
        have e : res = .err c pos := Hr2.out.symm
        subst e
        go_enter Tryz.func246, Tryz.ntmps246
        go_wp2_with fail
        refine H1.out.mono ?_
        rintro e w1 ⟨hG1, v1, rfl, hR1, rfl⟩
        go_wp2_with fail
        have HC2 := HC.out _ d1 hR1 HF.out
        rw [e2] at HC2
        refine HC2.mono ?_
        rintro e w2 ⟨hG2, N, rfl, hFa, hlt1⟩
        go_wp2_with fail
        exact ⟨rfl, (hG0.trans hG1).trans hG2, N, rfl, hFa, hlt1⟩
      | ok e3 d3 =>
        rw [e2] at Hr2
        have e : res = .ok ⟨[110, 101, 103], 0, [], [e3]⟩ d3 := Hr2.out.symm
        subst e
        go_enter Tryz.func246, Tryz.ntmps246
        go_wp2_with fail
        refine H1.out.mono ?_
        rintro e w1 ⟨hG1, v1, rfl, hR1, rfl⟩
        go_wp2_with fail
        have HC2 := HC.out _ d1 hR1 HF.out
        rw [e2] at HC2
        refine HC2.mono ?_
        rintro e w2 ⟨hG2, v2, rfl, hR2, x2, cap2, rfl, hX2⟩
        have b2 := (b0.gr hG1 (by omega)).gr hG2 (by omega)
        have b3 := b2.bel ((Below.refl _ _).alloc (Nat.le_refl _) (.cells #[.string (bs e3.op), .int .i64 e3.n, .string (bs e3.name), .slice x2 e3.l.length cap2] 121))
        have q2 := b2
        simp only [Box4, Holds, and_true] at q2
        have hlt2 := b2.lt
        go_wp2_with fail
        refine bodyPost_ret (v := .agg #[.string (bs [110, 101, 103]), .int .i64 0, .string (bs []), .slice (some ⟨w2.heap.size, 0, none⟩) 1 1]) (by simp [results, Tryz.results246, go_sem, q2]; exact ⟨rfl, rfl⟩) rfl ?_
        exact res4a hpw ((hG0.trans hG1).trans hG2) hR2 (hX2.mono (fun b k _ => by have := hG1.size; simp at this; have : w1.heap.size ≤ b := k; omega)) _ _ _ _ _ _ _ hlt2
    | false =>
      have hd1 : d1 = d := by
        unfold deepW at e1
        split at e1
        · split at e1 <;> cases e1
        · cases e1; rfl
      subst hd1
      have H2 : Hid (∀ W : World, Rd w0 W a p r s d1 → Calls Tryz.prog 274 #[.pointer (some ⟨p, 0, none⟩), .string (bs [40]), .int .i64 deep] W fun e w' => RPost w0 a p r s (deepW s [40] deep d1) (fun _ v b => v = .bool b) W e w') := fun W hW => deeper_any w0 a p r deep s [40] d1 W hW (by omega)
      have hp1 : partF s f g deep d1 = (deepW s [40] deep d1).bind fun b d => if b = true then (g (deep + 1) d).bind fun e d => (wantW s [41] d).bind fun _ d => .ok e d else
          if d.role = 3 then .ok ⟨[110, 117, 109], numOf d.text, [], []⟩ (nextW s d) else
          (wantR s 2 d).bind fun nm d => (deepW s [91] deep d).bind fun b d =>
            if b = true then (g (deep + 1) d).bind fun e d => (wantW s [93] d).bind fun _ d => .ok ⟨[97, 116], 0, nm, [e]⟩ d
            else .ok ⟨[118, 97, 114], 0, nm, []⟩ d := by unfold partF; rw [e1]; rfl
      rw [hp1] at Hres
      clear hp1 e1
      cases e2 : deepW s [40] deep d1 with
      | out => unfold deepW at e2; split at e2 <;> (try split at e2) <;> cases e2
      | err c pos =>
        rw [e2] at H2 Hres
        have e : res = .err c pos := Hres.out.symm
        subst e
        (go_enter Tryz.func246, Tryz.ntmps246; go_wp2_with fail; refine H1.out.mono ?_; rintro e w1 ⟨hG1, v1, rfl, hR1, rfl⟩; go_wp2_with fail)
        refine (H2.out _ hR1).mono ?_
        rintro e w2 ⟨hG2, N, rfl, hFa, hlt1⟩
        go_wp2_with fail
        exact ⟨rfl, (hG0.trans hG1).trans hG2, N, rfl, hFa, hlt1⟩
      | ok b2 d2 =>
        rw [e2] at H2 Hres
        cases b2 with
        | true =>
          have hdd : deep + 1 ≤ 12 := by
            unfold deepW at e2
            split at e2
            · split at e2
              · cases e2
              · omega
            · cases e2
          have hp2 : (g (deep + 1) d2).bind (fun e d => (wantW s [41] d).bind fun _ d => .ok e d) = res := by
            have := Hres.out
            simp only [Res.bind, if_true] at this
            exact this
          have Hr2 := hide hp2
          have hd' : (deep : Int) + 1 = ((deep + 1 : Nat) : Int) := by omega
          have HF : Hid (g (deep + 1) d2 ≠ .out) := fun k => Hne.out (by rw [← hp2, k]; rfl)
          have HC := hide (hg.out (deep + 1) hdd)
          clear hp2 Hres e2
          obtain ⟨dd, hdd'⟩ : ∃ dd, dd = deep + 1 := ⟨_, rfl⟩
          rw [← hdd'] at hd' HC HF Hr2
          clear hdd' hdd
          cases e3 : g dd d2 with
          | out => exact absurd e3 HF.out
          | err c pos =>
            rw [e3] at Hr2
            have e : res = .err c pos := Hr2.out.symm
            subst e
            (go_enter Tryz.func246, Tryz.ntmps246; go_wp2_with fail; refine H1.out.mono ?_; rintro e w1 ⟨hG1, v1, rfl, hR1, rfl⟩; go_wp2_with fail)
            refine (H2.out _ hR1).mono ?_
            rintro e w2 ⟨hG2, v2, rfl, hR2, rfl⟩
            go_wp2_with fail
            have HC2 := HC.out _ d2 hR2 HF.out
            rw [e3] at HC2
            refine HC2.mono ?_
            rintro e w3 ⟨hG3, N, rfl, hFa, hlt1⟩
            go_wp2_with fail
            exact ⟨rfl, ((hG0.trans hG1).trans hG2).trans hG3, N, rfl, hFa, hlt1⟩
          | ok e4 d4 =>
            rw [e3] at Hr2
            have hw4 : Hid ((wantL s [[41]] d4).bind (fun _ d => .ok e4 d) = res) := by
              show _ = _
              have := Hr2.out
              simp only [Res.bind] at this
              unfold wantL wantL
              cases hh : wantW s [41] d4 with
              | ok u d5 => rw [hh] at this; exact this
              | err c5 p5 => rw [hh] at this; exact this
              | out => rw [hh] at this; exact this
            (go_enter Tryz.func246, Tryz.ntmps246; go_wp2_with fail; refine H1.out.mono ?_; rintro e w1 ⟨hG1, v1, rfl, hR1, rfl⟩; go_wp2_with fail)
            refine (H2.out _ hR1).mono ?_
            rintro e w2 ⟨hG2, v2, rfl, hR2, rfl⟩
            go_wp2_with fail
            have HC2 := HC.out _ d2 hR2 HF.out
            rw [e3] at HC2
            refine HC2.mono ?_
            rintro e w3 ⟨hG3, v3, rfl, hR3, x3, cap3, rfl, hX3⟩
            have b3 := ((b0.gr hG1 (by omega)).gr hG2 (by omega)).gr hG3 (by omega)
            have hG3' := ((hG0.trans hG1).trans hG2).trans hG3
            have b5 := Box4.new w3 121 (.string (bs e4.op)) (.int .i64 e4.n) (.string (bs e4.name)) (.slice x3 e4.l.length cap3)
            have hb5 := (Below.refl w3.heap.size w3).alloc (Nat.le_refl _) (.cells #[.string (bs e4.op), .int .i64 e4.n, .string (bs e4.name), .slice x3 e4.l.length cap3] 121)
            have hX5 : ExsAt (w3.alloc (.cells #[.string (bs e4.op), .int .i64 e4.n, .string (bs e4.name), .slice x3 e4.l.length cap3] 121)) (fun b => w.heap.size + 1 ≤ b) x3 e4.l := (hX3.mono (ok' := fun b => w.heap.size + 1 ≤ b) (fun b k _ => by have h1 := hG1.size; have h2 := hG2.size; simp at h1; have : w2.heap.size ≤ b := k; omega)).bel hb5
            have hR5 := hR3.below hb5
            have b3' := b3.bel hb5
            have hG5 := hG3'.below hb5
            have hlt3 := b3.lt
            clear hX3 hR3 b3 hG3' HC2
            obtain ⟨W5, hW5⟩ : ∃ W, W = w3.alloc (.cells #[.string (bs e4.op), .int .i64 e4.n, .string (bs e4.name), .slice x3 e4.l.length cap3] 121) := ⟨_, rfl⟩
            have sz5 : w3.heap.size < W5.heap.size := by rw [hW5]; simp
            rw [← hW5] at b5 hX5 hR5 b3' hG5
            go_upto_region 5 with fail
            rw [← hW5]
            clear hW5 hb5
            have hS : StrsAt (W5.alloc (.cells #[.string (bs [41])] 9)) p W5.heap.size [[41]] := ⟨by omega, by simp, fun i t hi => by
              rcases i with _ | i
              · cases hi; simp
              · cases hi⟩
            have HW := hide (want_any w0 a p r W5.heap.size 1 1 s [[41]] d4 _ (hR5.alloc (.cells #[.string (bs [41])] 9)) hS rfl (by omega))
            cases e5 : wantL s [[41]] d4 with
            | out => exact absurd (by rw [← hw4.out, e5]; rfl) Hne.out
            | err c pos =>
              rw [e5] at HW hw4
              have e : res = .err c pos := hw4.out.symm
              clear hw4 e5
              subst e
              go_wp2_with fail
              refine HW.out.mono ?_
              rintro e w6 ⟨hG6, N, rfl, hFa, hlt1⟩
              go_wp2_with fail
              exact ⟨rfl, (hG5.alloc _).trans hG6, N, rfl, hFa, hlt1⟩
            | ok u d6 =>
              rw [e5] at HW hw4
              have e : res = .ok e4 d6 := hw4.out.symm
              clear hw4 e5
              subst e
              go_wp2_with fail
              refine HW.out.mono ?_
              rintro e w6 ⟨hG6, v6, rfl, hR6, rfl⟩
              have b6 := (b3'.bel ((Below.refl _ _).alloc (Nat.le_refl _) (.cells #[.string (bs [41])] 9))).gr hG6 (by omega)
              have b7 := (b5.bel ((Below.refl _ _).alloc (Nat.le_refl _) (.cells #[.string (bs [41])] 9))).gr hG6 (by omega)
              have hX6 := (hX5.bel ((Below.refl _ _).alloc (Nat.le_refl _) (.cells #[.string (bs [41])] 9))).gr hG6 (fun k => by have : w.heap.size + 1 ≤ p := k; omega)
              have q6 := b6
              have q7 := b7
              simp only [Box4, Holds, and_true] at q6 q7
              go_wp2_with fail
              refine bodyPost_ret (v := .agg #[.string (bs e4.op), .int .i64 e4.n, .string (bs e4.name), .slice x3 e4.l.length cap3]) (by simp [results, Tryz.results246, go_sem, q6]) rfl ?_
              exact res4 hpw ((hG5.alloc _).trans hG6) hR6 hX6 _ _ _ _
        | false =>
          have hd2 : d2 = d1 := by
            unfold deepW at e2
            split at e2
            · split at e2 <;> cases e2
            · cases e2; rfl
          subst hd2
          clear e2
          by_cases h3 : d2.role = 3
          · have hres : res = .ok ⟨[110, 117, 109], numOf d2.text, [], []⟩ (nextW s d2) := by
              have := Hres.out
              simp only [Res.bind] at this
              rw [if_neg (by simp), if_pos h3] at this
              exact this.symm
            have H3 : Hid (∀ W : World, Rd w0 W a p r s d2 → Calls Tryz.prog 162 #[.pointer (some ⟨p, 0, none⟩)] W fun e w' => RPost w0 a p r s (.ok (numOf d2.text) (nextW s d2)) (fun _ v n => v = .int .i64 n) W e w') := fun W hW => by
              have := number_any w0 a p r s d2 W hW
              unfold wantR at this
              rw [if_pos h3] at this
              exact this
            subst hres
            have h3' : (d2.role == 3) = true := by simp [h3]
            clear Hres
            (go_enter Tryz.func246, Tryz.ntmps246; go_wp2_with fail; refine H1.out.mono ?_; rintro e w1 ⟨hG1, v1, rfl, hR1, rfl⟩; go_wp2_with fail)
            refine (H2.out _ hR1).mono ?_
            rintro e w2 ⟨hG2, v2, rfl, hR2, rfl⟩
            obtain ⟨_, _, _, _, _, _, k2, _, _, _, _, _⟩ := id hR2
            go_wp2_with fail
            refine (H3.out _ hR2).mono ?_
            rintro e w3 ⟨hG3, v3, rfl, hR3, rfl⟩
            have b3 := ((b0.gr hG1 (by omega)).gr hG2 (by omega)).gr hG3 (by omega)
            have q3 := b3
            simp only [Box4, Holds, and_true] at q3
            go_wp2_with fail
            refine bodyPost_ret (v := .agg #[.string (bs [110, 117, 109]), .int .i64 (numOf d2.text), .string (bs []), .slice none 0 0]) (by simp [results, Tryz.results246, go_sem, q3]; exact ⟨rfl, rfl⟩) rfl ?_
            exact res4 (e := ⟨[110, 117, 109], numOf d2.text, [], []⟩) hpw (((hG0.trans hG1).trans hG2).trans hG3) hR3 (.nil _) _ _ _ _
          · have h3' : (d2.role == 3) = false := by simp [h3]
            have hp3 : (wantR s 2 d2).bind (fun nm d => (deepW s [91] deep d).bind fun b d =>
                if b = true then (g (deep + 1) d).bind fun e d => (wantW s [93] d).bind fun _ d => .ok ⟨[97, 116], 0, nm, [e]⟩ d
                else .ok ⟨[118, 97, 114], 0, nm, []⟩ d) = res := by
              have := Hres.out
              simp only [Res.bind] at this
              rw [if_neg (by simp), if_neg h3] at this
              exact this
            have Hr3 := hide hp3
            have H3 : Hid (∀ W : World, Rd w0 W a p r s d2 → Calls Tryz.prog 106 #[.pointer (some ⟨p, 0, none⟩)] W fun e w' => RPost w0 a p r s (wantR s 2 d2) (fun _ v t => v = .string (bs t)) W e w') := fun W hW => name_any w0 a p r s d2 W hW
            clear Hres hp3 h3
            cases e4 : wantR s 2 d2 with
            | out => unfold wantR at e4; split at e4 <;> cases e4
            | err c pos =>
              rw [e4] at H3 Hr3
              have e : res = .err c pos := Hr3.out.symm
              subst e
              clear e4 Hr3
              (go_enter Tryz.func246, Tryz.ntmps246; go_wp2_with fail; refine H1.out.mono ?_; rintro e w1 ⟨hG1, v1, rfl, hR1, rfl⟩; go_wp2_with fail)
              refine (H2.out _ hR1).mono ?_
              rintro e w2 ⟨hG2, v2, rfl, hR2, rfl⟩
              obtain ⟨_, _, _, _, _, _, k2, _, _, _, _, _⟩ := id hR2
              go_wp2_with fail
              refine (H3.out _ hR2).mono ?_
              rintro e w3 ⟨hG3, N, rfl, hFa, hlt1⟩
              go_wp2_with fail
              exact ⟨rfl, ((hG0.trans hG1).trans hG2).trans hG3, N, rfl, hFa, hlt1⟩
            | ok nm d4 =>
              rw [e4] at H3 Hr3
              clear e4
              (go_enter Tryz.func246, Tryz.ntmps246; go_wp2_with fail; refine H1.out.mono ?_; rintro e w1 ⟨hG1, v1, rfl, hR1, rfl⟩; go_wp2_with fail)
              refine (H2.out _ hR1).mono ?_
              rintro e w2 ⟨hG2, v2, rfl, hR2, rfl⟩
              obtain ⟨_, _, _, _, _, _, k2, _, _, _, _, _⟩ := id hR2
              go_wp2_with fail
              refine (H3.out _ hR2).mono ?_
              rintro e w3 ⟨hG3, v3, rfl, hR3, rfl⟩
              have b3 := ((b0.gr hG1 (by omega)).gr hG2 (by omega)).gr hG3 (by omega)
              have hG3' := ((hG0.trans hG1).trans hG2).trans hG3
              have hb5 := (Below.refl w3.heap.size w3).alloc (Nat.le_refl _) (.cells #[.string (bs [118, 97, 114]), .int .i64 0, .string (bs nm), .slice none 0 0] 121)
              have b5 := Box4.new w3 121 (.string (bs [118, 97, 114])) (.int .i64 0) (.string (bs nm)) (.slice none 0 0)
              have hR5 := hR3.below hb5
              have b3' := b3.bel hb5
              have hG5 := hG3'.below hb5
              have hlt3 := b3.lt
              clear hR3 b3 hG3'
              obtain ⟨W5, hW5⟩ : ∃ W, W = w3.alloc (.cells #[.string (bs [118, 97, 114]), .int .i64 0, .string (bs nm), .slice none 0 0] 121) := ⟨_, rfl⟩
              have sz5 : w3.heap.size < W5.heap.size := by rw [hW5]; simp
              rw [← hW5] at b5 hR5 b3' hG5
              go_upto_region 10 with fail
              change Code.wp _ _ _ _ (w3.alloc (.cells #[.string (bs [118, 97, 114]), .int .i64 0, .string (bs nm), .slice none 0 0] 121))
              rw [← hW5]
              clear hW5 hb5
              have H5 := hide (deeper_any w0 a p r deep s [91] d4 W5 hR5 (by omega))
              cases e5 : deepW s [91] deep d4 with
              | out => unfold deepW at e5; split at e5 <;> (try split at e5) <;> cases e5
              | err c pos =>
                rw [e5] at H5
                have e : res = .err c pos := by
                  have := Hr3.out
                  simp only [Res.bind] at this
                  rw [e5] at this
                  exact this.symm
                subst e
                clear Hr3 e5
                go_wp2_with fail
                refine H5.out.mono ?_
                rintro e w6 ⟨hG6, N, rfl, hFa, hlt1⟩
                go_wp2_with fail
                exact ⟨rfl, hG5.trans hG6, N, rfl, hFa, hlt1⟩
              | ok b5b d5 =>
                rw [e5] at H5
                cases b5b with
                | false =>
                  have e : res = .ok ⟨[118, 97, 114], 0, nm, []⟩ d5 := by
                    have := Hr3.out
                    simp only [Res.bind] at this
                    rw [e5] at this
                    simp only [Bool.false_eq_true, if_false] at this
                    exact this.symm
                  subst e
                  clear Hr3 e5
                  go_wp2_with fail
                  refine H5.out.mono ?_
                  rintro e w6 ⟨hG6, v6, rfl, hR6, rfl⟩
                  have b6 := b3'.gr hG6 (by omega)
                  have b7 := b5.gr hG6 (by omega)
                  have q6 := b6
                  have q7 := b7
                  simp only [Box4, Holds, and_true] at q6 q7
                  go_wp2_with fail
                  refine bodyPost_ret (v := .agg #[.string (bs [118, 97, 114]), .int .i64 0, .string (bs nm), .slice none 0 0]) (by simp [results, Tryz.results246, go_sem, q6]) rfl ?_
                  exact res4 (e := ⟨[118, 97, 114], 0, nm, []⟩) hpw (hG5.trans hG6) hR6 (.nil _) _ _ _ _
                | true =>
                  have hdd : deep + 1 ≤ 12 := by
                    unfold deepW at e5
                    split at e5
                    · split at e5
                      · cases e5
                      · omega
                    · cases e5
                  have hp5 : (g (deep + 1) d5).bind (fun e d => (wantW s [93] d).bind fun _ d => .ok ⟨[97, 116], 0, nm, [e]⟩ d) = res := by
                    have := Hr3.out
                    simp only [Res.bind] at this
                    rw [e5] at this
                    simp only [if_true] at this
                    exact this
                  have Hr5 := hide hp5
                  have hd' : (deep : Int) + 1 = ((deep + 1 : Nat) : Int) := by omega
                  have HF : Hid (g (deep + 1) d5 ≠ .out) := fun k => Hne.out (by rw [← hp5, k]; rfl)
                  have HC := hide (hg.out (deep + 1) hdd)
                  clear hp5 Hr3 e5
                  obtain ⟨dd, hdd'⟩ : ∃ dd, dd = deep + 1 := ⟨_, rfl⟩
                  rw [← hdd'] at hd' HC HF Hr5
                  clear hdd' hdd
                  cases e6 : g dd d5 with
                  | out => exact absurd e6 HF.out
                  | err c pos =>
                    rw [e6] at Hr5
                    have e : res = .err c pos := Hr5.out.symm
                    subst e
                    clear Hr5
                    go_wp2_with fail
                    refine H5.out.mono ?_
                    rintro e w6 ⟨hG6, v6, rfl, hR6, rfl⟩
                    go_wp2_with fail
                    have HC2 := HC.out _ d5 hR6 HF.out
                    rw [e6] at HC2
                    refine HC2.mono ?_
                    rintro e w7 ⟨hG7, N, rfl, hFa, hlt1⟩
                    go_wp2_with fail
                    exact ⟨rfl, (hG5.trans hG6).trans hG7, N, rfl, hFa, hlt1⟩
                  | ok e7 d7 =>
                    rw [e6] at Hr5
                    have hw4 : Hid ((wantL s [[93]] d7).bind (fun _ d => .ok ⟨[97, 116], 0, nm, [e7]⟩ d) = res) := by
                      show _ = _
                      have := Hr5.out
                      simp only [Res.bind] at this
                      unfold wantL wantL
                      cases hh : wantW s [93] d7 with
                      | ok u d5 => rw [hh] at this; exact this
                      | err c5 p5 => rw [hh] at this; exact this
                      | out => rw [hh] at this; exact this
                    clear Hr5
                    go_wp2_with fail
                    refine H5.out.mono ?_
                    rintro e w6 ⟨hG6, v6, rfl, hR6, rfl⟩
                    go_wp2_with fail
                    have HC2 := HC.out _ d5 hR6 HF.out
                    rw [e6] at HC2
                    clear e6
                    refine HC2.mono ?_
                    rintro e w7 ⟨hG7, v7, rfl, hR7, x7, cap7, rfl, hX7⟩
                    clear HC2
                    have sz6 := hG6.size
                    have sz7 := hG7.size
                    have b6 := (b3'.gr hG6 (by omega)).gr hG7 (by omega)
                    have b7 := (b5.gr hG6 (by omega)).gr hG7 (by omega)
                    have q6 := b6
                    have q7 := b7
                    simp only [Box4, Holds, and_true] at q6 q7
                    have hM := at_made (w := w) (h6 := w3.heap.size) hlt3 hpw hR7 b6 b7 hX7 (fun k => by have : w6.heap.size ≤ w3.heap.size := k; omega) (by show w6.heap.size ≤ w7.heap.size; omega) ((hG5.trans hG6).trans hG7) (.string (bs [97, 116])) 121 cap7
                    obtain ⟨V8, hV8⟩ : ∃ V, V = ((w7.setCell ⟨w3.heap.size, 0, none⟩ (.string (bs [97, 116]))).setCell ⟨w3.heap.size, 3, none⟩ (.slice (some ⟨w7.heap.size, 0, none⟩) 1 1)).alloc (.cells #[.string (bs e7.op), .int .i64 e7.n, .string (bs e7.name), .slice x7 e7.l.length cap7] 121) := ⟨_, rfl⟩
                    have sz8 : w7.heap.size < V8.heap.size := by rw [hV8]; simp [World.setCell]
                    rw [← hV8] at hM
                    obtain ⟨hR8, b8, b9, hX8, hG8⟩ := hM
                    go_upto_region 12 with fail
                    change Code.wp _ _ _ _ (((w7.setCell ⟨w3.heap.size, 0, none⟩ (.string (bs [97, 116]))).setCell ⟨w3.heap.size, 3, none⟩ (.slice (some ⟨w7.heap.size, 0, none⟩) 1 1)).alloc (.cells #[.string (bs e7.op), .int .i64 e7.n, .string (bs e7.name), .slice x7 e7.l.length cap7] 121))
                    rw [← hV8]
                    clear hV8 q6 q7 b6 b7 hX7 hR7
                    have hS : StrsAt (V8.alloc (.cells #[.string (bs [93])] 9)) p V8.heap.size [[93]] := ⟨by omega, by simp, fun i t hi => by
                      rcases i with _ | i
                      · cases hi; simp
                      · cases hi⟩
                    have HW := hide (want_any w0 a p r V8.heap.size 1 1 s [[93]] d7 _ (hR8.alloc (.cells #[.string (bs [93])] 9)) hS rfl (by omega))
                    cases e9 : wantL s [[93]] d7 with
                    | out => exact absurd (by rw [← hw4.out, e9]; rfl) Hne.out
                    | err c pos =>
                      rw [e9] at HW hw4
                      have e : res = .err c pos := hw4.out.symm
                      clear hw4 e9
                      subst e
                      go_wp2_with fail
                      refine HW.out.mono ?_
                      rintro e w9 ⟨hG9, N, rfl, hFa, hlt1⟩
                      go_wp2_with fail
                      exact ⟨rfl, (hG8.alloc _).trans hG9, N, rfl, hFa, hlt1⟩
                    | ok u d9 =>
                      rw [e9] at HW hw4
                      have e : res = .ok ⟨[97, 116], 0, nm, [e7]⟩ d9 := hw4.out.symm
                      clear hw4 e9
                      subst e
                      go_wp2_with fail
                      refine HW.out.mono ?_
                      rintro e w9 ⟨hG9, v9, rfl, hR9, rfl⟩
                      have b8' := (b8.bel ((Below.refl _ _).alloc (Nat.le_refl _) (.cells #[.string (bs [93])] 9))).gr hG9 (by omega)
                      have b9' := (b9.bel ((Below.refl _ _).alloc (Nat.le_refl _) (.cells #[.string (bs [93])] 9))).gr hG9 (by omega)
                      have hX9 := (hX8.bel ((Below.refl _ _).alloc (Nat.le_refl _) (.cells #[.string (bs [93])] 9))).gr hG9 (fun k => by have : w6.heap.size ≤ p := k; omega)
                      have q8 := b8'
                      have q9 := b9'
                      simp only [Box4, Holds, and_true] at q8 q9
                      go_wp2_with fail
                      refine bodyPost_ret (v := .agg #[.string (bs [97, 116]), .int .i64 0, .string (bs nm), .slice (some ⟨w7.heap.size, 0, none⟩) 1 1]) (by simp [results, Tryz.results246, go_sem, q8]) rfl ?_
                      exact res4 (e := ⟨[97, 116], 0, nm, [e7]⟩) hpw ((hG8.alloc _).trans hG9) hR9 (hX9.mono (fun b k _ => by have : w6.heap.size ≤ b := k; omega)) _ _ _ _

/-- The terms, whatever the count. -/
def fnEx : Nat → Nat
  | 0 => 246
  | 1 => 206
  | _ => 166
theorem ex_any (w0 : World) (a : Nat → Addr) (p r : Nat) (s : Bs) : ∀ (k lev : Nat), lev ≤ 2 → ∀ deep, deep ≤ 12 → PartC w0 a p r s (fnEx lev) deep (exF s k lev deep) := by
  intro k
  induction k with
  | zero => intro lev _ deep _ W d _ hne; exact absurd rfl hne
  | succ k ih =>
    intro lev hl deep hd
    rcases (by omega : lev = 0 ∨ lev = 1 ∨ lev = 2) with rfl | rfl | rfl
    · exact part_any w0 a p r s (exF s k 0) (exF s k 2) (fun dp h => ih 0 (by omega) dp h) (fun dp h => ih 2 (by omega) dp h) deep hd
    · exact product_any w0 a p r deep s (exF s k 0 deep) (ih 0 (by omega) deep hd) k
    · exact sum_any w0 a p r deep s (exF s k 1 deep) (ih 1 (by omega) deep hd) k
end Go.Proofs.YtbfhaabpfkopdaaGreatDoor
