/- Rows of numbers of any size: each number put through a function, two rows put together. -/
import Derived.Test.YtmeaemjdmjhmdaaDoorWf
namespace Go.Proofs.YtmeaemjdmjhmdaaDoor
open Go.RowKit

/-- How a number lies in a row. -/
structure Rep where
  p : Int
  a : Option Addr
  n : Nat
  c : Nat

def rep0 : Rep := ⟨0, none, 0, 0⟩

def NumR (w : World) (r : Rep) (z : Int) : Prop := NumP w r.p r.a r.n r.c z

theorem NumR.below {w w' : World} {r : Rep} {z : Int} (h : NumR w r z) (hb : Below w.heap.size w w') : NumR w' r z := NumP.below h hb

def repCells (l : List Rep) : List Value := l.flatMap fun r => [.int .i64 r.p, .slice r.a r.n r.c]

theorem repCells_cons (r : Rep) (l : List Rep) : repCells (r :: l) = .int .i64 r.p :: .slice r.a r.n r.c :: repCells l := by simp [repCells]

theorem repCells_length (l : List Rep) : (repCells l).length = l.length * 2 := by
  induction l with
  | nil => rfl
  | cons x l ih => rw [repCells_cons, List.length_cons, List.length_cons, List.length_cons, ih]; omega

theorem repCells_get (l : List Rep) (i : Nat) (h : i < l.length) : (repCells l)[i * 2]? = some (.int .i64 (l.getD i rep0).p) ∧ (repCells l)[i * 2 + 1]? = some (.slice (l.getD i rep0).a (l.getD i rep0).n (l.getD i rep0).c) := by
  induction l generalizing i with
  | nil => simp at h
  | cons x l ih =>
    cases i with
    | zero => simp [repCells]
    | succ i =>
      have := ih i (by simpa using h)
      rw [repCells_cons, show (i + 1) * 2 = i * 2 + 1 + 1 by omega]
      simpa using this

theorem repCells_set (l : List Rep) (i : Nat) (h : i < l.length) (r : Rep) : ((repCells l).set (i * 2) (.int .i64 r.p)).set (i * 2 + 1) (.slice r.a r.n r.c) = repCells (l.set i r) := by
  induction l generalizing i with
  | nil => simp at h
  | cons x l ih =>
    cases i with
    | zero => simp [repCells]
    | succ i =>
      have := ih i (by simpa using h)
      rw [List.set_cons_succ, repCells_cons, repCells_cons, show (i + 1) * 2 = i * 2 + 1 + 1 by omega, List.set_cons_succ, List.set_cons_succ, List.set_cons_succ, List.set_cons_succ, this]

theorem repCells_zeros (n : Nat) : (madeCells #[.int .i64 0, .slice none 0 0] (n * 2)).toList = repCells (List.replicate n rep0) := by
  rw [rowCells_zeros]
  induction n with
  | zero => rfl
  | succ n ih => rw [List.replicate_succ, List.replicate_succ, repCells_cons, ← ih]; simp [rowCells, rep0]

/-- A row of numbers of any size. -/
def NumsAt (w : World) (b : Nat) (l : List Int) : Prop :=
  b < w.heap.size ∧ ∀ i, i < l.length → ∃ r : Rep, w.cell? ⟨b, i * 2, none⟩ = some (.int .i64 r.p) ∧ w.cell? ⟨b, i * 2 + 1, none⟩ = some (.slice r.a r.n r.c) ∧ NumR w r (l.getD i 0)

theorem NumsAt.below {w w' : World} {b : Nat} {l : List Int} (h : NumsAt w b l) (hb : Below w.heap.size w w') : NumsAt w' b l :=
  ⟨Nat.lt_of_lt_of_le h.1 hb.size, fun i hi => by
    obtain ⟨r, h1, h2, h3⟩ := h.2 i hi
    exact ⟨r, (hb.cell (p := ⟨b, i * 2, none⟩) h.1).trans h1, (hb.cell (p := ⟨b, i * 2 + 1, none⟩) h.1).trans h2, h3.below hb⟩⟩

theorem NearRow.nums {w : World} {b : Nat} {l : List Int} (h : NearRow w b l) (hf : ∀ x ∈ l, -9223372036854775808 ≤ x ∧ x ≤ 9223372036854775807) : NumsAt w b l :=
  ⟨h.1, fun i hi => ⟨⟨l.getD i 0, none, 0, 0⟩, (h.2 i hi).1, (h.2 i hi).2, by
    have := hf (l.getD i 0) (by simp [hi])
    exact NumP_near w this.1 this.2⟩⟩

theorem NumsAt_of_owns {w : World} {base e g n cap : Nat} {rs : List Rep} {l : List Int} (h : w.ownsRow base e 2 (.slice (some ⟨g, 0, none⟩) n cap) n (repCells rs)) (hr : rs.length = n) (hl : l.length = n) (hN : ∀ j, j < n → NumR w (rs.getD j rep0) (l.getD j 0)) : NumsAt w g l := by
  refine ⟨(h.lt g rfl).2, fun i hi => ?_⟩
  have hg := repCells_get rs i (by omega)
  exact ⟨rs.getD i rep0, (h.cellAt (i * 2) (by omega)).trans hg.1, (h.cellAt (i * 2 + 1) (by omega)).trans hg.2, hN i (by omega)⟩

theorem ownsR_store {W : World} {base e g n : Nat} {m : List Rep} (h : W.ownsRow base e 2 (.slice (some ⟨g, 0, none⟩) n n) n (repCells m)) (hm : m.length = n) (k : Nat) (hk : k < n) (r : Rep) :
    ((W.setCell ⟨g, k * 2, none⟩ (.int .i64 r.p)).setCell ⟨g, k * 2 + 1, none⟩ (.slice r.a r.n r.c)).ownsRow base e 2 (.slice (some ⟨g, 0, none⟩) n n) n (repCells (m.set k r)) := by
  have h1 := (h.stored (k * 2) (.int .i64 r.p)).1
  have h2 := (h1.stored (k * 2 + 1) (.slice r.a r.n r.c)).1
  rwa [repCells_set m k (by omega) r] at h2

theorem ownsR_cells {W : World} {base e g n : Nat} {m : List Rep} (h : W.ownsRow base e 2 (.slice (some ⟨g, 0, none⟩) n n) n (repCells m)) (hm : m.length = n) (k : Nat) (hk : k < n) :
    W.cell? ⟨g, k * 2, none⟩ = some (.int .i64 (m.getD k rep0).p) ∧ W.cell? ⟨g, k * 2 + 1, none⟩ = some (.slice (m.getD k rep0).a (m.getD k rep0).n (m.getD k rep0).c) ∧ W.frozen? ⟨g, k * 2, none⟩ = false ∧ W.frozen? ⟨g, k * 2 + 1, none⟩ = false := by
  have hg := repCells_get m k (by omega)
  exact ⟨(h.cellAt (k * 2) (by omega)).trans hg.1, (h.cellAt (k * 2 + 1) (by omega)).trans hg.2, h.frozenAt _, h.frozenAt _⟩

/-- A number stored in a row of numbers. -/
theorem NumR_store {W : World} {base e g n : Nat} {m : List Rep} (h : W.ownsRow base e 2 (.slice (some ⟨g, 0, none⟩) n n) n (repCells m)) (hm : m.length = n) (k : Nat) (hk : k < n) (r : Rep) {x : Rep} {z : Int} (hN : NumR W x z) :
    NumR ((W.setCell ⟨g, k * 2, none⟩ (.int .i64 r.p)).setCell ⟨g, k * 2 + 1, none⟩ (.slice r.a r.n r.c)) x z := by
  obtain ⟨c0, c1, _, _⟩ := ownsR_cells h hm k hk
  refine NumP_set (NumP_set hN c0 (by simp)) (u := .slice (m.getD k rep0).a (m.getD k rep0).n (m.getD k rep0).c) ?_ (by simp)
  rw [World.cell?_setCell_other (h := by simp)]; exact c1

theorem nums_step {W : World} {base e g n : Nat} {m : List Rep} (h : W.ownsRow base e 2 (.slice (some ⟨g, 0, none⟩) n n) n (repCells m)) (hm : m.length = n) (k : Nat) (hk : k < n) (r : Rep) (f : Nat → Int)
    (old : ∀ j, j < k → NumR W (m.getD j rep0) (f j)) (hN : NumR W r (f k)) :
    ∀ j, j < k + 1 → NumR ((W.setCell ⟨g, k * 2, none⟩ (.int .i64 r.p)).setCell ⟨g, k * 2 + 1, none⟩ (.slice r.a r.n r.c)) ((m.set k r).getD j rep0) (f j) := by
  intro j hj
  by_cases hjk : j = k
  · subst hjk
    have e : (m.set j r).getD j rep0 = r := by simp [hm, hk]
    rw [e]; exact NumR_store h hm j hk r hN
  · have e : (m.set k r).getD j rep0 = m.getD j rep0 := by simp [List.getD, List.getElem?_set_ne (Ne.symm hjk)]
    rw [e]; exact NumR_store h hm k hk r (old j (by omega))

theorem nums_below {W W' : World} {m : List Rep} {k : Nat} {f : Nat → Int} (old : ∀ j, j < k → NumR W (m.getD j rep0) (f j)) (hb : Below W.heap.size W W') : ∀ j, j < k → NumR W' (m.getD j rep0) (f j) := fun j hj => (old j hj).below hb

/-- A function that has a body: a call enters it. -/
def Enters (f : Nat) : Prop := ∀ (args : Array Value) (W : World), (callFunc f args).run Tryd.prog W = .ok (.enter f args) W

theorem enters_of {f : Nat} {fn : Func} {c : Code} (hf : Tryd.prog.funcs[f]? = some fn) (hname : (fn.name == "runtime.NumGoroutine") = false) (hb : fn.body = some c) : Enters f := by
  intro args w
  have h1 : fn.name ≠ "runtime.NumGoroutine" := by simpa using hname
  simp [callFunc, hf, h1, hb]

/-- What a function on numbers answers. -/
def Maps (f : Nat) (caps : Array Value) (w : World) (l : List Int) (F : Int → Int) : Prop :=
  ∀ (W : World) (r : Rep) (z : Int), Below w.heap.size w W → z ∈ l → NumR W r z → Calls Tryd.prog f (#[.agg #[.int .i64 r.p, .slice r.a r.n r.c]] ++ caps) W fun e w' => ∃ q : Rep, e = .returned (.agg #[.int .i64 q.p, .slice q.a q.n q.c]) ∧ NumR w' q (F z) ∧ Below W.heap.size W w'

set_option maxHeartbeats 1000000 in
set_option maxRecDepth 20000 in
/-- Each number of a row put through a function. -/
theorem each_any (f : Nat) (caps : Array Value) (F : Int → Int) (b c n : Nat) (l : List Int) (w : World) (hr : Hid (NumsAt w b l)) (hl : Hid (n = l.length)) (hn : n ≤ 1073741824) (hE : Hid (Enters f)) (hf : Hid (Maps f caps w l F)) :
    Calls Tryd.prog 28 #[.slice (some ⟨b, 0, none⟩) n c, .func (.func f) #[] caps] w fun e w' => ∃ g, e = .returned (.slice (some ⟨g, 0, none⟩) n n) ∧ w.heap.size ≤ g ∧ NumsAt w' g (l.map F) ∧ Below w.heap.size w w' := by
  have hE' : ∀ (args : Array Value) (W : World), (callFunc f args).run Tryd.prog W = .ok (.enter f args) W := hE.out
  obtain ⟨i0, hi, hz0, hz1, hz2⟩ := info_parts Tryd.info36
  go_enter Tryd.func28, Tryd.ntmps28
  go_wp2_with (at_make; refine wpList_make_full _ rfl _ _ 38 rfl w.heap.size 36 i0 (.agg #[.int .i64 0, .slice none 0 0]) 2 Tryd.underlying38 hi hz0 hz1 _ _ _ _ n rfl rfl rfl rfl ?b2 ?b3 (Nat.le_refl _) ?_)
  case b2 => rw [hz2]; omega
  case b3 => unfold maxLen; omega
  intro w0 hown0 hgrow0
  have hown1 : w0.ownsRow w.heap.size 36 2 (.slice (some ⟨w.heap.size, 0, none⟩) n n) n (repCells (List.replicate n rep0)) := by rw [← repCells_zeros]; exact hown0
  clear hown0
  go_wp2_with fail
  go_loopw [13] (fun i wr => ∃ (k : Nat) (m : List Rep), k ≤ n ∧ i = .int .i64 k ∧ m.length = n ∧ wr.ownsRow w.heap.size 36 2 (.slice (some ⟨w.heap.size, 0, none⟩) n n) n (repCells m) ∧ Hid (∀ j, j < k → NumR wr (m.getD j rep0) (F (l.getD j 0))) ∧ Below w.heap.size w wr) (fun i _ => n - (intOf i).toNat)
  case atStart => exact ⟨0, List.replicate n rep0, Nat.zero_le _, rfl, by simp, hown1, fun j hj => by omega, (Below.refl _ _).grown hgrow0 (Nat.le_refl _) (fun _ h => by cases h)⟩
  case round =>
    obtain ⟨k, m, hk, rfl, hm, hown, HO, hbel⟩ := hrel
    have HM := hide hm
    clear hm
    by_cases hlt : k < n
    · have hkl : k < l.length := by rw [← hl.out]; exact hlt
      obtain ⟨x, hxe⟩ : ∃ x, x = l.getD k 0 := ⟨_, rfl⟩
      obtain ⟨r, q0, q1, q2⟩ := hr.out.2 k hkl
      have hc0 : wr.cell? ⟨b, k * 2, none⟩ = some (.int .i64 r.p) := (hbel.cell (p := ⟨b, k * 2, none⟩) hr.out.1).trans q0
      have hc1 : wr.cell? ⟨b, k * 2 + 1, none⟩ = some (.slice r.a r.n r.c) := (hbel.cell (p := ⟨b, k * 2 + 1, none⟩) hr.out.1).trans q1
      rw [← hxe] at q2
      have hq := hide (q2.below hbel)
      have Hx := hide hxe
      have hmem : Hid (x ∈ l) := by unfold Hid; rw [hxe]; simp [hkl]
      clear hxe q0 q1 q2
      go_wp2_with fail
      refine (hf.out _ r x (hbel.alloc hbel.size _) hmem.out (hq.out.below ((Below.refl _ _).alloc (Nat.le_refl _) _))).mono ?_
      rintro e w1 ⟨q, rfl, hN, hb1⟩
      have hown2 := owns_below (hown.alloc _) hb1
      obtain ⟨c1, c2, c3, c4⟩ := ownsR_cells hown2 HM.out k hlt
      have hown3 := ownsR_store hown2 HM.out k hlt q
      have hO2 := nums_below (nums_below HO.out ((Below.refl wr.heap.size wr).alloc (Nat.le_refl _) _)) hb1
      have hO3 := hide (nums_step hown2 HM.out k hlt q (fun j => F (l.getD j 0)) hO2 (by rw [← Hx.out]; exact hN))
      have hbel3 := (((hbel.alloc hbel.size _).trans (hb1.mono (by have := hbel.size; simp; omega))).setCell (p := ⟨w.heap.size, k * 2, none⟩) (Nat.le_refl _) (.int .i64 q.p)).setCell (p := ⟨w.heap.size, k * 2 + 1, none⟩) (Nat.le_refl _) (.slice q.a q.n q.c)
      clear hown hown2 hO2 hN
      go_wp2_with fail
      go_roundw
      case rel => exact ⟨k + 1, m.set k q, by omega, by go_num, by rw [List.length_set]; exact HM.out, hown3, hO3, hbel3⟩
      case measure => simp [intOf]; omega
    · go_wp2_with fail
      go_ret
      have hkn : k = n := by omega
      exact ⟨w.heap.size, rfl, Nat.le_refl _, NumsAt_of_owns hown HM.out (by rw [List.length_map]; exact hl.out.symm) (fun j hj => by
        have h := HO.out j (by omega)
        have e : (l.map F).getD j 0 = F (l.getD j 0) := by have : j < l.length := by rw [← hl.out]; omega
                                                           simp [this]
        rw [e]; exact h), hbel⟩

end Go.Proofs.YtmeaemjdmjhmdaaDoor
