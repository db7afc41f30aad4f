/- The language: are two lists the same? slices.EqualFunc, slices.Equal. -/
import Derived.Test.YtbfhaabpfkopdaaGreatDoorVc
namespace Go.Proofs.YtbfhaabpfkopdaaGreatDoor
open Go.RowKit
set_option linter.unusedVariables false

/-- How a function says whether two things are the same. -/
def EqE {α : Type} (w0 : World) (G : Nat) (V : Rds α) (a : α) : Prop := ∀ (W : World) (vs1 vs2 : List Value) (b : α), Below w0.heap.size w0 W → V w0 Any vs1 a → V w0 Any vs2 b →
  Calls Tryz.prog G #[.agg vs1.toArray, .agg vs2.toArray] W fun e W' => e = .returned (.bool (eqB a b)) ∧ Below W.heap.size W W'
theorem eqB_lists {α : Type} {l1 l2 : List α} {n : Nat} (h1 : n = l1.length) (h2 : n = l2.length) (h : ∀ j, j < n → l1[j]? = l2[j]?) : eqB l1 l2 = true := by
  refine (eqB_iff _ _).2 (List.ext_getElem? fun j => ?_)
  rcases Nat.lt_or_ge j n with k | k
  · exact h j k
  · rw [List.getElem?_eq_none (by omega), List.getElem?_eq_none (by omega)]
theorem eqB_len {α : Type} {l1 l2 : List α} (h : l1.length ≠ l2.length) : eqB l1 l2 = false := eqB_ne (fun e => h (by rw [e]))
theorem eqB_at {α : Type} {l1 l2 : List α} {i : Nat} {a b : α} (h1 : l1[i]? = some a) (h2 : l2[i]? = some b) (h : eqB a b = false) : eqB l1 l2 = false := eqB_ne (fun e => by
  rw [e, h2] at h1
  cases h1
  rw [eqB_self] at h
  cases h)
theorem upto {α : Type} {l1 l2 : List α} {i : Nat} {a b : α} (h1 : l1[i]? = some a) (h2 : l2[i]? = some b) (h : eqB a b = true) (k : ∀ j, j < i → l1[j]? = l2[j]?) : ∀ j, j < i + 1 → l1[j]? = l2[j]? := by
  intro j hj
  rcases Nat.lt_or_ge j i with q | q
  · exact k j q
  · obtain rfl : j = i := by omega
    rw [h1, h2, (eqB_iff a b).1 h]

set_option maxRecDepth 20000 in
set_option maxHeartbeats 4000000 in
theorem eqf_ex (w0 : World) (G : Nat) (x1 x2 : Option Addr) (n m k1 k2 : Nat) (l1 l2 : List Ex) (w : World) (hEn : Hid (Enters G)) (hb : Below w0.heap.size w0 w) (h1 : RowAt exVals 4 w0 Any x1 l1) (h2 : RowAt exVals 4 w0 Any x2 l2) (hn : Hid (n = l1.length)) (hm : Hid (m = l2.length)) (hn9 : n ≤ maxLen) (HE : Hid (∀ (i : Nat) (a : Ex), l1[i]? = some a → EqE w0 G exVals a)) :
    Calls Tryz.prog 215 #[.slice x1 n k1, .slice x2 m k2, .func (.func G) #[] #[]] w fun e w' => e = .returned (.bool (eqB l1 l2)) ∧ Below w.heap.size w w' := by
  have hE := hEn.out
  unfold Enters at hE
  unfold maxLen at hn9
  by_cases hnm : m = n
  · subst hnm
    go_enter Tryz.func215, Tryz.ntmps215
    go_wp2_with fail
    go_loopg [17] m (fun gh iv wx => ∃ i : Nat, i + gh = m ∧ iv = .int .i64 i ∧ Below w.heap.size w wx ∧ Hid (∀ j, j < i → l1[j]? = l2[j]?))
    case atStart => exact ⟨0, by omega, rfl, Below.refl _ _, fun j hj => by omega⟩
    case round =>
      obtain ⟨i, hig, rfl, hB, He⟩ := hrel
      by_cases hi : i < m
      · have hi' : (i : Int) < (m : Int) := by omega
        obtain ⟨a, ha⟩ : ∃ t, l1[i]? = some t := ⟨_, List.getElem?_eq_getElem (by rw [← hn.out]; exact hi)⟩
        obtain ⟨b, hbb⟩ : ∃ t, l2[i]? = some t := ⟨_, List.getElem?_eq_getElem (by rw [← hm.out]; exact hi)⟩
        have HEa := hide (HE.out i a ha)
        obtain ⟨ba, offa, rfl, hlta, vsa, hvla, va, y1, d1, rfl, hX1⟩ := h1.elem ha
        obtain ⟨b2, offb, rfl, hltb, vsb, hvlb, vb, y2, d2, rfl, hX2⟩ := h2.elem hbb
        have ka0 := va 0 _ rfl
        have kb0 := vb 0 _ rfl
        have ka1 := va 1 _ rfl
        have kb1 := vb 1 _ rfl
        have ka2 := va 2 _ rfl
        have kb2 := vb 2 _ rfl
        have ka3 := va 3 _ rfl
        have kb3 := vb 3 _ rfl
        simp only [Nat.add_zero] at ka0 kb0
        clear va vb
        have Ha := hide ha
        have Hb := hide hbb
        clear ha hbb
        have be := hb.trans (hB.mono hb.size)
        have ca0 := (be.cell hlta).trans ka0
        have ca1 := (be.cell hlta).trans ka1
        have ca2 := (be.cell hlta).trans ka2
        have ca3 := (be.cell hlta).trans ka3
        have hb1 := (Below.refl wr.heap.size wr).alloc (Nat.le_refl _) (.cells #[.string (bs a.op), .int .i64 a.n, .string (bs a.name), .slice y1 a.l.length d1] 121)
        have B1 := BoxN.new wr 121 [.string (bs a.op), .int .i64 a.n, .string (bs a.name), .slice y1 a.l.length d1]
        obtain ⟨W1, hW1⟩ : ∃ W, W = wr.alloc (.cells #[.string (bs a.op), .int .i64 a.n, .string (bs a.name), .slice y1 a.l.length d1] 121) := ⟨_, rfl⟩
        have B1 : BoxN W1 wr.heap.size [.string (bs a.op), .int .i64 a.n, .string (bs a.name), .slice y1 a.l.length d1] := by rw [hW1]; exact B1
        have hb1 : Below wr.heap.size wr W1 := by rw [hW1]; exact hb1
        go_upto_region 6 with fail
        change Code.wp _ _ _ _ (wr.alloc (.cells #[.string (bs a.op), .int .i64 a.n, .string (bs a.name), .slice y1 a.l.length d1] 121))
        rw [← hW1]
        clear hW1
        obtain ⟨g1, hg1⟩ : ∃ g, g = wr.heap.size := ⟨_, rfl⟩
        rw [← hg1] at B1 ⊢
        clear hg1
        have be1 := be.trans (hb1.mono be.size)
        clear ca0
        clear ca1
        clear ca2
        clear ca3
        have cb0 := (be1.cell hltb).trans kb0
        have cb1 := (be1.cell hltb).trans kb1
        have cb2 := (be1.cell hltb).trans kb2
        have cb3 := (be1.cell hltb).trans kb3
        have hb2 := (Below.refl W1.heap.size W1).alloc (Nat.le_refl _) (.cells #[.string (bs b.op), .int .i64 b.n, .string (bs b.name), .slice y2 b.l.length d2] 121)
        have B2 := BoxN.new W1 121 [.string (bs b.op), .int .i64 b.n, .string (bs b.name), .slice y2 b.l.length d2]
        obtain ⟨W2, hW2⟩ : ∃ W, W = W1.alloc (.cells #[.string (bs b.op), .int .i64 b.n, .string (bs b.name), .slice y2 b.l.length d2] 121) := ⟨_, rfl⟩
        have B2 : BoxN W2 W1.heap.size [.string (bs b.op), .int .i64 b.n, .string (bs b.name), .slice y2 b.l.length d2] := by rw [hW2]; exact B2
        have hb2 : Below W1.heap.size W1 W2 := by rw [hW2]; exact hb2
        go_upto_region 7 with fail
        change Code.wp _ _ _ _ (W1.alloc (.cells #[.string (bs b.op), .int .i64 b.n, .string (bs b.name), .slice y2 b.l.length d2] 121))
        rw [← hW2]
        clear hW2
        obtain ⟨g2, hg2⟩ : ∃ g, g = W1.heap.size := ⟨_, rfl⟩
        rw [← hg2] at B2 ⊢
        clear hg2
        have be2 := be1.trans (hb2.mono be1.size)
        have B12 := B1.bel hb2
        clear cb0
        clear cb1
        clear cb2
        clear cb3
        have p0 := B12.cell 0 _ rfl
        have q0 := B2.cell 0 _ rfl
        have p1 := B12.cell 1 _ rfl
        have q1 := B2.cell 1 _ rfl
        have p2 := B12.cell 2 _ rfl
        have q2 := B2.cell 2 _ rfl
        have p3 := B12.cell 3 _ rfl
        have q3 := B2.cell 3 _ rfl
        have HC := hide (HEa.out W2 [.string (bs a.op), .int .i64 a.n, .string (bs a.name), .slice y1 a.l.length d1] [.string (bs b.op), .int .i64 b.n, .string (bs b.name), .slice y2 b.l.length d2] b be2 (⟨y1, d1, rfl, hX1⟩) (⟨y2, d2, rfl, hX2⟩))
        have hB2 := (hB.trans (hb1.mono hB.size)).trans (hb2.mono (hB.trans (hb1.mono hB.size)).size)
        go_wp2_with fail
        refine HC.out.mono ?_
        rintro e w3 ⟨rfl, hb3⟩
        have hB3 := hB2.trans (hb3.mono hB2.size)
        cases ev : eqB a b with
        | true =>
          have Hu : Hid (∀ j, j < i + 1 → l1[j]? = l2[j]?) := upto Ha.out Hb.out ev He.out
          go_wp2_with fail
          go_roundg (m - (i + 1))
          case measure => omega
          case rel => exact ⟨i + 1, by omega, by go_num, hB3, Hu⟩
        | false =>
          have Hr : Hid (eqB l1 l2 = false) := eqB_at Ha.out Hb.out ev
          go_wp2_with fail
          go_ret
          exact ⟨by rw [Hr.out]; rfl, hB3⟩
      · have hi' : ¬ (i : Int) < (m : Int) := by omega
        have Hr : Hid (eqB l1 l2 = true) := eqB_lists (n := m) hn.out hm.out (fun j hj => He.out j (by omega))
        go_wp2_with fail
        go_ret
        exact ⟨by rw [Hr.out]; rfl, hB⟩
  · have Hr : Hid (eqB l1 l2 = false) := eqB_len (fun e => hnm (by rw [hn.out, hm.out, e]))
    have hne : ((n : Int) == (m : Int)) = false := by simp; omega
    have hne2 : ¬ ((n : Int) = (m : Int)) := by omega
    go_enter Tryz.func215, Tryz.ntmps215
    go_wp2_with fail
    go_ret
    exact ⟨by rw [Hr.out]; rfl, Below.refl _ _⟩

set_option maxRecDepth 20000 in
set_option maxHeartbeats 4000000 in
theorem eqf_te (w0 : World) (G : Nat) (x1 x2 : Option Addr) (n m k1 k2 : Nat) (l1 l2 : List Te) (w : World) (hEn : Hid (Enters G)) (hb : Below w0.heap.size w0 w) (h1 : RowAt teVals 9 w0 Any x1 l1) (h2 : RowAt teVals 9 w0 Any x2 l2) (hn : Hid (n = l1.length)) (hm : Hid (m = l2.length)) (hn9 : n ≤ maxLen) (HE : Hid (∀ (i : Nat) (a : Te), l1[i]? = some a → EqE w0 G teVals a)) :
    Calls Tryz.prog 255 #[.slice x1 n k1, .slice x2 m k2, .func (.func G) #[] #[]] w fun e w' => e = .returned (.bool (eqB l1 l2)) ∧ Below w.heap.size w w' := by
  have hE := hEn.out
  unfold Enters at hE
  unfold maxLen at hn9
  by_cases hnm : m = n
  · subst hnm
    go_enter Tryz.func255, Tryz.ntmps255
    go_wp2_with fail
    go_loopg [17] m (fun gh iv wx => ∃ i : Nat, i + gh = m ∧ iv = .int .i64 i ∧ Below w.heap.size w wx ∧ Hid (∀ j, j < i → l1[j]? = l2[j]?))
    case atStart => exact ⟨0, by omega, rfl, Below.refl _ _, fun j hj => by omega⟩
    case round =>
      obtain ⟨i, hig, rfl, hB, He⟩ := hrel
      by_cases hi : i < m
      · have hi' : (i : Int) < (m : Int) := by omega
        obtain ⟨a, ha⟩ : ∃ t, l1[i]? = some t := ⟨_, List.getElem?_eq_getElem (by rw [← hn.out]; exact hi)⟩
        obtain ⟨b, hbb⟩ : ∃ t, l2[i]? = some t := ⟨_, List.getElem?_eq_getElem (by rw [← hm.out]; exact hi)⟩
        have HEa := hide (HE.out i a ha)
        obtain ⟨ba, offa, rfl, hlta, vsa, hvla, va, ya1, ca_1, yb1, cb_1, rfl, hX1, hY1⟩ := h1.elem ha
        obtain ⟨b2, offb, rfl, hltb, vsb, hvlb, vb, ya2, ca_2, yb2, cb_2, rfl, hX2, hY2⟩ := h2.elem hbb
        have ka0 := va 0 _ rfl
        have kb0 := vb 0 _ rfl
        have ka1 := va 1 _ rfl
        have kb1 := vb 1 _ rfl
        have ka2 := va 2 _ rfl
        have kb2 := vb 2 _ rfl
        have ka3 := va 3 _ rfl
        have kb3 := vb 3 _ rfl
        have ka4 := va 4 _ rfl
        have kb4 := vb 4 _ rfl
        have ka5 := va 5 _ rfl
        have kb5 := vb 5 _ rfl
        have ka6 := va 6 _ rfl
        have kb6 := vb 6 _ rfl
        have ka7 := va 7 _ rfl
        have kb7 := vb 7 _ rfl
        have ka8 := va 8 _ rfl
        have kb8 := vb 8 _ rfl
        simp only [Nat.add_zero] at ka0 kb0
        clear va vb
        have Ha := hide ha
        have Hb := hide hbb
        clear ha hbb
        have be := hb.trans (hB.mono hb.size)
        have ca0 := (be.cell hlta).trans ka0
        have ca1 := (be.cell hlta).trans ka1
        have ca2 := (be.cell hlta).trans ka2
        have ca3 := (be.cell hlta).trans ka3
        have ca4 := (be.cell hlta).trans ka4
        have ca5 := (be.cell hlta).trans ka5
        have ca6 := (be.cell hlta).trans ka6
        have ca7 := (be.cell hlta).trans ka7
        have ca8 := (be.cell hlta).trans ka8
        have hb1 := (Below.refl wr.heap.size wr).alloc (Nat.le_refl _) (.cells #[.string (bs a.a.op), .int .i64 a.a.n, .string (bs a.a.name), .slice ya1 a.a.l.length ca_1, .string (bs a.rel), .string (bs a.b.op), .int .i64 a.b.n, .string (bs a.b.name), .slice yb1 a.b.l.length cb_1] 206)
        have B1 := BoxN.new wr 206 [.string (bs a.a.op), .int .i64 a.a.n, .string (bs a.a.name), .slice ya1 a.a.l.length ca_1, .string (bs a.rel), .string (bs a.b.op), .int .i64 a.b.n, .string (bs a.b.name), .slice yb1 a.b.l.length cb_1]
        obtain ⟨W1, hW1⟩ : ∃ W, W = wr.alloc (.cells #[.string (bs a.a.op), .int .i64 a.a.n, .string (bs a.a.name), .slice ya1 a.a.l.length ca_1, .string (bs a.rel), .string (bs a.b.op), .int .i64 a.b.n, .string (bs a.b.name), .slice yb1 a.b.l.length cb_1] 206) := ⟨_, rfl⟩
        have B1 : BoxN W1 wr.heap.size [.string (bs a.a.op), .int .i64 a.a.n, .string (bs a.a.name), .slice ya1 a.a.l.length ca_1, .string (bs a.rel), .string (bs a.b.op), .int .i64 a.b.n, .string (bs a.b.name), .slice yb1 a.b.l.length cb_1] := by rw [hW1]; exact B1
        have hb1 : Below wr.heap.size wr W1 := by rw [hW1]; exact hb1
        go_upto_region 6 with fail
        change Code.wp _ _ _ _ (wr.alloc (.cells #[.string (bs a.a.op), .int .i64 a.a.n, .string (bs a.a.name), .slice ya1 a.a.l.length ca_1, .string (bs a.rel), .string (bs a.b.op), .int .i64 a.b.n, .string (bs a.b.name), .slice yb1 a.b.l.length cb_1] 206))
        rw [← hW1]
        clear hW1
        obtain ⟨g1, hg1⟩ : ∃ g, g = wr.heap.size := ⟨_, rfl⟩
        rw [← hg1] at B1 ⊢
        clear hg1
        have be1 := be.trans (hb1.mono be.size)
        clear ca0
        clear ca1
        clear ca2
        clear ca3
        clear ca4
        clear ca5
        clear ca6
        clear ca7
        clear ca8
        have cb0 := (be1.cell hltb).trans kb0
        have cb1 := (be1.cell hltb).trans kb1
        have cb2 := (be1.cell hltb).trans kb2
        have cb3 := (be1.cell hltb).trans kb3
        have cb4 := (be1.cell hltb).trans kb4
        have cb5 := (be1.cell hltb).trans kb5
        have cb6 := (be1.cell hltb).trans kb6
        have cb7 := (be1.cell hltb).trans kb7
        have cb8 := (be1.cell hltb).trans kb8
        have hb2 := (Below.refl W1.heap.size W1).alloc (Nat.le_refl _) (.cells #[.string (bs b.a.op), .int .i64 b.a.n, .string (bs b.a.name), .slice ya2 b.a.l.length ca_2, .string (bs b.rel), .string (bs b.b.op), .int .i64 b.b.n, .string (bs b.b.name), .slice yb2 b.b.l.length cb_2] 206)
        have B2 := BoxN.new W1 206 [.string (bs b.a.op), .int .i64 b.a.n, .string (bs b.a.name), .slice ya2 b.a.l.length ca_2, .string (bs b.rel), .string (bs b.b.op), .int .i64 b.b.n, .string (bs b.b.name), .slice yb2 b.b.l.length cb_2]
        obtain ⟨W2, hW2⟩ : ∃ W, W = W1.alloc (.cells #[.string (bs b.a.op), .int .i64 b.a.n, .string (bs b.a.name), .slice ya2 b.a.l.length ca_2, .string (bs b.rel), .string (bs b.b.op), .int .i64 b.b.n, .string (bs b.b.name), .slice yb2 b.b.l.length cb_2] 206) := ⟨_, rfl⟩
        have B2 : BoxN W2 W1.heap.size [.string (bs b.a.op), .int .i64 b.a.n, .string (bs b.a.name), .slice ya2 b.a.l.length ca_2, .string (bs b.rel), .string (bs b.b.op), .int .i64 b.b.n, .string (bs b.b.name), .slice yb2 b.b.l.length cb_2] := by rw [hW2]; exact B2
        have hb2 : Below W1.heap.size W1 W2 := by rw [hW2]; exact hb2
        go_upto_region 7 with fail
        change Code.wp _ _ _ _ (W1.alloc (.cells #[.string (bs b.a.op), .int .i64 b.a.n, .string (bs b.a.name), .slice ya2 b.a.l.length ca_2, .string (bs b.rel), .string (bs b.b.op), .int .i64 b.b.n, .string (bs b.b.name), .slice yb2 b.b.l.length cb_2] 206))
        rw [← hW2]
        clear hW2
        obtain ⟨g2, hg2⟩ : ∃ g, g = W1.heap.size := ⟨_, rfl⟩
        rw [← hg2] at B2 ⊢
        clear hg2
        have be2 := be1.trans (hb2.mono be1.size)
        have B12 := B1.bel hb2
        clear cb0
        clear cb1
        clear cb2
        clear cb3
        clear cb4
        clear cb5
        clear cb6
        clear cb7
        clear cb8
        have p0 := B12.cell 0 _ rfl
        have q0 := B2.cell 0 _ rfl
        have p1 := B12.cell 1 _ rfl
        have q1 := B2.cell 1 _ rfl
        have p2 := B12.cell 2 _ rfl
        have q2 := B2.cell 2 _ rfl
        have p3 := B12.cell 3 _ rfl
        have q3 := B2.cell 3 _ rfl
        have p4 := B12.cell 4 _ rfl
        have q4 := B2.cell 4 _ rfl
        have p5 := B12.cell 5 _ rfl
        have q5 := B2.cell 5 _ rfl
        have p6 := B12.cell 6 _ rfl
        have q6 := B2.cell 6 _ rfl
        have p7 := B12.cell 7 _ rfl
        have q7 := B2.cell 7 _ rfl
        have p8 := B12.cell 8 _ rfl
        have q8 := B2.cell 8 _ rfl
        have HC := hide (HEa.out W2 [.string (bs a.a.op), .int .i64 a.a.n, .string (bs a.a.name), .slice ya1 a.a.l.length ca_1, .string (bs a.rel), .string (bs a.b.op), .int .i64 a.b.n, .string (bs a.b.name), .slice yb1 a.b.l.length cb_1] [.string (bs b.a.op), .int .i64 b.a.n, .string (bs b.a.name), .slice ya2 b.a.l.length ca_2, .string (bs b.rel), .string (bs b.b.op), .int .i64 b.b.n, .string (bs b.b.name), .slice yb2 b.b.l.length cb_2] b be2 (⟨ya1, ca_1, yb1, cb_1, rfl, hX1, hY1⟩) (⟨ya2, ca_2, yb2, cb_2, rfl, hX2, hY2⟩))
        have hB2 := (hB.trans (hb1.mono hB.size)).trans (hb2.mono (hB.trans (hb1.mono hB.size)).size)
        go_wp2_with fail
        refine HC.out.mono ?_
        rintro e w3 ⟨rfl, hb3⟩
        have hB3 := hB2.trans (hb3.mono hB2.size)
        cases ev : eqB a b with
        | true =>
          have Hu : Hid (∀ j, j < i + 1 → l1[j]? = l2[j]?) := upto Ha.out Hb.out ev He.out
          go_wp2_with fail
          go_roundg (m - (i + 1))
          case measure => omega
          case rel => exact ⟨i + 1, by omega, by go_num, hB3, Hu⟩
        | false =>
          have Hr : Hid (eqB l1 l2 = false) := eqB_at Ha.out Hb.out ev
          go_wp2_with fail
          go_ret
          exact ⟨by rw [Hr.out]; rfl, hB3⟩
      · have hi' : ¬ (i : Int) < (m : Int) := by omega
        have Hr : Hid (eqB l1 l2 = true) := eqB_lists (n := m) hn.out hm.out (fun j hj => He.out j (by omega))
        go_wp2_with fail
        go_ret
        exact ⟨by rw [Hr.out]; rfl, hB⟩
  · have Hr : Hid (eqB l1 l2 = false) := eqB_len (fun e => hnm (by rw [hn.out, hm.out, e]))
    have hne : ((n : Int) == (m : Int)) = false := by simp; omega
    have hne2 : ¬ ((n : Int) = (m : Int)) := by omega
    go_enter Tryz.func255, Tryz.ntmps255
    go_wp2_with fail
    go_ret
    exact ⟨by rw [Hr.out]; rfl, Below.refl _ _⟩

set_option maxRecDepth 20000 in
set_option maxHeartbeats 4000000 in
theorem eqf_st (w0 : World) (G : Nat) (x1 x2 : Option Addr) (n m k1 k2 : Nat) (l1 l2 : List Stm) (w : World) (hEn : Hid (Enters G)) (hb : Below w0.heap.size w0 w) (h1 : RowAt stVals 7 w0 Any x1 l1) (h2 : RowAt stVals 7 w0 Any x2 l2) (hn : Hid (n = l1.length)) (hm : Hid (m = l2.length)) (hn9 : n ≤ maxLen) (HE : Hid (∀ (i : Nat) (a : Stm), l1[i]? = some a → EqE w0 G stVals a)) :
    Calls Tryz.prog 172 #[.slice x1 n k1, .slice x2 m k2, .func (.func G) #[] #[]] w fun e w' => e = .returned (.bool (eqB l1 l2)) ∧ Below w.heap.size w w' := by
  have hE := hEn.out
  unfold Enters at hE
  unfold maxLen at hn9
  by_cases hnm : m = n
  · subst hnm
    go_enter Tryz.func172, Tryz.ntmps172
    go_wp2_with fail
    go_loopg [17] m (fun gh iv wx => ∃ i : Nat, i + gh = m ∧ iv = .int .i64 i ∧ Below w.heap.size w wx ∧ Hid (∀ j, j < i → l1[j]? = l2[j]?))
    case atStart => exact ⟨0, by omega, rfl, Below.refl _ _, fun j hj => by omega⟩
    case round =>
      obtain ⟨i, hig, rfl, hB, He⟩ := hrel
      by_cases hi : i < m
      · have hi' : (i : Int) < (m : Int) := by omega
        obtain ⟨a, ha⟩ : ∃ t, l1[i]? = some t := ⟨_, List.getElem?_eq_getElem (by rw [← hn.out]; exact hi)⟩
        obtain ⟨b, hbb⟩ : ∃ t, l2[i]? = some t := ⟨_, List.getElem?_eq_getElem (by rw [← hm.out]; exact hi)⟩
        have HEa := hide (HE.out i a ha)
        obtain ⟨ba, offa, rfl, hlta, vsa, hvla, va, ya1, da1, yc1, dc1, yb1, db1, ye1, de1, rfl, hA1, hC1, hB_1, hE_1⟩ := h1.elem ha
        obtain ⟨b2, offb, rfl, hltb, vsb, hvlb, vb, ya2, da2, yc2, dc2, yb2, db2, ye2, de2, rfl, hA2, hC2, hB_2, hE_2⟩ := h2.elem hbb
        have ka0 := va 0 _ rfl
        have kb0 := vb 0 _ rfl
        have ka1 := va 1 _ rfl
        have kb1 := vb 1 _ rfl
        have ka2 := va 2 _ rfl
        have kb2 := vb 2 _ rfl
        have ka3 := va 3 _ rfl
        have kb3 := vb 3 _ rfl
        have ka4 := va 4 _ rfl
        have kb4 := vb 4 _ rfl
        have ka5 := va 5 _ rfl
        have kb5 := vb 5 _ rfl
        have ka6 := va 6 _ rfl
        have kb6 := vb 6 _ rfl
        simp only [Nat.add_zero] at ka0 kb0
        clear va vb
        have Ha := hide ha
        have Hb := hide hbb
        clear ha hbb
        have be := hb.trans (hB.mono hb.size)
        have ca0 := (be.cell hlta).trans ka0
        have ca1 := (be.cell hlta).trans ka1
        have ca2 := (be.cell hlta).trans ka2
        have ca3 := (be.cell hlta).trans ka3
        have ca4 := (be.cell hlta).trans ka4
        have ca5 := (be.cell hlta).trans ka5
        have ca6 := (be.cell hlta).trans ka6
        have hb1 := (Below.refl wr.heap.size wr).alloc (Nat.le_refl _) (.cells #[.string (bs a.kind), .string (bs a.name), .string (bs a.proc), .slice ya1 a.args.length da1, .slice yc1 a.cond.length dc1, .slice yb1 a.body.length db1, .slice ye1 a.els.length de1] 185)
        have B1 := BoxN.new wr 185 [.string (bs a.kind), .string (bs a.name), .string (bs a.proc), .slice ya1 a.args.length da1, .slice yc1 a.cond.length dc1, .slice yb1 a.body.length db1, .slice ye1 a.els.length de1]
        obtain ⟨W1, hW1⟩ : ∃ W, W = wr.alloc (.cells #[.string (bs a.kind), .string (bs a.name), .string (bs a.proc), .slice ya1 a.args.length da1, .slice yc1 a.cond.length dc1, .slice yb1 a.body.length db1, .slice ye1 a.els.length de1] 185) := ⟨_, rfl⟩
        have B1 : BoxN W1 wr.heap.size [.string (bs a.kind), .string (bs a.name), .string (bs a.proc), .slice ya1 a.args.length da1, .slice yc1 a.cond.length dc1, .slice yb1 a.body.length db1, .slice ye1 a.els.length de1] := by rw [hW1]; exact B1
        have hb1 : Below wr.heap.size wr W1 := by rw [hW1]; exact hb1
        go_upto_region 6 with fail
        change Code.wp _ _ _ _ (wr.alloc (.cells #[.string (bs a.kind), .string (bs a.name), .string (bs a.proc), .slice ya1 a.args.length da1, .slice yc1 a.cond.length dc1, .slice yb1 a.body.length db1, .slice ye1 a.els.length de1] 185))
        rw [← hW1]
        clear hW1
        obtain ⟨g1, hg1⟩ : ∃ g, g = wr.heap.size := ⟨_, rfl⟩
        rw [← hg1] at B1 ⊢
        clear hg1
        have be1 := be.trans (hb1.mono be.size)
        clear ca0
        clear ca1
        clear ca2
        clear ca3
        clear ca4
        clear ca5
        clear ca6
        have cb0 := (be1.cell hltb).trans kb0
        have cb1 := (be1.cell hltb).trans kb1
        have cb2 := (be1.cell hltb).trans kb2
        have cb3 := (be1.cell hltb).trans kb3
        have cb4 := (be1.cell hltb).trans kb4
        have cb5 := (be1.cell hltb).trans kb5
        have cb6 := (be1.cell hltb).trans kb6
        have hb2 := (Below.refl W1.heap.size W1).alloc (Nat.le_refl _) (.cells #[.string (bs b.kind), .string (bs b.name), .string (bs b.proc), .slice ya2 b.args.length da2, .slice yc2 b.cond.length dc2, .slice yb2 b.body.length db2, .slice ye2 b.els.length de2] 185)
        have B2 := BoxN.new W1 185 [.string (bs b.kind), .string (bs b.name), .string (bs b.proc), .slice ya2 b.args.length da2, .slice yc2 b.cond.length dc2, .slice yb2 b.body.length db2, .slice ye2 b.els.length de2]
        obtain ⟨W2, hW2⟩ : ∃ W, W = W1.alloc (.cells #[.string (bs b.kind), .string (bs b.name), .string (bs b.proc), .slice ya2 b.args.length da2, .slice yc2 b.cond.length dc2, .slice yb2 b.body.length db2, .slice ye2 b.els.length de2] 185) := ⟨_, rfl⟩
        have B2 : BoxN W2 W1.heap.size [.string (bs b.kind), .string (bs b.name), .string (bs b.proc), .slice ya2 b.args.length da2, .slice yc2 b.cond.length dc2, .slice yb2 b.body.length db2, .slice ye2 b.els.length de2] := by rw [hW2]; exact B2
        have hb2 : Below W1.heap.size W1 W2 := by rw [hW2]; exact hb2
        go_upto_region 7 with fail
        change Code.wp _ _ _ _ (W1.alloc (.cells #[.string (bs b.kind), .string (bs b.name), .string (bs b.proc), .slice ya2 b.args.length da2, .slice yc2 b.cond.length dc2, .slice yb2 b.body.length db2, .slice ye2 b.els.length de2] 185))
        rw [← hW2]
        clear hW2
        obtain ⟨g2, hg2⟩ : ∃ g, g = W1.heap.size := ⟨_, rfl⟩
        rw [← hg2] at B2 ⊢
        clear hg2
        have be2 := be1.trans (hb2.mono be1.size)
        have B12 := B1.bel hb2
        clear cb0
        clear cb1
        clear cb2
        clear cb3
        clear cb4
        clear cb5
        clear cb6
        have p0 := B12.cell 0 _ rfl
        have q0 := B2.cell 0 _ rfl
        have p1 := B12.cell 1 _ rfl
        have q1 := B2.cell 1 _ rfl
        have p2 := B12.cell 2 _ rfl
        have q2 := B2.cell 2 _ rfl
        have p3 := B12.cell 3 _ rfl
        have q3 := B2.cell 3 _ rfl
        have p4 := B12.cell 4 _ rfl
        have q4 := B2.cell 4 _ rfl
        have p5 := B12.cell 5 _ rfl
        have q5 := B2.cell 5 _ rfl
        have p6 := B12.cell 6 _ rfl
        have q6 := B2.cell 6 _ rfl
        have HC := hide (HEa.out W2 [.string (bs a.kind), .string (bs a.name), .string (bs a.proc), .slice ya1 a.args.length da1, .slice yc1 a.cond.length dc1, .slice yb1 a.body.length db1, .slice ye1 a.els.length de1] [.string (bs b.kind), .string (bs b.name), .string (bs b.proc), .slice ya2 b.args.length da2, .slice yc2 b.cond.length dc2, .slice yb2 b.body.length db2, .slice ye2 b.els.length de2] b be2 (⟨ya1, da1, yc1, dc1, yb1, db1, ye1, de1, rfl, hA1, hC1, hB_1, hE_1⟩) (⟨ya2, da2, yc2, dc2, yb2, db2, ye2, de2, rfl, hA2, hC2, hB_2, hE_2⟩))
        have hB2 := (hB.trans (hb1.mono hB.size)).trans (hb2.mono (hB.trans (hb1.mono hB.size)).size)
        go_wp2_with fail
        refine HC.out.mono ?_
        rintro e w3 ⟨rfl, hb3⟩
        have hB3 := hB2.trans (hb3.mono hB2.size)
        cases ev : eqB a b with
        | true =>
          have Hu : Hid (∀ j, j < i + 1 → l1[j]? = l2[j]?) := upto Ha.out Hb.out ev He.out
          go_wp2_with fail
          go_roundg (m - (i + 1))
          case measure => omega
          case rel => exact ⟨i + 1, by omega, by go_num, hB3, Hu⟩
        | false =>
          have Hr : Hid (eqB l1 l2 = false) := eqB_at Ha.out Hb.out ev
          go_wp2_with fail
          go_ret
          exact ⟨by rw [Hr.out]; rfl, hB3⟩
      · have hi' : ¬ (i : Int) < (m : Int) := by omega
        have Hr : Hid (eqB l1 l2 = true) := eqB_lists (n := m) hn.out hm.out (fun j hj => He.out j (by omega))
        go_wp2_with fail
        go_ret
        exact ⟨by rw [Hr.out]; rfl, hB⟩
  · have Hr : Hid (eqB l1 l2 = false) := eqB_len (fun e => hnm (by rw [hn.out, hm.out, e]))
    have hne : ((n : Int) == (m : Int)) = false := by simp; omega
    have hne2 : ¬ ((n : Int) = (m : Int)) := by omega
    go_enter Tryz.func172, Tryz.ntmps172
    go_wp2_with fail
    go_ret
    exact ⟨by rw [Hr.out]; rfl, Below.refl _ _⟩

set_option maxRecDepth 20000 in
set_option maxHeartbeats 4000000 in
theorem eqf_pc (w0 : World) (G : Nat) (x1 x2 : Option Addr) (n m k1 k2 : Nat) (l1 l2 : List Pc) (w : World) (hEn : Hid (Enters G)) (hb : Below w0.heap.size w0 w) (h1 : RowAt pcVals 7 w0 Any x1 l1) (h2 : RowAt pcVals 7 w0 Any x2 l2) (hn : Hid (n = l1.length)) (hm : Hid (m = l2.length)) (hn9 : n ≤ maxLen) (HE : Hid (∀ (i : Nat) (a : Pc), l1[i]? = some a → EqE w0 G pcVals a)) :
    Calls Tryz.prog 117 #[.slice x1 n k1, .slice x2 m k2, .func (.func G) #[] #[]] w fun e w' => e = .returned (.bool (eqB l1 l2)) ∧ Below w.heap.size w w' := by
  have hE := hEn.out
  unfold Enters at hE
  unfold maxLen at hn9
  by_cases hnm : m = n
  · subst hnm
    go_enter Tryz.func117, Tryz.ntmps117
    go_wp2_with fail
    go_loopg [17] m (fun gh iv wx => ∃ i : Nat, i + gh = m ∧ iv = .int .i64 i ∧ Below w.heap.size w wx ∧ Hid (∀ j, j < i → l1[j]? = l2[j]?))
    case atStart => exact ⟨0, by omega, rfl, Below.refl _ _, fun j hj => by omega⟩
    case round =>
      obtain ⟨i, hig, rfl, hB, He⟩ := hrel
      by_cases hi : i < m
      · have hi' : (i : Int) < (m : Int) := by omega
        obtain ⟨a, ha⟩ : ∃ t, l1[i]? = some t := ⟨_, List.getElem?_eq_getElem (by rw [← hn.out]; exact hi)⟩
        obtain ⟨b, hbb⟩ : ∃ t, l2[i]? = some t := ⟨_, List.getElem?_eq_getElem (by rw [← hm.out]; exact hi)⟩
        have HEa := hide (HE.out i a ha)
        obtain ⟨ba, offa, rfl, hlta, vsa, hvla, va, yp1, dp1, yb1, db1, ye1, de1, rfl, hP1, hB_1, hE_1⟩ := h1.elem ha
        obtain ⟨b2, offb, rfl, hltb, vsb, hvlb, vb, yp2, dp2, yb2, db2, ye2, de2, rfl, hP2, hB_2, hE_2⟩ := h2.elem hbb
        have ka0 := va 0 _ rfl
        have kb0 := vb 0 _ rfl
        have ka1 := va 1 _ rfl
        have kb1 := vb 1 _ rfl
        have ka2 := va 2 _ rfl
        have kb2 := vb 2 _ rfl
        have ka3 := va 3 _ rfl
        have kb3 := vb 3 _ rfl
        have ka4 := va 4 _ rfl
        have kb4 := vb 4 _ rfl
        have ka5 := va 5 _ rfl
        have kb5 := vb 5 _ rfl
        have ka6 := va 6 _ rfl
        have kb6 := vb 6 _ rfl
        simp only [Nat.add_zero] at ka0 kb0
        clear va vb
        have Ha := hide ha
        have Hb := hide hbb
        clear ha hbb
        have be := hb.trans (hB.mono hb.size)
        have ca0 := (be.cell hlta).trans ka0
        have ca1 := (be.cell hlta).trans ka1
        have ca2 := (be.cell hlta).trans ka2
        have ca3 := (be.cell hlta).trans ka3
        have ca4 := (be.cell hlta).trans ka4
        have ca5 := (be.cell hlta).trans ka5
        have ca6 := (be.cell hlta).trans ka6
        have hb1 := (Below.refl wr.heap.size wr).alloc (Nat.le_refl _) (.cells #[.string (bs a.name), .slice yp1 a.params.length dp1, .slice yb1 a.body.length db1, .string (bs a.ret.op), .int .i64 a.ret.n, .string (bs a.ret.name), .slice ye1 a.ret.l.length de1] 124)
        have B1 := BoxN.new wr 124 [.string (bs a.name), .slice yp1 a.params.length dp1, .slice yb1 a.body.length db1, .string (bs a.ret.op), .int .i64 a.ret.n, .string (bs a.ret.name), .slice ye1 a.ret.l.length de1]
        obtain ⟨W1, hW1⟩ : ∃ W, W = wr.alloc (.cells #[.string (bs a.name), .slice yp1 a.params.length dp1, .slice yb1 a.body.length db1, .string (bs a.ret.op), .int .i64 a.ret.n, .string (bs a.ret.name), .slice ye1 a.ret.l.length de1] 124) := ⟨_, rfl⟩
        have B1 : BoxN W1 wr.heap.size [.string (bs a.name), .slice yp1 a.params.length dp1, .slice yb1 a.body.length db1, .string (bs a.ret.op), .int .i64 a.ret.n, .string (bs a.ret.name), .slice ye1 a.ret.l.length de1] := by rw [hW1]; exact B1
        have hb1 : Below wr.heap.size wr W1 := by rw [hW1]; exact hb1
        go_upto_region 6 with fail
        change Code.wp _ _ _ _ (wr.alloc (.cells #[.string (bs a.name), .slice yp1 a.params.length dp1, .slice yb1 a.body.length db1, .string (bs a.ret.op), .int .i64 a.ret.n, .string (bs a.ret.name), .slice ye1 a.ret.l.length de1] 124))
        rw [← hW1]
        clear hW1
        obtain ⟨g1, hg1⟩ : ∃ g, g = wr.heap.size := ⟨_, rfl⟩
        rw [← hg1] at B1 ⊢
        clear hg1
        have be1 := be.trans (hb1.mono be.size)
        clear ca0
        clear ca1
        clear ca2
        clear ca3
        clear ca4
        clear ca5
        clear ca6
        have cb0 := (be1.cell hltb).trans kb0
        have cb1 := (be1.cell hltb).trans kb1
        have cb2 := (be1.cell hltb).trans kb2
        have cb3 := (be1.cell hltb).trans kb3
        have cb4 := (be1.cell hltb).trans kb4
        have cb5 := (be1.cell hltb).trans kb5
        have cb6 := (be1.cell hltb).trans kb6
        have hb2 := (Below.refl W1.heap.size W1).alloc (Nat.le_refl _) (.cells #[.string (bs b.name), .slice yp2 b.params.length dp2, .slice yb2 b.body.length db2, .string (bs b.ret.op), .int .i64 b.ret.n, .string (bs b.ret.name), .slice ye2 b.ret.l.length de2] 124)
        have B2 := BoxN.new W1 124 [.string (bs b.name), .slice yp2 b.params.length dp2, .slice yb2 b.body.length db2, .string (bs b.ret.op), .int .i64 b.ret.n, .string (bs b.ret.name), .slice ye2 b.ret.l.length de2]
        obtain ⟨W2, hW2⟩ : ∃ W, W = W1.alloc (.cells #[.string (bs b.name), .slice yp2 b.params.length dp2, .slice yb2 b.body.length db2, .string (bs b.ret.op), .int .i64 b.ret.n, .string (bs b.ret.name), .slice ye2 b.ret.l.length de2] 124) := ⟨_, rfl⟩
        have B2 : BoxN W2 W1.heap.size [.string (bs b.name), .slice yp2 b.params.length dp2, .slice yb2 b.body.length db2, .string (bs b.ret.op), .int .i64 b.ret.n, .string (bs b.ret.name), .slice ye2 b.ret.l.length de2] := by rw [hW2]; exact B2
        have hb2 : Below W1.heap.size W1 W2 := by rw [hW2]; exact hb2
        go_upto_region 7 with fail
        change Code.wp _ _ _ _ (W1.alloc (.cells #[.string (bs b.name), .slice yp2 b.params.length dp2, .slice yb2 b.body.length db2, .string (bs b.ret.op), .int .i64 b.ret.n, .string (bs b.ret.name), .slice ye2 b.ret.l.length de2] 124))
        rw [← hW2]
        clear hW2
        obtain ⟨g2, hg2⟩ : ∃ g, g = W1.heap.size := ⟨_, rfl⟩
        rw [← hg2] at B2 ⊢
        clear hg2
        have be2 := be1.trans (hb2.mono be1.size)
        have B12 := B1.bel hb2
        clear cb0
        clear cb1
        clear cb2
        clear cb3
        clear cb4
        clear cb5
        clear cb6
        have p0 := B12.cell 0 _ rfl
        have q0 := B2.cell 0 _ rfl
        have p1 := B12.cell 1 _ rfl
        have q1 := B2.cell 1 _ rfl
        have p2 := B12.cell 2 _ rfl
        have q2 := B2.cell 2 _ rfl
        have p3 := B12.cell 3 _ rfl
        have q3 := B2.cell 3 _ rfl
        have p4 := B12.cell 4 _ rfl
        have q4 := B2.cell 4 _ rfl
        have p5 := B12.cell 5 _ rfl
        have q5 := B2.cell 5 _ rfl
        have p6 := B12.cell 6 _ rfl
        have q6 := B2.cell 6 _ rfl
        have HC := hide (HEa.out W2 [.string (bs a.name), .slice yp1 a.params.length dp1, .slice yb1 a.body.length db1, .string (bs a.ret.op), .int .i64 a.ret.n, .string (bs a.ret.name), .slice ye1 a.ret.l.length de1] [.string (bs b.name), .slice yp2 b.params.length dp2, .slice yb2 b.body.length db2, .string (bs b.ret.op), .int .i64 b.ret.n, .string (bs b.ret.name), .slice ye2 b.ret.l.length de2] b be2 (⟨yp1, dp1, yb1, db1, ye1, de1, rfl, hP1, hB_1, hE_1⟩) (⟨yp2, dp2, yb2, db2, ye2, de2, rfl, hP2, hB_2, hE_2⟩))
        have hB2 := (hB.trans (hb1.mono hB.size)).trans (hb2.mono (hB.trans (hb1.mono hB.size)).size)
        go_wp2_with fail
        refine HC.out.mono ?_
        rintro e w3 ⟨rfl, hb3⟩
        have hB3 := hB2.trans (hb3.mono hB2.size)
        cases ev : eqB a b with
        | true =>
          have Hu : Hid (∀ j, j < i + 1 → l1[j]? = l2[j]?) := upto Ha.out Hb.out ev He.out
          go_wp2_with fail
          go_roundg (m - (i + 1))
          case measure => omega
          case rel => exact ⟨i + 1, by omega, by go_num, hB3, Hu⟩
        | false =>
          have Hr : Hid (eqB l1 l2 = false) := eqB_at Ha.out Hb.out ev
          go_wp2_with fail
          go_ret
          exact ⟨by rw [Hr.out]; rfl, hB3⟩
      · have hi' : ¬ (i : Int) < (m : Int) := by omega
        have Hr : Hid (eqB l1 l2 = true) := eqB_lists (n := m) hn.out hm.out (fun j hj => He.out j (by omega))
        go_wp2_with fail
        go_ret
        exact ⟨by rw [Hr.out]; rfl, hB⟩
  · have Hr : Hid (eqB l1 l2 = false) := eqB_len (fun e => hnm (by rw [hn.out, hm.out, e]))
    have hne : ((n : Int) == (m : Int)) = false := by simp; omega
    have hne2 : ¬ ((n : Int) = (m : Int)) := by omega
    go_enter Tryz.func117, Tryz.ntmps117
    go_wp2_with fail
    go_ret
    exact ⟨by rw [Hr.out]; rfl, Below.refl _ _⟩

/-- .. of two rows. -/
def EqR (w0 : World) (G : Nat) (a : List Te) : Prop := ∀ (W : World) (x1 x2 : Option Addr) (c1 c2 : Nat) (b : List Te), Below w0.heap.size w0 W → RowAt teVals 9 w0 Any x1 a → RowAt teVals 9 w0 Any x2 b →
  Calls Tryz.prog G #[.slice x1 a.length c1, .slice x2 b.length c2] W fun e W' => e = .returned (.bool (eqB a b)) ∧ Below W.heap.size W W'
set_option maxRecDepth 20000 in
set_option maxHeartbeats 4000000 in
theorem eqf_co (w0 : World) (G : Nat) (x1 x2 : Option Addr) (n m k1 k2 : Nat) (l1 l2 : List (List Te)) (w : World) (hEn : Hid (Enters G)) (hb : Below w0.heap.size w0 w) (h1 : RowAt coVals 1 w0 Any x1 l1) (h2 : RowAt coVals 1 w0 Any x2 l2) (hn : Hid (n = l1.length)) (hm : Hid (m = l2.length)) (hn9 : n ≤ maxLen) (HE : Hid (∀ (i : Nat) (a : List Te), l1[i]? = some a → EqR w0 G a)) :
    Calls Tryz.prog 216 #[.slice x1 n k1, .slice x2 m k2, .func (.func G) #[] #[]] w fun e w' => e = .returned (.bool (eqB l1 l2)) ∧ Below w.heap.size w w' := by
  have hE := hEn.out
  unfold Enters at hE
  unfold maxLen at hn9
  by_cases hnm : m = n
  · subst hnm
    go_enter Tryz.func216, Tryz.ntmps216
    go_wp2_with fail
    go_loopg [17] m (fun gh iv wx => ∃ i : Nat, i + gh = m ∧ iv = .int .i64 i ∧ Below w.heap.size w wx ∧ Hid (∀ j, j < i → l1[j]? = l2[j]?))
    case atStart => exact ⟨0, by omega, rfl, Below.refl _ _, fun j hj => by omega⟩
    case round =>
      obtain ⟨i, hig, rfl, hB, He⟩ := hrel
      by_cases hi : i < m
      · have hi' : (i : Int) < (m : Int) := by omega
        obtain ⟨a, ha⟩ : ∃ t, l1[i]? = some t := ⟨_, List.getElem?_eq_getElem (by rw [← hn.out]; exact hi)⟩
        obtain ⟨b, hbb⟩ : ∃ t, l2[i]? = some t := ⟨_, List.getElem?_eq_getElem (by rw [← hm.out]; exact hi)⟩
        have HEa := hide (HE.out i a ha)
        obtain ⟨ba, offa, rfl, hlta, vsa, hvla, va, y1, d1, rfl, hX1⟩ := h1.elem ha
        obtain ⟨b2, offb, rfl, hltb, vsb, hvlb, vb, y2, d2, rfl, hX2⟩ := h2.elem hbb
        have ka0 := va 0 _ rfl
        have kb0 := vb 0 _ rfl
        simp only [Nat.add_zero, Nat.mul_one] at ka0 kb0
        clear va vb
        have Ha := hide ha
        have Hb := hide hbb
        clear ha hbb
        have be := hb.trans (hB.mono hb.size)
        have ca0 := (be.cell hlta).trans ka0
        have cb0 := (be.cell hltb).trans kb0
        have HC := hide (HEa.out wr y1 y2 d1 d2 b be hX1 hX2)
        go_wp2_with fail
        refine HC.out.mono ?_
        rintro e w3 ⟨rfl, hb3⟩
        have hB3 := hB.trans (hb3.mono hB.size)
        cases ev : eqB a b with
        | true =>
          have Hu : Hid (∀ j, j < i + 1 → l1[j]? = l2[j]?) := upto Ha.out Hb.out ev He.out
          go_wp2_with fail
          go_roundg (m - (i + 1))
          case measure => omega
          case rel => exact ⟨i + 1, by omega, by go_num, hB3, Hu⟩
        | false =>
          have Hr : Hid (eqB l1 l2 = false) := eqB_at Ha.out Hb.out ev
          go_wp2_with fail
          go_ret
          exact ⟨by rw [Hr.out]; rfl, hB3⟩
      · have hi' : ¬ (i : Int) < (m : Int) := by omega
        have Hr : Hid (eqB l1 l2 = true) := eqB_lists (n := m) hn.out hm.out (fun j hj => He.out j (by omega))
        go_wp2_with fail
        go_ret
        exact ⟨by rw [Hr.out]; rfl, hB⟩
  · have Hr : Hid (eqB l1 l2 = false) := eqB_len (fun e => hnm (by rw [hn.out, hm.out, e]))
    have hne : ((n : Int) == (m : Int)) = false := by simp; omega
    have hne2 : ¬ ((n : Int) = (m : Int)) := by omega
    go_enter Tryz.func216, Tryz.ntmps216
    go_wp2_with fail
    go_ret
    exact ⟨by rw [Hr.out]; rfl, Below.refl _ _⟩

set_option maxRecDepth 20000 in
set_option maxHeartbeats 4000000 in
theorem eqs_str (w0 : World) (x1 x2 : Option Addr) (n m k1 k2 : Nat) (l1 l2 : List Bs) (w : World) (hb : Below w0.heap.size w0 w) (h1 : RowAt strVals 1 w0 Any x1 l1) (h2 : RowAt strVals 1 w0 Any x2 l2) (hn : Hid (n = l1.length)) (hm : Hid (m = l2.length)) (hn9 : n ≤ maxLen) :
    Calls Tryz.prog 115 #[.slice x1 n k1, .slice x2 m k2] w fun e w' => e = .returned (.bool (eqB l1 l2)) ∧ Below w.heap.size w w' := by
  unfold maxLen at hn9
  by_cases hnm : m = n
  · subst hnm
    go_enter Tryz.func115, Tryz.ntmps115
    go_wp2_with fail
    go_loopg [13] m (fun gh iv wx => ∃ i : Nat, i + gh = m ∧ iv = .int .i64 i ∧ Below w.heap.size w wx ∧ Hid (∀ j, j < i → l1[j]? = l2[j]?))
    case atStart => exact ⟨0, by omega, rfl, Below.refl _ _, fun j hj => by omega⟩
    case round =>
      obtain ⟨i, hig, rfl, hB, He⟩ := hrel
      by_cases hi : i < m
      · have hi' : (i : Int) < (m : Int) := by omega
        obtain ⟨a, ha⟩ : ∃ t, l1[i]? = some t := ⟨_, List.getElem?_eq_getElem (by rw [← hn.out]; exact hi)⟩
        obtain ⟨b, hbb⟩ : ∃ t, l2[i]? = some t := ⟨_, List.getElem?_eq_getElem (by rw [← hm.out]; exact hi)⟩
        obtain ⟨ba, offa, rfl, hlta, vsa, hvla, va, rfl⟩ := h1.elem ha
        obtain ⟨b2, offb, rfl, hltb, vsb, hvlb, vb, rfl⟩ := h2.elem hbb
        have ka0 := va 0 _ rfl
        have kb0 := vb 0 _ rfl

        simp only [Nat.add_zero, Nat.mul_one] at ka0 kb0
        clear va vb
        have Ha := hide ha
        have Hb := hide hbb
        clear ha hbb
        have hbd : Below wr.heap.size wr wr.drew := (Below.refl _ _).drew
        have be := (hb.trans (hB.mono hb.size)).drew
        have ca0 := (be.cell hlta).trans ka0
        have cb0 := (be.cell hltb).trans kb0

        have hB3 := hB.drew
        cases ev : eqB a b with
        | true =>
          have Hu : Hid (∀ j, j < i + 1 → l1[j]? = l2[j]?) := upto Ha.out Hb.out ev He.out
          have hab := (eqB_iff a b).1 ev
          subst hab
          have hab : (a == a) = true := by simp
          go_wp2_with fail
          go_region
          go_wp2_with fail
          go_roundg (m - (i + 1))
          case measure => omega
          case rel => exact ⟨i + 1, by omega, by go_num, hB3, Hu⟩
        | false =>
          have Hr : Hid (eqB l1 l2 = false) := eqB_at Ha.out Hb.out ev
          have hab : (a == b) = false := by simp; exact fun e => by rw [e, eqB_self] at ev; cases ev
          go_wp2_with fail
          go_region
          go_wp2_with fail
          go_ret
          exact ⟨by rw [Hr.out]; rfl, hB3⟩
      · have hi' : ¬ (i : Int) < (m : Int) := by omega
        have Hr : Hid (eqB l1 l2 = true) := eqB_lists (n := m) hn.out hm.out (fun j hj => He.out j (by omega))
        go_wp2_with fail
        go_ret
        exact ⟨by rw [Hr.out]; rfl, hB⟩
  · have Hr : Hid (eqB l1 l2 = false) := eqB_len (fun e => hnm (by rw [hn.out, hm.out, e]))
    have hne : ((n : Int) == (m : Int)) = false := by simp; omega
    have hne2 : ¬ ((n : Int) = (m : Int)) := by omega
    go_enter Tryz.func115, Tryz.ntmps115
    go_wp2_with fail
    go_ret
    exact ⟨by rw [Hr.out]; rfl, Below.refl _ _⟩

theorem eqAr (n m : Bs) (x y : Int) (W : World) : (binOp .eql 119 (.agg #[.string (bs n), .int .i64 x]) (.agg #[.string (bs m), .int .i64 y])).run Tryz.prog W = .ok (.bool (n == m && x == y)) W := by
  rw [run_eql_struct]
  simp [Program.fieldsOf, Tryz.underlying119, go_sem, Tryz.underlying9, Tryz.underlying3]
  by_cases h1 : n = m <;> by_cases h2 : x = y <;> simp [h1, h2]
theorem neAr (n m : Bs) (x y : Int) (W : World) : (binOp .neq 119 (.agg #[.string (bs n), .int .i64 x]) (.agg #[.string (bs m), .int .i64 y])).run Tryz.prog W = .ok (.bool (!(n == m && x == y))) W := by
  have h := eqAr n m x y W
  rw [run_eql_struct] at h
  rw [run_neq_struct]
  cases hh : (Op.equalIn 10000 119 (.agg #[.string (bs n), .int .i64 x]) (.agg #[.string (bs m), .int .i64 y])).run Tryz.prog W with
  | ok b w' => rw [hh] at h; simp only [Result.andThen_ok, Result.ok.injEq, Value.bool.injEq] at h ⊢; exact ⟨by rw [h.1], h.2⟩
  | halt x w' => rw [hh] at h; simp [Result.andThen] at h

set_option maxRecDepth 20000 in
set_option maxHeartbeats 4000000 in
theorem eqs_ar (w0 : World) (x1 x2 : Option Addr) (n m k1 k2 : Nat) (l1 l2 : List Ar) (w : World) (hb : Below w0.heap.size w0 w) (h1 : RowAt arVals 2 w0 Any x1 l1) (h2 : RowAt arVals 2 w0 Any x2 l2) (hn : Hid (n = l1.length)) (hm : Hid (m = l2.length)) (hn9 : n ≤ maxLen) :
    Calls Tryz.prog 116 #[.slice x1 n k1, .slice x2 m k2] w fun e w' => e = .returned (.bool (eqB l1 l2)) ∧ Below w.heap.size w w' := by
  unfold maxLen at hn9
  by_cases hnm : m = n
  · subst hnm
    go_enter Tryz.func116, Tryz.ntmps116
    go_wp2_with fail
    go_loopg [13] m (fun gh iv wx => ∃ i : Nat, i + gh = m ∧ iv = .int .i64 i ∧ Below w.heap.size w wx ∧ Hid (∀ j, j < i → l1[j]? = l2[j]?))
    case atStart => exact ⟨0, by omega, rfl, Below.refl _ _, fun j hj => by omega⟩
    case round =>
      obtain ⟨i, hig, rfl, hB, He⟩ := hrel
      by_cases hi : i < m
      · have hi' : (i : Int) < (m : Int) := by omega
        obtain ⟨a, ha⟩ : ∃ t, l1[i]? = some t := ⟨_, List.getElem?_eq_getElem (by rw [← hn.out]; exact hi)⟩
        obtain ⟨b, hbb⟩ : ∃ t, l2[i]? = some t := ⟨_, List.getElem?_eq_getElem (by rw [← hm.out]; exact hi)⟩
        obtain ⟨ba, offa, rfl, hlta, vsa, hvla, va, rfl⟩ := h1.elem ha
        obtain ⟨b2, offb, rfl, hltb, vsb, hvlb, vb, rfl⟩ := h2.elem hbb
        have ka0 := va 0 _ rfl
        have kb0 := vb 0 _ rfl
        have ka1 := va 1 _ rfl
        have kb1 := vb 1 _ rfl
        simp only [Nat.add_zero] at ka0 kb0
        clear va vb
        have Ha := hide ha
        have Hb := hide hbb
        clear ha hbb
        have hbd : Below wr.heap.size wr wr.drew := (Below.refl _ _).drew
        have be := (hb.trans (hB.mono hb.size)).drew
        have ca0 := (be.cell hlta).trans ka0
        have cb0 := (be.cell hltb).trans kb0
        have ca1 := (be.cell hlta).trans ka1
        have cb1 := (be.cell hltb).trans kb1
        have hNE := fun W => neAr a.name b.name a.size b.size W
        have hB3 := hB.drew
        cases ev : eqB a b with
        | true =>
          have Hu : Hid (∀ j, j < i + 1 → l1[j]? = l2[j]?) := upto Ha.out Hb.out ev He.out
          have hab := (eqB_iff a b).1 ev
          subst hab
          have hab : (a.name == a.name && a.size == a.size) = true := by simp
          go_wp2_with fail
          go_region
          go_wp2_with fail
          go_roundg (m - (i + 1))
          case measure => omega
          case rel => exact ⟨i + 1, by omega, by go_num, hB3, Hu⟩
        | false =>
          have Hr : Hid (eqB l1 l2 = false) := eqB_at Ha.out Hb.out ev
          have hab : (a.name == b.name && a.size == b.size) = false := by
            cases hq : (a.name == b.name && a.size == b.size) with
            | false => rfl
            | true =>
              simp at hq
              obtain ⟨an, az⟩ := a
              obtain ⟨bn, bz⟩ := b
              obtain ⟨rfl, rfl⟩ := hq
              rw [eqB_self] at ev; cases ev
          go_wp2_with fail
          go_region
          go_wp2_with fail
          go_ret
          exact ⟨by rw [Hr.out]; rfl, hB3⟩
      · have hi' : ¬ (i : Int) < (m : Int) := by omega
        have Hr : Hid (eqB l1 l2 = true) := eqB_lists (n := m) hn.out hm.out (fun j hj => He.out j (by omega))
        go_wp2_with fail
        go_ret
        exact ⟨by rw [Hr.out]; rfl, hB⟩
  · have Hr : Hid (eqB l1 l2 = false) := eqB_len (fun e => hnm (by rw [hn.out, hm.out, e]))
    have hne : ((n : Int) == (m : Int)) = false := by simp; omega
    have hne2 : ¬ ((n : Int) = (m : Int)) := by omega
    go_enter Tryz.func116, Tryz.ntmps116
    go_wp2_with fail
    go_ret
    exact ⟨by rw [Hr.out]; rfl, Below.refl _ _⟩
end Go.Proofs.YtbfhaabpfkopdaaGreatDoor
