/- Rows of cells (a bound, if there is one) in memory. -/
import Derived.Test.YtbafkjhlogkllaaGreatDoorKu
import Derived.Test.YtbafkjhlogkllaaGreatDoorIa
import Derived.Test.YtbafkjhlogkllaaGreatDoorZb
import Derived.Deep.LoopGhost
import Derived.Deep.DeepCutAuto
import Derived.Deep.AppendLies
import Derived.Laws.OwnMore
namespace Go.Proofs.YtbafkjhlogkllaaGreatDoor
open Go.RowKit
set_option linter.unusedVariables false

/-- A cell, as its two fields say. -/
structure Ce where
  h : Bool
  m : Int
deriving DecidableEq
def ceZ : Ce := ⟨false, 0⟩
def Ce.bd (c : Ce) : Bd := if c.h then some c.m else none
def ceOf : Bd → Ce
  | some m => ⟨true, m⟩
  | none => ⟨false, 0⟩

theorem bd_ceOf (b : Bd) : (ceOf b).bd = b := by cases b <;> simp [ceOf, Ce.bd]

/-- Cells that can be read. -/
structure RowC (w : World) (b off : Nat) (l : List Ce) : Prop where
  lt : b < w.heap.size
  has : ∀ i, i < l.length → w.cell? ⟨b, off + i * 2, none⟩ = some (.bool (l.getD i ceZ).h)
  most : ∀ i, i < l.length → w.cell? ⟨b, off + i * 2 + 1, none⟩ = some (.int .i64 (l.getD i ceZ).m)

theorem RowC.below {w w' : World} {b off : Nat} {l : List Ce} (h : RowC w b off l) (hb : Below w.heap.size w w') : RowC w' b off l :=
  ⟨Nat.lt_of_lt_of_le h.lt hb.size, fun i hi => (hb.cell (p := ⟨b, off + i * 2, none⟩) h.lt).trans (h.has i hi), fun i hi => (hb.cell (p := ⟨b, off + i * 2 + 1, none⟩) h.lt).trans (h.most i hi)⟩
theorem RowC.stays {w W1 W2 : World} {b off : Nat} {l : List Ce} (h : b < w.heap.size) (k : RowC W1 b off l) (hb : Below w.heap.size W1 W2) : RowC W2 b off l :=
  ⟨Nat.lt_of_lt_of_le k.lt hb.size, fun i hi => (hb.cell (p := ⟨b, off + i * 2, none⟩) h).trans (k.has i hi), fun i hi => (hb.cell (p := ⟨b, off + i * 2 + 1, none⟩) h).trans (k.most i hi)⟩

/-- A store into another block. -/
theorem RowC.other {w : World} {b off : Nat} {l : List Ce} (h : RowC w b off l) {p : Addr} (hp : p.block ≠ b) (v : Value) : RowC (w.setCell p v) b off l := by
  have e : ∀ o, (w.setCell p v).cell? ⟨b, o, none⟩ = w.cell? ⟨b, o, none⟩ := fun o => World.cell?_of_block (Below.heap_setCell w p v b (fun e => hp e.symm))
  exact ⟨by simpa [World.setCell] using h.lt, fun i hi => (e _).trans (h.has i hi), fun i hi => (e _).trans (h.most i hi)⟩

theorem getD_set {l : List Ce} {k i : Nat} (hk : k < l.length) (c : Ce) : (l.set k c).getD i ceZ = if i = k then c else l.getD i ceZ := by
  by_cases e : i = k
  · subst e; simp [hk]
  · rw [if_neg e]; simp only [List.getD_eq_getElem?_getD]; rw [List.getElem?_set_ne (fun h => e h.symm)]

/-- One cell stored anew. -/
theorem RowC.set {w : World} {b off : Nat} {l : List Ce} (h : RowC w b off l) {k : Nat} (hk : k < l.length) (c : Ce) :
    RowC ((w.setCell ⟨b, off + k * 2, none⟩ (.bool c.h)).setCell ⟨b, off + k * 2 + 1, none⟩ (.int .i64 c.m)) b off (l.set k c) := by
  have ne : ∀ {o o' : Nat}, o ≠ o' → (⟨b, o, none⟩ : Addr) ≠ ⟨b, o', none⟩ := fun h e => h (by cases e; rfl)
  have oth : ∀ (W : World) (o o' : Nat) (v : Value), o ≠ o' → (W.setCell ⟨b, o, none⟩ v).cell? ⟨b, o', none⟩ = W.cell? ⟨b, o', none⟩ := by
    intro W o o' v hne
    apply World.cell?_setCell_other
    exact ne hne
  have sam : ∀ (W : World) (o : Nat) (v u : Value), W.cell? ⟨b, o, none⟩ = some u → (W.setCell ⟨b, o, none⟩ v).cell? ⟨b, o, none⟩ = some v := by
    intro W o v u hu
    apply World.cell?_setCell_same
    exact hu
  refine ⟨by simpa [World.setCell] using h.lt, fun i hi => ?_, fun i hi => ?_⟩
  · rw [List.length_set] at hi
    rw [getD_set hk]
    rw [oth _ _ _ _ (by omega)]
    by_cases e : i = k
    · subst e; rw [if_pos rfl]; exact sam _ _ _ _ (h.has i hi)
    · rw [if_neg e, oth _ _ _ _ (by omega)]; exact h.has i hi
  · rw [List.length_set] at hi
    rw [getD_set hk]
    by_cases e : i = k
    · subst e; rw [if_pos rfl]; exact sam _ _ _ _ ((oth _ _ _ _ (by omega)).trans (h.most i hi))
    · rw [if_neg e, oth _ _ _ _ (by omega), oth _ _ _ _ (by omega)]; exact h.most i hi

/-- A slice of cells. -/
def CsAt (w : World) (x : Option Addr) (l : List Ce) : Prop := l = [] ∨ ∃ b off, x = some ⟨b, off, none⟩ ∧ RowC w b off l
theorem CsAt.below {w w' : World} {x : Option Addr} {l : List Ce} (h : CsAt w x l) (hb : Below w.heap.size w w') : CsAt w' x l := by
  rcases h with h | ⟨b, off, e, h⟩
  · exact .inl h
  · exact .inr ⟨b, off, e, h.below hb⟩
theorem CsAt.stays {w W1 W2 : World} {x : Option Addr} {l : List Ce} (h : CsAt w x l) (k : CsAt W1 x l) (hb : Below w.heap.size W1 W2) : CsAt W2 x l := by
  rcases h with h | ⟨b, off, e, h⟩
  · exact .inl h
  · rcases k with k | ⟨b', off', e', k⟩
    · exact .inl k
    · obtain ⟨rfl, rfl⟩ : b = b' ∧ off = off' := by rw [e] at e'; simpa using e'
      exact .inr ⟨b, off, e, RowC.stays h.lt k hb⟩

end Go.Proofs.YtbafkjhlogkllaaGreatDoor

/- Zones: the reference's cells: lowered, near, right. -/
namespace Go.Proofs.YtbafkjhlogkllaaGreatDoor
open Go.RowKit
set_option linter.unusedVariables false

/-- Cells of which one is lowered. -/
def lowC (c : Ce) (most : Int) : Ce := if c.h = true ∧ c.m ≤ most then c else ⟨true, most⟩
def lowR (c : Ce) (most : Int) : Bool := decide (¬ (c.h = true ∧ c.m ≤ most))
def lowL (l : List Ce) (k : Nat) (most : Int) : List Ce := l.set k (lowC (l.getD k ceZ) most)
theorem lowL_len (l : List Ce) (k : Nat) (most : Int) : (lowL l k most).length = l.length := by simp [lowL]
theorem lowL_same {l : List Ce} {k : Nat} {most : Int} (hk : k < l.length) (h : (l.getD k ceZ).h = true ∧ (l.getD k ceZ).m ≤ most) : lowL l k most = l := by
  unfold lowL lowC
  rw [if_pos h]
  apply List.ext_getElem?
  intro i
  by_cases e : i = k
  · subst e; simp [hk]
  · rw [List.getElem?_set_ne (fun h => e h.symm)]

/-- What of a world is as it was but for one block. -/
structure Only (b : Nat) (w w' : World) : Prop where
  cell : ∀ p : Addr, p.block ≠ b → w'.cell? p = w.cell? p
  fr : ∀ p : Addr, w'.frozen? p = w.frozen? p
  size : w'.heap.size = w.heap.size
  bel : ∀ B, B ≤ b → Below B w w'

theorem Only.refl (b : Nat) (w : World) : Only b w w := ⟨fun _ _ => rfl, fun _ => rfl, rfl, fun _ _ => Below.refl _ _⟩
theorem Only.trans {b : Nat} {w w1 w2 : World} (h : Only b w w1) (k : Only b w1 w2) : Only b w w2 :=
  ⟨fun p hp => (k.cell p hp).trans (h.cell p hp), fun p => (k.fr p).trans (h.fr p), k.size.trans h.size, fun B hB => (h.bel B hB).trans (k.bel B hB)⟩
theorem Only.set (b o : Nat) (w : World) (v : Value) : Only b w (w.setCell ⟨b, o, none⟩ v) :=
  ⟨fun p hp => World.cell?_of_block (Below.heap_setCell w ⟨b, o, none⟩ v p.block hp), fun p => frozen?_setCell' w _ p v, by simp [World.setCell], fun B hB => (Below.refl _ _).setCell hB _⟩

set_option maxRecDepth 20000 in
set_option maxHeartbeats 2000000 in
theorem lower_any (b off n c k : Nat) (most : Int) (l : List Ce) (w : World) (hR : RowC w b off l) (hF : ∀ o, w.frozen? ⟨b, o, none⟩ = false) (hn : Hid (n = l.length)) (hk : k < n) (hb : n ≤ 1000) :
    Calls Tryz.prog 25 #[.slice (some ⟨b, off, none⟩) n c, .int .i64 k, .int .i64 most] w fun e w' => e = .returned (.bool (lowR (l.getD k ceZ) most)) ∧ RowC w' b off (lowL l k most) ∧ Only b w w' := by
  have hkl : k < l.length := by rw [← hn.out]; exact hk
  obtain ⟨⟨ch, cm⟩, hc⟩ : ∃ C, C = l.getD k ceZ := ⟨_, rfl⟩
  have h1 := hR.has k hkl
  have h2 := hR.most k hkl
  rw [← hc] at h1 h2
  have hlt := hR.lt
  have f1 := hF (off + k * 2)
  have f2 := hF (off + k * 2 + 1)
  have hkn : (k : Int) < (n : Int) := by omega
  obtain ⟨rb, hrb⟩ : ∃ rb, rb = lowR (l.getD k ceZ) most := ⟨_, rfl⟩
  rw [← hrb]
  have Hrb := hide hrb
  have HC := hide hc
  have HR := hide hR
  clear hc hR hF hrb
  cases ch
  · go_enter Tryz.func25, Tryz.ntmps25
    go_wp2
    go_ret
    refine ⟨ret_bool (by rw [Hrb.out]; unfold lowR; rw [← HC.out]; simp; try omega), ?_, (Only.set b _ w _).trans (Only.set b _ _ _)⟩
    have := HR.out.set hkl ⟨true, most⟩
    unfold lowL lowC
    rw [← HC.out, if_neg (by simp)]
    exact this
  · by_cases hle : cm ≤ most
    · go_enter Tryz.func25, Tryz.ntmps25
      go_wp2
      go_ret
      refine ⟨ret_bool (by rw [Hrb.out]; unfold lowR; rw [← HC.out]; simp [hle]), ?_, Only.refl _ _⟩
      rw [lowL_same hkl (by rw [← HC.out]; exact ⟨rfl, hle⟩)]
      exact HR.out
    · go_enter Tryz.func25, Tryz.ntmps25
      go_wp2
      go_ret
      refine ⟨ret_bool (by rw [Hrb.out]; unfold lowR; rw [← HC.out]; simp; try omega), ?_, (Only.set b _ w _).trans (Only.set b _ _ _)⟩
      have := HR.out.set hkl ⟨true, most⟩
      unfold lowL lowC
      rw [← HC.out, if_neg (by rintro ⟨_, h⟩; dsimp only at h; omega)]
      exact this

end Go.Proofs.YtbafkjhlogkllaaGreatDoor

/- Zones: the reference: which cells are near, which are right. -/
namespace Go.Proofs.YtbafkjhlogkllaaGreatDoor
open Go.RowKit
set_option linter.unusedVariables false

def farC (B : Int) (c : Ce) : Bool := farB c.m B
def badC (c : Ce) : Bool := !c.h && decide (c.m ≠ 0)
def nearL (l : List Ce) (B : Int) : Bool := !(l.any (farC B))
def celErr (n : Int) (l : List Ce) (want : Int) : Int := if n < 0 ∨ 4 < n then 2 else if (l.length : Int) ≠ want then 3 else if l.any badC = true then 3 else if l.any (farC 1099511627776) = true then 2 else 0

theorem takeC (l : List Ce) (k : Nat) (h : k < l.length) : l.take (k + 1) = l.take k ++ [l.getD k ceZ] := by
  rw [List.take_add_one]; simp [h]
theorem any_snoc {l : List Ce} {k : Nat} (h : k < l.length) (p : Ce → Bool) : (l.take (k + 1)).any p = ((l.take k).any p || p (l.getD k ceZ)) := by
  rw [takeC l k h, List.any_append]; simp
theorem any_yes {l : List Ce} {k : Nat} (h : k < l.length) {p : Ce → Bool} (hp : p (l.getD k ceZ) = true) : l.any p = true := by
  rw [List.any_eq_true]
  exact ⟨l.getD k ceZ, by rw [show l.getD k ceZ = l[k] by simp [h]]; exact List.getElem_mem h, hp⟩
theorem take_all {l : List Ce} {k : Nat} (h : l.length ≤ k) : l.take k = l := List.take_of_length_le h

set_option maxHeartbeats 1000000 in
theorem near_nil (x : Option Addr) (c : Nat) (B : Int) (w : World) :
    Calls Tryz.prog 24 #[.slice x 0 c, .int .i64 B] w fun e w' => e = .returned (.bool true) ∧ w' = w := by
  go_enter Tryz.func24, Tryz.ntmps24
  go_wp2_with fail
  refine wp_loop_rounds 1 ?_
  rw [rounds_succ]
  go_wp2_with fail
  go_ret
  exact ⟨rfl, rfl⟩

set_option maxRecDepth 20000 in
set_option maxHeartbeats 2000000 in
theorem near_row (b off c n : Nat) (B : Int) (l : List Ce) (w : World) (hR : RowC w b off l) (hl : Hid (n = l.length)) (hn : n ≤ 1000) (hB : 0 ≤ B ∧ B ≤ 9223372036854775807) :
    Calls Tryz.prog 24 #[.slice (some ⟨b, off, none⟩) n c, .int .i64 B] w fun e w' => e = .returned (.bool (nearL l B)) ∧ w' = w := by
  have HR := hide hR
  have hlt := hR.lt
  clear hR
  go_enter Tryz.func24, Tryz.ntmps24
  go_wp2_with fail
  go_loop [5] (fun i => ∃ k : Nat, k ≤ n ∧ i = .int .i64 k ∧ Hid ((l.take k).any (farC B) = false)) (fun i => n - (intOf i).toNat)
  case atStart => exact ⟨0, Nat.zero_le _, rfl, rfl⟩
  case round =>
    obtain ⟨k, hk, rfl, HL⟩ := hrel
    by_cases hlt' : k < n
    · have hkl : k < l.length := by rw [← hl.out]; exact hlt'
      obtain ⟨y, hy⟩ : ∃ y, y = (l.getD k ceZ).m := ⟨_, rfl⟩
      have hc : w.cell? ⟨b, off + k * 2 + 1, none⟩ = some (.int .i64 y) := by rw [hy]; exact HR.out.most k hkl
      have Hy := hide hy
      clear hy
      cases hg : farB y B
      · have hF := hide (fun W => far_any y B W hB.1 hB.2)
        rw [hg] at hF
        have HG := hide hg
        clear hg
        go_wp2_with fail
        refine (hF.out _).mono ?_
        rintro e w' ⟨rfl, hw⟩
        rw [hw]
        go_wp2_with fail
        go_round
        case rel => exact ⟨k + 1, by omega, by go_num, (by show _ = _; rw [any_snoc hkl, HL.out]; unfold farC; rw [← Hy.out, HG.out]; rfl)⟩
        case measure => simp [intOf]; omega
      · have hF := hide (fun W => far_any y B W hB.1 hB.2)
        rw [hg] at hF
        have HG := hide hg
        clear hg
        go_wp2_with fail
        refine (hF.out _).mono ?_
        rintro e w' ⟨rfl, hw⟩
        rw [hw]
        go_wp2_with fail
        go_ret
        exact ⟨ret_bool (by unfold nearL; rw [any_yes hkl (p := farC B) (by unfold farC; rw [← Hy.out]; exact HG.out)]; rfl), rfl⟩
    · have hke : Hid (l.take k = l) := take_all (by rw [← hl.out]; omega)
      go_wp2_with fail
      go_ret
      exact ⟨ret_bool (by unfold nearL; rw [← hke.out, HL.out]; rfl), rfl⟩

theorem near_any (x : Option Addr) (c n : Nat) (B : Int) (l : List Ce) (w : World) (hA : CsAt w x l) (hl : Hid (n = l.length)) (hn : n ≤ 1000) (hB : 0 ≤ B ∧ B ≤ 9223372036854775807) :
    Calls Tryz.prog 24 #[.slice x n c, .int .i64 B] w fun e w' => e = .returned (.bool (nearL l B)) ∧ w' = w := by
  rcases hA with h | ⟨b, off, rfl, h⟩
  · subst h
    have : n = 0 := hl.out
    subst this
    exact near_nil x c B w
  · exact near_row b off c n B l w h hl hn hB

set_option maxRecDepth 20000 in
set_option maxHeartbeats 4000000 in
theorem cellsError_row (N want : Int) (b off c n : Nat) (l : List Ce) (w : World) (hR : RowC w b off l) (hl : Hid (n = l.length)) (hn : n ≤ 1000) :
    Calls Tryz.prog 19 #[.int .i64 N, .slice (some ⟨b, off, none⟩) n c, .int .i64 want] w fun e w' => e = .returned (.int .i64 (celErr N l want)) ∧ w' = w := by
  have HR := hide hR
  have hlt := hR.lt
  clear hR
  obtain ⟨r, hr⟩ : ∃ r, r = celErr N l want := ⟨_, rfl⟩
  have Hr := hide hr
  rw [← hr]
  clear hr
  by_cases c1 : N < 0
  · have e : Hid (r = 2) := by show _ = _; rw [Hr.out]; unfold celErr; rw [if_pos (.inl c1)]
    go_enter Tryz.func19, Tryz.ntmps19
    go_wp2
    go_ret
    exact ⟨ret_int (by rw [e.out]), rfl⟩
  by_cases c2 : 4 < N
  · have e : Hid (r = 2) := by show _ = _; rw [Hr.out]; unfold celErr; rw [if_pos (.inr c2)]
    go_enter Tryz.func19, Tryz.ntmps19
    go_wp2
    go_ret
    exact ⟨ret_int (by rw [e.out]), rfl⟩
  by_cases c3 : (n : Int) = want
  · have e : Hid (r = if l.any badC = true then 3 else if l.any (farC 1099511627776) = true then 2 else 0) := by
      show _ = _; rw [Hr.out]; unfold celErr; rw [if_neg (by omega), if_neg (by rw [← hl.out]; omega)]
    subst c3
    clear Hr
    go_enter Tryz.func19, Tryz.ntmps19
    go_wp2_with fail
    go_loop [7, 8] (fun lv i => ∃ (k : Nat) (g : Bool), k ≤ n ∧ i = .int .i64 k ∧ lv = .bool g ∧ Hid ((l.take k).any badC = false) ∧ Hid ((l.take k).any (farC 1099511627776) = g)) (fun _ i => n - (intOf i).toNat)
    case atStart => exact ⟨0, false, Nat.zero_le _, rfl, rfl, rfl, rfl⟩
    case round =>
      obtain ⟨k, g, hk, rfl, rfl, HB, HL⟩ := hrel
      by_cases hlt' : k < n
      · have hkl : k < l.length := by rw [← hl.out]; exact hlt'
        obtain ⟨y, hy⟩ : ∃ y, y = (l.getD k ceZ).m := ⟨_, rfl⟩
        obtain ⟨q, hq⟩ : ∃ q, q = (l.getD k ceZ).h := ⟨_, rfl⟩
        have hc : w.cell? ⟨b, off + k * 2 + 1, none⟩ = some (.int .i64 y) := by rw [hy]; exact HR.out.most k hkl
        have hc0 : w.cell? ⟨b, off + k * 2, none⟩ = some (.bool q) := by rw [hq]; exact HR.out.has k hkl
        have Hy := hide hy
        have Hq := hide hq
        clear hy hq
        obtain ⟨fy, hfy⟩ : ∃ f, f = farB y 1099511627776 := ⟨_, rfl⟩
        have hF : Hid (∀ W : World, Calls Tryz.prog 41 #[.int .i64 y, .int .i64 1099511627776] W fun e w' => e = .returned (.bool fy) ∧ w' = W) := fun W => by rw [hfy]; exact far_any y _ W (by omega) (by omega)
        have Hfy := hide hfy
        clear hfy
        by_cases hbad : q = false ∧ y ≠ 0
        · obtain ⟨rfl, hy0⟩ := hbad
          have hyb : (y != 0) = true := by simp [hy0]
          have ee : Hid (r = 3) := by
            show _ = _; rw [e.out, if_pos]
            exact any_yes hkl (by unfold badC; rw [← Hq.out, ← Hy.out]; simp [hy0])
          go_wp2_with fail
          go_ret
          exact ⟨ret_int (by rw [ee.out]), rfl⟩
        · have hb2 : Hid (badC (l.getD k ceZ) = false) := by
            show _ = _; unfold badC; rw [← Hq.out, ← Hy.out]
            cases q
            · simp at hbad; simp [hbad]
            · rfl
          have hyz : q = true ∨ (q = false ∧ y = 0) := by
            cases q
            · simp at hbad; exact .inr ⟨rfl, hbad⟩
            · exact .inl rfl
          clear hbad
          rcases hyz with rfl | ⟨rfl, rfl⟩
          all_goals
            go_wp2_with fail
            refine (hF.out _).mono ?_
            rintro e' w' ⟨rfl, hw⟩
            rw [hw]
            cases g
            all_goals
              go_wp2_with fail
              go_round
              case rel => exact ⟨k + 1, _, by omega, by go_num, rfl, (by show _ = _; rw [any_snoc hkl, HB.out, hb2.out]; rfl), (by show _ = _; rw [any_snoc hkl, HL.out]; unfold farC; rw [← Hy.out, ← Hfy.out]; simp)⟩
              case measure => simp [intOf]; omega
      · have hke : Hid (l.take k = l) := take_all (by rw [← hl.out]; omega)
        have ee : Hid (r = if g = true then 2 else 0) := by
          show _ = _
          have h1 := HB.out
          have h2 := HL.out
          rw [hke.out] at h1 h2
          rw [e.out, h1, h2]; simp
        cases g
        all_goals
          go_wp2_with fail
          go_ret
          exact ⟨ret_int (by rw [ee.out]; rfl), rfl⟩
  · have e : Hid (r = 3) := by show _ = _; rw [Hr.out]; unfold celErr; rw [if_neg (by omega), if_pos (by rw [← hl.out]; exact c3)]
    have c3b : ((n : Int) != want) = true := by simp [c3]
    go_enter Tryz.func19, Tryz.ntmps19
    go_wp2
    go_ret
    exact ⟨ret_int (by rw [e.out]), rfl⟩

end Go.Proofs.YtbafkjhlogkllaaGreatDoor

/- Zones: cells as lists, and what closing does with them. -/
namespace Go.Proofs.YtbafkjhlogkllaaGreatDoor
open Go.RowKit
set_option linter.unusedVariables false

/-- The cells of a row, one by one. -/
def cellsV (l : List Ce) : List Value := l.flatMap fun c => [Value.bool c.h, Value.int .i64 c.m]
theorem cellsV_len (l : List Ce) : (cellsV l).length = l.length * 2 := by
  induction l with
  | nil => rfl
  | cons c l ih => simp only [cellsV, List.flatMap_cons, List.length_append, List.length_cons, List.length_nil] at *; omega
theorem cellsV_at (l : List Ce) (i : Nat) (hi : i < l.length) : (cellsV l)[i * 2]? = some (.bool (l.getD i ceZ).h) ∧ (cellsV l)[i * 2 + 1]? = some (.int .i64 (l.getD i ceZ).m) := by
  induction l generalizing i with
  | nil => simp at hi
  | cons c l ih =>
    cases i with
    | zero => exact ⟨rfl, rfl⟩
    | succ i =>
      have := ih i (by simpa using hi)
      rw [show (i + 1) * 2 = i * 2 + 1 + 1 by omega]
      exact this
theorem cellsV_one (l : List Ce) : ∀ u ∈ cellsV l, u.oneCell' = true := by
  intro u hu
  obtain ⟨c, _, hc⟩ := List.mem_flatMap.1 hu
  simp at hc
  rcases hc with rfl | rfl <;> rfl

theorem RowC.news {w : World} {b off : Nat} {l : List Ce} (h : RowC w b off l) : ∀ j u, (cellsV l)[j]? = some u → w.cell? ((⟨b, off, none⟩ : Addr).add j) = some u := by
  intro j u hj
  have hjl : j < l.length * 2 := by
    rcases Nat.lt_or_ge j (l.length * 2) with o | o
    · exact o
    · rw [List.getElem?_eq_none (by rw [cellsV_len]; exact o)] at hj; cases hj
  have ea : (⟨b, off, none⟩ : Addr).add j = ⟨b, off + j, none⟩ := by
    unfold Addr.add; split
    · rename_i h0; subst h0; simp
    · rfl
  rw [ea]
  obtain ⟨c1, c2⟩ := cellsV_at l (j / 2) (by omega)
  rcases (by omega : j = j / 2 * 2 ∨ j = j / 2 * 2 + 1) with e | e
  · rw [e] at hj ⊢
    rw [c1] at hj
    rw [← hj]; exact h.has (j / 2) (by omega)
  · rw [e] at hj ⊢
    rw [c2] at hj
    rw [← hj]; exact h.most (j / 2) (by omega)

theorem RowC.of_own {w : World} {base : Nat} {e : TypeId} {g n cap : Nat} {l : List Ce} (h : w.ownsRow base e 2 (.slice (some ⟨g, 0, none⟩) n cap) n (cellsV l)) (hn : n = l.length) (hg : g < w.heap.size) : RowC w g 0 l ∧ ∀ o, w.frozen? ⟨g, o, none⟩ = false := by
  refine ⟨⟨hg, fun i hi => ?_, fun i hi => ?_⟩, fun o => h.frozenAt o⟩
  · rw [Nat.zero_add]; exact (h.cellAt (i * 2) (by omega)).trans (cellsV_at l i hi).1
  · rw [Nat.zero_add]; exact (h.cellAt (i * 2 + 1) (by omega)).trans (cellsV_at l i hi).2

/-- One way tried, in a row. -/
def relL (n : Nat) (L : List Ce) (i j k : Nat) : List Ce :=
  if (L.getD (i * n + k) ceZ).h = true ∧ (L.getD (k * n + j) ceZ).h = true then lowL L (i * n + j) (wrap64 ((L.getD (i * n + k) ceZ).m + (L.getD (k * n + j) ceZ).m)) else L
def sweepL (n : Nat) (L : List Ce) : Nat → List Ce
  | 0 => L
  | p + 1 => relL n (sweepL n L p) (p / n / n) (p / n % n) (p % n)
def roundsL (n : Nat) (L : List Ce) : Nat → List Ce
  | 0 => L
  | t + 1 => sweepL n (roundsL n L t) (n * n * n)
/-- The diagonal lowered to 0, up to k. -/
def diagL (n : Nat) (L : List Ce) : Nat → List Ce
  | 0 => L
  | k + 1 => lowL (diagL n L k) (k * n + k) 0

theorem relL_len (n : Nat) (L : List Ce) (i j k : Nat) : (relL n L i j k).length = L.length := by
  unfold relL; split
  · exact lowL_len _ _ _
  · rfl
theorem sweepL_len (n : Nat) (L : List Ce) (p : Nat) : (sweepL n L p).length = L.length := by
  induction p with
  | zero => rfl
  | succ p ih => exact (relL_len _ _ _ _ _).trans ih
theorem roundsL_len (n : Nat) (L : List Ce) (t : Nat) : (roundsL n L t).length = L.length := by
  induction t with
  | zero => rfl
  | succ t ih => exact (sweepL_len _ _ _).trans ih
theorem diagL_len (n : Nat) (L : List Ce) (k : Nat) : (diagL n L k).length = L.length := by
  induction k with
  | zero => rfl
  | succ k ih => exact (lowL_len _ _ _).trans ih

/-- The bounds of a row of cells. -/
def matOf (n : Nat) (L : List Ce) : Mat := fun i j => (L.getD (i * n + j) ceZ).bd

theorem lowC_bd (c : Ce) (most : Int) : (lowC c most).bd = minB c.bd (some most) := by
  obtain ⟨h, m⟩ := c
  unfold lowC Ce.bd
  cases h
  · simp [minB]
  · by_cases e : m ≤ most
    · simp [e, minB]; omega
    · simp [e, minB]; omega

theorem idx_inj {n i j p q : Nat} (hj : j < n) (hq : q < n) : i * n + j = p * n + q ↔ i = p ∧ j = q := by
  constructor
  · intro h
    have e1 : (i * n + j) / n = i := by rw [Nat.mul_comm, Nat.mul_add_div (by omega), Nat.div_eq_of_lt hj]; rfl
    have e2 : (p * n + q) / n = p := by rw [Nat.mul_comm, Nat.mul_add_div (by omega), Nat.div_eq_of_lt hq]; rfl
    have e3 : (i * n + j) % n = j := by rw [Nat.mul_comm, Nat.mul_add_mod, Nat.mod_eq_of_lt hj]
    have e4 : (p * n + q) % n = q := by rw [Nat.mul_comm, Nat.mul_add_mod, Nat.mod_eq_of_lt hq]
    rw [h] at e1 e3
    exact ⟨by omega, by omega⟩
  · rintro ⟨rfl, rfl⟩; rfl
theorem idx_in {n i j : Nat} (hi : i < n) (hj : j < n) : i * n + j < n * n := by
  have := Nat.mul_le_mul_right n (show i + 1 ≤ n from hi)
  rw [Nat.add_mul] at this; omega

theorem matOf_low {n : Nat} {L : List Ce} (hL : L.length = n * n) {i j : Nat} (hi : i < n) (hj : j < n) (most : Int) {p q : Nat} (hp : p < n) (hq : q < n) :
    matOf n (lowL L (i * n + j) most) p q = setM (matOf n L) i j (minB (matOf n L i j) (some most)) p q := by
  unfold matOf setM lowL
  rw [getD_set (by rw [hL]; exact idx_in hi hj)]
  by_cases e : p = i ∧ q = j
  · rw [if_pos e, if_pos ((idx_inj hq hj).2 e), lowC_bd]
  · rw [if_neg e, if_neg (fun h => e ((idx_inj hq hj).1 h))]

theorem matOf_rel {n : Nat} {L : List Ce} (hL : L.length = n * n) {i j k : Nat} (hi : i < n) (hj : j < n) (hk : k < n) {p q : Nat} (hp : p < n) (hq : q < n) :
    matOf n (relL n L i j k) p q = relax wrap64 (matOf n L) i j k p q := by
  unfold relL relax
  split
  · rename_i h
    rw [matOf_low hL hi hj _ hp hq]
    have e1 : matOf n L i k = some (L.getD (i * n + k) ceZ).m := by unfold matOf Ce.bd; rw [h.1]; rfl
    have e2 : matOf n L k j = some (L.getD (k * n + j) ceZ).m := by unfold matOf Ce.bd; rw [h.2]; rfl
    rw [e1, e2]; rfl
  · rename_i h
    have e : sumB wrap64 (matOf n L i k) (matOf n L k j) = none := by
      unfold matOf Ce.bd
      by_cases h1 : (L.getD (i * n + k) ceZ).h = true
      · by_cases h2 : (L.getD (k * n + j) ceZ).h = true
        · exact absurd ⟨h1, h2⟩ h
        · rw [if_neg h2]; cases (if (L.getD (i * n + k) ceZ).h = true then some (L.getD (i * n + k) ceZ).m else none) <;> rfl
      · rw [if_neg h1]; rfl
    rw [e]
    unfold setM
    split
    · rename_i c
      rw [c.1, c.2]
      cases matOf n L i j <;> rfl
    · rfl

theorem relax_congr {g : Int → Int} {n : Nat} {c d : Mat} (h : ∀ p q, p < n → q < n → c p q = d p q) {i j k : Nat} (hi : i < n) (hj : j < n) (hk : k < n) {p q : Nat} (hp : p < n) (hq : q < n) : relax g c i j k p q = relax g d i j k p q := by
  unfold relax setM
  rw [h i j hi hj, h i k hi hk, h k j hk hj, h p q hp hq]

theorem matOf_sweep {n : Nat} {L : List Ce} {d : Mat} (hL : L.length = n * n) (h : ∀ p q, p < n → q < n → matOf n L p q = d p q) : ∀ m, m ≤ n * n * n → ∀ p q, p < n → q < n → matOf n (sweepL n L m) p q = sweep wrap64 n d m p q := by
  intro m
  induction m with
  | zero => intro _; exact h
  | succ m ih =>
    intro hm p q hp hq
    obtain ⟨hi, hj, hk, _⟩ := place (show m < n * n * n by omega)
    show matOf n (relL n _ _ _ _) p q = relax _ _ _ _ _ p q
    rw [matOf_rel (by rw [sweepL_len]; exact hL) hi hj hk hp hq]
    exact relax_congr (ih (by omega)) hi hj hk hp hq

theorem matOf_rounds {n : Nat} {L : List Ce} {d : Mat} (hL : L.length = n * n) (h : ∀ p q, p < n → q < n → matOf n L p q = d p q) : ∀ t p q, p < n → q < n → matOf n (roundsL n L t) p q = rounds wrap64 n d t p q := by
  intro t
  induction t with
  | zero => exact h
  | succ t ih =>
    intro p q hp hq
    exact matOf_sweep (by rw [roundsL_len]; exact hL) ih (n * n * n) (Nat.le_refl _) p q hp hq

theorem matOf_diag {n : Nat} {L : List Ce} (hL : L.length = n * n) : ∀ k, k ≤ n → ∀ p q, p < n → q < n → matOf n (diagL n L k) p q = if p = q ∧ p < k then minB (matOf n L p q) (some 0) else matOf n L p q := by
  intro k
  induction k with
  | zero => intro _ p q _ _; rw [if_neg (by omega)]; rfl
  | succ k ih =>
    intro hk p q hp hq
    show matOf n (lowL (diagL n L k) (k * n + k) 0) p q = _
    rw [matOf_low (by rw [diagL_len]; exact hL) (by omega) (by omega) 0 hp hq]
    unfold setM
    have I := ih (by omega)
    by_cases e : p = k ∧ q = k
    · rw [if_pos e, e.1, e.2, I k k (by omega) (by omega), if_neg (by omega), if_pos ⟨rfl, by omega⟩]
    · rw [if_neg e, I p q hp hq]
      by_cases c : p = q ∧ p < k
      · rw [if_pos c, if_pos ⟨c.1, by omega⟩]
      · rw [if_neg c, if_neg]
        rintro ⟨c1, c2⟩
        exact c ⟨c1, by omega⟩
theorem matOf_start {n : Nat} {L : List Ce} (hL : L.length = n * n) : ∀ p q, p < n → q < n → matOf n (diagL n L n) p q = start (matOf n L) p q := by
  intro p q hp hq
  rw [matOf_diag hL n (Nat.le_refl _) p q hp hq]
  unfold start
  by_cases e : p = q
  · rw [if_pos ⟨e, hp⟩, if_pos e]
  · rw [if_neg (fun h => e h.1), if_neg e]

end Go.Proofs.YtbafkjhlogkllaaGreatDoor

/- Zones: the reference cuts bounds that are too great. -/
namespace Go.Proofs.YtbafkjhlogkllaaGreatDoor
open Go.RowKit
set_option linter.unusedVariables false

def clipC (c : Ce) : Ce := if 1099511627776 < c.m then ⟨false, 0⟩ else if c.m < -1099511627776 then ⟨c.h, -1099511627776⟩ else c

theorem RowC.setM {w : World} {b off : Nat} {l : List Ce} (h : RowC w b off l) {k : Nat} (hk : k < l.length) (m : Int) :
    RowC (w.setCell ⟨b, off + k * 2 + 1, none⟩ (.int .i64 m)) b off (l.set k ⟨(l.getD k ceZ).h, m⟩) := by
  have ne : ∀ {o o' : Nat}, o ≠ o' → (⟨b, o, none⟩ : Addr) ≠ ⟨b, o', none⟩ := fun h e => h (by cases e; rfl)
  have oth : ∀ (o o' : Nat) (v : Value), o ≠ o' → (w.setCell ⟨b, o, none⟩ v).cell? ⟨b, o', none⟩ = w.cell? ⟨b, o', none⟩ := by
    intro o o' v hne
    apply World.cell?_setCell_other
    exact ne hne
  have sam : ∀ (o : Nat) (v u : Value), w.cell? ⟨b, o, none⟩ = some u → (w.setCell ⟨b, o, none⟩ v).cell? ⟨b, o, none⟩ = some v := by
    intro o v u hu
    apply World.cell?_setCell_same
    exact hu
  refine ⟨by simpa [World.setCell] using h.lt, fun i hi => ?_, fun i hi => ?_⟩
  · rw [List.length_set] at hi
    rw [getD_set hk, oth _ _ _ (by omega), h.has i hi]
    by_cases e : i = k
    · subst e; rw [if_pos rfl]
    · rw [if_neg e]
  · rw [List.length_set] at hi
    rw [getD_set hk]
    by_cases e : i = k
    · subst e; rw [if_pos rfl]; exact sam _ _ _ (h.most i hi)
    · rw [if_neg e, oth _ _ _ (by omega)]; exact h.most i hi

/-- Cut up to k. -/
def clipK (l : List Ce) : Nat → List Ce
  | 0 => l
  | k + 1 => (clipK l k).set k (clipC ((clipK l k).getD k ceZ))
theorem clipK_len (l : List Ce) (k : Nat) : (clipK l k).length = l.length := by
  induction k with
  | zero => rfl
  | succ k ih => unfold clipK; rw [List.length_set, ih]
theorem clipK_at (l : List Ce) (k i : Nat) (hk : k ≤ l.length) : (clipK l k).getD i ceZ = if i < k then clipC (l.getD i ceZ) else l.getD i ceZ := by
  induction k with
  | zero => rw [if_neg (by omega)]; rfl
  | succ k ih =>
    have I := ih (by omega)
    unfold clipK
    rw [getD_set (by rw [clipK_len]; omega)]
    by_cases e : i = k
    · subst e
      rw [if_pos rfl, if_pos (by omega), I, if_neg (by omega)]
    · rw [if_neg e, I]
      by_cases c : i < k
      · rw [if_pos c, if_pos (by omega)]
      · rw [if_neg c, if_neg (by omega)]
theorem clipK_all (l : List Ce) : clipK l l.length = l.map clipC := by
  apply List.ext_getElem?
  intro i
  by_cases h : i < l.length
  · have := clipK_at l l.length i (Nat.le_refl _)
    rw [if_pos h] at this
    have e1 : (clipK l l.length)[i]? = some ((clipK l l.length).getD i ceZ) := by
      have : i < (clipK l l.length).length := by rw [clipK_len]; exact h
      simp [this]
    rw [e1, this]
    simp [h]
  · rw [List.getElem?_eq_none (by rw [clipK_len]; omega), List.getElem?_eq_none (by simp; omega)]

theorem set_same {l : List Ce} {k : Nat} (hk : k < l.length) : l.set k (l.getD k ceZ) = l := by
  apply List.ext_getElem?
  intro i
  by_cases e : i = k
  · subst e; simp [hk]
  · rw [List.getElem?_set_ne (fun h => e h.symm)]

set_option maxRecDepth 20000 in
set_option maxHeartbeats 4000000 in
theorem clip_any (b off c n : Nat) (l : List Ce) (w : World) (hR : RowC w b off l) (hF : ∀ o, w.frozen? ⟨b, o, none⟩ = false) (hl : Hid (n = l.length)) (hn : n ≤ 1000) :
    Calls Tryz.prog 28 #[.slice (some ⟨b, off, none⟩) n c] w fun e w' => e = .returned (.tuple #[]) ∧ RowC w' b off (l.map clipC) ∧ Only b w w' := by
  have HF := hide hF
  clear hF
  go_enter Tryz.func28, Tryz.ntmps28
  go_wp2_with fail
  go_loopg [2] n (fun g iv wr => ∃ k : Nat, k + g = n ∧ iv = .int .i64 k ∧ RowC wr b off (clipK l k) ∧ Only b w wr)
  case atStart => exact ⟨0, by omega, rfl, hR, Only.refl _ _⟩
  case round =>
    clear hR
    obtain ⟨k, hkg, rfl, hR, hO⟩ := hrel
    have hlt := hR.lt
    by_cases hk : k < n
    · have hkl : k < (clipK l k).length := by rw [clipK_len, ← hl.out]; exact hk
      have hkn : (k : Int) < (n : Int) := by omega
      obtain ⟨⟨ch, cm⟩, hc⟩ : ∃ C, C = (clipK l k).getD k ceZ := ⟨_, rfl⟩
      have h1 := hR.has k hkl
      have h2 := hR.most k hkl
      rw [← hc] at h1 h2
      have f1 : wr.frozen? ⟨b, off + k * 2, none⟩ = false := (hO.fr _).trans (HF.out _)
      have f2 : wr.frozen? ⟨b, off + k * 2 + 1, none⟩ = false := (hO.fr _).trans (HF.out _)
      have HC := hide hc
      have HR := hide hR
      clear hc hR
      by_cases c1 : 1099511627776 < cm
      · go_wp2_with fail
        go_roundg (n - (k + 1))
        case measure => omega
        case rel =>
          refine ⟨k + 1, by omega, by go_num, ?_, hO.trans ((Only.set b _ wr _).trans (Only.set b _ _ _))⟩
          have := HR.out.set hkl ⟨false, 0⟩
          unfold clipK
          rw [← HC.out]; unfold clipC; rw [if_pos c1]
          exact this
      · by_cases c2 : cm < -1099511627776
        · go_wp2_with fail
          go_roundg (n - (k + 1))
          case measure => omega
          case rel =>
            refine ⟨k + 1, by omega, by go_num, ?_, hO.trans (Only.set b _ wr _)⟩
            have := HR.out.setM hkl (-1099511627776)
            unfold clipK
            rw [← HC.out] at this ⊢
            unfold clipC; rw [if_neg (by dsimp only; omega), if_pos (by dsimp only; omega)]
            exact this
        · go_wp2_with fail
          go_roundg (n - (k + 1))
          case measure => omega
          case rel =>
            refine ⟨k + 1, by omega, by go_num, ?_, hO⟩
            have e : clipK l (k + 1) = clipK l k := by
              show (clipK l k).set k (clipC _) = _
              rw [← HC.out]; unfold clipC; rw [if_neg (by dsimp only; omega), if_neg (by dsimp only; omega), HC.out]
              exact set_same hkl
            rw [e]; exact HR.out
    · have hke : k = n := by omega
      subst hke
      have e : clipK l k = l.map clipC := by have := clipK_all l; rwa [← hl.out] at this
      have hR' : RowC wr b off (l.map clipC) := by rw [← e]; exact hR
      clear hR e
      go_wp2_with fail
      refine bodyPost_end (v := .tuple #[]) (by simp [results, Tryz.results28, go_sem]) rfl ⟨rfl, hR', hO⟩

end Go.Proofs.YtbafkjhlogkllaaGreatDoor
