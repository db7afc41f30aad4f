/- Zones: the reference's joins, meets, and what lies in what: walks over any closing. -/
import Derived.Test.YtofjjaabgfmnpaaDoorZg
import Derived.Test.YtofjjaabgfmnpaaDoorZo
import Derived.BigQuiet
import Derived.Deep.CutBlock
namespace Go.Proofs.YtofjjaabgfmnpaaDoor
open Go.RowKit
set_option linter.unusedVariables false

/-- What closing answers: nothing, or a new zone of these cells. -/
def NrPost (w : World) (Ni : Int) (len : Nat) (ok : Prop) (L : List Ce) (e : Ending) (w' : World) : Prop :=
  Below w.heap.size w w' ∧ ((¬ ok ∧ e = .returned (.tuple #[(.agg #[.int .i64 0, .slice none 0 0]), .bool false])) ∨
    (ok ∧ ∃ (g cap : Nat), e = .returned (.tuple #[(.agg #[.int .i64 Ni, (.slice (some ⟨g, 0, none⟩) len cap)]), .bool true]) ∧ w.heap.size ≤ g ∧ (∀ o, w'.frozen? ⟨g, o, none⟩ = false) ∧ RowC w' g 0 L))

/-- Two cells joined. -/
def joinC (a b : Ce) : Ce := if a.h = true ∧ b.h = true then (if a.m < b.m then b else a) else ceZ
def joinK (A B : List Ce) : Nat → List Ce
  | 0 => A
  | k + 1 => (joinK A B k).set k (joinC (A.getD k ceZ) (B.getD k ceZ))
theorem joinK_len (A B : List Ce) (k : Nat) : (joinK A B k).length = A.length := by
  induction k with
  | zero => rfl
  | succ k ih => unfold joinK; rw [List.length_set, ih]
theorem joinK_at (A B : List Ce) (k i : Nat) (hk : k ≤ A.length) : (joinK A B k).getD i ceZ = if i < k then joinC (A.getD i ceZ) (B.getD i ceZ) else A.getD i ceZ := by
  induction k with
  | zero => rw [if_neg (by omega)]; rfl
  | succ k ih =>
    unfold joinK
    rw [getD_set (by rw [joinK_len]; omega)]
    by_cases e : i = k
    · subst e; rw [if_pos rfl, if_pos (by omega)]
    · rw [if_neg e, ih (by omega)]
      by_cases c : i < k
      · rw [if_pos c, if_pos (by omega)]
      · rw [if_neg c, if_neg (by omega)]

/-- What joining answers. -/
def JnPost (w : World) (Ni : Int) (len : Nat) (okA okB : Prop) (A B : List Ce) (e : Ending) (w' : World) : Prop :=
  Below w.heap.size w w' ∧ ((¬ okA ∧ ¬ okB ∧ e = .returned (.tuple #[(.agg #[.int .i64 0, .slice none 0 0]), .bool false])) ∨
    ((okA ∨ okB) ∧ ∃ (g cap : Nat) (L : List Ce), e = .returned (.tuple #[(.agg #[.int .i64 Ni, (.slice (some ⟨g, 0, none⟩) len cap)]), .bool true]) ∧ RowC w' g 0 L ∧ ((¬ okA ∧ L = B) ∨ (okA ∧ ¬ okB ∧ L = A) ∨ (okA ∧ okB ∧ L = joinK A B len))))
set_option maxRecDepth 20000 in
set_option maxHeartbeats 8000000 in
theorem joinedZone_any (N : Int) (x y : Option Addr) (len c c' : Nat) (l m A B : List Ce) (okA okB : Prop) (w : World) (hX : CsAt w x l) (hY : CsAt w y m) (hA : Hid (len = A.length)) (hB : Hid (len = B.length)) (hlen : len ≤ 1000)
    (HA : Hid (∀ W : World, CsAt W x l → Calls Tryd.prog 25 #[(.agg #[.int .i64 N, (.slice x len c)])] W fun e w' => NrPost W N len okA A e w'))
    (HB : Hid (∀ W : World, CsAt W y m → Calls Tryd.prog 25 #[(.agg #[.int .i64 N, (.slice y len c')])] W fun e w' => NrPost W N len okB B e w')) :
    Calls Tryd.prog 31 #[(.agg #[.int .i64 N, (.slice x len c)]), (.agg #[.int .i64 N, (.slice y len c')])] w fun e w' => JnPost w N len okA okB A B e w' := by
  have s0 := (((⟨Below.refl _ _, trivial, ⟨hX, hY⟩, fun _ _ q hb => ⟨hX.stays q.1 hb, hY.stays q.2 hb⟩⟩ : St w w (fun W => CsAt W x l ∧ CsAt W y m) []).box2 24 (.int .i64 N) (.slice x len c)).box2 24 (.int .i64 N) (.slice y len c')).box2 24 (.int .i64 0) (.slice none 0 0)
  simp only [World.size_alloc] at s0
  clear hX hY
  go_enter Tryd.func31, Tryd.ntmps31
  go_wp2_with fail
  refine (HA.out _ s0.sent.1).mono ?_
  rintro e w1 ⟨hb1, h1⟩
  (have s1 := s0.call hb1; have q1 := s1.hold; simp only [Holds, and_true] at q1; clear s0 hb1; try clear q0)
  rcases h1 with ⟨hnoA, rfl⟩ | ⟨hyA, g2, cp2, rfl, hg2, hF2, hR2⟩
  · have s2 := s1.box2 24 (.int .i64 0) (.slice none 0 0)
    go_wp2_with fail
    refine (HB.out _ s2.sent.2).mono ?_
    rintro e w3 ⟨hb3, h3⟩
    have q2 := s2.hold
    simp only [Holds, and_true] at q2
    have sz2 : w.heap.size + 1 + 1 < (w1.alloc (.cells #[.int .i64 0, .slice none 0 0] 24)).heap.size := q2.2.2.1.2.1
    (have s3 := s2.call hb3; have q3 := s3.hold; simp only [Holds, and_true] at q3; clear s2 hb3; try clear q2)
    rcases h3 with ⟨hnoB, rfl⟩ | ⟨hyB, g4, cp4, rfl, hg4, hF4, hR4⟩
    · go_wp2_with fail
      refine bodyPost_ret (v := .tuple #[(.agg #[.int .i64 0, .slice none 0 0]), .bool false]) (by simp [results, Tryd.results31, go_sem, q3]) rfl ⟨?_, .inl ⟨hnoA, hnoB, rfl⟩⟩
      repeat' (first | exact s3.bel | refine Below.setCell ?_ (by first | (simp; done) | (simp; omega)) _ | refine Below.alloc ?_ (by first | (simp; done) | (simp; omega)) _)
    · have hR5 := hR4.below ((Below.refl _ _).alloc (Nat.le_refl _) (.cells #[.int .i64 N, .slice (some ⟨g4, 0, none⟩) len cp4] 24))
      go_wp2_with fail
      refine bodyPost_ret (v := .tuple #[(.agg #[.int .i64 N, (.slice (some ⟨g4, 0, none⟩) len cp4)]), .bool true]) (by simp [results, Tryd.results31, go_sem, q3]) rfl ⟨?_, .inr ⟨.inr hyB, g4, cp4, B, rfl, ?_, .inl ⟨hnoA, rfl⟩⟩⟩
      · repeat' (first | exact s3.bel | refine Below.setCell ?_ (by first | (simp; done) | (simp; omega)) _ | refine Below.alloc ?_ (by first | (simp; done) | (simp; omega)) _)
      · first
        | exact (hR5.other (by show w.heap.size + 1 + 1 ≠ g4; omega) _).other (by show w.heap.size + 1 + 1 ≠ g4; omega) _
        | exact ((hR4.other (p := ⟨w.heap.size + 1 + 1, 0, none⟩) (by show w.heap.size + 1 + 1 ≠ g4; omega) _).other (p := ⟨w.heap.size + 1 + 1, 1, none⟩) (by show w.heap.size + 1 + 1 ≠ g4; omega) _).below ((Below.refl _ _).alloc (Nat.le_refl _) _)
  · have s2 := s1.box2 24 (.int .i64 N) (.slice (some ⟨g2, 0, none⟩) len cp2)
    have hb12 : Below w1.heap.size w1 (w1.alloc (.cells #[.int .i64 N, .slice (some ⟨g2, 0, none⟩) len cp2] 24)) := (Below.refl _ _).alloc (Nat.le_refl _) _
    have hR2' := hR2.below hb12
    have hF2' : ∀ o, (w1.alloc (.cells #[.int .i64 N, .slice (some ⟨g2, 0, none⟩) len cp2] 24)).frozen? ⟨g2, o, none⟩ = false := fun o => (hb12.frozen (p := ⟨g2, o, none⟩) hR2.lt).trans (hF2 o)
    obtain ⟨b6, hb6⟩ : ∃ b, b = w1.heap.size := ⟨_, rfl⟩
    have hgb6 : g2 < b6 := by rw [hb6]; exact hR2.lt
    have sz1 : w.heap.size + 1 + 1 < b6 := by rw [hb6]; exact q1.1.2.1
    simp only [World.size_alloc] at hg2
    go_wp2_with fail
    refine (HB.out _ s2.sent.2).mono ?_
    rintro e w3 ⟨hb3, h3⟩
    have hR3 := hR2'.below hb3
    have hF3 : ∀ o, w3.frozen? ⟨g2, o, none⟩ = false := fun o => (hb3.frozen (p := ⟨g2, o, none⟩) hR2'.lt).trans (hF2' o)
    have sz3 : b6 < w3.heap.size := by have := hb3.size; simp only [World.size_alloc] at this; omega
    rw [← hb6] at s2
    have hgx : b6 + 1 ≤ (w1.alloc (.cells #[.int .i64 N, .slice (some ⟨g2, 0, none⟩) len cp2] 24)).heap.size := by simp only [World.size_alloc]; omega
    (have s3 := s2.call hb3; have q3 := s3.hold; simp only [Holds, and_true] at q3; clear s2 hb3; try clear q2)
    clear hR2 hF2 hR2' hF2' hb12 s1 q1
    rcases h3 with ⟨hnoB, rfl⟩ | ⟨hyB, g4, cp4, rfl, hg4, hF4, hR4⟩
    · have hR5 := hR3.below ((Below.refl _ _).alloc (Nat.le_refl _) (.cells #[.int .i64 0, .slice none 0 0] 24))
      rw [← hb6]
      clear hb6
      go_wp2_with fail
      refine bodyPost_ret (v := .tuple #[(.agg #[.int .i64 N, (.slice (some ⟨g2, 0, none⟩) len cp2)]), .bool true]) (by simp [results, Tryd.results31, go_sem, q3]) rfl ⟨?_, .inr ⟨.inl hyA, g2, cp2, A, rfl, ?_, .inr (.inl ⟨hyA, hnoB, rfl⟩)⟩⟩
      · repeat' (first | exact s3.bel | refine Below.setCell ?_ (by first | (simp; done) | (simp; omega)) _ | refine Below.alloc ?_ (by first | (simp; done) | (simp; omega)) _)
      · first
        | exact (hR5.other (by show w.heap.size + 1 + 1 ≠ g2; omega) _).other (by show w.heap.size + 1 + 1 ≠ g2; omega) _
        | exact ((hR3.other (p := ⟨w.heap.size + 1 + 1, 0, none⟩) (by show w.heap.size + 1 + 1 ≠ g2; omega) _).other (p := ⟨w.heap.size + 1 + 1, 1, none⟩) (by show w.heap.size + 1 + 1 ≠ g2; omega) _).below ((Below.refl _ _).alloc (Nat.le_refl _) _)
    · have s4 := s3.box2 24 (.int .i64 N) (.slice (some ⟨g4, 0, none⟩) len cp4)
      have hb34 : Below w3.heap.size w3 (w3.alloc (.cells #[.int .i64 N, .slice (some ⟨g4, 0, none⟩) len cp4] 24)) := (Below.refl _ _).alloc (Nat.le_refl _) _
      have hR5 := hR3.below hb34
      have hF5 : Hid (∀ o, (w3.alloc (.cells #[.int .i64 N, .slice (some ⟨g4, 0, none⟩) len cp4] 24)).frozen? ⟨g2, o, none⟩ = false) := fun o => (hb34.frozen (p := ⟨g2, o, none⟩) hR3.lt).trans (hF3 o)
      have hR6 := hR4.below hb34
      obtain ⟨b8, hb8⟩ : ∃ b, b = w3.heap.size := ⟨_, rfl⟩
      have hlt4 : g4 < b8 := by rw [hb8]; exact hR4.lt
      have hg24 : g2 < g4 := by omega
      obtain ⟨W4, hW4⟩ : ∃ W, W = w3.alloc (.cells #[.int .i64 N, .slice (some ⟨g4, 0, none⟩) len cp4] 24) := ⟨_, rfl⟩
      rw [← hb8] at s4
      rw [← hW4] at s4 hR5 hF5 hR6
      have st0 : St w W4 (fun _ => True) [(b8, 0, Value.int .i64 N), (b8, 1, Value.slice (some ⟨g4, 0, none⟩) len cp4), (b6, 0, Value.int .i64 N), (b6, 1, Value.slice (some ⟨g2, 0, none⟩) len cp2), (w.heap.size + 1 + 1, 0, Value.int .i64 0), (w.heap.size + 1 + 1, 1, Value.slice none 0 0), (w.heap.size + 1, 0, Value.int .i64 N), (w.heap.size + 1, 1, Value.slice y len c'), (w.heap.size, 0, Value.int .i64 N), (w.heap.size, 1, Value.slice x len c)] := ⟨s4.bel, s4.hold, trivial, fun _ _ _ _ => trivial⟩
      rw [← hb8] at sz3
      clear s3 q3 hR4 hR3 hF3 hF4 hb34 s4
      go_wp2_with fail
      rw [← hb8, ← hW4]
      rw [← hb6]
      clear hW4 hb8 hb6 HA HB
      clear hgx hg4
      go_loopg [10] len (fun gh iv wr => ∃ k : Nat, k + gh = len ∧ iv = .int .i64 k ∧ RowC wr g2 0 (joinK A B k) ∧ RowC wr g4 0 B ∧ Hid (∀ o, wr.frozen? ⟨g2, o, none⟩ = false) ∧ St w wr (fun _ => True) [(b8, 0, Value.int .i64 N), (b8, 1, Value.slice (some ⟨g4, 0, none⟩) len cp4), (b6, 0, Value.int .i64 N), (b6, 1, Value.slice (some ⟨g2, 0, none⟩) len cp2), (w.heap.size + 1 + 1, 0, Value.int .i64 0), (w.heap.size + 1 + 1, 1, Value.slice none 0 0), (w.heap.size + 1, 0, Value.int .i64 N), (w.heap.size + 1, 1, Value.slice y len c'), (w.heap.size, 0, Value.int .i64 N), (w.heap.size, 1, Value.slice x len c)])
      case atStart => exact ⟨0, by omega, rfl, hR5, hR6, hF5, st0⟩
      case round =>
        clear hR5 hR6 hF5 st0
        obtain ⟨k, hkg, rfl, hR, hQ, hF, st⟩ := hrel
        have qs := st.hold
        simp only [Holds, and_true] at qs
        have hlt := hR.lt
        have hlq := hQ.lt
        by_cases hk : k < len
        · have hkn : (k : Int) < (len : Int) := by omega
          have hkA : k < (joinK A B k).length := by rw [joinK_len, ← hA.out]; exact hk
          have hkB : k < B.length := by rw [← hB.out]; exact hk
          obtain ⟨⟨ah, am⟩, ha⟩ : ∃ C, C = A.getD k ceZ := ⟨_, rfl⟩
          obtain ⟨⟨bh, bm⟩, hb⟩ : ∃ C, C = B.getD k ceZ := ⟨_, rfl⟩
          have hAt : (joinK A B k).getD k ceZ = ⟨ah, am⟩ := by rw [joinK_at A B k k (by rw [← hA.out]; omega), if_neg (by omega), ← ha]
          have c1 := hR.has k hkA
          have c2 := hR.most k hkA
          have c3 := hQ.has k hkB
          have c4 := hQ.most k hkB
          rw [hAt] at c1 c2
          rw [← hb] at c3 c4
          have f1 := hF.out (0 + k * 2)
          have f2 := hF.out (0 + k * 2 + 1)
          have Hn : Hid (joinK A B (k + 1) = (joinK A B k).set k (joinC ⟨ah, am⟩ ⟨bh, bm⟩)) := by show (joinK A B k).set k _ = _; rw [← ha, ← hb]
          have Hsame : Hid ((joinK A B k).set k ⟨ah, am⟩ = joinK A B k) := by show _ = _; rw [← hAt]; exact set_same hkA
          have Hset : Hid (∀ C : Ce, RowC ((wr.setCell ⟨g2, 0 + k * 2, none⟩ (.bool C.h)).setCell ⟨g2, 0 + k * 2 + 1, none⟩ (.int .i64 C.m)) g2 0 ((joinK A B k).set k C) ∧ RowC ((wr.setCell ⟨g2, 0 + k * 2, none⟩ (.bool C.h)).setCell ⟨g2, 0 + k * 2 + 1, none⟩ (.int .i64 C.m)) g4 0 B ∧ (∀ o, ((wr.setCell ⟨g2, 0 + k * 2, none⟩ (.bool C.h)).setCell ⟨g2, 0 + k * 2 + 1, none⟩ (.int .i64 C.m)).frozen? ⟨g2, o, none⟩ = false) ∧ St w ((wr.setCell ⟨g2, 0 + k * 2, none⟩ (.bool C.h)).setCell ⟨g2, 0 + k * 2 + 1, none⟩ (.int .i64 C.m)) (fun _ => True) [(b8, 0, Value.int .i64 N), (b8, 1, Value.slice (some ⟨g4, 0, none⟩) len cp4), (b6, 0, Value.int .i64 N), (b6, 1, Value.slice (some ⟨g2, 0, none⟩) len cp2), (w.heap.size + 1 + 1, 0, Value.int .i64 0), (w.heap.size + 1 + 1, 1, Value.slice none 0 0), (w.heap.size + 1, 0, Value.int .i64 N), (w.heap.size + 1, 1, Value.slice y len c'), (w.heap.size, 0, Value.int .i64 N), (w.heap.size, 1, Value.slice x len c)]) := fun C =>
            ⟨hR.set hkA C, (hQ.other (by show g2 ≠ g4; omega) _).other (by show g2 ≠ g4; omega) _, fun o => by rw [frozen?_setCell', frozen?_setCell']; exact hF.out o, st.only ((Only.set g2 _ wr _).trans (Only.set g2 _ _ _)) ⟨by dsimp only; omega, by dsimp only; omega, by dsimp only; omega, by dsimp only; omega, by dsimp only; omega, by dsimp only; omega, by dsimp only; omega, by dsimp only; omega, by dsimp only; omega, by dsimp only; omega, trivial⟩ (by omega)⟩
          have Hb : Hid (B.getD k ceZ = ⟨bh, bm⟩) := hb.symm
          simp only [Nat.zero_add] at c1 c2 c3 c4 f1 f2 Hset
          have HR := hide hR
          have HQ := hide hQ
          clear hR hQ ha hb hAt
          cases ah
          · have hj : joinC ⟨false, am⟩ ⟨bh, bm⟩ = ceZ := by simp [joinC]
            rw [hj] at Hn
            clear hj
            go_wp2_with fail
            go_roundg (len - (k + 1))
            case measure => omega
            case rel => exact ⟨k + 1, by omega, by go_num, by rw [Hn.out]; exact (Hset.out ceZ).1, (Hset.out ceZ).2.1, (Hset.out ceZ).2.2.1, (Hset.out ceZ).2.2.2⟩
          · cases bh
            · have hj : joinC ⟨true, am⟩ ⟨false, bm⟩ = ceZ := by simp [joinC]
              rw [hj] at Hn
              clear hj
              go_wp2_with fail
              go_roundg (len - (k + 1))
              case measure => omega
              case rel => exact ⟨k + 1, by omega, by go_num, by rw [Hn.out]; exact (Hset.out ceZ).1, (Hset.out ceZ).2.1, (Hset.out ceZ).2.2.1, (Hset.out ceZ).2.2.2⟩
            · by_cases hlt' : am < bm
              · have hj : joinC ⟨true, am⟩ ⟨true, bm⟩ = ⟨true, bm⟩ := by simp [joinC, hlt']
                rw [hj] at Hn
                clear hj
                have Hs := hide (Hset.out ⟨true, bm⟩)
                go_wp2_with fail
                go_quiet (fail)
                have bN : Below wr.heap.size wr (wr.drewN nq) := belowN (Below.refl _ _) nq
                have R5 := HR.out.below bN
                have Q5 := HQ.out.below bN
                have F5 : Hid (∀ o, (wr.drewN nq).frozen? ⟨g2, o, none⟩ = false) := fun o => (bN.frozen (p := ⟨g2, o, none⟩) HR.out.lt).trans (hF.out o)
                have st5 := st.call bN
                obtain ⟨W5, hW5⟩ : ∃ W, W = wr.drewN nq := ⟨_, rfl⟩
                rw [← hW5] at R5 Q5 F5 st5 ⊢
                clear hW5 bN HR HQ hF st qs c1 c2 c3 c4 f1 f2 Hset Hs hlt hlq
                have q5 := st5.hold
                simp only [Holds, and_true] at q5
                have hlt := R5.lt
                have hlq := Q5.lt
                have c1 := R5.has k hkA
                have c2 := R5.most k hkA
                have c3 := Q5.has k hkB
                have c4 := Q5.most k hkB
                rw [Hb.out] at c3 c4
                have f1 := F5.out (0 + k * 2)
                have f2 := F5.out (0 + k * 2 + 1)
                have Hset : Hid (∀ W : World, W = W5.drew → RowC ((W.setCell ⟨g2, 0 + k * 2, none⟩ (.bool true)).setCell ⟨g2, 0 + k * 2 + 1, none⟩ (.int .i64 bm)) g2 0 ((joinK A B k).set k ⟨true, bm⟩) ∧ RowC ((W.setCell ⟨g2, 0 + k * 2, none⟩ (.bool true)).setCell ⟨g2, 0 + k * 2 + 1, none⟩ (.int .i64 bm)) g4 0 B ∧ (∀ o, ((W.setCell ⟨g2, 0 + k * 2, none⟩ (.bool true)).setCell ⟨g2, 0 + k * 2 + 1, none⟩ (.int .i64 bm)).frozen? ⟨g2, o, none⟩ = false) ∧ St w ((W.setCell ⟨g2, 0 + k * 2, none⟩ (.bool true)).setCell ⟨g2, 0 + k * 2 + 1, none⟩ (.int .i64 bm)) (fun _ => True) [(b8, 0, Value.int .i64 N), (b8, 1, Value.slice (some ⟨g4, 0, none⟩) len cp4), (b6, 0, Value.int .i64 N), (b6, 1, Value.slice (some ⟨g2, 0, none⟩) len cp2), (w.heap.size + 1 + 1, 0, Value.int .i64 0), (w.heap.size + 1 + 1, 1, Value.slice none 0 0), (w.heap.size + 1, 0, Value.int .i64 N), (w.heap.size + 1, 1, Value.slice y len c'), (w.heap.size, 0, Value.int .i64 N), (w.heap.size, 1, Value.slice x len c)]) := by
                  intro W hW
                  have bD : Below W5.heap.size W5 W5.drew := (Below.refl _ _).drew
                  rw [hW]
                  exact ⟨(R5.below bD).set hkA ⟨true, bm⟩, ((Q5.below bD).other (by show g2 ≠ g4; omega) _).other (by show g2 ≠ g4; omega) _, fun o => by rw [frozen?_setCell', frozen?_setCell']; exact (bD.frozen (p := ⟨g2, o, none⟩) R5.lt).trans (F5.out o), (st5.drew).only ((Only.set g2 _ _ _).trans (Only.set g2 _ _ _)) ⟨by dsimp only; omega, by dsimp only; omega, by dsimp only; omega, by dsimp only; omega, by dsimp only; omega, by dsimp only; omega, by dsimp only; omega, by dsimp only; omega, by dsimp only; omega, by dsimp only; omega, trivial⟩ (by omega)⟩
                simp only [Nat.zero_add] at c1 c2 c3 c4 f1 f2 Hset
                have HR := hide R5
                have HQ := hide Q5
                clear R5 Q5 st5
                go_wp2_with fail
                go_region
                all_goals
                  go_wp2_with fail
                  go_roundg (len - (k + 1))
                  case measure => omega
                  case rel => exact ⟨k + 1, by omega, by go_num, by rw [Hn.out]; exact (Hset.out _ rfl).1, (Hset.out _ rfl).2.1, (Hset.out _ rfl).2.2.1, (Hset.out _ rfl).2.2.2⟩
              · have hj : joinC ⟨true, am⟩ ⟨true, bm⟩ = ⟨true, am⟩ := by simp [joinC, hlt']
                rw [hj, Hsame.out] at Hn
                clear hj
                go_wp2_with fail
                go_quiet (fail)
                go_wp2_with fail
                go_roundg (len - (k + 1))
                case measure => omega
                case rel =>
                  have bN : Below wr.heap.size wr (wr.drewN nq) := belowN (Below.refl _ _) nq
                  exact ⟨k + 1, by omega, by go_num, by rw [Hn.out]; exact HR.out.below bN, HQ.out.below bN, fun o => (bN.frozen (p := ⟨g2, o, none⟩) HR.out.lt).trans (hF.out o), st.call bN⟩
        · have hke : k = len := by omega
          subst hke
          have hkn : ¬ (k : Int) < (k : Int) := by omega
          go_wp2_with fail
          refine bodyPost_ret (v := .tuple #[(.agg #[.int .i64 N, (.slice (some ⟨g2, 0, none⟩) k cp2)]), .bool true]) (by simp [results, Tryd.results31, go_sem, qs]) rfl ⟨?_, .inr ⟨.inl hyA, g2, cp2, _, rfl, ?_, .inr (.inr ⟨hyA, hyB, rfl⟩)⟩⟩
          · repeat' (first | exact st.bel | refine Below.setCell ?_ (by first | (simp; done) | (simp; omega)) _)
          · exact (hR.other (by show w.heap.size + 1 + 1 ≠ g2; omega) _).other (by show w.heap.size + 1 + 1 ≠ g2; omega) _
end Go.Proofs.YtofjjaabgfmnpaaDoor
