/- Zones: the reference: does one lie in another one? -/
import Derived.Test.YtofjjaabgfmnpaaDoorXc
import Derived.Test.YtofjjaabgfmnpaaDoorYc
namespace Go.Proofs.YtofjjaabgfmnpaaDoor
open Go.RowKit
set_option linter.unusedVariables false

def inC (a b : Ce) : Prop := b.h = true → a.h = true ∧ a.m ≤ b.m
def InPost (w : World) (len : Nat) (ok : Prop) (A B : List Ce) (e : Ending) (w' : World) : Prop :=
  ∃ r : Bool, e = .returned (.bool r) ∧ (r = true ↔ (ok → ∀ i, i < len → inC (A.getD i ceZ) (B.getD i ceZ))) ∧ Below w.heap.size w w'
theorem InPost.no {w : World} {len : Nat} {ok : Prop} {A B : List Ce} {w' : World} (h : ok) {k : Nat} (hk : k < len) (hn : ¬ inC (A.getD k ceZ) (B.getD k ceZ)) (hb : Below w.heap.size w w') : InPost w len ok A B (.returned (.bool false)) w' :=
  ⟨false, rfl, ⟨fun h => Bool.noConfusion h, fun k' => absurd (k' h k hk) hn⟩, hb⟩
theorem InPost.yes {w : World} {len : Nat} {ok : Prop} {A B : List Ce} {w' : World} (h : ok → ∀ i, i < len → inC (A.getD i ceZ) (B.getD i ceZ)) (hb : Below w.heap.size w w') : InPost w len ok A B (.returned (.bool true)) w' :=
  ⟨true, rfl, ⟨fun _ => h, fun _ => rfl⟩, hb⟩
set_option maxRecDepth 20000 in
set_option maxHeartbeats 8000000 in
theorem zoneIn_any (N : Int) (x : Option Addr) (b' off' len c c' : Nat) (l A B : List Ce) (ok : Prop) (w : World) (hX : CsAt w x l) (hY : RowC w b' off' B) (hA : Hid (len = A.length)) (hB : Hid (len = B.length)) (hlen : len ≤ 1000)
    (HA : Hid (∀ W : World, CsAt W x l → Calls Tryd.prog 25 #[(.agg #[.int .i64 N, (.slice x len c)])] W fun e w' => NrPost W N len ok A e w')) :
    Calls Tryd.prog 33 #[(.agg #[.int .i64 N, (.slice x len c)]), (.agg #[.int .i64 N, (.slice (some ⟨b', off', none⟩) len c')])] w fun e w' => InPost w len ok A B e w' := by
  have s0 := ((⟨Below.refl _ _, trivial, ⟨hX, hY⟩, fun _ _ q hb => ⟨hX.stays q.1 hb, RowC.stays hY.lt q.2 hb⟩⟩ : St w w (fun W => CsAt W x l ∧ RowC W b' off' B) []).box2 24 (.int .i64 N) (.slice x len c)).box2 24 (.int .i64 N) (.slice (some ⟨b', off', none⟩) len c')
  simp only [World.size_alloc] at s0
  clear hX hY
  go_enter Tryd.func33, Tryd.ntmps33
  go_wp2_with fail
  refine (HA.out _ s0.sent.1).mono ?_
  rintro e w1 ⟨hb1, h1⟩
  (have s1 := s0.call hb1; have q1 := s1.hold; simp only [Holds, and_true] at q1; clear s0 hb1; try clear q0)
  rcases h1 with ⟨hnoA, rfl⟩ | ⟨hyA, g2, cp2, rfl, hg2, hF2, hR2⟩
  · go_wp2_with fail
    go_ret
    exact InPost.yes (fun h => absurd h hnoA) (s1.bel.alloc (by have := s1.bel.size; omega) _)
  · have s2 := s1.box2 24 (.int .i64 N) (.slice (some ⟨g2, 0, none⟩) len cp2)
    have hR3 := hR2.below ((Below.refl _ _).alloc (Nat.le_refl _) (.cells #[.int .i64 N, .slice (some ⟨g2, 0, none⟩) len cp2] 24))
    have hbW := s2.bel
    have s3 := s2.re.both (Y := fun W => RowC W g2 0 A) hR3 (fun _ _ q hb => RowC.stays hR3.lt q hb)
    obtain ⟨b5, hb5⟩ : ∃ b, b = w1.heap.size := ⟨_, rfl⟩
    obtain ⟨W3, hW3⟩ : ∃ W, W = w1.alloc (.cells #[.int .i64 N, .slice (some ⟨g2, 0, none⟩) len cp2] 24) := ⟨_, rfl⟩
    rw [← hW3, ← hb5] at s3
    rw [← hW3] at hbW
    clear s2 s1 q1 hR2 hR3 hF2
    go_wp2_with fail
    rw [← hb5, ← hW3]
    clear hb5 hW3
    go_loopg [7] len (fun gh iv wr => ∃ k : Nat, k + gh = len ∧ iv = .int .i64 k ∧ Hid (∀ i, i < k → inC (A.getD i ceZ) (B.getD i ceZ)) ∧ St W3 wr (fun W => (CsAt W x l ∧ RowC W b' off' B) ∧ RowC W g2 0 A) [(b5, 0, Value.int .i64 N), (b5, 1, Value.slice (some ⟨g2, 0, none⟩) len cp2), (w.heap.size + 1, 0, Value.int .i64 N), (w.heap.size + 1, 1, Value.slice (some ⟨b', off', none⟩) len c'), (w.heap.size, 0, Value.int .i64 N), (w.heap.size, 1, Value.slice x len c)])
    case atStart => exact ⟨0, by omega, rfl, fun i h => by omega, s3⟩
    case round =>
      clear s3
      obtain ⟨k, hkg, rfl, hI, st⟩ := hrel
      have qs := st.hold
      simp only [Holds, and_true] at qs
      have hR := st.sent.2
      have hQ := st.sent.1.2
      have hlt := hR.lt
      have hlq := hQ.lt
      by_cases hk : k < len
      · have hkn : (k : Int) < (len : Int) := by omega
        have hkA : k < A.length := by rw [← hA.out]; exact hk
        have hkB : k < B.length := by rw [← hB.out]; exact hk
        obtain ⟨⟨ah, am⟩, ha⟩ : ∃ C, C = A.getD k ceZ := ⟨_, rfl⟩
        obtain ⟨⟨bh, bm⟩, hb⟩ : ∃ C, C = B.getD k ceZ := ⟨_, rfl⟩
        have c1 := hR.has k hkA
        have c2 := hR.most k hkA
        have c3 := hQ.has k hkB
        have c4 := hQ.most k hkB
        rw [← ha] at c1 c2
        rw [← hb] at c3 c4
        simp only [Nat.zero_add] at c1 c2
        have Ha := hide ha
        have Hb := hide hb
        have hnext : Hid (inC ⟨ah, am⟩ ⟨bh, bm⟩ → ∀ i, i < k + 1 → inC (A.getD i ceZ) (B.getD i ceZ)) := by
          intro h i hi
          by_cases e : i = k
          · subst e; rw [← Ha.out, ← Hb.out]; exact h
          · exact hI.out i (by omega)
        have hno : Hid (¬ inC ⟨ah, am⟩ ⟨bh, bm⟩ → ∀ w' : World, Below W3.heap.size W3 w' → InPost w len ok A B (.returned (.bool false)) w') := by
          intro h w' hb'
          refine InPost.no hyA hk ?_ (hbW.trans (hb'.mono hbW.size))
          rw [← Ha.out, ← Hb.out]; exact h
        clear ha hb hR hQ
        cases bh
        · go_wp2_with fail
          go_quiet (fail)
          go_wp2_with fail
          go_roundg (len - (k + 1))
          case measure => omega
          case rel => exact ⟨k + 1, by omega, by go_num, fun i hi => hnext.out (fun h => Bool.noConfusion h) i hi, st.call (belowN (Below.refl _ _) nq)⟩
        · cases ah
          · go_wp2_with fail
            go_quiet (fail)
            go_wp2_with fail
            go_ret
            exact hno.out (fun h => Bool.noConfusion (h rfl).1) _ (belowN st.bel _)
          · by_cases hgt : bm < am
            · go_wp2_with fail
              go_quiet (fail)
              go_wp2_with fail
              go_ret
              exact hno.out (fun h => by have := (h rfl).2; dsimp only at this; omega) _ (belowN st.bel _)
            · go_wp2_with fail
              go_quiet (fail)
              go_wp2_with fail
              go_roundg (len - (k + 1))
              case measure => omega
              case rel => exact ⟨k + 1, by omega, by go_num, fun i hi => hnext.out (fun _ => ⟨rfl, by dsimp only; omega⟩) i hi, st.call (belowN (Below.refl _ _) nq)⟩
      · have hke : k = len := by omega
        subst hke
        have hkn : ¬ (k : Int) < (k : Int) := by omega
        go_wp2_with fail
        go_ret
        exact InPost.yes (fun _ i hi => hI.out i hi) (hbW.trans (st.bel.mono hbW.size))
end Go.Proofs.YtofjjaabgfmnpaaDoor
