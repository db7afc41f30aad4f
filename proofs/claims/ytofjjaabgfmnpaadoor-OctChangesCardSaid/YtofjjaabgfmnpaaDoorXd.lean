/- Zones: the reference's meets, and what lies in what. -/
import Derived.Test.YtofjjaabgfmnpaaDoorXc
namespace Go.Proofs.YtofjjaabgfmnpaaDoor
open Go.RowKit
set_option linter.unusedVariables false

/-- Cells lowered by others, up to k. -/
def metC (a b : Ce) : Ce := if b.h = true then lowC a b.m else a
def metK (A B : List Ce) : Nat → List Ce
  | 0 => A
  | k + 1 => (metK A B k).set k (metC (A.getD k ceZ) (B.getD k ceZ))
theorem metK_len (A B : List Ce) (k : Nat) : (metK A B k).length = A.length := by
  induction k with
  | zero => rfl
  | succ k ih => unfold metK; rw [List.length_set, ih]
theorem metK_at (A B : List Ce) (k i : Nat) (hk : k ≤ A.length) : (metK A B k).getD i ceZ = if i < k then metC (A.getD i ceZ) (B.getD i ceZ) else A.getD i ceZ := by
  induction k with
  | zero => rw [if_neg (by omega)]; rfl
  | succ k ih =>
    unfold metK
    rw [getD_set (by rw [metK_len]; omega)]
    by_cases e : i = k
    · subst e; rw [if_pos rfl, if_pos (by omega)]
    · rw [if_neg e, ih (by omega)]
      by_cases c : i < k
      · rw [if_pos c, if_pos (by omega)]
      · rw [if_neg c, if_neg (by omega)]

theorem Tryd.infoCellM : (Tryd.prog.info? 69).map (fun i => (i.zero, i.size, i.bytes)) = some (some (.agg #[.bool false, .int .i64 0]), 2, 16) := by kernel_rfl
def MtPost (w : World) (Ni : Int) (len : Nat) (L : List Ce) (e : Ending) (w' : World) : Prop :=
  Below w.heap.size w w' ∧ ∃ (g cap : Nat), e = .returned (.agg #[.int .i64 Ni, (.slice (some ⟨g, 0, none⟩) len cap)]) ∧ RowC w' g 0 L
set_option maxRecDepth 20000 in
set_option maxHeartbeats 8000000 in
theorem metZone_any (N : Int) (b off c b' off' c' len : Nat) (A B : List Ce) (w : World) (hR : RowC w b off A) (hQ : RowC w b' off' B) (hA : Hid (len = A.length)) (hB : Hid (len = B.length)) (hlen : 1 ≤ len ∧ len ≤ 1000) :
    Calls Tryd.prog 32 #[(.agg #[.int .i64 N, (.slice (some ⟨b, off, none⟩) len c)]), (.agg #[.int .i64 N, (.slice (some ⟨b', off', none⟩) len c')])] w fun e w' => MtPost w N len (metK A B len) e w' := by
  obtain ⟨i0, hi0, hz0, hz1, hz2⟩ := info_parts Tryd.infoCellM
  have s1 := ((((St.start1' w).box2 24 (.int .i64 N) (.slice (some ⟨b, off, none⟩) len c)).box2 24 (.int .i64 N) (.slice (some ⟨b', off', none⟩) len c')).box2 24 (.int .i64 0) (.slice none 0 0)).box2 24 (.int .i64 N) (.slice none 0 0)
  simp only [World.size_alloc] at s1
  have hR1 := hR.below (s1.bel)
  have hQ1 := hQ.below (s1.bel)
  have hbl := hR.lt
  have hbl' := hQ.lt
  have hnews := hR1.news
  have hcl : (cellsV A).length = len * 2 := by rw [cellsV_len, hA.out]
  have hone := cellsV_one A
  obtain ⟨zs, hzs⟩ : ∃ zs, zs = cellsV A := ⟨_, rfl⟩
  rw [← hzs] at hnews hcl hone
  have Hzs := hide hzs
  clear hzs hR1 hR hQ
  go_enter Tryd.func32, Tryd.ntmps32
  go_wp2_with (at_builtin; refine wpList_append_lies _ rfl _ _ 22 rfl w.heap.size 69 i0 _ 2 16 Tryd.underlying22 hi0 hz0 hz1 hz2 rfl (by decide) _ _ _ rfl (World.ownsRow_nil _ _ _ _) ⟨b, off, none⟩ len c zs rfl hcl hnews hone (by omega) (by unfold maxLen; omega) (by omega) (by simp; omega) (w.heap.size + 1 + 1 + 1 + 1) (by simp) ?_)
  intro g cap w1 own1 hgrow hat hlt1
  have hg : g = w.heap.size + 1 + 1 + 1 + 1 := by
    rcases hat with h | h
    · simp [Value.ownBlock] at h
    · exact h
  have hb1 := (Below.refl _ _).grown hgrow (Nat.le_refl _) (fun j hj => by simp [Value.ownBlock] at hj)
  have s2 := s1.call hb1
  have Q2 := hQ1.below hb1
  have own2 : w1.ownsRow w.heap.size 69 2 (.slice (some ⟨g, 0, none⟩) len cap) len (cellsV A) := by
    have := own1
    rw [Hzs.out] at this
    exact this
  obtain ⟨R2, F2⟩ := RowC.of_own own2 hA.out hlt1
  have q2 := s2.hold
  simp only [Holds, and_true] at q2
  have s3 := s2.put21 (by omega) ⟨by dsimp only; omega, by dsimp only; omega, by dsimp only; omega, by dsimp only; omega, by dsimp only; omega, by dsimp only; omega, trivial⟩ (.slice (some ⟨g, 0, none⟩) len cap)
  have R3 := R2.other (p := ⟨w.heap.size + 1 + 1 + 1, 1, none⟩) (by show w.heap.size + 1 + 1 + 1 ≠ g; omega) (.slice (some ⟨g, 0, none⟩) len cap)
  have Q3 := Q2.other (p := ⟨w.heap.size + 1 + 1 + 1, 1, none⟩) (by show w.heap.size + 1 + 1 + 1 ≠ b'; omega) (.slice (some ⟨g, 0, none⟩) len cap)
  have F3 : Hid (∀ o, (w1.setCell ⟨w.heap.size + 1 + 1 + 1, 1, none⟩ (.slice (some ⟨g, 0, none⟩) len cap)).frozen? ⟨g, o, none⟩ = false) := fun o => by rw [frozen?_setCell']; exact F2 o
  have hgb : w.heap.size + 1 + 1 + 1 < g := by omega
  clear hg hat hgrow own1 own2 R2 Q2 F2 hb1 hnews hcl hone hlt1 hi0 hz0 hz1 hz2 hQ1
  go_wp2_with fail
  obtain ⟨W3, hW3⟩ : ∃ W, W = w1.setCell ⟨w.heap.size + 1 + 1 + 1, 1, none⟩ (.slice (some ⟨g, 0, none⟩) len cap) := ⟨_, rfl⟩
  rw [← hW3] at s3 R3 F3 Q3 ⊢
  clear hW3 q2 s2 s1 Hzs
  go_loopg [6] len (fun gh iv wr => ∃ k : Nat, k + gh = len ∧ iv = .int .i64 k ∧ RowC wr g 0 (metK A B k) ∧ RowC wr b' off' B ∧ Hid (∀ o, wr.frozen? ⟨g, o, none⟩ = false) ∧ St w wr (fun _ => True) [(w.heap.size + 1 + 1 + 1, 0, Value.int .i64 N), (w.heap.size + 1 + 1 + 1, 1, Value.slice (some ⟨g, 0, none⟩) len cap), (w.heap.size + 1 + 1, 0, Value.int .i64 0), (w.heap.size + 1 + 1, 1, Value.slice none 0 0), (w.heap.size + 1, 0, Value.int .i64 N), (w.heap.size + 1, 1, Value.slice (some ⟨b', off', none⟩) len c'), (w.heap.size, 0, Value.int .i64 N), (w.heap.size, 1, Value.slice (some ⟨b, off, none⟩) len c)])
  case atStart => exact ⟨0, by omega, rfl, R3, Q3, F3, s3⟩
  case round =>
    clear R3 Q3 F3 s3
    obtain ⟨k, hkg, rfl, hR, hQ, hF, st⟩ := hrel
    have qs := st.hold
    simp only [Holds, and_true] at qs
    have hlt := hR.lt
    have hlq := hQ.lt
    by_cases hk : k < len
    · have hkn : (k : Int) < (len : Int) := by omega
      have hkA : k < (metK A B k).length := by rw [metK_len, ← hA.out]; exact hk
      have hkB : k < B.length := by rw [← hB.out]; exact hk
      obtain ⟨⟨bh, bm⟩, hb⟩ : ∃ C, C = B.getD k ceZ := ⟨_, rfl⟩
      have c3 := hQ.has k hkB
      have c4 := hQ.most k hkB
      rw [← hb] at c3 c4
      have hAt : (metK A B k).getD k ceZ = A.getD k ceZ := by rw [metK_at A B k k (by rw [← hA.out]; omega), if_neg (by omega)]
      have Hn : Hid (metK A B (k + 1) = (metK A B k).set k (metC ((metK A B k).getD k ceZ) ⟨bh, bm⟩)) := by show (metK A B k).set k _ = _; rw [hAt, ← hb]
      have hKl : Hid (len = (metK A B k).length) := by show _ = _; rw [metK_len]; exact hA.out
      obtain ⟨M, hM⟩ : ∃ M, M = metK A B k := ⟨_, rfl⟩
      rw [← hM] at hR Hn hKl hkA
      have HLw : Hid (∀ (W : World), RowC W g 0 M → (∀ o, W.frozen? ⟨g, o, none⟩ = false) → Calls Tryd.prog 61 #[.slice (some ⟨g, 0, none⟩) len cap, .int .i64 k, .int .i64 bm] W fun e w' => (e = .returned (.bool (lowR (M.getD k ceZ) bm))) ∧ RowC w' g 0 (lowL M k bm) ∧ Only g W w') := by
        intro W h1 h2
        exact lower_as g 0 len cap k k bm rfl M hKl hk (by omega) W h1 h2
      clear hb hAt hM
      cases bh
      · have hj : M.set k (metC (M.getD k ceZ) ⟨false, bm⟩) = M := by simp only [metC, Bool.false_eq_true, if_false]; exact set_same hkA
        rw [hj] at Hn
        clear hj
        go_wp2_with fail
        go_roundg (len - (k + 1))
        case measure => omega
        case rel => exact ⟨k + 1, by omega, by go_num, by rw [Hn.out]; exact hR, hQ, hF, st⟩
      · have hj : M.set k (metC (M.getD k ceZ) ⟨true, bm⟩) = lowL M k bm := by simp only [metC, if_true]; rfl
        rw [hj] at Hn
        clear hj
        have bD : Below wr.heap.size wr wr.drew := (Below.refl _ _).drew
        have R5 := hR.below bD
        have F5 : ∀ o, wr.drew.frozen? ⟨g, o, none⟩ = false := fun o => (bD.frozen (p := ⟨g, o, none⟩) hR.lt).trans (hF.out o)
        go_wp2_with fail
        go_region_with (go_at_call 61; refine (HLw.out _ R5 F5).mono ?_; rintro e w2 ⟨rfl, hR2, hO⟩)
        all_goals
          go_wp2_with fail
          go_roundg (len - (k + 1))
          case measure => omega
          case rel => exact ⟨k + 1, by omega, by go_num, by rw [Hn.out]; exact hR2, (by have q := hQ.below bD; exact ⟨by rw [hO.size]; exact q.lt, fun i hi => (hO.cell ⟨b', off' + i * 2, none⟩ (by show b' ≠ g; omega)).trans (q.has i hi), fun i hi => (hO.cell ⟨b', off' + i * 2 + 1, none⟩ (by show b' ≠ g; omega)).trans (q.most i hi)⟩), fun o => (hO.fr _).trans (F5 o), st.drew.only hO ⟨by dsimp only; omega, by dsimp only; omega, by dsimp only; omega, by dsimp only; omega, by dsimp only; omega, by dsimp only; omega, by dsimp only; omega, by dsimp only; omega, trivial⟩ (by omega)⟩
    · have hke : k = len := by omega
      subst hke
      have hkn : ¬ (k : Int) < (k : Int) := by omega
      go_wp2_with fail
      refine bodyPost_ret (v := (.agg #[.int .i64 N, (.slice (some ⟨g, 0, none⟩) k cap)])) (by simp [results, Tryd.results32, go_sem, qs]) rfl ⟨?_, g, cap, rfl, ?_⟩
      · repeat' (first | exact st.bel | refine Below.setCell ?_ (by first | (simp; done) | (simp; omega)) _)
      · exact (hR.other (by show w.heap.size + 1 + 1 ≠ g; omega) _).other (by show w.heap.size + 1 + 1 ≠ g; omega) _
end Go.Proofs.YtofjjaabgfmnpaaDoor
