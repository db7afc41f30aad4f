/- Zones: one bound more (zone.guarded). -/
import Derived.Test.YtofjjaabgfmnpaaDoorYc
import Derived.Test.YtofjjaabgfmnpaaDoorYg
namespace Go.Proofs.YtofjjaabgfmnpaaDoor
open Go.RowKit
set_option linter.unusedVariables false

def guF (f : Nat → Nat → Int) (i j : Nat) (c : Int) (p q : Nat) : Int := if p = i ∧ q = j then minI (f i j) c else f p q
theorem enters_gu : Enters 119 := enters_of Tryd.func119 (by kernel_rfl) rfl
set_option maxRecDepth 20000 in
set_option maxHeartbeats 4000000 in
theorem gu_asks (n g cp len i j bi bj bg bc : Nat) (c : Int) (f : Nat → Nat → Int) (w : World) (s : St w w (GZ g n f) ((bi, 0, Value.int .i64 i) :: (bj, 0, Value.int .i64 j) :: (bg, 0, Value.int .i64 n) :: (bg, 1, Value.slice (some ⟨g, 0, none⟩) len cp) :: (bc, 0, Value.int .i64 c) :: [])) (hl : Hid (len = n * n)) (hi : i < n) (hj : j < n) (hn : n ≤ 8) :
    Asks 119 #[.pointer (some ⟨bi, 0, none⟩), .pointer (some ⟨bj, 0, none⟩), .pointer (some ⟨bg, 0, none⟩), .pointer (some ⟨bc, 0, none⟩)] w n (guF f i j c) := by
  intro W p q hb hp hq
  have sW := (s.call hb).re
  obtain ⟨z, hz⟩ : ∃ z, z = guF f i j c p q := ⟨_, rfl⟩
  rw [← hz]
  have Hz := hide hz
  have q0 := sW.hold
  simp only [Holds, and_true] at q0
  clear s hz hb
  show Calls _ _ #[.int .i64 p, .int .i64 q, .pointer (some ⟨bi, 0, none⟩), .pointer (some ⟨bj, 0, none⟩), .pointer (some ⟨bg, 0, none⟩), .pointer (some ⟨bc, 0, none⟩)] _ _
  by_cases e1 : p = i
  · subst e1
    by_cases e2 : q = j
    · subst e2
      obtain ⟨v, hv⟩ : ∃ v, v = f p q := ⟨_, rfl⟩
      have HA : Hid (∀ (W : World), GrI W g n f → Calls Tryd.prog 97 #[(.agg #[.int .i64 n, (.slice (some ⟨g, 0, none⟩) len cp)]), .int .i64 p, .int .i64 q] W fun e w' => e = .returned (.int .i64 v) ∧ Below W.heap.size W w') := fun W h => by rw [hv]; exact at_any n g cp len p q f W h hl hp hq hn
      have Hz' : Hid (z = if c < v then c else v) := by show _ = _; rw [Hz.out, hv]; simp [guF, minI]
      clear hv Hz hl
      go_enter Tryd.func119, Tryd.ntmps119
      go_wp2_with fail
      go_region_held3 (fun w' => w'.cell? ⟨bi, 0, none⟩ = some (.int .i64 p) ∧ w'.cell? ⟨bj, 0, none⟩ = some (.int .i64 q) ∧ w'.cell? ⟨bg, 0, none⟩ = some (.int .i64 n) ∧ w'.cell? ⟨bg, 1, none⟩ = some (.slice (some ⟨g, 0, none⟩) len cp) ∧ w'.cell? ⟨bc, 0, none⟩ = some (.int .i64 c) ∧ St W w' (GZ g n f) ((bi, 0, Value.int .i64 p) :: (bj, 0, Value.int .i64 q) :: (bg, 0, Value.int .i64 n) :: (bg, 1, Value.slice (some ⟨g, 0, none⟩) len cp) :: (bc, 0, Value.int .i64 c) :: []))
        (first | (exact keepSt0 ((bi, 0, Value.int .i64 p) :: (bj, 0, Value.int .i64 q) :: (bg, 0, Value.int .i64 n) :: (bg, 1, Value.slice (some ⟨g, 0, none⟩) len cp) :: (bc, 0, Value.int .i64 c) :: []) sW.drew) | (exact keepSt ((bi, 0, Value.int .i64 p) :: (bj, 0, Value.int .i64 q) :: (bg, 0, Value.int .i64 n) :: (bg, 1, Value.slice (some ⟨g, 0, none⟩) len cp) :: (bc, 0, Value.int .i64 c) :: []) (by assumption) (by assumption)) | assumption)
        (first
          | (go_at_call 97; refine (HA.out _ (keepG (w := W) ((bi, 0, Value.int .i64 p) :: (bj, 0, Value.int .i64 q) :: (bg, 0, Value.int .i64 n) :: (bg, 1, Value.slice (some ⟨g, 0, none⟩) len cp) :: (bc, 0, Value.int .i64 c) :: []) (by assumption))).mono ?_; rintro e w2 ⟨rfl, hb2⟩)
          | (refine step_min (by rfl) _ _ 3 (by rfl) v c z (by rfl) (by rfl) Hz'.out ?_))
      go_wp2_with fail
      go_ret
      exact ⟨rfl, keepSt_bel (w := W) ((bi, 0, Value.int .i64 p) :: (bj, 0, Value.int .i64 q) :: (bg, 0, Value.int .i64 n) :: (bg, 1, Value.slice (some ⟨g, 0, none⟩) len cp) :: (bc, 0, Value.int .i64 c) :: []) (by assumption)⟩
    · have HA : Hid (∀ (W : World), GrI W g n f → Calls Tryd.prog 97 #[(.agg #[.int .i64 n, (.slice (some ⟨g, 0, none⟩) len cp)]), .int .i64 p, .int .i64 q] W fun e w' => e = .returned (.int .i64 z) ∧ Below W.heap.size W w') := fun W h => by
        rw [Hz.out]; unfold guF; rw [if_neg (fun k => e2 k.2)]; exact at_any n g cp len p q f W h hl hp hq hn
      have e2' : ¬ (q : Int) = (j : Int) := by omega
      have e2b : ((q : Int) == (j : Int)) = false := by simp; omega
      clear Hz hl
      go_enter Tryd.func119, Tryd.ntmps119
      go_wp2_with fail
      refine (HA.out _ sW.sent).mono ?_
      rintro e w1 ⟨rfl, hb1⟩
      go_wp2_with fail
      go_ret
      exact ⟨rfl, hb1⟩
  · have HA : Hid (∀ (W : World), GrI W g n f → Calls Tryd.prog 97 #[(.agg #[.int .i64 n, (.slice (some ⟨g, 0, none⟩) len cp)]), .int .i64 p, .int .i64 q] W fun e w' => e = .returned (.int .i64 z) ∧ Below W.heap.size W w') := fun W h => by
      rw [Hz.out]; unfold guF; rw [if_neg (fun k => e1 k.1)]; exact at_any n g cp len p q f W h hl hp hq hn
    have e1' : ¬ (p : Int) = (i : Int) := by omega
    have e1b : ((p : Int) == (i : Int)) = false := by simp; omega
    clear Hz hl
    go_enter Tryd.func119, Tryd.ntmps119
    go_wp2_with fail
    refine (HA.out _ sW.sent).mono ?_
    rintro e w1 ⟨rfl, hb1⟩
    go_wp2_with fail
    go_ret
    exact ⟨rfl, hb1⟩

set_option maxRecDepth 20000 in
set_option maxHeartbeats 2000000 in
theorem guarded_any (n g cp len i j : Nat) (c : Int) (f : Nat → Nat → Int) (w : World) (hG : GrI w g n f) (hl : Hid (len = n * n)) (hi : i < n) (hj : j < n) (hn : n ≤ 8) :
    Calls Tryd.prog 108 #[(.agg #[.int .i64 n, (.slice (some ⟨g, 0, none⟩) len cp)]), .int .i64 i, .int .i64 j, .int .i64 c] w fun e w' => GrPost w n len (guF f i j c) e w' := by
  have s0 := (((((St.startG hG).box2 84 (.int .i64 n) (.slice (some ⟨g, 0, none⟩) len cp)).box1 3 (.int .i64 i)).box1 3 (.int .i64 j)).box1 3 (.int .i64 c)).box2 84 (.int .i64 0) (.slice none 0 0)
  simp only [World.size_alloc] at s0
  obtain ⟨F, hF⟩ : ∃ F, F = guF f i j c := ⟨_, rfl⟩
  have HO : Hid (∀ W : World, St W W (GZ g n f) [(w.heap.size + 1 + 1 + 1, 0, Value.int .i64 c), (w.heap.size + 1 + 1, 0, Value.int .i64 j), (w.heap.size + 1, 0, Value.int .i64 i), (w.heap.size, 0, Value.int .i64 n), (w.heap.size, 1, (.slice (some ⟨g, 0, none⟩) len cp))] → Calls Tryd.prog 85 #[.int .i64 n, .func (.func 119) #[] #[.pointer (some ⟨w.heap.size + 1, 0, none⟩), .pointer (some ⟨w.heap.size + 1 + 1, 0, none⟩), .pointer (some ⟨w.heap.size, 0, none⟩), .pointer (some ⟨w.heap.size + 1 + 1 + 1, 0, none⟩)]] W fun e w' => GrPost W n len F e w') := by
    intro W h
    rw [hF]
    refine of_any _ _ n len _ W hl hn enters_gu (gu_asks n g cp len i j _ _ _ _ c f W ⟨h.bel, ?_, h.sent, h.cl⟩ hl hi hj hn)
    have := h.hold
    exact ⟨this.2.2.1, this.2.1, this.2.2.2.1, this.2.2.2.2.1, this.1, trivial⟩
  rw [← hF]
  clear hF hG hl
  go_enter Tryd.func108, Tryd.ntmps108
  go_wp2_with fail
  refine (HO.out _ (s0.re.drop 2)).mono ?_
  rintro e w1 ⟨g1, cp1, rfl, hg1, hG1, hb1⟩
  have s1 := s0.call hb1
  have q1 := s1.hold
  simp only [Holds, and_true] at q1
  simp only [World.size_alloc] at hg1
  clear s0 hb1
  go_wp2_with fail
  refine bodyPost_ret (v := (.agg #[.int .i64 n, (.slice (some ⟨g1, 0, none⟩) len cp1)])) (by simp [results, Tryd.results108, go_sem, q1]) rfl ⟨g1, cp1, rfl, by omega, ?_, ?_⟩
  · exact (hG1.other (by show w.heap.size + 1 + 1 + 1 + 1 ≠ g1; omega) _).other (by show w.heap.size + 1 + 1 + 1 + 1 ≠ g1; omega) _
  · iterate 2 refine Below.setCell ?_ (by first | (simp; done) | (simp; omega)) _
    exact s1.bel

def grdM (d : Mat) (i j : Nat) (c : Int) : Mat := setM d i j (minB (d i j) (some c))
theorem gu_enc {n m : Nat} {d : Mat} (hS : Sz n m d) (hm : m ≤ 2305843009213693952) {i j : Nat} (hi : i < n) (hj : j < n) {c : Int} (hc : c.natAbs ≤ 2305843009213693952) (p q : Nat) : guF (encM d) i j c p q = encM (grdM d i j c) p q := by
  show (if p = i ∧ q = j then minI (encB (d i j)) c else encB (d p q)) = encB (setM d i j (minB (d i j) (some c)) p q)
  unfold setM
  split
  · rw [enc_min (hS.ok hm hi hj) (fun v hv => by simp at hv; subst hv; exact hc)]
    rfl
  · rfl
theorem sz_grd {n m : Nat} {d : Mat} (hS : Sz n m d) {i j : Nat} (hi : i < n) (hj : j < n) {c : Int} (hc : c.natAbs ≤ m) : Sz n m (grdM d i j c) := by
  intro p q hp hq v hv
  unfold grdM setM at hv
  split at hv
  · rcases minB_cases (d i j) (some c) with e | e
    · rw [e] at hv; exact hS i j hi hj v hv
    · rw [e] at hv
      obtain rfl : c = v := by simpa using hv
      exact hc
  · exact hS p q hp hq v hv

end Go.Proofs.YtofjjaabgfmnpaaDoor
