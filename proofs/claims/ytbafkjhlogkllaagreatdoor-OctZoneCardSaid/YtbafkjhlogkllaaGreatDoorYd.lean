/- Zones: the program's squares: closed. -/
import Derived.Test.YtbafkjhlogkllaaGreatDoorYc
namespace Go.Proofs.YtbafkjhlogkllaaGreatDoor
open Go.RowKit
set_option linter.unusedVariables false

def begF (f : Nat → Nat → Int) (i j : Nat) : Int := if i = j then minI 0 (f i j) else f i j
theorem enters_beg : Enters 85 := enters_of Tryz.func85 (by kernel_rfl) rfl
set_option maxRecDepth 20000 in
set_option maxHeartbeats 2000000 in
theorem beg_asks (n g cp len bg : Nat) (f : Nat → Nat → Int) (w : World) (s : St w w (GZ g n f) ((bg, 0, Value.int .i64 n) :: (bg, 1, Value.slice (some ⟨g, 0, none⟩) len cp) :: [])) (hl : Hid (len = n * n)) (hn : n ≤ 8) :
    Asks 85 #[.pointer (some ⟨bg, 0, none⟩)] w n (begF f) := by
  intro W i j hb hi hj
  have sW := (s.call hb).re
  obtain ⟨z, hz⟩ : ∃ z, z = begF f i j := ⟨_, rfl⟩
  rw [← hz]
  obtain ⟨v, hv⟩ : ∃ v, v = f i j := ⟨_, rfl⟩
  have HA : Hid (∀ (W : World), GrI W g n f → Calls Tryz.prog 70 #[(.agg #[.int .i64 n, (.slice (some ⟨g, 0, none⟩) len cp)]), .int .i64 i, .int .i64 j] W fun e w' => e = .returned (.int .i64 v) ∧ Below W.heap.size W w') := fun W h => by rw [hv]; exact at_any n g cp len i j f W h hl hi hj hn
  have q0 := sW.hold
  simp only [Holds, and_true] at q0
  have Hz : Hid (z = if i = j then minI 0 v else v) := by show _ = _; rw [hz, hv]; rfl
  clear s hz hv hl hb
  show Calls _ _ #[.int .i64 i, .int .i64 j, .pointer (some ⟨bg, 0, none⟩)] _ _
  by_cases e : i = j
  · subst e
    rcases (by omega : v < 0 ∨ 0 ≤ v) with h0 | h0
    all_goals
      go_enter Tryz.func85, Tryz.ntmps85
      go_wp2_with fail
      refine (HA.out _ sW.sent).mono ?_
      rintro e w1 ⟨rfl, hb1⟩
      go_wp2_with fail
      go_ret
      exact ⟨ret_int (by rw [Hz.out]; simp [minI]; try omega), hb1⟩
  · have hne : ¬ (i : Int) = (j : Int) := by omega
    have hneb : ((i : Int) == (j : Int)) = false := by simp; omega
    go_enter Tryz.func85, Tryz.ntmps85
    go_wp2_with fail
    refine (HA.out _ sW.sent).mono ?_
    rintro e w1 ⟨rfl, hb1⟩
    go_wp2_with fail
    go_ret
    exact ⟨ret_int (by rw [Hz.out, if_neg (by omega)]), hb1⟩

theorem beg_enc {n m : Nat} {d : Mat} (hS : Sz n m d) (hm : 2 * m ≤ 2305843009213693952) {i j : Nat} (hi : i < n) (hj : j < n) : begF (encM d) i j = encM (fw d 0) i j := by
  show (if i = j then minI 0 (encB (d i j)) else encB (d i j)) = encB (start d i j)
  unfold start
  split
  · have h1 := hS.ok (by omega) hi hj
    rw [enc_min h1 (fun v hv => by simp at hv; subst hv; simp)]
    unfold minI
    have := enc_rng h1
    show _ = if (0 : Int) < encB (d i j) then (0 : Int) else encB (d i j)
    split <;> split <;> omega
  · rfl
theorem thr_enc {n m : Nat} {d : Mat} (hS : Sz n m d) (hm : 2 * m ≤ 2305843009213693952) {i j k : Nat} (hi : i < n) (hj : j < n) (hk : k < n) : thrF (encM d) k i j = encM (step k d) i j := by
  show minI (encB (d i j)) (plusI (encB (d i k)) (encB (d k j))) = encB (minB (d i j) (addB (d i k) (d k j)))
  have h1 := hS.ok (by omega) hi hj
  have h2 := hS.ok (by omega) hi hk
  have h3 := hS.ok (by omega) hk hj
  have h4 : OkB (addB (d i k) (d k j)) := by
    intro v hv
    cases e1 : d i k with
    | none => rw [e1] at hv; cases hv
    | some a =>
      cases e2 : d k j with
      | none => rw [e1, e2] at hv; cases hv
      | some b =>
        rw [e1, e2] at hv
        have := hS i k hi hk a e1
        have := hS k j hk hj b e2
        have : a + b = v := by simpa [addB] using hv
        omega
  rw [enc_min h1 h4, enc_add h2 h3]
  rfl
theorem plus_ok {n m : Nat} {d : Mat} (hS : Sz n m d) (hm : 2 * m ≤ 2305843009213693952) {i j k : Nat} (hi : i < n) (hj : j < n) (hk : k < n) : plusOk (encM d i k) (encM d k j) := by
  have h2 := enc_sum (hS.ok (show m ≤ 2305843009213693952 by omega) hi hk)
  have h3 := enc_sum (hS.ok (show m ≤ 2305843009213693952 by omega) hk hj)
  show encB (d i k) = _ ∨ encB (d k j) = _ ∨ _
  unfold encM
  omega
theorem GrPost.congr {w : World} {n len : Nat} {f f' : Nat → Nat → Int} {e : Ending} {w' : World} (h : GrPost w n len f e w') (k : ∀ i j, i < n → j < n → f i j = f' i j) : GrPost w n len f' e w' := by
  obtain ⟨g, cp, h1, h2, h3, h4⟩ := h
  exact ⟨g, cp, h1, h2, h3.congr k, h4⟩
theorem through_mat (n g cp len k m : Nat) (d : Mat) (w : World) (hG : GrI w g n (encM d)) (hl : Hid (len = n * n)) (hk : k < n) (hn : n ≤ 8) (hS : Sz n m d) (hm : 2 * m ≤ 2305843009213693952) :
    Calls Tryz.prog 86 #[(.agg #[.int .i64 n, (.slice (some ⟨g, 0, none⟩) len cp)]), .int .i64 k] w fun e w' => GrPost w n len (encM (step k d)) e w' :=
  (through_any n g cp len k (encM d) w hG hl hk hn (fun i j hi hj => plus_ok hS hm hi hj hk)).mono fun _ _ h => h.congr fun i j hi hj => thr_enc hS hm hi hj hk

/-- What closing answers. -/
def ClPost (w : World) (n len : Nat) (d : Mat) (e : Ending) (w' : World) : Prop :=
  Below w.heap.size w w' ∧ ((¬ NoNeg n (fw d n) ∧ e = .returned (.tuple #[(.agg #[.int .i64 0, (.slice none 0 0)]), .bool false])) ∨
    (NoNeg n (fw d n) ∧ ∃ g cp, e = .returned (.tuple #[(.agg #[.int .i64 n, (.slice (some ⟨g, 0, none⟩) len cp)]), .bool true]) ∧ w.heap.size ≤ g ∧ GrI w' g n (encM (fw d n))))

/-- Is nothing in the diagonal below 0? -/
def SoPost (w : World) (n : Nat) (d : Mat) (e : Ending) (w' : World) : Prop := ∃ b : Bool, e = .returned (.bool b) ∧ (b = true ↔ NoNeg n d) ∧ Below w.heap.size w w'
theorem enc_neg {n m : Nat} {d : Mat} (hS : Sz n m d) (hm : m ≤ 2305843009213693952) {k : Nat} (hk : k < n) : encM d k k < 0 ↔ ¬ leB (some 0) (d k k) := by
  have := enc_le (a := some 0) (fun v hv => by simp at hv; subst hv; simp) (hS.ok hm hk hk)
  rw [← this]
  show encB _ < 0 ↔ ¬ (0 : Int) ≤ encB _
  omega
set_option maxRecDepth 20000 in
set_option maxHeartbeats 4000000 in
theorem sound_any (n g cp len m : Nat) (d : Mat) (w : World) (hG : GrI w g n (encM d)) (hl : Hid (len = n * n)) (hn : n ≤ 8) (hS : Hid (Sz n m d)) (hm : m ≤ 2305843009213693952) :
    Calls Tryz.prog 73 #[(.agg #[.int .i64 n, (.slice (some ⟨g, 0, none⟩) len cp)])] w fun e w' => SoPost w n d e w' := by
  have s0 := (St.startG hG).box2 62 (.int .i64 n) (.slice (some ⟨g, 0, none⟩) len cp)
  have HA : Hid (∀ (W : World) (k : Nat), k < n → GrI W g n (encM d) → Calls Tryz.prog 70 #[(.agg #[.int .i64 n, (.slice (some ⟨g, 0, none⟩) len cp)]), .int .i64 k, .int .i64 k] W fun e w' => e = .returned (.int .i64 (encM d k k)) ∧ Below W.heap.size W w') := fun W k hk h =>
    at_any n g cp len k k _ W h hl hk hk hn
  have HD : Hid (∀ k, k < n → (encM d k k < 0 ↔ ¬ leB (some 0) (d k k))) := fun k hk => enc_neg hS.out hm hk
  have q0 := s0.hold
  simp only [Holds, and_true] at q0
  clear hG hS
  go_enter Tryz.func73, Tryz.ntmps73
  go_wp2_with fail
  go_loopg [6] n (fun gh pv wx => ∃ (p : Nat), p + gh = n ∧ pv = .int .i64 p ∧ Hid (∀ p', p' < p → leB (some 0) (d p' p')) ∧ St w wx (GZ g n (encM d)) [(w.heap.size, 0, Value.int .i64 n), (w.heap.size, 1, (.slice (some ⟨g, 0, none⟩) len cp))])
  case atStart => exact ⟨0, by omega, rfl, fun p' h => by omega, s0⟩
  case round =>
    clear s0 q0
    obtain ⟨p, hpg, rfl, hpos, st⟩ := hrel
    have qs := st.hold
    simp only [Holds, and_true] at qs
    by_cases hp : p < n
    · have hp' : (p : Int) < (n : Int) := by omega
      obtain ⟨v, hv⟩ : ∃ v, v = encM d p p := ⟨_, rfl⟩
      have HA1 : Hid (∀ (W : World), GrI W g n (encM d) → Calls Tryz.prog 70 #[(.agg #[.int .i64 n, (.slice (some ⟨g, 0, none⟩) len cp)]), .int .i64 p, .int .i64 p] W fun e w' => e = .returned (.int .i64 v) ∧ Below W.heap.size W w') := fun W h => by rw [hv]; exact HA.out W p hp h
      have hd := HD.out p hp
      rw [← hv] at hd
      have Hd := hide hd
      clear hv hd
      by_cases h0 : v < 0
      · go_wp2_with fail
        refine (HA1.out _ st.sent).mono ?_
        rintro e w2 ⟨rfl, hb2⟩
        have s2 := st.call hb2
        clear st qs hb2
        go_wp2_with fail
        go_ret
        exact ⟨false, rfl, ⟨fun h => (Bool.noConfusion h), fun N => absurd (N p hp) (Hd.out.1 h0)⟩, s2.bel⟩
      · go_wp2_with fail
        refine (HA1.out _ st.sent).mono ?_
        rintro e w2 ⟨rfl, hb2⟩
        have s2 := st.call hb2
        have q2 := s2.hold
        simp only [Holds, and_true] at q2
        clear st qs hb2
        go_wp2_with fail
        go_roundg (n - (p + 1))
        case measure => omega
        case rel =>
          refine ⟨p + 1, by omega, by go_num, ?_, s2⟩
          intro p' hp'
          by_cases e : p' = p
          · subst e
            apply Classical.byContradiction
            intro h
            exact absurd (Hd.out.2 h) (by omega)
          · exact hpos.out p' (by omega)
    · have hpe : p = n := by omega
      subst hpe
      have hp' : ¬ (p : Int) < (p : Int) := by omega
      go_wp2_with fail
      go_ret
      exact ⟨true, rfl, ⟨fun _ i hi => hpos.out i hi, fun _ => rfl⟩, st.bel⟩

set_option maxRecDepth 20000 in
set_option maxHeartbeats 4000000 in
theorem closed_any (n g cp len m : Nat) (d : Mat) (w : World) (hG : GrI w g n (encM d)) (hl : Hid (len = n * n)) (hn : n ≤ 8) (hS : Hid (Sz n m d)) (hm : 512 * m ≤ 2305843009213693952) :
    Calls Tryz.prog 66 #[(.agg #[.int .i64 n, (.slice (some ⟨g, 0, none⟩) len cp)])] w fun e w' => ClPost w n len d e w' := by
  have s0 := ((St.startG hG).box2 62 (.int .i64 n) (.slice (some ⟨g, 0, none⟩) len cp)).box2 62 (.int .i64 0) (.slice none 0 0)
  simp only [World.size_alloc] at s0
  have HO : Hid (∀ W : World, St W W (GZ g n (encM d)) [(w.heap.size, 0, Value.int .i64 n), (w.heap.size, 1, (.slice (some ⟨g, 0, none⟩) len cp))] → Calls Tryz.prog 46 #[.int .i64 n, .func (.func 85) #[] #[.pointer (some ⟨w.heap.size, 0, none⟩)]] W fun e w' => GrPost W n len (encM (fw d 0)) e w') := fun W h =>
    (of_any _ _ n len _ W hl hn enters_beg (beg_asks n g cp len w.heap.size (encM d) W h hl hn)).mono fun _ _ k => k.congr fun i j hi hj => beg_enc hS.out (by omega) hi hj
  have HT : Hid (∀ (W : World) (g1 cp1 k : Nat), k < n → GrI W g1 n (encM (fw d k)) → Calls Tryz.prog 86 #[(.agg #[.int .i64 n, (.slice (some ⟨g1, 0, none⟩) len cp1)]), .int .i64 k] W fun e w' => GrPost W n len (encM (fw d (k + 1))) e w') := fun W g1 cp1 k hk h =>
    through_mat n g1 cp1 len k (256 * m) (fw d k) W h hl hk hn (hS.out.fw8 hn (by omega)) (by omega)
  have HO2 : Hid (∀ (W : World) (g1 cp1 : Nat), GrI W g1 n (encM (fw d n)) → Calls Tryz.prog 73 #[(.agg #[.int .i64 n, (.slice (some ⟨g1, 0, none⟩) len cp1)])] W fun e w' => SoPost W n (fw d n) e w') := fun W g1 cp1 h =>
    sound_any n g1 cp1 len (256 * m) _ W h hl hn (hS.out.fw8 hn (Nat.le_refl n)) (by omega)
  clear hG hS
  go_enter Tryz.func66, Tryz.ntmps66
  go_wp2_with fail
  refine (HO.out _ (s0.re.drop 2)).mono ?_
  rintro e w1 ⟨g1, cp1, rfl, hg1, hG1, hb1⟩
  have s1 := (s0.call hb1)
  have q1 := s1.hold
  simp only [Holds, and_true] at q1
  have sz1 := hb1.size
  simp only [World.size_alloc] at hg1 sz1
  have s2 := s1.box2 62 (.int .i64 n) (.slice (some ⟨g1, 0, none⟩) len cp1)
  have hG2 := hG1.below ((Below.refl _ _).alloc (Nat.le_refl _) (.cells #[.int .i64 n, .slice (some ⟨g1, 0, none⟩) len cp1] 62))
  obtain ⟨b4, hb4⟩ : ∃ b, b = w1.heap.size := ⟨_, rfl⟩
  rw [← hb4] at s2 sz1
  have hg4 : g1 ≠ b4 := by have := hG1.lt; omega
  clear s0 s1 HO hb1 hG1
  go_wp2_with fail
  rw [← hb4]
  clear hb4 q1
  go_loopg [12] n (fun gh kv wr => ∃ (k g1 cp1 : Nat), k + gh = n ∧ kv = .int .i64 k ∧ g1 ≠ b4 ∧ w.heap.size + 1 + 1 ≤ g1 ∧ GrI wr g1 n (encM (fw d k)) ∧ St w wr (GZ g n (encM d)) [(b4, 0, Value.int .i64 n), (b4, 1, Value.slice (some ⟨g1, 0, none⟩) len cp1), (w.heap.size + 1, 0, Value.int .i64 0), (w.heap.size + 1, 1, Value.slice none 0 0), (w.heap.size, 0, Value.int .i64 n), (w.heap.size, 1, (.slice (some ⟨g, 0, none⟩) len cp))])
  case atStart => exact ⟨0, g1, cp1, by omega, rfl, hg4, by omega, hG2, s2⟩
  case round =>
    clear s2 hG2 hg4 hg1
    obtain ⟨k, g1, cp1, hkg, rfl, hg4, hg1, hG1, st⟩ := hrel
    have qs := st.hold
    simp only [Holds, and_true] at qs
    by_cases hk : k < n
    · have hk' : (k : Int) < (n : Int) := by omega
      go_wp2_with fail
      refine (HT.out _ g1 cp1 k hk hG1).mono ?_
      rintro e w2 ⟨g2, cp2, rfl, hg2, hG2, hb2⟩
      have s2 := st.call hb2
      have q2 := s2.hold
      simp only [Holds, and_true] at q2
      have hb4 : b4 < wr.heap.size := qs.1.2.1
      have s3 := (s2.put20 (by omega) ⟨by dsimp only; omega, by dsimp only; omega, by dsimp only; omega, by dsimp only; omega, trivial⟩ (.int .i64 n)).put21 (by omega) ⟨by dsimp only; omega, by dsimp only; omega, by dsimp only; omega, by dsimp only; omega, trivial⟩ (.slice (some ⟨g2, 0, none⟩) len cp2)
      have hG3 := (hG2.other (p := ⟨b4, 0, none⟩) (by show b4 ≠ g2; omega) (.int .i64 n)).other (p := ⟨b4, 1, none⟩) (by show b4 ≠ g2; omega) (.slice (some ⟨g2, 0, none⟩) len cp2)
      clear st qs hb2 s2
      go_wp2_with fail
      go_roundg (n - (k + 1))
      case measure => omega
      case rel => exact ⟨k + 1, g2, cp2, by omega, by go_num, by omega, by omega, hG3, s3⟩
    · have hkn : k = n := by omega
      subst hkn
      have hk' : ¬ (k : Int) < (k : Int) := by omega
      go_wp2_with fail
      refine (HO2.out _ g1 cp1 hG1).mono ?_
      rintro e w2 ⟨q, rfl, hq, hb2⟩
      have s2 := st.call hb2
      have q2 := s2.hold
      simp only [Holds, and_true] at q2
      have hG2 := hG1.below hb2
      have Hq := hide hq
      clear st qs hb2 hq
      cases q
      · go_wp2_with fail
        refine bodyPost_ret (v := .tuple #[(.agg #[.int .i64 0, (.slice none 0 0)]), .bool false]) (by simp [results, Tryz.results66, go_sem, q2]) rfl ⟨?_, .inl ⟨fun N => Bool.noConfusion (Hq.out.2 N), rfl⟩⟩
        iterate 2 refine Below.setCell ?_ (by first | (simp; done) | (simp; omega)) _
        exact s2.bel
      · go_wp2_with fail
        refine bodyPost_ret (v := .tuple #[(.agg #[.int .i64 k, (.slice (some ⟨g1, 0, none⟩) len cp1)]), .bool true]) (by simp [results, Tryz.results66, go_sem, q2]) rfl ⟨?_, .inr ⟨Hq.out.1 trivial, g1, cp1, rfl, by omega, ?_⟩⟩
        · iterate 2 refine Below.setCell ?_ (by first | (simp; done) | (simp; omega)) _
          exact s2.bel
        · exact (hG2.other (by show w.heap.size + 1 ≠ g1; omega) _).other (by show w.heap.size + 1 ≠ g1; omega) _

end Go.Proofs.YtbafkjhlogkllaaGreatDoor
