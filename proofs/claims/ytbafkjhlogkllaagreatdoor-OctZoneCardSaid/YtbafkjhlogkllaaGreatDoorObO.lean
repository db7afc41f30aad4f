/- Octagons: opposites, tops, tight squares (the program's). -/
import Derived.Test.YtbafkjhlogkllaaGreatDoorYd
import Derived.Test.YtbafkjhlogkllaaGreatDoorYgO
import Derived.Test.YtbafkjhlogkllaaGreatDoorOa
import Derived.BigQuiet
namespace Go.Proofs.YtbafkjhlogkllaaGreatDoor.Oc
open Go.RowKit
set_option linter.unusedVariables false

set_option maxHeartbeats 1000000 in
theorem opposite_any (i : Nat) (hi : i < 10) (w : World) :
    Calls Tryz.prog 48 #[.int .i64 i] w fun e w' => e = .returned (.int .i64 (bar i)) ∧ w' = w := by
  rcases (by omega : i = 0 ∨ i = 1 ∨ i = 2 ∨ i = 3 ∨ i = 4 ∨ i = 5 ∨ i = 6 ∨ i = 7 ∨ i = 8 ∨ i = 9) with rfl | rfl | rfl | rfl | rfl | rfl | rfl | rfl | rfl | rfl
  all_goals
    go_enter Tryz.func48, Tryz.ntmps48
    go_wp2
    go_ret
    exact ⟨by rfl, rfl⟩

def topI (f : Nat → Nat → Int) (i : Nat) : Int := if f (bar i) i = 9223372036854775807 then 9223372036854775807 else f (bar i) i / 2
set_option maxRecDepth 20000 in
set_option maxHeartbeats 2000000 in
theorem top_any (n g cp len i : Nat) (f : Nat → Nat → Int) (w : World) (hG : GrI w g n f) (hl : Hid (len = n * n)) (hi : i < n) (hn : n ≤ 8) (he : n % 2 = 0) :
    Calls Tryz.prog 72 #[(.agg #[.int .i64 n, (.slice (some ⟨g, 0, none⟩) len cp)]), .int .i64 i] w fun e w' => e = .returned (.int .i64 (topI f i)) ∧ Below w.heap.size w w' := by
  have s0 := (St.startG hG).box2 62 (.int .i64 n) (.slice (some ⟨g, 0, none⟩) len cp)
  obtain ⟨v, hv⟩ : ∃ v, v = f (bar i) i := ⟨_, rfl⟩
  obtain ⟨b, hb⟩ : ∃ b, b = bar i := ⟨_, rfl⟩
  have HA : Hid (∀ (W : World), GrI W g n f → Calls Tryz.prog 70 #[(.agg #[.int .i64 n, (.slice (some ⟨g, 0, none⟩) len cp)]), .int .i64 b, .int .i64 i] W fun e w' => e = .returned (.int .i64 v) ∧ Below W.heap.size W w') := fun W h => by rw [hv, hb]; exact at_any n g cp len (bar i) i f W h hl (bar_lt he hi) hi hn
  have HO : Hid (∀ W : World, Calls Tryz.prog 48 #[.int .i64 i] W fun e w' => e = .returned (.int .i64 b) ∧ w' = W) := fun W => by rw [hb]; exact opposite_any i (by omega) W
  have hT : topI f i = if v = 9223372036854775807 then 9223372036854775807 else v / 2 := by unfold topI; rw [← hv]
  rw [hT]
  have q0 := s0.hold
  simp only [Holds, and_true] at q0
  clear hG hl hv hb hT
  by_cases h1 : v = 9223372036854775807
  · subst h1
    go_enter Tryz.func72, Tryz.ntmps72
    go_wp2_with fail
    go_region_with (first
      | (go_at_call 48; refine (HO.out _).mono ?_; rintro e w1 ⟨rfl, hw1⟩; rw [hw1]; clear hw1)
      | (go_at_call 70; refine (HA.out _ s0.drew.sent).mono ?_; rintro e w2 ⟨rfl, hb2⟩; have s2 := s0.drew.call hb2))
    all_goals
      go_wp2_with fail
      go_ret
      exact ⟨by simp, s2.bel⟩
  · have h1b : (v == 9223372036854775807) = false := by simp [h1]
    rw [if_neg h1]
    go_enter Tryz.func72, Tryz.ntmps72
    go_wp2_with fail
    go_region_with (first
      | (go_at_call 48; refine (HO.out _).mono ?_; rintro e w1 ⟨rfl, hw1⟩; rw [hw1]; clear hw1)
      | (go_at_call 70; refine (HA.out _ s0.drew.sent).mono ?_; rintro e w2 ⟨rfl, hb2⟩; have s2 := s0.drew.call hb2))
    all_goals
      go_wp2_with fail
      go_ret
      exact ⟨by rfl, s2.bel⟩

def tigF (f : Nat → Nat → Int) (i j : Nat) : Int := minI (f i j) (plusI (topI f (bar i)) (topI f j))
theorem enters_tig : Enters 69 := enters_of Tryz.func69 (by kernel_rfl) rfl
set_option maxRecDepth 20000 in
set_option maxHeartbeats 4000000 in
theorem tig_asks (n g cp len bg : Nat) (f : Nat → Nat → Int) (w : World) (s : St w w (GZ g n f) ((bg, 0, Value.int .i64 n) :: (bg, 1, Value.slice (some ⟨g, 0, none⟩) len cp) :: [])) (hl : Hid (len = n * n)) (hn : n ≤ 8) (he : n % 2 = 0) (hP : Hid (∀ i j, i < n → j < n → plusOk (topI f (bar i)) (topI f j))) :
    Asks 69 #[.pointer (some ⟨bg, 0, none⟩)] w n (tigF f) := by
  intro W i j hb hi hj
  have sW := (s.call hb).re
  obtain ⟨z, hz⟩ : ∃ z, z = tigF f i j := ⟨_, rfl⟩
  rw [← hz]
  obtain ⟨b, hbb⟩ : ∃ b, b = bar i := ⟨_, rfl⟩
  have hbn : b < n := by rw [hbb]; exact bar_lt he hi
  obtain ⟨p, hp⟩ : ∃ p, p = plusI (topI f b) (topI f j) := ⟨_, rfl⟩
  have Hz : Hid (z = if p < f i j then p else f i j) := by show _ = _; rw [hz, hp, hbb]; rfl
  have HP : Hid (∀ W : World, Calls Tryz.prog 71 #[.int .i64 (topI f b), .int .i64 (topI f j)] W fun e w' => e = .returned (.int .i64 p) ∧ w' = W) := fun W => by rw [hp]; exact plus_any _ _ W (by rw [hbb]; exact hP.out i j hi hj)
  have HA : Hid (∀ (W : World), GrI W g n f → Calls Tryz.prog 70 #[(.agg #[.int .i64 n, (.slice (some ⟨g, 0, none⟩) len cp)]), .int .i64 i, .int .i64 j] W fun e w' => e = .returned (.int .i64 (f i j)) ∧ Below W.heap.size W w') := fun W h => at_any n g cp len i j f W h hl hi hj hn
  have HT : Hid (∀ (W : World) (k : Nat), k = b ∨ k = j → GrI W g n f → Calls Tryz.prog 72 #[(.agg #[.int .i64 n, (.slice (some ⟨g, 0, none⟩) len cp)]), .int .i64 k] W fun e w' => e = .returned (.int .i64 (topI f k)) ∧ Below W.heap.size W w') := fun W k hk h => top_any n g cp len k f W h hl (by rcases hk with rfl | rfl <;> assumption) hn he
  have HO : Hid (∀ W : World, Calls Tryz.prog 48 #[.int .i64 i] W fun e w' => e = .returned (.int .i64 b) ∧ w' = W) := fun W => by rw [hbb]; exact opposite_any i (by omega) W
  have q0 := sW.hold
  simp only [Holds, and_true] at q0
  clear s hP hz hp hl hb hbb
  show Calls _ _ #[.int .i64 i, .int .i64 j, .pointer (some ⟨bg, 0, none⟩)] _ _
  go_enter Tryz.func69, Tryz.ntmps69
  go_wp2_with fail
  go_region_held3 (fun w' => w'.cell? ⟨bg, 0, none⟩ = some (.int .i64 n) ∧ w'.cell? ⟨bg, 1, none⟩ = some (.slice (some ⟨g, 0, none⟩) len cp) ∧ St W w' (GZ g n f) ((bg, 0, Value.int .i64 n) :: (bg, 1, Value.slice (some ⟨g, 0, none⟩) len cp) :: []))
    (first | (exact keepSt0 ((bg, 0, Value.int .i64 n) :: (bg, 1, Value.slice (some ⟨g, 0, none⟩) len cp) :: []) sW.drew) | (exact keepSt ((bg, 0, Value.int .i64 n) :: (bg, 1, Value.slice (some ⟨g, 0, none⟩) len cp) :: []) (by assumption) (by assumption)) | assumption)
    (first
      | (go_at_call 70; refine (HA.out _ (keepG (w := W) ((bg, 0, Value.int .i64 n) :: (bg, 1, Value.slice (some ⟨g, 0, none⟩) len cp) :: []) (by assumption))).mono ?_; rintro e w2 ⟨rfl, hb2⟩)
      | (go_at_call 48; refine (HO.out _).mono ?_; rintro e w2 ⟨rfl, rfl⟩)
      | (go_at_call 72; refine (HT.out _ _ (by first | exact .inl rfl | exact .inr rfl) (keepG (w := W) ((bg, 0, Value.int .i64 n) :: (bg, 1, Value.slice (some ⟨g, 0, none⟩) len cp) :: []) (by assumption))).mono ?_; rintro e w2 ⟨rfl, hb2⟩)
      | (go_at_call 71; refine (HP.out _).mono ?_; rintro e w2 ⟨rfl, rfl⟩)
      | (refine step_min (by rfl) _ _ 3 (by rfl) (f i j) p z (by rfl) (by rfl) Hz.out ?_))
  go_wp2_with fail
  go_ret
  exact ⟨rfl, keepSt_bel (w := W) ((bg, 0, Value.int .i64 n) :: (bg, 1, Value.slice (some ⟨g, 0, none⟩) len cp) :: []) (by assumption)⟩

theorem ok_top {n m : Nat} {d : Mat} (hS : Sz n m d) (he : n % 2 = 0) {i : Nat} (hi : i < n) : ∀ v, topB d i = some v → v.natAbs ≤ m := by
  intro v hv
  unfold topB halfB at hv
  cases e : d (bar i) i with
  | none => rw [e] at hv; cases hv
  | some u =>
    rw [e] at hv
    have := hS _ _ (bar_lt he hi) hi u e
    simp at hv
    omega
theorem top_enc {n m : Nat} {d : Mat} (hS : Sz n m d) (hm : m ≤ 2305843009213693952) (he : n % 2 = 0) {i : Nat} (hi : i < n) : topI (encM d) i = encB (topB d i) := by
  unfold topI topB
  show (if encB (d (bar i) i) = _ then _ else encB (d (bar i) i) / 2) = _
  cases e : d (bar i) i with
  | none => simp [encB, halfB]
  | some v =>
    have := hS _ _ (bar_lt he hi) hi v e
    have hv : v ≠ 9223372036854775807 := by omega
    simp [encB, halfB, hv]
theorem tig_ok {n m : Nat} {d : Mat} (hS : Sz n m d) (hm : m ≤ 1152921504606846976) (he : n % 2 = 0) {i j : Nat} (hi : i < n) (hj : j < n) : plusOk (topI (encM d) (bar i)) (topI (encM d) j) := by
  rw [top_enc hS (by omega) he (bar_lt he hi), top_enc hS (by omega) he hj]
  have h2 := enc_sum (b := topB d (bar i)) (fun v hv => by have := ok_top hS he (bar_lt he hi) v hv; omega)
  have h3 := enc_sum (b := topB d j) (fun v hv => by have := ok_top hS he hj v hv; omega)
  unfold plusOk
  omega
theorem tig_enc {n m : Nat} {d : Mat} (hS : Sz n m d) (hm : 2 * m ≤ 2305843009213693952) (he : n % 2 = 0) {i j : Nat} (hi : i < n) (hj : j < n) : tigF (encM d) i j = encM (tigM d) i j := by
  unfold tigF
  rw [top_enc hS (by omega) he (bar_lt he hi), top_enc hS (by omega) he hj]
  show minI (encB (d i j)) (plusI _ _) = encB (minB (d i j) (addB _ _))
  have o1 : OkB (topB d (bar i)) := fun v hv => by have := ok_top hS he (bar_lt he hi) v hv; omega
  have o2 : OkB (topB d j) := fun v hv => by have := ok_top hS he hj v hv; omega
  have h4 : OkB (addB (topB d (bar i)) (topB d j)) := by
    intro v hv
    cases e1 : topB d (bar i) with
    | none => rw [e1] at hv; cases hv
    | some a =>
      cases e2 : topB d j with
      | none => rw [e1, e2] at hv; cases hv
      | some b =>
        rw [e1, e2] at hv
        have := ok_top hS he (bar_lt he hi) a e1
        have := ok_top hS he hj b e2
        have : a + b = v := by simpa [addB] using hv
        omega
  rw [enc_min (hS.ok (by omega) hi hj) h4, enc_add o1 o2]
  rfl
theorem sz_tig {n m : Nat} {d : Mat} (hS : Sz n m d) (he : n % 2 = 0) : Sz n (2 * m) (tigM d) := by
  intro i j hi hj v hv
  unfold tigM at hv
  rcases minB_cases (d i j) (addB (topB d (bar i)) (topB d j)) with e | e
  · rw [e] at hv
    have := hS i j hi hj v hv
    omega
  · rw [e] at hv
    cases e1 : topB d (bar i) with
    | none => rw [e1] at hv; cases hv
    | some a =>
      cases e2 : topB d j with
      | none => rw [e1, e2] at hv; cases hv
      | some b =>
        rw [e1, e2] at hv
        have := ok_top hS he (bar_lt he hi) a e1
        have := ok_top hS he hj b e2
        have : a + b = v := by simpa [addB] using hv
        omega
theorem sz_tg {n m : Nat} {d : Mat} (hS : Sz n m d) (hn : n ≤ 8) (he : n % 2 = 0) : Sz n (512 * m) (tg n d) := by
  have h := hS.fw8 hn (Nat.le_refl n)
  unfold tg
  split
  · exact (sz_tig h he).mono (by omega)
  · exact h.mono (by omega)

/-- What tight answers. -/
def TgPost (w : World) (n len : Nat) (d : Mat) (e : Ending) (w' : World) : Prop :=
  Below w.heap.size w w' ∧ ((¬ NoNeg n (tg n d) ∧ e = .returned (.tuple #[(.agg #[.int .i64 0, (.slice none 0 0)]), .bool false])) ∨
    (NoNeg n (tg n d) ∧ ∃ g cp, e = .returned (.tuple #[(.agg #[.int .i64 n, (.slice (some ⟨g, 0, none⟩) len cp)]), .bool true]) ∧ w.heap.size ≤ g ∧ GrI w' g n (encM (tg n d))))

set_option maxRecDepth 20000 in
set_option maxHeartbeats 4000000 in
theorem tight_any (n g cp len m : Nat) (d : Mat) (w : World) (hG : GrI w g n (encM d)) (hl : Hid (len = n * n)) (hnn : n % 2 = 0 ∧ n ≤ 8) (hS : Hid (Sz n m d)) (hm : 1024 * m ≤ 1152921504606846976) :
    Calls Tryz.prog 43 #[(.agg #[.int .i64 n, (.slice (some ⟨g, 0, none⟩) len cp)])] w fun e w' => TgPost w n len d e w' := by
  obtain ⟨he, hn⟩ := hnn
  have s0 := ((St.startG hG).box2 62 (.int .i64 n) (.slice (some ⟨g, 0, none⟩) len cp)).box2 62 (.int .i64 0) (.slice none 0 0)
  simp only [World.size_alloc] at s0
  have HC : Hid (∀ W : World, GrI W g n (encM d) → Calls Tryz.prog 66 #[(.agg #[.int .i64 n, (.slice (some ⟨g, 0, none⟩) len cp)])] W fun e w' => ClPost W n len d e w') := fun W h => closed_any n g cp len m d W h hl hn hS (by omega)
  have hSf := hS.out.fw8 hn (Nat.le_refl n)
  have HO : Hid (∀ (W : World) (b g1 cp1 : Nat), St W W (GZ g1 n (encM (fw d n))) [(b, 0, Value.int .i64 n), (b, 1, Value.slice (some ⟨g1, 0, none⟩) len cp1)] → Calls Tryz.prog 46 #[.int .i64 n, .func (.func 69) #[] #[.pointer (some ⟨b, 0, none⟩)]] W fun e w' => GrPost W n len (encM (tigM (fw d n))) e w') := fun W b g1 cp1 h =>
    (of_any _ _ n len _ W hl hn enters_tig (tig_asks n g1 cp1 len b _ W h hl hn he (fun i j hi hj => tig_ok hSf (by omega) he hi hj))).mono fun _ _ k => k.congr fun i j hi hj => tig_enc hSf (by omega) he hi hj
  have HS : Hid (∀ W : World, Calls Tryz.prog 68 #[(.agg #[.int .i64 n, (.slice (some ⟨g, 0, none⟩) len cp)])] W fun e w' => e = .returned (.int .i64 n) ∧ Below W.heap.size W w') := fun W => size_any n .nilIface rfl g len cp W
  have HSo : Hid (∀ (W : World) (g1 cp1 : Nat), GrI W g1 n (encM (tigM (fw d n))) → Calls Tryz.prog 73 #[(.agg #[.int .i64 n, (.slice (some ⟨g1, 0, none⟩) len cp1)])] W fun e w' => SoPost W n (tigM (fw d n)) e w') := fun W g1 cp1 h =>
    sound_any n g1 cp1 len (2 * (256 * m)) _ W h hl hn (sz_tig hSf he) (by omega)
  have q0 := s0.hold
  simp only [Holds, and_true] at q0
  clear hG hS hl hSf
  go_enter Tryz.func43, Tryz.ntmps43
  go_wp2_with fail
  refine (HC.out _ s0.sent).mono ?_
  rintro e w1 ⟨hb1, h1⟩
  have s1 := s0.call hb1
  have q1 := s1.hold
  simp only [Holds, and_true] at q1
  have sz1 := hb1.size
  simp only [World.size_alloc] at sz1
  clear s0 hb1 HC q0
  rcases h1 with ⟨hno, rfl⟩ | ⟨hyes, g1, cp1, rfl, hg1, hG1⟩
  · have hno' : Hid (¬ NoNeg n (tg n d)) := fun h => hno (tg_nn.1 h).1
    go_wp2_with fail
    refine bodyPost_ret (v := .tuple #[(.agg #[.int .i64 0, (.slice none 0 0)]), .bool false]) (by simp [results, Tryz.results43, go_sem, q1]) rfl ⟨?_, .inl ⟨hno'.out, rfl⟩⟩
    repeat' (first | exact s1.bel | refine Below.setCell ?_ (by first | (simp; done) | (simp; omega)) _ | refine Below.alloc ?_ (by first | (simp; done) | (simp; omega)) _)
  · have s2 := s1.box2 62 (.int .i64 n) (.slice (some ⟨g1, 0, none⟩) len cp1)
    have hG2 := hG1.below ((Below.refl _ _).alloc (Nat.le_refl _) (.cells #[.int .i64 n, .slice (some ⟨g1, 0, none⟩) len cp1] 62))
    have hbW := s2.bel
    obtain ⟨b4, hb4⟩ : ∃ b, b = w1.heap.size := ⟨_, rfl⟩
    obtain ⟨W2, hW2⟩ : ∃ W, W = w1.alloc (.cells #[.int .i64 n, .slice (some ⟨g1, 0, none⟩) len cp1] 62) := ⟨_, rfl⟩
    rw [← hb4] at s2
    rw [← hW2] at s2 hG2 hbW
    have s3 := s2.re.both (Y := fun W => GrI W g1 n (encM (fw d n))) hG2 (fun _ _ q hb => GrI.stays hG2.lt q hb)
    have zW : w.heap.size + 1 < W2.heap.size := by have := s2.hold; simp only [Holds, and_true] at this; exact this.2.2.1.2.1
    have q3 := s3.hold
    simp only [Holds, and_true] at q3
    clear s1 s2 hG2 hG1
    go_wp2_with fail
    rw [← hb4, ← hW2]
    clear hb4 hW2 q1
    refine (HS.out _).mono ?_
    rintro e w4 ⟨rfl, hb5⟩
    have s4 := s3.call hb5
    have q4 := s4.hold
    simp only [Holds, and_true] at q4
    have z4 := hb5.size
    clear s3 q3 hb5
    go_wp2_with fail
    refine (HO.out _ b4 g1 cp1 ⟨Below.refl _ _, ⟨s4.hold.1, s4.hold.2.1, trivial⟩, s4.sent.2, fun _ _ q hb => GrI.stays s4.sent.2.lt q hb⟩).mono ?_
    rintro e w5 ⟨g5, cp5, rfl, hg5, hG5, hb6⟩
    have s5 := s4.call hb6
    have s6 := s5.box2 62 (.int .i64 n) (.slice (some ⟨g5, 0, none⟩) len cp5)
    have hG6 := hG5.below ((Below.refl _ _).alloc (Nat.le_refl _) (.cells #[.int .i64 n, .slice (some ⟨g5, 0, none⟩) len cp5] 62))
    clear s4 q4 hb6 s5 hG5
    go_wp2_with fail
    refine (HSo.out _ g5 cp5 hG6).mono ?_
    rintro e w7 ⟨q, rfl, hq, hb7⟩
    have s7 := s6.call hb7
    have q7 := s7.hold
    simp only [Holds, and_true] at q7
    have hG7 := hG6.below hb7
    have Hq := hide hq
    clear s6 hb7 hq hG6
    cases q
    · have hno' : Hid (¬ NoNeg n (tg n d)) := fun h => Bool.noConfusion (Hq.out.2 (tg_nn.1 h).2)
      go_wp2_with fail
      refine bodyPost_ret (v := .tuple #[(.agg #[.int .i64 0, (.slice none 0 0)]), .bool false]) (by simp [results, Tryz.results43, go_sem, q7]) rfl ⟨?_, .inl ⟨hno'.out, rfl⟩⟩
      repeat' (first | exact hbW.trans (s7.bel.mono hbW.size) | refine Below.setCell ?_ (by first | (simp; done) | (simp; omega)) _)
    · have hyes' : Hid (NoNeg n (tg n d)) := tg_nn.2 ⟨hyes, Hq.out.1 rfl⟩
      have eT : Hid (tg n d = tigM (fw d n)) := tg_yes hyes
      go_wp2_with fail
      refine bodyPost_ret (v := .tuple #[(.agg #[.int .i64 n, (.slice (some ⟨g5, 0, none⟩) len cp5)]), .bool true]) (by simp [results, Tryz.results43, go_sem, q7]) rfl ⟨?_, .inr ⟨hyes'.out, g5, cp5, rfl, by have := hbW.size; omega, ?_⟩⟩
      · repeat' (first | exact hbW.trans (s7.bel.mono hbW.size) | refine Below.setCell ?_ (by first | (simp; done) | (simp; omega)) _)
      · rw [eT.out]
        exact (hG7.other (by show w.heap.size + 1 ≠ g5; omega) _).other (by show w.heap.size + 1 ≠ g5; omega) _

end Go.Proofs.YtbafkjhlogkllaaGreatDoor.Oc
