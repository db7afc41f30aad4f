/- Zones: closed ones, told (zone.Close). -/
import Derived.Test.YtbafkjhlogkllaaGreatDoorYd
import Derived.Test.YtbafkjhlogkllaaGreatDoorYeO
import Derived.Test.YtbafkjhlogkllaaGreatDoorYgO
import Derived.Test.YtbafkjhlogkllaaGreatDoorYiO
namespace Go.Proofs.YtbafkjhlogkllaaGreatDoor.Oc
open Go.RowKit
set_option linter.unusedVariables false

/-- What is answered: an error, nothing, or a zone. -/
def ZrPost (w : World) (a : Nat → Addr) (er Ni : Int) (len : Nat) (ok : Prop) (L : List Ce) (e : Ending) (w' : World) : Prop :=
  Below w.heap.size w w' ∧ ((er ≠ 0 ∧ e = .returned (.tuple #[(.agg #[.int .i64 0, .slice none 0 0]), .bool false, erV a er])) ∨ (er = 0 ∧ ¬ ok ∧ e = .returned (.tuple #[(.agg #[.int .i64 0, .slice none 0 0]), .bool false, .nilIface])) ∨
    (er = 0 ∧ ok ∧ ∃ g cp, e = .returned (.tuple #[(.agg #[.int .i64 Ni, (.slice (some ⟨g, 0, none⟩) len cp)]), .bool true, .nilIface]) ∧ w.heap.size ≤ g ∧ RowC w' g 0 L))
/-- Likewise, without an error. -/
def ZaPost (w : World) (Ni : Int) (len : Nat) (ok : Prop) (L : List Ce) (e : Ending) (w' : World) : Prop :=
  Below w.heap.size w w' ∧ ((¬ ok ∧ e = .returned (.tuple #[(.agg #[.int .i64 0, .slice none 0 0]), .bool false, .nilIface])) ∨
    (ok ∧ ∃ g cp, e = .returned (.tuple #[(.agg #[.int .i64 Ni, (.slice (some ⟨g, 0, none⟩) len cp)]), .bool true, .nilIface]) ∧ w.heap.size ≤ g ∧ RowC w' g 0 L))

set_option maxRecDepth 20000 in
set_option maxHeartbeats 4000000 in
theorem tellClosed_any (Ni : Int) (n g cp len m : Nat) (d : Mat) (w : World) (hG : GrI w g n (encM d)) (hl : Hid (len = n * n)) (hn : n % 2 = 0 ∧ n ≤ 8) (hN : 2 * Ni = n) (hS : Hid (Sz n m d)) (hm : 1024 * m ≤ 1152921504606846976) :
    Calls Tryz.prog 21 #[(.agg #[.int .i64 n, (.slice (some ⟨g, 0, none⟩) len cp)])] w fun e w' => ZaPost w Ni len (NoNeg n (tg n d)) (tellL n (tg n d)) e w' := by
  have s0 := ((St.startG hG).box2 62 (.int .i64 n) (.slice (some ⟨g, 0, none⟩) len cp)).box2 30 (.int .i64 0) (.slice none 0 0)
  simp only [World.size_alloc] at s0
  have HC : Hid (∀ W : World, GrI W g n (encM d) → Calls Tryz.prog 43 #[(.agg #[.int .i64 n, (.slice (some ⟨g, 0, none⟩) len cp)])] W fun e w' => TgPost W n len d e w') := fun W h => tight_any n g cp len m d W h hl (by omega) hS hm
  have HT : Hid (∀ (W : World) (g1 cp1 : Nat), GrI W g1 n (encM (tg n d)) → Calls Tryz.prog 44 #[(.agg #[.int .i64 n, (.slice (some ⟨g1, 0, none⟩) len cp1)])] W fun e w' => TellPost W Ni len (tellL n (tg n d)) e w') := fun W g1 cp1 h => by
    have := tellz_any Ni n g1 cp1 len _ W h hl hn hN
    rw [hl.out, gridL_enc] at this
    rw [hl.out]
    exact this
  obtain ⟨L, hL⟩ : ∃ L, L = tellL n (tg n d) := ⟨_, rfl⟩
  rw [← hL] at HT ⊢
  have q0 := s0.hold
  simp only [Holds, and_true] at q0
  clear hG hl hL
  go_enter Tryz.func21, Tryz.ntmps21
  go_wp2_with fail
  refine (HC.out _ s0.sent).mono ?_
  rintro e w1 ⟨hb1, h1⟩
  have s1 := s0.call hb1
  have q1 := s1.hold
  simp only [Holds, and_true] at q1
  have sz1 := hb1.size
  simp only [World.size_alloc] at sz1
  clear s0 hb1 HC q0
  rcases h1 with ⟨hno, rfl⟩ | ⟨hyes, g1, cp1, rfl, hg1, hG1⟩
  · go_wp2_with fail
    refine bodyPost_ret (v := .tuple #[(.agg #[.int .i64 0, .slice none 0 0]), .bool false, .nilIface]) (by simp [results, Tryz.results21, go_sem, q1]) rfl ⟨?_, .inl ⟨hno, rfl⟩⟩
    repeat' (first | exact s1.bel | refine Below.setCell ?_ (by first | (simp; done) | (simp; omega)) _ | refine Below.alloc ?_ (by first | (simp; done) | (simp; omega)) _)
  · have s2 := s1.box2 62 (.int .i64 n) (.slice (some ⟨g1, 0, none⟩) len cp1)
    have hG2 := hG1.below ((Below.refl _ _).alloc (Nat.le_refl _) (.cells #[.int .i64 n, .slice (some ⟨g1, 0, none⟩) len cp1] 62))
    go_wp2_with fail
    refine (HT.out _ g1 cp1 hG2).mono ?_
    rintro e w2 ⟨g2, cp2, rfl, hg2, hR2, hb2⟩
    have s3 := s2.call hb2
    have q3 := s3.hold
    simp only [Holds, and_true] at q3
    simp only [World.size_alloc] at hg2
    clear s1 q1 s2 hb2 hG2
    go_wp2_with fail
    refine bodyPost_ret (v := .tuple #[(.agg #[.int .i64 Ni, (.slice (some ⟨g2, 0, none⟩) len cp2)]), .bool true, .nilIface]) (by simp [results, Tryz.results21, go_sem, q3]) rfl ⟨?_, .inr ⟨hyes, g2, cp2, rfl, by omega, ?_⟩⟩
    · repeat' (first | exact s3.bel | refine Below.setCell ?_ (by first | (simp; done) | (simp; omega)) _ | refine Below.alloc ?_ (by first | (simp; done) | (simp; omega)) _)
    · exact (hR2.other (by show w.heap.size + 1 ≠ g2; omega) _).other (by show w.heap.size + 1 ≠ g2; omega) _

def nOf (N : Int) : Nat := (2 * N).toNat
theorem zErr_0 {N : Int} {l : List Ce} (h : zErr N l = 0) : 2 * N = nOf N ∧ nOf N % 2 = 0 ∧ nOf N ≤ 8 ∧ l.length = nOf N * nOf N ∧ goodL l ∧ ∀ i, i < l.length → (l.getD i ceZ).m.natAbs ≤ 1099511627776 := by
  have h : celErr N l (4 * N * N) = 0 := by
    unfold zErr at h
    by_cases e : celErr N l (4 * N * N) = 0
    · exact e
    · rw [if_pos e] at h; exact h
  unfold celErr at h
  by_cases c1 : N < 0 ∨ 4 < N
  · rw [if_pos c1] at h; omega
  rw [if_neg c1] at h
  by_cases c2 : (l.length : Int) ≠ 4 * N * N
  · rw [if_pos c2] at h; omega
  rw [if_neg c2] at h
  by_cases c3 : l.any badC = true
  · rw [if_pos c3] at h; omega
  rw [if_neg c3] at h
  by_cases c4 : l.any (farC 1099511627776) = true
  · rw [if_pos c4] at h; omega
  have hn : 2 * N = nOf N := by unfold nOf; omega
  refine ⟨hn, by omega, by omega, ?_, ?_, ?_⟩
  · have e : (l.length : Int) = 4 * N * N := by omega
    have e2 : 4 * N * N = (2 * N) * (2 * N) := by rw [Int.mul_assoc, Int.mul_assoc, Int.mul_left_comm N 2 N, ← Int.mul_assoc 2 2]; simp
    rw [e2, hn, ← Int.natCast_mul] at e
    exact Int.ofNat_inj.1 e
  · intro i hi
    have e : l.getD i ceZ = l[i] := by simp [hi]
    rw [e]
    cases hh : l[i].h with
    | true =>
      simp [Ce.bd, ceOf, hh]
      revert hh
      generalize l[i] = q
      obtain ⟨a, b⟩ := q
      intro h1
      simp at h1 ⊢
      exact h1
    | false =>
      have : ¬ badC l[i] = true := fun k => c3 (List.any_eq_true.2 ⟨l[i], List.getElem_mem hi, k⟩)
      simp [badC, hh] at this
      simp [Ce.bd, ceOf, hh]
      revert this hh
      generalize l[i] = q
      obtain ⟨a, b⟩ := q
      intro h1 h2
      simp at h1 h2 ⊢
      exact ⟨h1, h2⟩
  · intro i hi
    have e : l.getD i ceZ = l[i] := by simp [hi]
    rw [e]
    have : ¬ farC 1099511627776 l[i] = true := fun k => c4 (List.any_eq_true.2 ⟨l[i], List.getElem_mem hi, k⟩)
    simp [farC, farB] at this
    omega
theorem zErr_coh {N : Int} {l : List Ce} (h : zErr N l = 0) : cohP (nOf N) l := by
  unfold zErr at h
  by_cases e : celErr N l (4 * N * N) = 0
  · rw [if_neg (fun k => k e)] at h
    by_cases c : cohP (2 * N).toNat l
    · exact c
    · rw [if_neg c] at h; omega
  · rw [if_pos e] at h; exact absurd h e
theorem coh_mat {n : Nat} {l : List Ce} (h : cohP n l) : Coh n (matOf n l) := by
  intro i j hi hj
  unfold matOf
  rw [h i hi j hj]

theorem sz_mat {n B : Nat} {l : List Ce} (hL : l.length = n * n) (h : ∀ i, i < l.length → (l.getD i ceZ).m.natAbs ≤ B) : Sz n B (matOf n l) := by
  intro i j hi hj v hv
  have := h (i * n + j) (by rw [hL]; exact idx_in hi hj)
  unfold matOf Ce.bd at hv
  split at hv
  · obtain rfl : (l.getD (i * n + j) ceZ).m = v := by simpa using hv
    exact this
  · cases hv
theorem CsAt.row {w : World} {x : Option Addr} {l : List Ce} (h : CsAt w x l) (hl : 1 ≤ l.length) : ∃ b off, x = some ⟨b, off, none⟩ ∧ RowC w b off l := by
  rcases h with h | h
  · subst h; simp at hl
  · exact h

set_option maxRecDepth 20000 in
set_option maxHeartbeats 4000000 in
theorem close_any (N : Int) (x : Option Addr) (c len : Nat) (l : List Ce) (a : Nat → Addr) (w : World) (hS : ErrS w a) (hA : CsAt w x l) (hl : Hid (len = l.length)) (hlen : len ≤ 1000) :
    Calls Tryz.prog 18 #[(.agg #[.int .i64 N, (.slice x len c)])] w fun e w' => ZrPost w a (zErr N l) N len (NoNeg (nOf N) (tg (nOf N) (matOf (nOf N) l))) (tellL (nOf N) (tg (nOf N) (matOf (nOf N) l))) e w' := by
  have s0 := ((St.startEC hS hA).box2 30 (.int .i64 N) (.slice x len c)).box2 30 (.int .i64 0) (.slice none 0 0)
  simp only [World.size_alloc] at s0
  have HV : Hid (∀ W : World, ErrS W a → CsAt W x l → Calls Tryz.prog 38 #[(.agg #[.int .i64 N, (.slice x len c)])] W fun e w' => e = .returned (erV a (zErr N l)) ∧ Below W.heap.size W w') := fun W h1 h2 => valid_any N x c len l a W h1 h2 hl hlen
  by_cases hz : zErr N l = 0
  · obtain ⟨z1, z2, z3, z4, z5, z6⟩ := zErr_0 hz
    obtain ⟨n, hn⟩ : ∃ n, n = nOf N := ⟨_, rfl⟩
    rw [← hn] at z1 z2 z3 z4 ⊢
    have hll : Hid (len = n * n) := by show _ = _; rw [hl.out]; exact z4
    have HB : Hid (∀ W : World, CsAt W x l → Calls Tryz.prog 40 #[(.agg #[.int .i64 N, (.slice x len c)])] W fun e w' => GrPost W n len (encM (matOf n l)) e w') := by
      intro W h
      exact boundsOf_cs N n c len _ l W h hl hll ⟨z2, z3⟩ z1
    have HT : Hid (∀ (W : World) (g cp : Nat), GrI W g n (encM (matOf n l)) → Calls Tryz.prog 21 #[(.agg #[.int .i64 n, (.slice (some ⟨g, 0, none⟩) len cp)])] W fun e w' => ZaPost W N len (NoNeg n (tg n (matOf n l))) (tellL n (tg n (matOf n l))) e w') := fun W g cp h => tellClosed_any N n g cp len 1099511627776 (matOf n l) W h hll ⟨z2, z3⟩ z1 (sz_mat z4 z6) (by omega)
    obtain ⟨L, hL⟩ : ∃ L, L = tellL n (tg n (matOf n l)) := ⟨_, rfl⟩
    obtain ⟨ok, hok⟩ : ∃ ok, ok = NoNeg n (tg n (matOf n l)) := ⟨_, rfl⟩
    obtain ⟨f, hf⟩ : ∃ f, f = encM (matOf n l) := ⟨_, rfl⟩
    rw [← hL, ← hok] at HT ⊢
    rw [← hf] at HT HB
    rw [hz] at HV ⊢
    rw [erV_0] at HV
    clear hL hok hf hS hA hl hll z1 z2 z3 z4 z5 z6 hz hn
    go_enter Tryz.func18, Tryz.ntmps18
    go_wp2_with fail
    refine (HV.out _ s0.sent.1 s0.sent.2).mono ?_
    rintro e w1 ⟨rfl, hb1⟩
    have s1 := s0.call hb1
    have q1 := s1.hold
    simp only [Holds, and_true] at q1
    clear s0 hb1
    go_wp2_with fail
    refine (HB.out _ s1.sent.2).mono ?_
    rintro e w2 ⟨g2, cp2, rfl, hg2, hG2, hb2⟩
    have s2 := s1.call hb2
    have q2 := s2.hold
    simp only [Holds, and_true] at q2
    have sz1 := s1.bel.size
    clear s1 hb2 q1
    go_wp2_with fail
    refine (HT.out _ g2 cp2 hG2).mono ?_
    rintro e w3 ⟨hb3, h3⟩
    have s3 := s2.call hb3
    have q3 := s3.hold
    simp only [Holds, and_true] at q3
    have sz2 : w.heap.size + 1 < w2.heap.size := q2.1.2.1
    clear s2 hb3 q2
    rcases h3 with ⟨hno, rfl⟩ | ⟨hyes, g3, cp3, rfl, hg3, hR3⟩
    · go_wp2_with fail
      refine bodyPost_ret (v := .tuple #[(.agg #[.int .i64 0, .slice none 0 0]), .bool false, .nilIface]) (by simp [results, Tryz.results18, go_sem, q3]) rfl ⟨?_, .inr (.inl ⟨rfl, hno, rfl⟩)⟩
      repeat' (first | exact s3.bel | refine Below.setCell ?_ (by first | (simp; done) | (simp; omega)) _)
    · go_wp2_with fail
      refine bodyPost_ret (v := .tuple #[(.agg #[.int .i64 N, (.slice (some ⟨g3, 0, none⟩) len cp3)]), .bool true, .nilIface]) (by simp [results, Tryz.results18, go_sem, q3]) rfl ⟨?_, .inr (.inr ⟨rfl, hyes, g3, cp3, rfl, by omega, ?_⟩)⟩
      · repeat' (first | exact s3.bel | refine Below.setCell ?_ (by first | (simp; done) | (simp; omega)) _)
      · exact (hR3.other (by show w.heap.size + 1 ≠ g3; omega) _).other (by show w.heap.size + 1 ≠ g3; omega) _
  · obtain ⟨r, hr⟩ : ∃ r, r = zErr N l := ⟨_, rfl⟩
    rw [← hr] at hz HV ⊢
    rw [erV_ne hz] at HV
    have Hz := hide hz
    clear hz hr hS hA hl
    go_enter Tryz.func18, Tryz.ntmps18
    go_wp2_with fail
    refine (HV.out _ s0.sent.1 s0.sent.2).mono ?_
    rintro e w1 ⟨rfl, hb1⟩
    have s1 := s0.call hb1
    have q1 := s1.hold
    simp only [Holds, and_true] at q1
    clear s0 hb1
    go_wp2_with fail
    refine bodyPost_ret (v := .tuple #[(.agg #[.int .i64 0, .slice none 0 0]), .bool false, .iface 146 (.pointer (some (a (r.toNat - 1))))]) (by simp [results, Tryz.results18, go_sem, q1]) rfl ⟨?_, .inl ⟨Hz.out, by rw [erV_ne Hz.out]⟩⟩
    repeat' (first | exact s1.bel | refine Below.setCell ?_ (by first | (simp; done) | (simp; omega)) _)

end Go.Proofs.YtbafkjhlogkllaaGreatDoor.Oc
