/- Zones: the join and the meet of two, one widened by another one. -/
import Derived.Test.YtofjjaabgfmnpaaDoorYo
import Derived.Test.YtofjjaabgfmnpaaDoorYl
namespace Go.Proofs.YtofjjaabgfmnpaaDoor
open Go.RowKit
set_option linter.unusedVariables false

def maxI (x y : Int) : Int := if x < y then y else x
def keptI (x y : Int) : Int := if x < y then 9223372036854775807 else x
def maxB : Bd → Bd → Bd
  | some a, some b => some (max a b)
  | _, _ => none
/-- A bound, without it where another one goes beyond. -/
def keptB (a b : Bd) : Bd := if encB a < encB b then none else a
theorem enc_max {a b : Bd} (ha : OkB a) (hb : OkB b) : encB (maxB a b) = maxI (encB a) (encB b) := by
  unfold maxI
  cases a with
  | none =>
    cases b with
    | none => simp [encB, maxB]
    | some v => have := hb v rfl; simp [encB, maxB]; omega
  | some u =>
    have := ha u rfl
    cases b with
    | none => simp [encB, maxB]; omega
    | some v => simp only [encB, maxB]; by_cases h : u < v <;> simp [h] <;> omega
theorem enc_kept (a b : Bd) : encB (keptB a b) = keptI (encB a) (encB b) := by
  unfold keptI keptB; split <;> rfl

set_option maxHeartbeats 400000 in
theorem mk_max : Mk2 69 maxI := by
  intro W x y
  by_cases h : x < y
  all_goals
    go_enter Tryd.func69, Tryd.ntmps69
    go_wp2
    all_goals
      go_ret
      exact ⟨ret_int (by simp [maxI]; try omega), rfl⟩
theorem enters_max : Enters 69 := enters_of Tryd.func69 (by kernel_rfl) rfl
set_option maxHeartbeats 400000 in
theorem mk_min : Mk2 70 minI := by
  intro W x y
  by_cases h : y < x
  all_goals
    go_enter Tryd.func70, Tryd.ntmps70
    go_wp2
    all_goals
      go_ret
      exact ⟨ret_int (by simp [minI]; try omega), rfl⟩
theorem enters_min : Enters 70 := enters_of Tryd.func70 (by kernel_rfl) rfl
set_option maxHeartbeats 400000 in
theorem mk_kept : Mk2 81 keptI := by
  intro W x y
  by_cases h : x < y
  all_goals
    go_enter Tryd.func81, Tryd.ntmps81
    go_wp2
    go_ret
    exact ⟨ret_int (by simp [keptI, h]; try omega), rfl⟩
theorem enters_kept : Enters 81 := enters_of Tryd.func81 (by kernel_rfl) rfl
def With2 (F : Bd → Bd → Bd) (c d : Mat) : Mat := fun i j => F (c i j) (d i j)

theorem pairErr_0 {N M : Int} {l m : List Ce} (h : pairErr N l M m = 0) : zErr N l = 0 ∧ zErr M m = 0 ∧ N = M := by
  unfold pairErr at h
  by_cases k : firstE [zErr N l, zErr M m] = 0 ∧ N ≠ M
  · rw [if_pos k] at h; omega
  · rw [if_neg k] at h
    have h1 := h
    rw [firstE_0, firstE_0] at h1
    refine ⟨h1.1, h1.2.1, ?_⟩
    apply Classical.byContradiction
    intro e
    exact k ⟨h, e⟩

/-- Two zones are right, and of one size. -/
structure Right2 (N : Int) (n len : Nat) (l m : List Ce) : Prop where
  hN : 2 * N = n
  hn : n % 2 = 0 ∧ n ≤ 8
  hl : len = l.length
  hm : len = m.length
  hll : len = n * n
  sl : Sz n 1099511627776 (matOf n l)
  sm : Sz n 1099511627776 (matOf n m)
theorem right2 {N : Int} {l m : List Ce} (h : pairErr N l N m = 0) : Right2 N (nOf N) l.length l m := by
  obtain ⟨h1, h2, _⟩ := pairErr_0 h
  obtain ⟨z1, z2, z3, z4, z5, z6⟩ := zErr_0 h1
  obtain ⟨y1, y2, y3, y4, y5, y6⟩ := zErr_0 h2
  exact ⟨z1, ⟨z2, z3⟩, rfl, by rw [z4, y4], z4, sz_mat z4 z6, sz_mat y4 y6⟩

/-- What Join and Widen answer. -/
def JrPost (w : World) (a : Nat → Addr) (er Ni : Int) (len : Nat) (emp : Prop) (L : List Ce) (e : Ending) (w' : World) : Prop :=
  Below w.heap.size w w' ∧ ((er ≠ 0 ∧ e = .returned (.tuple #[(.agg #[.int .i64 0, .slice none 0 0]), erV a er])) ∨ (er = 0 ∧ emp ∧ e = .returned (.tuple #[(.agg #[.int .i64 0, .slice none 0 0]), erV a 4])) ∨
    (er = 0 ∧ ¬ emp ∧ ∃ g cp, e = .returned (.tuple #[(.agg #[.int .i64 Ni, (.slice (some ⟨g, 0, none⟩) len cp)]), .nilIface]) ∧ w.heap.size ≤ g ∧ RowC w' g 0 L))

/-- What the three functions on two zones share. -/
structure Parts (N : Int) (n len : Nat) (x y : Option Addr) (c c' : Nat) (l m : List Ce) : Prop where
  bA : ∀ W : World, CsAt W x l → Calls Tryd.prog 48 #[(.agg #[.int .i64 N, (.slice x len c)])] W fun e w' => GrPost W n len (encM (matOf n l)) e w'
  bB : ∀ W : World, CsAt W y m → Calls Tryd.prog 48 #[(.agg #[.int .i64 N, (.slice y len c')])] W fun e w' => GrPost W n len (encM (matOf n m)) e w'
  cA : ∀ (W : World) (g cp : Nat), GrI W g n (encM (matOf n l)) → Calls Tryd.prog 66 #[(.agg #[.int .i64 n, (.slice (some ⟨g, 0, none⟩) len cp)])] W fun e w' => TgPost W n len (matOf n l) e w'
  cB : ∀ (W : World) (g cp : Nat), GrI W g n (encM (matOf n m)) → Calls Tryd.prog 66 #[(.agg #[.int .i64 n, (.slice (some ⟨g, 0, none⟩) len cp)])] W fun e w' => TgPost W n len (matOf n m) e w'
  tl : ∀ (W : World) (g cp : Nat) (d : Mat), GrI W g n (encM d) → Calls Tryd.prog 67 #[(.agg #[.int .i64 n, (.slice (some ⟨g, 0, none⟩) len cp)])] W fun e w' => TellPost W N len (tellL n d) e w'
theorem parts {N : Int} {n len : Nat} {l m : List Ce} (h : Right2 N n len l m) (x y : Option Addr) (c c' : Nat) : Parts N n len x y c c' l m := by
  obtain ⟨hN, hn, hl, hm, hll, sl, sm⟩ := h
  refine ⟨?_, ?_, ?_, ?_, ?_⟩
  · intro W h
    exact boundsOf_cs N n c len _ l W h hl hll hn hN
  · intro W h
    exact boundsOf_cs N n c' len _ m W h hm hll hn hN
  · exact fun W g cp h => tight_any n g cp len 1099511627776 _ W h hll (by omega) sl (by omega)
  · exact fun W g cp h => tight_any n g cp len 1099511627776 _ W h hll (by omega) sm (by omega)
  · intro W g cp d h
    have := tellz_any N n g cp len _ W h hll hn hN
    rw [hll, gridL_enc] at this
    rw [hll]
    exact this

def nnB (n : Nat) (d : Mat) : Bool := (List.range n).all fun i => match d i i with | some v => decide (0 ≤ v) | none => true
theorem nnB_iff {n : Nat} {d : Mat} : nnB n d = true ↔ NoNeg n d := by
  unfold nnB NoNeg
  rw [List.all_eq_true]
  constructor
  · intro h i hi
    have := h i (List.mem_range.2 hi)
    cases e : d i i with
    | none => simp [leB]
    | some v => rw [e] at this; simpa [leB] using this
  · intro h i hi
    have := h i (List.mem_range.1 hi)
    cases e : d i i with
    | none => rfl
    | some v => rw [e] at this; simpa [leB] using this
theorem nnB_yes {n : Nat} {d : Mat} (h : NoNeg n d) : nnB n d = true := nnB_iff.2 h
theorem nnB_no {n : Nat} {d : Mat} (h : ¬ NoNeg n d) : nnB n d = false := by
  cases e : nnB n d with
  | false => rfl
  | true => exact absurd (nnB_iff.1 e) h

/-- What is joined. -/
def joinM (n : Nat) (A B : Mat) : Mat := fun i j => if nnB n (tg n A) = false then tg n B i j else if nnB n (tg n B) = false then tg n A i j else maxB (tg n A i j) (tg n B i j)
theorem joinM_b {n : Nat} {A B : Mat} (h : ¬ NoNeg n (tg n A)) : joinM n A B = tg n B := by
  funext i j; unfold joinM; rw [if_pos (nnB_no h)]
theorem joinM_a {n : Nat} {A B : Mat} (h : NoNeg n (tg n A)) (k : ¬ NoNeg n (tg n B)) : joinM n A B = tg n A := by
  funext i j; unfold joinM; rw [if_neg (by rw [nnB_yes h]; simp), if_pos (nnB_no k)]
theorem joinM_ab {n : Nat} {A B : Mat} (h : NoNeg n (tg n A)) (k : NoNeg n (tg n B)) : joinM n A B = fun i j => maxB (tg n A i j) (tg n B i j) := by
  funext i j; unfold joinM; rw [if_neg (by rw [nnB_yes h]; simp), if_neg (by rw [nnB_yes k]; simp)]

/-- The errors (the empty one too), and two slices of cells. -/
def ED2 (a : Nat → Addr) (x : Option Addr) (l : List Ce) (y : Option Addr) (m : List Ce) (W : World) : Prop := (ErrS W a ∧ ErrAt W a 3) ∧ CsAt W x l ∧ CsAt W y m
theorem St.startED2 {w : World} {a : Nat → Addr} {x y : Option Addr} {l m : List Ce} (h : ErrS w a) (h3 : ErrAt w a 3) (k : CsAt w x l) (k' : CsAt w y m) : St w w (ED2 a x l y m) [] :=
  ⟨Below.refl _ _, trivial, ⟨⟨h, h3⟩, k, k'⟩, fun _ _ q hb => ⟨⟨h.stays q.1.1 hb, (hb.cell (World.block_lt_of_cell? w _ h3)).trans q.1.2⟩, k.stays q.2.1 hb, k'.stays q.2.2 hb⟩⟩

set_option maxRecDepth 20000 in
set_option maxHeartbeats 8000000 in
theorem join_any (N M : Int) (x y : Option Addr) (len c len' c' : Nat) (l m : List Ce) (a : Nat → Addr) (w : World) (hS : ErrS w a) (h3 : ErrAt w a 3) (hA : CsAt w x l) (hB : CsAt w y m) (hl : Hid (len = l.length)) (hm : Hid (len' = m.length)) (hn : len ≤ 1000) (hn' : len' ≤ 1000) :
    Calls Tryd.prog 28 #[(.agg #[.int .i64 N, (.slice x len c)]), (.agg #[.int .i64 M, (.slice y len' c')])] w fun e w' =>
      JrPost w a (pairErr N l M m) N len (¬ NoNeg (nOf N) (tg (nOf N) (matOf (nOf N) l)) ∧ ¬ NoNeg (nOf N) (tg (nOf N) (matOf (nOf N) m))) (tellL (nOf N) (joinM (nOf N) (matOf (nOf N) l) (matOf (nOf N) m))) e w' := by
  have s0 := (((St.startED2 hS h3 hA hB).box2 30 (.int .i64 N) (.slice x len c)).box2 30 (.int .i64 M) (.slice y len' c')).box2 30 (.int .i64 0) (.slice none 0 0)
  simp only [World.size_alloc] at s0
  have l0 : 3 < w.heap.size := World.block_lt_of_cell? w _ h3
  obtain ⟨er, her⟩ : ∃ e, e = pairErr N l M m := ⟨_, rfl⟩
  have HP : Hid (∀ W : World, ErrS W a → CsAt W x l → CsAt W y m → Calls Tryd.prog 65 #[(.agg #[.int .i64 N, (.slice x len c)]), (.agg #[.int .i64 M, (.slice y len' c')])] W fun e w' => e = .returned (erV a er) ∧ Below W.heap.size W w') := fun W h1 h2 h3 => by rw [her]; exact pairError_any N M x y len c len' c' l m a W h1 h2 h3 hl hm hn hn'
  rw [← her]
  by_cases h0 : er = 0
  · have hNM : N = M := (pairErr_0 (her.symm.trans h0)).2.2
    subst hNM
    have R := right2 (her.symm.trans h0)
    rw [← hl.out] at R
    obtain ⟨n, hnn⟩ : ∃ n, n = nOf N := ⟨_, rfl⟩
    rw [← hnn] at R ⊢
    have hlm : len' = len := by rw [hm.out, ← R.hm]
    subst hlm
    have P := hide (parts R x y c c')
    have HW : Hid (∀ (W : World) (g cp h ch : Nat), GrI W g n (encM (tg n (matOf n l))) → GrI W h n (encM (tg n (matOf n m))) → Calls Tryd.prog 68 #[(.agg #[.int .i64 n, (.slice (some ⟨g, 0, none⟩) len' cp)]), (.agg #[.int .i64 n, (.slice (some ⟨h, 0, none⟩) len' ch)]), .func (.func 69) #[] #[]] W fun e w' => GrPost W n len' (encM (fun i j => maxB (tg n (matOf n l) i j) (tg n (matOf n m) i j))) e w') := fun W g cp h ch k1 k2 =>
      (with_any _ n g cp h ch len' _ _ maxI W k1 k2 R.hll (by have := R.hn; omega) enters_max mk_max).mono fun _ _ k => k.congr fun i j hi hj => (enc_max ((sz_tg R.sl R.hn.2 R.hn.1).ok (by omega) hi hj) ((sz_tg R.sm R.hn.2 R.hn.1).ok (by omega) hi hj)).symm
    obtain ⟨A, hAA⟩ : ∃ A, A = matOf n l := ⟨_, rfl⟩
    obtain ⟨B, hBB⟩ : ∃ B, B = matOf n m := ⟨_, rfl⟩
    have PbA : Hid (∀ W : World, CsAt W x l → Calls Tryd.prog 48 #[(.agg #[.int .i64 N, (.slice x len' c)])] W fun e w' => GrPost W n len' (encM A) e w') := by rw [hAA]; exact P.out.bA
    have PbB : Hid (∀ W : World, CsAt W y m → Calls Tryd.prog 48 #[(.agg #[.int .i64 N, (.slice y len' c')])] W fun e w' => GrPost W n len' (encM B) e w') := by rw [hBB]; exact P.out.bB
    have PcA : Hid (∀ (W : World) (g cp : Nat), GrI W g n (encM A) → Calls Tryd.prog 66 #[(.agg #[.int .i64 n, (.slice (some ⟨g, 0, none⟩) len' cp)])] W fun e w' => TgPost W n len' A e w') := by rw [hAA]; exact P.out.cA
    have PcB : Hid (∀ (W : World) (g cp : Nat), GrI W g n (encM B) → Calls Tryd.prog 66 #[(.agg #[.int .i64 n, (.slice (some ⟨g, 0, none⟩) len' cp)])] W fun e w' => TgPost W n len' B e w') := by rw [hBB]; exact P.out.cB
    have PtL : Hid (∀ (W : World) (g cp : Nat) (d : Mat), GrI W g n (encM d) → Calls Tryd.prog 67 #[(.agg #[.int .i64 n, (.slice (some ⟨g, 0, none⟩) len' cp)])] W fun e w' => TellPost W N len' (tellL n d) e w') := P.out.tl
    rw [← hAA, ← hBB] at HW ⊢
    rw [h0] at HP ⊢
    rw [erV_0] at HP
    clear hAA hBB P R her h0 hl hm hnn hS h3 hA hB
    go_enter Tryd.func28, Tryd.ntmps28
    go_wp2_with fail
    refine (HP.out _ s0.sent.1.1 s0.sent.2.1 s0.sent.2.2).mono ?_
    rintro e w1 ⟨rfl, hb1⟩
    (have s1 := s0.call hb1; have q1 := s1.hold; simp only [Holds, and_true] at q1; clear s0 hb1; try clear q0)
    go_wp2_with fail
    refine (PbA.out _ s1.sent.2.1).mono ?_
    rintro e w2 ⟨g2, cp2, rfl, hg2, hG2, hb2⟩
    (have s2 := s1.call hb2; have q2 := s2.hold; simp only [Holds, and_true] at q2; clear s1 hb2; try clear q1)
    go_wp2_with fail
    refine (PcA.out _ g2 cp2 hG2).mono ?_
    rintro e w3 ⟨hb3, h3⟩
    (have s3 := s2.call hb3; have q3 := s3.hold; simp only [Holds, and_true] at q3; clear s2 hb3; try clear q2)
    have sz3 : w.heap.size + 1 + 1 < w3.heap.size := q3.1.2.1
    clear hG2
    rcases h3 with ⟨hno, rfl⟩ | ⟨hyes, g3, cp3, rfl, hg3, hG3⟩
    · have s4 := s3.box2 84 (.int .i64 0) (.slice none 0 0)
      go_wp2_with fail
      refine (PbB.out _ s4.sent.2.2).mono ?_
      rintro e w5 ⟨g5, cp5, rfl, hg5, hG5, hb5⟩
      have q4 := s4.hold
      simp only [Holds, and_true] at q4
      (have s5 := s4.call hb5; have q5 := s5.hold; simp only [Holds, and_true] at q5; clear s4 hb5; try clear q4)
      go_wp2_with fail
      refine (PcB.out _ g5 cp5 hG5).mono ?_
      rintro e w6 ⟨hb6, h6⟩
      (have s6 := s5.call hb6; have q6 := s6.hold; simp only [Holds, and_true] at q6; clear s5 hb6; try clear q5)
      have sz6 : w.heap.size + 1 + 1 < w6.heap.size := q6.2.2.1.2.1
      rcases h6 with ⟨hno6, rfl⟩ | ⟨hyes6, g6, cp6, rfl, hg6, hG6⟩
      · have e3 : w6.cell? ⟨3, 0, none⟩ = some (.iface 169 (.pointer (some (a 3)))) := s6.sent.1.2
        have l3 := World.block_lt_of_cell? w6 _ e3
        go_wp2_with fail
        go_region
        all_goals
          go_wp2_with fail
          refine bodyPost_ret (v := .tuple #[(.agg #[.int .i64 0, .slice none 0 0]), .iface 169 (.pointer (some (a 3)))]) (by simp [results, Tryd.results28, go_sem, q6]) rfl ⟨?_, .inr (.inl ⟨rfl, ⟨hno, hno6⟩, rfl⟩)⟩
          repeat' (first | exact s6.bel | refine Below.setCell ?_ (by first | (simp; done) | (simp; omega)) _ | refine Below.alloc ?_ (by first | (simp; done) | (simp; omega)) _ | refine Below.drew ?_)
      · have s7 := s6.box2 84 (.int .i64 n) (.slice (some ⟨g6, 0, none⟩) len' cp6)
        have hG7 := hG6.below ((Below.refl _ _).alloc (Nat.le_refl _) (.cells #[.int .i64 n, .slice (some ⟨g6, 0, none⟩) len' cp6] 84))
        go_wp2_with fail
        refine (PtL.out _ g6 cp6 _ hG7).mono ?_
        rintro e w8 ⟨g8, cp8, rfl, hg8, hR8, hb8⟩
        have q7 := s7.hold
        simp only [Holds, and_true] at q7
        simp only [World.size_alloc] at hg8
        (have s8 := s7.call hb8; have q8 := s8.hold; simp only [Holds, and_true] at q8; clear s7 hb8; try clear q7)
        go_wp2_with fail
        refine bodyPost_ret (v := .tuple #[(.agg #[.int .i64 N, (.slice (some ⟨g8, 0, none⟩) len' cp8)]), .nilIface]) (by simp [results, Tryd.results28, go_sem, q8]) rfl ⟨?_, .inr (.inr ⟨rfl, fun k => k.2 hyes6, g8, cp8, rfl, by omega, ?_⟩)⟩
        · repeat' (first | exact s8.bel | refine Below.setCell ?_ (by first | (simp; done) | (simp; omega)) _)
        · rw [joinM_b hno]
          exact (hR8.other (by show w.heap.size + 1 + 1 ≠ g8; omega) _).other (by show w.heap.size + 1 + 1 ≠ g8; omega) _
    · have s4 := s3.box2 84 (.int .i64 n) (.slice (some ⟨g3, 0, none⟩) len' cp3)
      have hG4 := hG3.below ((Below.refl _ _).alloc (Nat.le_refl _) (.cells #[.int .i64 n, .slice (some ⟨g3, 0, none⟩) len' cp3] 84))
      go_wp2_with fail
      refine (PbB.out _ s4.sent.2.2).mono ?_
      rintro e w5 ⟨g5, cp5, rfl, hg5, hG5, hb5⟩
      have q4 := s4.hold
      simp only [Holds, and_true] at q4
      have hG5' := hG4.below hb5
      (have s5 := s4.call hb5; have q5 := s5.hold; simp only [Holds, and_true] at q5; clear s4 hb5; try clear q4)
      go_wp2_with fail
      refine (PcB.out _ g5 cp5 hG5).mono ?_
      rintro e w6 ⟨hb6, h6⟩
      have hG6' := hG5'.below hb6
      (have s6 := s5.call hb6; have q6 := s6.hold; simp only [Holds, and_true] at q6; clear s5 hb6; try clear q5)
      have sz6 : w.heap.size + 1 + 1 < w6.heap.size := q6.2.2.1.2.1
      rcases h6 with ⟨hno6, rfl⟩ | ⟨hyes6, g6, cp6, rfl, hg6, hG6⟩
      · have s7 := s6.box2 84 (.int .i64 0) (.slice none 0 0)
        have hG7 := hG6'.below ((Below.refl _ _).alloc (Nat.le_refl _) (.cells #[.int .i64 0, .slice none 0 0] 84))
        go_wp2_with fail
        refine (PtL.out _ g3 cp3 _ hG7).mono ?_
        rintro e w8 ⟨g8, cp8, rfl, hg8, hR8, hb8⟩
        have q7 := s7.hold
        simp only [Holds, and_true] at q7
        simp only [World.size_alloc] at hg8
        (have s8 := s7.call hb8; have q8 := s8.hold; simp only [Holds, and_true] at q8; clear s7 hb8; try clear q7)
        go_wp2_with fail
        refine bodyPost_ret (v := .tuple #[(.agg #[.int .i64 N, (.slice (some ⟨g8, 0, none⟩) len' cp8)]), .nilIface]) (by simp [results, Tryd.results28, go_sem, q8]) rfl ⟨?_, .inr (.inr ⟨rfl, fun k => k.1 hyes, g8, cp8, rfl, by omega, ?_⟩)⟩
        · repeat' (first | exact s8.bel | refine Below.setCell ?_ (by first | (simp; done) | (simp; omega)) _)
        · rw [joinM_a hyes hno6]
          exact (hR8.other (by show w.heap.size + 1 + 1 ≠ g8; omega) _).other (by show w.heap.size + 1 + 1 ≠ g8; omega) _
      · have s7 := s6.box2 84 (.int .i64 n) (.slice (some ⟨g6, 0, none⟩) len' cp6)
        have hG7 := hG6'.below ((Below.refl _ _).alloc (Nat.le_refl _) (.cells #[.int .i64 n, .slice (some ⟨g6, 0, none⟩) len' cp6] 84))
        have hG8 := hG6.below ((Below.refl _ _).alloc (Nat.le_refl _) (.cells #[.int .i64 n, .slice (some ⟨g6, 0, none⟩) len' cp6] 84))
        go_wp2_with fail
        refine (HW.out _ g3 cp3 g6 cp6 hG7 hG8).mono ?_
        rintro e w8 ⟨g8, cp8, rfl, hg8, hG9, hb8⟩
        have q7 := s7.hold
        simp only [Holds, and_true] at q7
        (have s8 := s7.call hb8; have q8 := s8.hold; simp only [Holds, and_true] at q8; clear s7 hb8; try clear q7)
        go_wp2_with fail
        refine (PtL.out _ g8 cp8 _ hG9).mono ?_
        rintro e w9 ⟨g9, cp9, rfl, hg9, hR9, hb9⟩
        have sz8 : w.heap.size + 1 + 1 < w8.heap.size := q8.2.2.2.2.1.2.1
        (have s9 := s8.call hb9; have q9 := s9.hold; simp only [Holds, and_true] at q9; clear s8 hb9; try clear q8)
        go_wp2_with fail
        refine bodyPost_ret (v := .tuple #[(.agg #[.int .i64 N, (.slice (some ⟨g9, 0, none⟩) len' cp9)]), .nilIface]) (by simp [results, Tryd.results28, go_sem, q9]) rfl ⟨?_, .inr (.inr ⟨rfl, fun k => k.1 hyes, g9, cp9, rfl, by omega, ?_⟩)⟩
        · repeat' (first | exact s9.bel | refine Below.setCell ?_ (by first | (simp; done) | (simp; omega)) _)
        · rw [joinM_ab hyes hyes6]
          exact (hR9.other (by show w.heap.size + 1 + 1 ≠ g9; omega) _).other (by show w.heap.size + 1 + 1 ≠ g9; omega) _
  · rw [erV_ne h0] at HP
    have H0 := hide h0
    clear h0 hS hA hB hl hm her h3
    go_enter Tryd.func28, Tryd.ntmps28
    go_wp2_with fail
    refine (HP.out _ s0.sent.1.1 s0.sent.2.1 s0.sent.2.2).mono ?_
    rintro e w1 ⟨rfl, hb1⟩
    (have s1 := s0.call hb1; have q1 := s1.hold; simp only [Holds, and_true] at q1; clear s0 hb1; try clear q0)
    go_wp2_with fail
    refine bodyPost_ret (v := .tuple #[(.agg #[.int .i64 0, .slice none 0 0]), .iface 169 (.pointer (some (a (er.toNat - 1))))]) (by simp [results, Tryd.results28, go_sem, q1]) rfl ⟨?_, .inl ⟨H0.out, by rw [erV_ne H0.out]⟩⟩
    repeat' (first | exact s1.bel | refine Below.setCell ?_ (by first | (simp; done) | (simp; omega)) _)
end Go.Proofs.YtofjjaabgfmnpaaDoor
