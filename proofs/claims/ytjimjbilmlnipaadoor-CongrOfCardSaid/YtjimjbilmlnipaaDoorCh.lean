/- The walk of CongrJoin, by what is asked of the program's functions. -/
import Derived.Test.YtjimjbilmlnipaaDoorCg
import Derived.Test.YtjimjbilmlnipaaDoorCy
namespace Go.Proofs.YtjimjbilmlnipaaDoor
open Go.RowKit
set_option linter.unusedVariables false

theorem cells_news {w : World} {b off : Nat} {l : List Int} (hc : ∀ i, i < l.length → w.cell? ⟨b, off + i, none⟩ = some (.int .i64 (l.getD i 0))) :
    ∀ j u, (l.map (Value.int .i64))[j]? = some u → w.cell? ((⟨b, off, none⟩ : Addr).add j) = some u := by
  intro j u hj
  have hjl : j < l.length := by
    rcases Nat.lt_or_ge j l.length with h | h
    · exact h
    · rw [List.getElem?_eq_none (by simpa using h)] at hj; cases hj
  have := hc j hjl
  have hu : u = .int .i64 (l.getD j 0) := by simp [hjl] at hj; rw [← hj]; simp [hjl]
  rw [hu, ← this]
  unfold Addr.add
  split
  · rename_i h0; subst h0; simp
  · rfl

theorem keepJ3 {w W : World} {Z : World → Prop} {b : Nat} {p q : Int} {L : List (Nat × Nat × Value)} (h : St w W Z ((b, 0, .int .i64 p) :: (b, 1, .int .i64 q) :: L)) :
    W.cell? ⟨b, 0, none⟩ = some (.int .i64 p) ∧ W.cell? ⟨b, 1, none⟩ = some (.int .i64 q) ∧ St w W Z ((b, 0, .int .i64 p) :: (b, 1, .int .i64 q) :: L) :=
  ⟨h.hold.1.1, h.hold.2.1.1, h⟩
theorem keepJ3_st {w W : World} {Z : World → Prop} {p0 p1 : Prop} {L : List (Nat × Nat × Value)} (h : p0 ∧ p1 ∧ St w W Z L) : St w W Z L := h.2.2

set_option maxRecDepth 20000 in
set_option maxHeartbeats 8000000 in
theorem cjoin_walk (a : Nat → Addr) (hT : SixthC a) (r m r' m' : Int) (w : World) (hS : Sents w a) (E jr jm : Int) (v : Value) (hE : 0 ≤ E)
    (HE : Hid (∀ W : World, Calls Tryd.prog 17 #[(.agg #[.int .i64 r, .int .i64 m]), (.agg #[.int .i64 r', .int .i64 m'])] W fun x w' => x = .returned (.int .i64 E) ∧ Below W.heap.size W w'))
    (HJ : Hid (∀ W : World, Sents W a → Calls Tryd.prog 20 #[(.agg #[.int .i64 r, .int .i64 m]), (.agg #[.int .i64 r', .int .i64 m'])] W fun x w' => x = .returned (.tuple #[(.agg #[.int .i64 jr, .int .i64 jm]), v]) ∧ Below W.heap.size W w'))
    (HS : Hid (0 < E → ∀ W : World, Sents W a → Calls Tryd.prog 21 #[(.agg #[.int .i64 jr, .int .i64 jm]), v, (.agg #[.int .i64 0, .int .i64 0]), .int .i64 E] W fun x w' => x = .returned (.bool true) ∧ Below W.heap.size W w'))
    (HG : Hid (E = 0 → v = .nilIface ∧ okC ⟨r, m⟩ ∧ okC ⟨r', m'⟩ ∧ (⟨jr, jm⟩ : Cg) = formC ((firstL r m 3 1 ++ firstL r' m' 3 1).getD 0 0) (gcdD (firstL r m 3 1 ++ firstL r' m' 3 1) 6))) :
    Calls Tryd.prog 4 #[(.agg #[.int .i64 r, .int .i64 m]), (.agg #[.int .i64 r', .int .i64 m'])] w fun x w' => x = .returned (.bool true) ∧ Below w.heap.size w w' := by
  have HO : Hid (∀ (p q : Int) (W : World), Calls Tryd.prog 14 #[(.agg #[.int .i64 p, .int .i64 q])] W fun e w' => e = .returned (.agg #[.int .i64 p, .int .i64 q]) ∧ Below W.heap.size W w') := own_any
  go_enter Tryd.func4, Tryd.ntmps4
  go_wp2_with fail
  have s0 := ((St.start hS).box2 23 (.int .i64 r) (.int .i64 m)).box2 23 (.int .i64 r') (.int .i64 m')
  simp only [World.size_alloc] at s0
  refine (hT _ s0.sents.errs).mono ?_
  (rintro x1 w1 ⟨rfl, hb⟩; have s1 := s0.call hb; have q1 := s1.hold; simp only [Holds, and_true] at q1; clear hb s0; try clear q0)
  go_wp2_with fail
  refine (HE.out _).mono ?_
  (rintro x1 w2 ⟨rfl, hb⟩; have s2 := s1.call hb; have q2 := s2.hold; simp only [Holds, and_true] at q2; clear hb s1; try clear q1)
  go_upto_region 5 with fail
  go_cut [7, 8] (fun s7 s8 wx => v = s8 ∧ ∃ bj : Nat, s7 = .pointer (some ⟨bj, 0, none⟩) ∧ w.heap.size + 1 < bj ∧ St w wx (SZ a) ((bj, 0, Value.int .i64 jr) :: (bj, 1, Value.int .i64 jm) :: (w.heap.size + 1, 0, Value.int .i64 r') :: (w.heap.size + 1, 1, Value.int .i64 m') :: (w.heap.size, 0, Value.int .i64 r) :: (w.heap.size, 1, Value.int .i64 m) :: []))
  case first =>
    have hwB := s2.bel.size
    have k2 := s2.hold
    have hlt : w.heap.size + 1 < w2.heap.size := by have := s2.hold.1.2.1; exact this
    go_region_held3 (fun w' => w'.cell? ⟨w.heap.size + 1, 0, none⟩ = some (.int .i64 r') ∧ w'.cell? ⟨w.heap.size + 1, 1, none⟩ = some (.int .i64 m') ∧ w'.cell? ⟨w.heap.size, 0, none⟩ = some (.int .i64 r) ∧ w'.cell? ⟨w.heap.size, 1, none⟩ = some (.int .i64 m) ∧ St w w' (SZ a) ((w.heap.size + 1, 0, Value.int .i64 r') :: (w.heap.size + 1, 1, Value.int .i64 m') :: (w.heap.size, 0, Value.int .i64 r) :: (w.heap.size, 1, Value.int .i64 m) :: [])) (first | (exact keepSt0 ((w.heap.size + 1, 0, Value.int .i64 r') :: (w.heap.size + 1, 1, Value.int .i64 m') :: (w.heap.size, 0, Value.int .i64 r) :: (w.heap.size, 1, Value.int .i64 m) :: []) s2.drew) | (exact keepSt ((w.heap.size + 1, 0, Value.int .i64 r') :: (w.heap.size + 1, 1, Value.int .i64 m') :: (w.heap.size, 0, Value.int .i64 r) :: (w.heap.size, 1, Value.int .i64 m) :: []) (by assumption) (by assumption)) | (exact keepSt0 ((w.heap.size + 1, 0, Value.int .i64 r') :: (w.heap.size + 1, 1, Value.int .i64 m') :: (w.heap.size, 0, Value.int .i64 r) :: (w.heap.size, 1, Value.int .i64 m) :: []) ((s6.late2 k2 hwB (by first | exact Nat.le_refl _ | exact hb4.size | exact hb5.size | exact Nat.le_trans hb4.size hb5.size | exact Nat.le_trans hb5.size hb4.size) hx _ _).drop 2)) | (exact keepSt0 ((w.heap.size + 1, 0, Value.int .i64 r') :: (w.heap.size + 1, 1, Value.int .i64 m') :: (w.heap.size, 0, Value.int .i64 r) :: (w.heap.size, 1, Value.int .i64 m) :: []) (s6.alloc _)) | (exact keepSt0 ((w.heap.size + 1, 0, Value.int .i64 r') :: (w.heap.size + 1, 1, Value.int .i64 m') :: (w.heap.size, 0, Value.int .i64 r) :: (w.heap.size, 1, Value.int .i64 m) :: []) ((keepSt_st ((w.heap.size + 1, 0, Value.int .i64 r') :: (w.heap.size + 1, 1, Value.int .i64 m') :: (w.heap.size, 0, Value.int .i64 r) :: (w.heap.size, 1, Value.int .i64 m) :: []) (by assumption)).alloc _)) | (exact keepSt0 ((w.heap.size + 1, 0, Value.int .i64 r') :: (w.heap.size + 1, 1, Value.int .i64 m') :: (w.heap.size, 0, Value.int .i64 r) :: (w.heap.size, 1, Value.int .i64 m) :: []) ((keepSt_st ((w.heap.size + 1, 0, Value.int .i64 r') :: (w.heap.size + 1, 1, Value.int .i64 m') :: (w.heap.size, 0, Value.int .i64 r) :: (w.heap.size, 1, Value.int .i64 m) :: []) (by assumption)).alloc _).drew))
      (first
        | (go_at_call_of 14 (Value.agg #[.int .i64 r, .int .i64 m]); refine (HO.out r m _).mono ?_; rintro e w4 ⟨rfl, hb4⟩; (first | (have hx4 := Holds.below hx hb4; clear hx; have hx := hx4; clear hx4; have ho4 := hx; simp only [Holds, and_true] at ho4) | (have hx := boxed2 hb4; have ho4 := hx; simp only [Holds, and_true] at ho4) | (have hx := boxed2' hb4; have ho4 := hx; simp only [Holds, and_true] at ho4) | skip))
        | (go_at_call_of 14 (Value.agg #[.int .i64 r', .int .i64 m']); refine (HO.out r' m' _).mono ?_; rintro e w5 ⟨rfl, hb5⟩; (first | (have hx5 := Holds.below hx hb5; clear hx; have hx := hx5; clear hx5; have ho5 := hx; simp only [Holds, and_true] at ho5) | (have hx := boxed2 hb5; have ho5 := hx; simp only [Holds, and_true] at ho5) | (have hx := boxed2' hb5; have ho5 := hx; simp only [Holds, and_true] at ho5) | skip))
        | (go_at_call 20; refine (HJ.out _ (keepSt_st ((w.heap.size + 1, 0, Value.int .i64 r') :: (w.heap.size + 1, 1, Value.int .i64 m') :: (w.heap.size, 0, Value.int .i64 r) :: (w.heap.size, 1, Value.int .i64 m) :: []) (by assumption)).sents).mono ?_; rintro e w6 ⟨rfl, hb6⟩; have s6 := (keepSt_st ((w.heap.size + 1, 0, Value.int .i64 r') :: (w.heap.size + 1, 1, Value.int .i64 m') :: (w.heap.size, 0, Value.int .i64 r) :: (w.heap.size, 1, Value.int .i64 m) :: []) (by assumption)).call hb6; (first | (have hx6 := Holds.below hx hb6; clear hx; have hx := hx6; clear hx6; have ho6 := hx; simp only [Holds, and_true] at ho6) | (have hx := boxed2 hb6; have ho6 := hx; simp only [Holds, and_true] at ho6) | (have hx := boxed2' hb6; have ho6 := hx; simp only [Holds, and_true] at ho6) | skip)))
    all_goals
      go_wp2_with fail
      go_meet
      case rel => first
        | exact ⟨rfl, _, rfl, Nat.lt_of_lt_of_le hlt (by first | exact Nat.le_trans (Nat.le_trans hb4.size hb5.size) hb6.size | exact Nat.le_trans (Nat.le_trans hb5.size hb4.size) hb6.size), s6.box2 31 _ _⟩
        | exact ⟨rfl, _, rfl, (by first | exact hlt | exact Nat.lt_of_lt_of_le hlt hb4.size | exact Nat.lt_of_lt_of_le hlt hb5.size | exact Nat.lt_of_lt_of_le hlt (Nat.le_trans hb4.size hb5.size) | exact Nat.lt_of_lt_of_le hlt (Nat.le_trans hb5.size hb4.size)), s6.late2 k2 hwB (by first | exact Nat.le_refl _ | exact hb4.size | exact hb5.size | exact Nat.le_trans hb4.size hb5.size | exact Nat.le_trans hb5.size hb4.size) hx _ _⟩
  case rest =>
  clear s2 q2
  obtain ⟨rfl, bj, rfl, hbj, s6⟩ := hcut
  have q6 := s6.hold
  simp only [Holds, and_true] at q6
  by_cases hE0 : 0 < E
  · go_wp2_with fail
    refine (HS.out hE0 _ s6.sents).mono ?_
    (rintro x1 w7 ⟨rfl, hb⟩; have s7 := s6.call hb; have q7 := s7.hold; simp only [Holds, and_true] at q7; clear hb s6; try clear q6)
    go_wp2_with fail
    go_ret
    exact ⟨ret_bool (by simp), s7.bel⟩
  · obtain ⟨rfl, ok1, ok2, hJf⟩ := HG.out (by omega)
    have ob1 := okC_b ok1
    have ob2 := okC_b ok2
    have HJf := hide hJf
    have hE00 : E = 0 := by omega
    subst hE00
    clear hJf ok1 ok2
    go_wp2_with fail
    refine (first_any r m 3 1 rfl ob1.1 ob1.2 (by omega) _).mono ?_
    rintro x1 w7 ⟨⟨v1, rfl, own1⟩, hb7⟩
    have s7 := s6.call hb7
    have q7 := s7.hold
    simp only [Holds, and_true] at q7
    clear q6
    go_wp2_with fail
    refine (first_any r' m' 3 1 rfl ob2.1 ob2.2 (by omega) _).mono ?_
    rintro x1 w8 ⟨⟨v2, rfl, own2⟩, hb8⟩
    have bel8 := hb7.trans (hb8.mono hb7.size)
    have own1' := owns_below own1 hb8
    obtain ⟨x2, cap2, rfl, hI2⟩ := IntsAt_of_own own2
    have hlen2 : (firstL r' m' 3 1).length = 3 := by simp [firstL]
    rw [hlen2]
    obtain ⟨bs, offs, rfl, hbs, hcs⟩ : ∃ b off, x2 = some ⟨b, off, none⟩ ∧ b < w8.heap.size ∧ ∀ i, i < (firstL r' m' 3 1).length → w8.cell? ⟨b, off + i, none⟩ = some (.int .i64 ((firstL r' m' 3 1).getD i 0)) := by
      rcases hI2 with h | h
      · rw [h] at hlen2; simp at hlen2
      · exact h
    have hnews := cells_news hcs
    obtain ⟨l1, hl1⟩ : ∃ l1, l1 = firstL r m 3 1 := ⟨_, rfl⟩
    obtain ⟨l2, hl2⟩ : ∃ l2, l2 = firstL r' m' 3 1 := ⟨_, rfl⟩
    have hbd : ∀ s ∈ l1 ++ l2, -2305843009213693952 ≤ s ∧ s ≤ 2305843009213693952 := by
      intro s hs
      rcases List.mem_append.1 hs with h | h
      · rw [hl1] at h; exact firstL_bound ob1.1 ob1.2 (by omega) (by omega) s h
      · rw [hl2] at h; exact firstL_bound ob2.1 ob2.2 (by omega) (by omega) s h
    have hln : (l1 ++ l2).length = 6 := by rw [hl1, hl2]; simp [firstL]
    have hl3 : l2.length = 3 := by rw [hl2]; exact hlen2
    have hJf := HJf.out
    rw [← hl1, ← hl2] at hJf
    rw [← hl1] at own1'
    rw [← hl2] at hnews
    have HJf' := hide hJf
    have Hbd := hide hbd
    have Hln := hide hln
    have HT : Hid ((l1 ++ l2).map (Value.int .i64) = l1.map (Value.int .i64) ++ l2.map (Value.int .i64)) := by show _ = _; simp
    obtain ⟨zs1, hz1⟩ : ∃ zs, zs = l1.map (Value.int .i64) := ⟨_, rfl⟩
    obtain ⟨zs2, hz2⟩ : ∃ zs, zs = l2.map (Value.int .i64) := ⟨_, rfl⟩
    have hzl : zs2.length = 3 * 1 := by rw [hz2]; simp [hl3]
    have hone : ∀ u ∈ zs2, u.oneCell' = true := by rw [hz2]; exact ints_oneCell _ _
    rw [← hz1] at own1' HT
    rw [← hz2] at hnews HT
    have hsz8 := bel8.size
    obtain ⟨i0, hi0, hzz0, hzz1, hzz2⟩ := info_parts Tryd.info3
    clear hl1 hl2 HJf hbd hln hz1 hz2 hcs hI2 own2 own1 hJf s7 q7 hlen2 hl3
    go_wp2_with (at_builtin; refine wpList_append_own _ rfl _ _ 38 rfl wc.heap.size 3 i0 (.int .i64 0) 1 8 Tryd.underlying38 hi0 hzz0 hzz1 hzz2 rfl (by decide) _ _ _ rfl own1' ⟨bs, offs, none⟩ 3 cap2 zs2 rfl hzl hnews hone (by unfold maxLen; omega) (by omega) hsz8 ?_)
    intro v' w9 hown hgrow _
    have bel9 := bel8.grown hgrow hsz8 (fun j hj => (own1'.lt j hj).1)
    have s9 := s6.call bel9
    rw [← HT.out] at hown
    obtain ⟨x3, cap3, rfl, hI3⟩ := IntsAt_of_own hown
    rw [Hln.out]
    obtain ⟨b3, off3, rfl, hb3, _⟩ : ∃ b off, x3 = some ⟨b, off, none⟩ ∧ b < w9.heap.size ∧ ∀ i, i < (l1 ++ l2).length → w9.cell? ⟨b, off + i, none⟩ = some (.int .i64 ((l1 ++ l2).getD i 0)) := by
      rcases hI3 with h | h
      · have := Hln.out; rw [h] at this; simp at this
      · exact h
    have q9 := s9.hold
    simp only [Holds, and_true] at q9
    have HL : Hid (∀ W : World, IntsAt W (some ⟨b3, off3, none⟩) (l1 ++ l2) → Calls Tryd.prog 22 #[.slice (some ⟨b3, off3, none⟩) 6 cap3] W fun e w' => e = .returned (.agg #[.int .i64 jr, .int .i64 jm]) ∧ Below W.heap.size W w') := by
      intro W h
      have := least_any b3 off3 6 cap3 (l1 ++ l2) W h (by show 6 = _; rw [Hln.out]) (by omega) (by omega) Hbd.out
      rw [← HJf'.out] at this
      exact this
    clear hown hgrow own1' hnews HT s6 bel8 bel9 hb7 hb8
    go_upto_region 10 with fail
    go_region_held3 (fun w' => w'.cell? ⟨bj, 0, none⟩ = some (.int .i64 jr) ∧ w'.cell? ⟨bj, 1, none⟩ = some (.int .i64 jm) ∧ St w w' (SZ a) ((bj, 0, Value.int .i64 jr) :: (bj, 1, Value.int .i64 jm) :: (w.heap.size + 1, 0, Value.int .i64 r') :: (w.heap.size + 1, 1, Value.int .i64 m') :: (w.heap.size, 0, Value.int .i64 r) :: (w.heap.size, 1, Value.int .i64 m) :: [])) (first | (exact keepJ3 s9.drew) | (exact keepJ3 s10) | (exact keepJ3 s11))
      (first
        | (go_at_call 22; refine (HL.out _ (by first | exact hI3 | exact hI3.below (Below.refl _ _).drew)).mono ?_; rintro e w10 ⟨rfl, hb10⟩; have s10 := (keepJ3_st (by assumption)).call hb10)
        | (go_at_call 21; refine (isCongr_same jr jm _).mono ?_; rintro e w11 ⟨rfl, hb11⟩; have s11 := (keepJ3_st (by assumption)).call hb11))
    go_wp2_with fail
    go_ret
    exact ⟨ret_bool (by simp), (keepJ3_st (by assumption)).bel⟩

theorem join_gcd (r m r' m' : Int) : gcdD (firstL r m 3 1 ++ firstL r' m' 3 1) 6 = Int.gcd (Int.gcd m m') (r - r') := by
  apply same_dvd
  intro d
  rw [gcdD_dvd, gcd3_dvd]
  have e : firstL r m 3 1 ++ firstL r' m' 3 1 = [r + (0 - 1) * m, r + (1 - 1) * m, r + (2 - 1) * m, r' + (0 - 1) * m', r' + (1 - 1) * m', r' + (2 - 1) * m'] := rfl
  rw [e]
  constructor
  · intro h
    have h1 := h 1 (by omega)
    have h3 := h 3 (by omega)
    have h4 := h 4 (by omega)
    simp at h1 h3 h4
    have a1 : d ∣ m := by rwa [show r - (r + -m) = m by omega] at h1
    have a2 : d ∣ m' := by
      have := Int.dvd_sub h4 h3
      rwa [show r' - (r + -m) - (r' + -m' - (r + -m)) = m' by omega] at this
    have a3 : d ∣ r - r' := by
      have := Int.dvd_sub a1 h4
      rwa [show m - (r' - (r + -m)) = r - r' by omega] at this
    exact ⟨a1, a2, a3⟩
  · rintro ⟨a1, a2, a3⟩ i hi
    have a4 : d ∣ r' - r := by have := Int.dvd_neg.2 a3; rwa [show -(r - r') = r' - r by omega] at this
    rcases (show i = 0 ∨ i = 1 ∨ i = 2 ∨ i = 3 ∨ i = 4 ∨ i = 5 by omega) with rfl | rfl | rfl | rfl | rfl | rfl
    · simp
    · simp; rwa [show r - (r + -m) = m by omega]
    · simp; rw [show r + m - (r + -m) = m + m by omega]; exact Int.dvd_add a1 a1
    · simp; rw [show r' + -m' - (r + -m) = (r' - r) + (m - m') by omega]; exact Int.dvd_add a4 (Int.dvd_sub a1 a2)
    · simp; rw [show r' - (r + -m) = (r' - r) + m by omega]; exact Int.dvd_add a4 a1
    · simp; rw [show r' + m' - (r + -m) = (r' - r) + (m + m') by omega]; exact Int.dvd_add a4 (Int.dvd_add a1 a2)

theorem congrJoin_by (a : Nat → Addr) (hT : SixthC a) (hJ : CJoinC a) (r m r' m' : Int) (w : World) (hS : Sents w a) (r1 : (-9223372036854775808 ≤ r ∧ r ≤ 9223372036854775807) ∧ (-9223372036854775808 ≤ m ∧ m ≤ 9223372036854775807)) (r2 : (-9223372036854775808 ≤ r' ∧ r' ≤ 9223372036854775807) ∧ (-9223372036854775808 ≤ m' ∧ m' ≤ 9223372036854775807)) :
    Calls Tryd.prog 4 #[(.agg #[.int .i64 r, .int .i64 m]), (.agg #[.int .i64 r', .int .i64 m'])] w fun x w' => x = .returned (.bool true) ∧ Below w.heap.size w w' := by
  obtain ⟨E, hE⟩ : ∃ E, E = twoC ⟨r, m⟩ ⟨r', m'⟩ := ⟨_, rfl⟩
  obtain ⟨⟨jr, jm⟩, hj⟩ : ∃ J, J = (if E = 0 then formC r (Int.gcd (Int.gcd m m') (r - r')) else cgZ) := ⟨_, rfl⟩
  have hr := twoC_range ⟨r, m⟩ ⟨r', m'⟩
  refine cjoin_walk a hT r m r' m' w hS E jr jm (errV a E) (by omega) ?_ ?_ ?_ ?_
  · intro W; rw [hE]; exact twoC_any r m r' m' W
  · intro W hs
    have := hJ r m r' m' W hs.errs r1 r2
    rw [← hE, ← hj] at this
    exact this
  · intro h0 W hs
    rw [if_neg (by omega)] at hj
    obtain ⟨rfl, rfl⟩ := Cg.mk.inj hj
    exact isCongr_errZ E h0 (by omega) a 0 0 W hs
  · intro h0
    rw [h0] at hE
    obtain ⟨o1, o2⟩ := (twoC_ok _ _).1 hE.symm
    refine ⟨by rw [h0]; rfl, o1, o2, ?_⟩
    rw [hj, if_pos h0, join_gcd]
    refine (formC_congr ?_).symm
    have e : (firstL r m 3 1 ++ firstL r' m' 3 1).getD 0 0 = r + (0 - 1) * m := rfl
    rw [e, show r + (0 - 1) * m - r = -m by omega]
    exact Int.dvd_neg.2 (gcd3_dvd.1 (Int.dvd_refl _)).1

end Go.Proofs.YtjimjbilmlnipaaDoor
