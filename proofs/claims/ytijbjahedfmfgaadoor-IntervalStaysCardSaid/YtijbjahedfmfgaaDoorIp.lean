/- The walk of IntervalStays, by what is asked of the program's functions. -/
import Derived.Test.YtijbjahedfmfgaaDoorIo
namespace Go.Proofs.YtijbjahedfmfgaaDoor
open Go.RowKit
set_option linter.unusedVariables false

theorem keepJ {w W : World} {a : Nat → Addr} {x : Option Addr} {l : List Int} {b off k : Nat} {M : List Iv} {yd yu : Bool} {yl yh : Int} (hk : k < M.length) (hg : Hid (⟨yd, yu, yl, yh⟩ = M.getD k ivZ)) (L : List (Nat × Nat × Value)) (h : St w W (EIZ a x l (some ⟨b, off, none⟩) M) L) :
    CellsAnd W L (W.cell? ⟨b, off + k * 4, none⟩ = some (.bool yd) ∧ W.cell? ⟨b, off + k * 4 + 1, none⟩ = some (.bool yu) ∧ W.cell? ⟨b, off + k * 4 + 2, none⟩ = some (.int .i64 yl) ∧ W.cell? ⟨b, off + k * 4 + 3, none⟩ = some (.int .i64 yh) ∧ St w W (EIZ a x l (some ⟨b, off, none⟩) M) L) := by
  obtain ⟨b', off', e, h0, h1, h2, h3⟩ := h.ev.get k hk yd yu yl yh hg.out
  obtain ⟨rfl, rfl⟩ : b = b' ∧ off = off' := by simpa using e
  exact CellsAnd.mk h.hold ⟨h0, h1, h2, h3, h⟩
theorem projJ {w W : World} {Z : World → Prop} {p0 p1 p2 p3 : Prop} (L : List (Nat × Nat × Value)) (h : CellsAnd W L (p0 ∧ p1 ∧ p2 ∧ p3 ∧ St w W Z L)) : St w W Z L := h.last.2.2.2.2

set_option maxRecDepth 20000 in
set_option maxHeartbeats 8000000 in
theorem stays_walk (a : Nat → Addr) (hT : ThreeC a) (hJ : JoinC a) (hW : WidenC a) (hI : WithinC a) (d u : Bool) (lo hi : Int) (z x : Option Addr) (m c' n c : Nat) (M : List Iv) (l : List Int) (w : World) (hS : ErrS w a) (r1 : ((-9223372036854775808 ≤ lo ∧ lo ≤ 9223372036854775807) ∧ (-9223372036854775808 ≤ hi ∧ hi ≤ 9223372036854775807))) (hM : IvsAt w z M) (hA : IntsAt w x l) (hm : Hid (m = M.length)) (hl : Hid (n = l.length)) (hm60 : m ≤ 60) (hn : n ≤ 20)
    (hrM : Hid (∀ A ∈ M, ((-9223372036854775808 ≤ A.lo ∧ A.lo ≤ 9223372036854775807) ∧ (-9223372036854775808 ≤ A.hi ∧ A.hi ≤ 9223372036854775807)))) (hr : Hid (∀ s ∈ l, (-9223372036854775808 ≤ s ∧ s ≤ 9223372036854775807))) :
    Calls Tryd.prog 8 #[(.agg #[.bool d, .bool u, .int .i64 lo, .int .i64 hi]), .slice z m c', .slice x n c] w fun e w' => e = .returned (.bool true) ∧ Below w.heap.size w w' := by
  have HJ := hide hJ
  have HW := hide hW
  have HI := hide hI
  have hmu := meas_le l ⟨d, u, lo, hi⟩
  have Hmu : Hid (meas l ⟨d, u, lo, hi⟩ ≤ 2 * n + 2) := by show meas l ⟨d, u, lo, hi⟩ ≤ 2 * n + 2; rw [hl.out]; exact hmu
  clear hJ hW hI hmu
  go_enter Tryd.func8, Tryd.ntmps8
  go_wp2_with fail
  have s0 := (St.startEI hS hA hM).box4 23 (.bool d) (.bool u) (.int .i64 lo) (.int .i64 hi)
  refine (hT _ s0.ee).mono ?_
  (rintro x1 w1 ⟨rfl, hb⟩; have s1 := s0.call hb; have q1 := s1.hold; simp only [Holds, and_true] at q1; clear hb s0; try clear q0)
  go_wp2_with fail
  go_loopg [8, 9] m (fun g ch i wr => ∃ (k : Nat) (cn : Nat) (kd ku : Bool) (kl kh : Int), k + g = m ∧ ch = .int .i64 cn ∧ i = .int .i64 k ∧ Hid (((-9223372036854775808 ≤ kl ∧ kl ≤ 9223372036854775807) ∧ (-9223372036854775808 ≤ kh ∧ kh ≤ 9223372036854775807))) ∧ Hid (cn + meas l ⟨kd, ku, kl, kh⟩ ≤ 2 * n + 2) ∧ St w wr (EIZ a x l z M) ((w.heap.size, 0, Value.bool kd) :: (w.heap.size, 1, Value.bool ku) :: (w.heap.size, 2, Value.int .i64 kl) :: (w.heap.size, 3, Value.int .i64 kh) :: []))
  case atStart => exact ⟨0, 0, d, u, lo, hi, by omega, rfl, rfl, r1, (by show 0 + meas l ⟨d, u, lo, hi⟩ ≤ 2 * n + 2; have := Hmu.out; omega), s1⟩
  case round =>
    clear s1 q1
    obtain ⟨k, cn, kd, ku, kl, kh, hkg, rfl, rfl, hrk, hcn, s1⟩ := hrel
    have q1 := s1.hold
    simp only [Holds, and_true] at q1
    by_cases hlt : k < m
    · have hkn' : (k : Int) < (m : Int) := by omega
      have hkM : k < M.length := by rw [← hm.out]; exact hlt
      obtain ⟨⟨yd, yu, yl, yh⟩, hy⟩ : ∃ y, y = M.getD k ivZ := ⟨_, rfl⟩
      obtain ⟨b, off, rfl, hc0, hc1, hc2, hc3⟩ := s1.ev.get k hkM yd yu yl yh hy
      obtain ⟨e1, he1⟩ : ∃ e1, e1 = twoErr ⟨kd, ku, kl, kh⟩ ⟨yd, yu, yl, yh⟩ := ⟨_, rfl⟩
      obtain ⟨⟨jd, ju, jl, jh⟩, hj⟩ : ∃ J, J = (if e1 = 0 then joined ⟨kd, ku, kl, kh⟩ ⟨yd, yu, yl, yh⟩ else ivZ) := ⟨_, rfl⟩
      obtain ⟨vj, hvj⟩ : ∃ v, v = errV a e1 := ⟨_, rfl⟩
      have hry : ((-9223372036854775808 ≤ yl ∧ yl ≤ 9223372036854775807) ∧ (-9223372036854775808 ≤ yh ∧ yh ≤ 9223372036854775807)) := by
        have h1 : M.getD k ivZ ∈ M := by rw [show M.getD k ivZ = M[k] by simp [hkM]]; exact List.getElem_mem hkM
        have h2 := hrM.out _ h1
        rw [← hy] at h2
        exact h2
      have HJ1 : Hid (∀ W : World, ErrS W a → Calls Tryd.prog 16 #[(.agg #[.bool kd, .bool ku, .int .i64 kl, .int .i64 kh]), (.agg #[.bool yd, .bool yu, .int .i64 yl, .int .i64 yh])] W fun e w' => e = .returned (.tuple #[(.agg #[.bool jd, .bool ju, .int .i64 jl, .int .i64 jh]), vj]) ∧ Below W.heap.size W w') := by
        intro W h
        have := HJ.out kd ku yd yu kl kh yl yh W h hrk.out hry
        rw [← he1, ← hj, ← hvj] at this
        exact this
      have Hj := hide hj
      have He1 := hide he1
      have Hvj := hide hvj
      have Hy := hide hy
      clear hj he1 hvj hy hry hrM HJ
      go_upto_region 8 with fail
      go_cut [10, 11] (fun s10 s11 wx => vj = s11 ∧ ∃ bj : Nat, s10 = .pointer (some ⟨bj, 0, none⟩) ∧ w.heap.size < bj ∧ St w wx (EIZ a x l (some ⟨b, off, none⟩) M) ((bj, 0, Value.bool jd) :: (bj, 1, Value.bool ju) :: (bj, 2, Value.int .i64 jl) :: (bj, 3, Value.int .i64 jh) :: ((w.heap.size, 0, Value.bool kd) :: (w.heap.size, 1, Value.bool ku) :: (w.heap.size, 2, Value.int .i64 kl) :: (w.heap.size, 3, Value.int .i64 kh) :: [])))
      case first =>
        have hwB := s1.bel.size
        have k1 := s1.hold
        have hlt1 : w.heap.size < wr.heap.size := by have := s1.hold.1.2.1; exact this
        go_region_held3 (fun w' => w'.cell? ⟨w.heap.size, 0, none⟩ = some (.bool kd) ∧ w'.cell? ⟨w.heap.size, 1, none⟩ = some (.bool ku) ∧ w'.cell? ⟨w.heap.size, 2, none⟩ = some (.int .i64 kl) ∧ w'.cell? ⟨w.heap.size, 3, none⟩ = some (.int .i64 kh) ∧ w'.cell? ⟨b, off + k * 4, none⟩ = some (.bool yd) ∧ w'.cell? ⟨b, off + k * 4 + 1, none⟩ = some (.bool yu) ∧ w'.cell? ⟨b, off + k * 4 + 2, none⟩ = some (.int .i64 yl) ∧ w'.cell? ⟨b, off + k * 4 + 3, none⟩ = some (.int .i64 yh) ∧ St w w' (EIZ a x l (some ⟨b, off, none⟩) M) ((w.heap.size, 0, Value.bool kd) :: (w.heap.size, 1, Value.bool ku) :: (w.heap.size, 2, Value.int .i64 kl) :: (w.heap.size, 3, Value.int .i64 kh) :: [])) (first | (exact keepJ hkM Hy ((w.heap.size, 0, Value.bool kd) :: (w.heap.size, 1, Value.bool ku) :: (w.heap.size, 2, Value.int .i64 kl) :: (w.heap.size, 3, Value.int .i64 kh) :: []) s1.drew) | (exact keepJ hkM Hy ((w.heap.size, 0, Value.bool kd) :: (w.heap.size, 1, Value.bool ku) :: (w.heap.size, 2, Value.int .i64 kl) :: (w.heap.size, 3, Value.int .i64 kh) :: []) s4) | (exact keepJ hkM Hy ((w.heap.size, 0, Value.bool kd) :: (w.heap.size, 1, Value.bool ku) :: (w.heap.size, 2, Value.int .i64 kl) :: (w.heap.size, 3, Value.int .i64 kh) :: []) ((s4.late k1 hwB (Nat.le_refl _) hx4 _ _ _ _).drop 4)) | (exact keepJ hkM Hy ((w.heap.size, 0, Value.bool kd) :: (w.heap.size, 1, Value.bool ku) :: (w.heap.size, 2, Value.int .i64 kl) :: (w.heap.size, 3, Value.int .i64 kh) :: []) (s4.alloc _)) | (exact keepJ hkM Hy ((w.heap.size, 0, Value.bool kd) :: (w.heap.size, 1, Value.bool ku) :: (w.heap.size, 2, Value.int .i64 kl) :: (w.heap.size, 3, Value.int .i64 kh) :: []) (s1.alloc _).drew))
          (first
            | (go_at_call 16; refine (HJ1.out _ (projJ ((w.heap.size, 0, Value.bool kd) :: (w.heap.size, 1, Value.bool ku) :: (w.heap.size, 2, Value.int .i64 kl) :: (w.heap.size, 3, Value.int .i64 kh) :: []) (by assumption)).ee).mono ?_; rintro e w4 ⟨rfl, hb4⟩; have s4 := (projJ ((w.heap.size, 0, Value.bool kd) :: (w.heap.size, 1, Value.bool ku) :: (w.heap.size, 2, Value.int .i64 kl) :: (w.heap.size, 3, Value.int .i64 kh) :: []) (by assumption)).call hb4; first | (have hx4 := boxed hb4; have ho4 := hx4; simp only [Holds, and_true] at ho4) | (have hx4 := boxed' hb4; have ho4 := hx4; simp only [Holds, and_true] at ho4) | skip))
        all_goals
          go_wp2_with fail
          go_meet
          case rel => first
            | exact ⟨rfl, _, rfl, Nat.lt_of_lt_of_le hlt1 hb4.size, s4.box4 23 _ _ _ _⟩
            | exact ⟨rfl, _, rfl, hlt1, s4.late k1 hwB (Nat.le_refl _) hx4 _ _ _ _⟩
      case rest =>
      clear s1 q1 HJ1
      obtain ⟨rfl, bj, rfl, hbj, s4⟩ := hcut
      have q4 := s4.hold
      simp only [Holds, and_true] at q4
      by_cases h1 : e1 = 0
      · have hv0 : vj = .nilIface := by rw [Hvj.out, h1]; rfl
        subst hv0
        have hok := (twoErr_ok _ _).1 (He1.out.symm.trans h1)
        have hJ : (⟨jd, ju, jl, jh⟩ : Iv) = joined ⟨kd, ku, kl, kh⟩ ⟨yd, yu, yl, yh⟩ := by have := Hj.out; rwa [if_pos h1] at this
        have hoJ : okI ⟨jd, ju, jl, jh⟩ := by rw [hJ]; exact joined_okI hok.1 hok.2
        have hKJ : joined ⟨jd, ju, jl, jh⟩ ⟨kd, ku, kl, kh⟩ = ⟨jd, ju, jl, jh⟩ := by rw [hJ]; exact joined_absorb hok.1 hok.2
        obtain ⟨e2, he2⟩ : ∃ e2, e2 = widErr ⟨kd, ku, kl, kh⟩ ⟨jd, ju, jl, jh⟩ l := ⟨_, rfl⟩
        have hRex : ∃ R : Iv, (e2 = 0 → IsWid ⟨kd, ku, kl, kh⟩ ⟨jd, ju, jl, jh⟩ l R) ∧ (e2 ≠ 0 → R = ivZ) := by
          by_cases h : e2 = 0
          · obtain ⟨R, hR⟩ := IsWid.exists ⟨kd, ku, kl, kh⟩ ⟨jd, ju, jl, jh⟩ l
            exact ⟨R, fun _ => hR, fun k => absurd h k⟩
          · exact ⟨ivZ, fun k => absurd k h, fun _ => rfl⟩
        obtain ⟨⟨rd, ru, rl, rh⟩, hR1, hR2⟩ := hRex
        obtain ⟨vw, hvw⟩ : ∃ v, v = errV a e2 := ⟨_, rfl⟩
        have HW1 : Hid (∀ (W : World) (y : Option Addr) (q : Nat), ErrS W a → IntsAt W y l → Calls Tryd.prog 32 #[(.agg #[.bool kd, .bool ku, .int .i64 kl, .int .i64 kh]), (.agg #[.bool jd, .bool ju, .int .i64 jl, .int .i64 jh]), .slice y n q] W fun e w' => e = .returned (.tuple #[(.agg #[.bool rd, .bool ru, .int .i64 rl, .int .i64 rh]), vw]) ∧ Below W.heap.size W w') := by
          intro W y q h1 h2
          refine (HW.out kd ku jd ju kl kh jl jh y n q l W h1 (okI_r hok.1) (okI_r hoJ) h2 hl.out (by omega) hr.out).mono ?_
          rintro e w' ⟨⟨R, rfl, k1, k2⟩, hb⟩
          have hRR : R = ⟨rd, ru, rl, rh⟩ := by
            by_cases h : e2 = 0
            · exact (k1 (by rw [← he2]; exact h)).unique (hR1 h)
            · rw [hR2 h]; exact k2 (by rw [← he2]; exact h)
          rw [hRR, ← he2, ← hvw]
          exact ⟨rfl, hb⟩
        have Hfin : Hid (e2 = 0 → (∀ W : World, ErrS W a → Calls Tryd.prog 18 #[(.agg #[.bool jd, .bool ju, .int .i64 jl, .int .i64 jh]), (.agg #[.bool rd, .bool ru, .int .i64 rl, .int .i64 rh])] W fun e w' => e = .returned (.tuple #[.bool true, .nilIface]) ∧ Below W.heap.size W w') ∧ ((-9223372036854775808 ≤ rl ∧ rl ≤ 9223372036854775807) ∧ (-9223372036854775808 ≤ rh ∧ rh ≤ 9223372036854775807)) ∧ meas l ⟨rd, ru, rl, rh⟩ ≤ meas l ⟨kd, ku, kl, kh⟩ ∧ ((⟨rd, ru, rl, rh⟩ : Iv) ≠ ⟨kd, ku, kl, kh⟩ → meas l ⟨rd, ru, rl, rh⟩ < meas l ⟨kd, ku, kl, kh⟩)) := by
          intro h0
          have hw := hR1 h0
          have hf : anyFar l = false := by
            rw [he2] at h0
            unfold widErr at h0
            rw [if_pos ((twoErr_ok _ _).2 ⟨hok.1, hoJ⟩)] at h0
            cases hq : anyFar l with
            | false => rfl
            | true => rw [hq] at h0; simp at h0
          have hro := hw.ok hok.1 hoJ hf hKJ
          refine ⟨fun W h => ?_, okI_r hro.1, hw.less.1, hw.less.2⟩
          refine (HI.out.good jd ju rd ru jl jh rl rh hoJ hro.1 W h).mono ?_
          rintro e w' ⟨rfl, hb⟩
          exact ⟨by unfold insideB; rw [decide_eq_true hro.2], hb⟩
        have Hvw := hide hvw
        clear hok hJ hoJ hKJ he2 hR1 hR2 hvw Hj He1 Hvj HW HI
        go_upto_region 11 with fail
        go_cut [11, 12] (fun s11 s12 wx => vw = s11 ∧ ∃ bw : Nat, s12 = .pointer (some ⟨bw, 0, none⟩) ∧ w.heap.size < bw ∧ St w wx (EIZ a x l (some ⟨b, off, none⟩) M) ((bw, 0, Value.bool rd) :: (bw, 1, Value.bool ru) :: (bw, 2, Value.int .i64 rl) :: (bw, 3, Value.int .i64 rh) :: ((bj, 0, Value.bool jd) :: (bj, 1, Value.bool ju) :: (bj, 2, Value.int .i64 jl) :: (bj, 3, Value.int .i64 jh) :: (w.heap.size, 0, Value.bool kd) :: (w.heap.size, 1, Value.bool ku) :: (w.heap.size, 2, Value.int .i64 kl) :: (w.heap.size, 3, Value.int .i64 kh) :: [])))
        case first =>
          have hwB := s4.bel.size
          have k1 := s4.hold
          have hlt1 : w.heap.size < wc.heap.size := by have := s4.hold.2.2.2.2.1.2.1; exact this
          go_region_held3 (fun w' => w'.cell? ⟨bj, 0, none⟩ = some (.bool jd) ∧ w'.cell? ⟨bj, 1, none⟩ = some (.bool ju) ∧ w'.cell? ⟨bj, 2, none⟩ = some (.int .i64 jl) ∧ w'.cell? ⟨bj, 3, none⟩ = some (.int .i64 jh) ∧ w'.cell? ⟨w.heap.size, 0, none⟩ = some (.bool kd) ∧ w'.cell? ⟨w.heap.size, 1, none⟩ = some (.bool ku) ∧ w'.cell? ⟨w.heap.size, 2, none⟩ = some (.int .i64 kl) ∧ w'.cell? ⟨w.heap.size, 3, none⟩ = some (.int .i64 kh) ∧ St w w' (EIZ a x l (some ⟨b, off, none⟩) M) ((bj, 0, Value.bool jd) :: (bj, 1, Value.bool ju) :: (bj, 2, Value.int .i64 jl) :: (bj, 3, Value.int .i64 jh) :: (w.heap.size, 0, Value.bool kd) :: (w.heap.size, 1, Value.bool ku) :: (w.heap.size, 2, Value.int .i64 kl) :: (w.heap.size, 3, Value.int .i64 kh) :: [])) (first | (exact keepSt0 ((bj, 0, Value.bool jd) :: (bj, 1, Value.bool ju) :: (bj, 2, Value.int .i64 jl) :: (bj, 3, Value.int .i64 jh) :: (w.heap.size, 0, Value.bool kd) :: (w.heap.size, 1, Value.bool ku) :: (w.heap.size, 2, Value.int .i64 kl) :: (w.heap.size, 3, Value.int .i64 kh) :: []) s4.drew) | (exact keepSt ((bj, 0, Value.bool jd) :: (bj, 1, Value.bool ju) :: (bj, 2, Value.int .i64 jl) :: (bj, 3, Value.int .i64 jh) :: (w.heap.size, 0, Value.bool kd) :: (w.heap.size, 1, Value.bool ku) :: (w.heap.size, 2, Value.int .i64 kl) :: (w.heap.size, 3, Value.int .i64 kh) :: []) (by assumption) (by assumption)) | (exact keepSt0 ((bj, 0, Value.bool jd) :: (bj, 1, Value.bool ju) :: (bj, 2, Value.int .i64 jl) :: (bj, 3, Value.int .i64 jh) :: (w.heap.size, 0, Value.bool kd) :: (w.heap.size, 1, Value.bool ku) :: (w.heap.size, 2, Value.int .i64 kl) :: (w.heap.size, 3, Value.int .i64 kh) :: []) ((s6.late k1 hwB (by first | exact Nat.le_refl _ | exact hb5.size) hx6 _ _ _ _).drop 4)) | (exact keepSt0 ((bj, 0, Value.bool jd) :: (bj, 1, Value.bool ju) :: (bj, 2, Value.int .i64 jl) :: (bj, 3, Value.int .i64 jh) :: (w.heap.size, 0, Value.bool kd) :: (w.heap.size, 1, Value.bool ku) :: (w.heap.size, 2, Value.int .i64 kl) :: (w.heap.size, 3, Value.int .i64 kh) :: []) (s6.alloc _)) | (exact keepSt0 ((bj, 0, Value.bool jd) :: (bj, 1, Value.bool ju) :: (bj, 2, Value.int .i64 jl) :: (bj, 3, Value.int .i64 jh) :: (w.heap.size, 0, Value.bool kd) :: (w.heap.size, 1, Value.bool ku) :: (w.heap.size, 2, Value.int .i64 kl) :: (w.heap.size, 3, Value.int .i64 kh) :: []) ((keepSt_st ((bj, 0, Value.bool jd) :: (bj, 1, Value.bool ju) :: (bj, 2, Value.int .i64 jl) :: (bj, 3, Value.int .i64 jh) :: (w.heap.size, 0, Value.bool kd) :: (w.heap.size, 1, Value.bool ku) :: (w.heap.size, 2, Value.int .i64 kl) :: (w.heap.size, 3, Value.int .i64 kh) :: []) (by assumption)).alloc _)) | (exact keepSt0 ((bj, 0, Value.bool jd) :: (bj, 1, Value.bool ju) :: (bj, 2, Value.int .i64 jl) :: (bj, 3, Value.int .i64 jh) :: (w.heap.size, 0, Value.bool kd) :: (w.heap.size, 1, Value.bool ku) :: (w.heap.size, 2, Value.int .i64 kl) :: (w.heap.size, 3, Value.int .i64 kh) :: []) ((keepSt_st ((bj, 0, Value.bool jd) :: (bj, 1, Value.bool ju) :: (bj, 2, Value.int .i64 jl) :: (bj, 3, Value.int .i64 jh) :: (w.heap.size, 0, Value.bool kd) :: (w.heap.size, 1, Value.bool ku) :: (w.heap.size, 2, Value.int .i64 kl) :: (w.heap.size, 3, Value.int .i64 kh) :: []) (by assumption)).alloc _).drew))
            (first
              | (go_at_call 33; refine (intsCopy_as x n c l _ (keepSt_st ((bj, 0, Value.bool jd) :: (bj, 1, Value.bool ju) :: (bj, 2, Value.int .i64 jl) :: (bj, 3, Value.int .i64 jh) :: (w.heap.size, 0, Value.bool kd) :: (w.heap.size, 1, Value.bool ku) :: (w.heap.size, 2, Value.int .i64 kl) :: (w.heap.size, 3, Value.int .i64 kh) :: []) (by assumption)).ei hl (by omega)).mono ?_; rintro e w5 ⟨y, cy, rfl, hy, hb5⟩; have s5 := (keepSt_st ((bj, 0, Value.bool jd) :: (bj, 1, Value.bool ju) :: (bj, 2, Value.int .i64 jl) :: (bj, 3, Value.int .i64 jh) :: (w.heap.size, 0, Value.bool kd) :: (w.heap.size, 1, Value.bool ku) :: (w.heap.size, 2, Value.int .i64 kl) :: (w.heap.size, 3, Value.int .i64 kh) :: []) (by assumption)).call hb5; first | (have hx5 := boxed hb5) | (have hx5 := boxed' hb5) | skip)
              | (go_at_call 32; refine (HW1.out _ y cy (keepSt_st ((bj, 0, Value.bool jd) :: (bj, 1, Value.bool ju) :: (bj, 2, Value.int .i64 jl) :: (bj, 3, Value.int .i64 jh) :: (w.heap.size, 0, Value.bool kd) :: (w.heap.size, 1, Value.bool ku) :: (w.heap.size, 2, Value.int .i64 kl) :: (w.heap.size, 3, Value.int .i64 kh) :: []) (by assumption)).ee (by first | exact hy | exact hy.below ((Below.refl _ _).alloc (Nat.le_refl _) _).drew | exact hy.below ((Below.refl _ _).alloc (Nat.le_refl _) _))).mono ?_; rintro e w6 ⟨rfl, hb6⟩; have s6 := (keepSt_st ((bj, 0, Value.bool jd) :: (bj, 1, Value.bool ju) :: (bj, 2, Value.int .i64 jl) :: (bj, 3, Value.int .i64 jh) :: (w.heap.size, 0, Value.bool kd) :: (w.heap.size, 1, Value.bool ku) :: (w.heap.size, 2, Value.int .i64 kl) :: (w.heap.size, 3, Value.int .i64 kh) :: []) (by assumption)).call hb6; first | (have hx6 := hx5.below hb6; clear hx5; have ho6 := hx6; simp only [Holds, and_true] at ho6) | (have hx6 := boxed hb6; have ho6 := hx6; simp only [Holds, and_true] at ho6) | (have hx6 := boxed' hb6; have ho6 := hx6; simp only [Holds, and_true] at ho6) | skip))
          all_goals
            go_wp2_with fail
            go_meet
            case rel => first
              | exact ⟨rfl, _, rfl, Nat.lt_of_lt_of_le hlt1 (Nat.le_trans hb5.size hb6.size), s6.box4 23 _ _ _ _⟩
              | exact ⟨rfl, _, rfl, (by first | exact hlt1 | exact Nat.lt_of_lt_of_le hlt1 hb5.size), s6.late k1 hwB (by first | exact Nat.le_refl _ | exact hb5.size) hx6 _ _ _ _⟩
        case rest =>
        clear s4 q4 HW1
        obtain ⟨rfl, bw, rfl, hbw, s6⟩ := hcut
        have q6 := s6.hold
        simp only [Holds, and_true] at q6
        by_cases h2 : e2 = 0
        · have hv0 : vw = .nilIface := by rw [Hvw.out, h2]; rfl
          subst hv0
          obtain ⟨hWi, hrR, hm1, hm2⟩ := Hfin.out h2
          have HWi := hide hWi
          have HrR := hide hrR
          have Hm1 := hide hm1
          have Hm2 := hide hm2
          have hE := fun W => neIv rd ru kd ku rl rh kl kh W
          have hcn' : cn ≤ 42 := by have := hcn.out; omega
          clear hWi hrR hm1 hm2 Hfin
          by_cases hRK : (⟨rd, ru, rl, rh⟩ : Iv) = ⟨kd, ku, kl, kh⟩
          · obtain ⟨rfl, rfl, rfl, rfl⟩ := Iv.mk.inj hRK
            clear hRK
            go_wp2_with fail
            refine (HWi.out _ s6.ee).mono ?_
            (rintro x1 w7 ⟨rfl, hb⟩; have s7 := s6.call hb; have q7 := s7.hold; simp only [Holds, and_true] at q7; clear hb s6; try clear q6)
            go_wp2_with fail
            go_roundg (m - (k + 1))
            case measure => omega
            case rel => exact ⟨k + 1, cn, rd, ru, rl, rh, by omega, rfl, by go_num, hrk, hcn, (St.set4 ((bw, 0, Value.bool rd) :: (bw, 1, Value.bool ru) :: (bw, 2, Value.int .i64 rl) :: (bw, 3, Value.int .i64 rh) :: (bj, 0, Value.bool jd) :: (bj, 1, Value.bool ju) :: (bj, 2, Value.int .i64 jl) :: (bj, 3, Value.int .i64 jh) :: []) [] s7 (Nat.le_refl _) ⟨by omega, by omega, by omega, by omega, by omega, by omega, by omega, by omega, trivial⟩ trivial (.bool rd) (.bool ru) (.int .i64 rl) (.int .i64 rh)).drop 8⟩
          · have hRK' : (decide (rd = kd) && (decide (ru = ku) && (decide (rl = kl) && decide (rh = kh)))) = false := by
              cases hq : (decide (rd = kd) && (decide (ru = ku) && (decide (rl = kl) && decide (rh = kh)))) with
              | false => rfl
              | true => exact absurd (by simpa [and_assoc] using hq) hRK
            have HRK := hide hRK
            clear hRK
            rw [hRK'] at hE
            go_wp2_with fail
            refine (HWi.out _ s6.ee).mono ?_
            (rintro x1 w7 ⟨rfl, hb⟩; have s7 := s6.call hb; have q7 := s7.hold; simp only [Holds, and_true] at q7; clear hb s6; try clear q6)
            go_wp2_with fail
            go_roundg (m - (k + 1))
            case measure => omega
            case rel => exact ⟨k + 1, cn + 1, rd, ru, rl, rh, by omega, by go_num, by go_num, HrR, (by have h1 := hcn.out; have h2 := Hm2.out HRK.out; show cn + 1 + meas l ⟨rd, ru, rl, rh⟩ ≤ 2 * n + 2; omega), (St.set4 ((bw, 0, Value.bool rd) :: (bw, 1, Value.bool ru) :: (bw, 2, Value.int .i64 rl) :: (bw, 3, Value.int .i64 rh) :: (bj, 0, Value.bool jd) :: (bj, 1, Value.bool ju) :: (bj, 2, Value.int .i64 jl) :: (bj, 3, Value.int .i64 jh) :: []) [] s7 (Nat.le_refl _) ⟨by omega, by omega, by omega, by omega, by omega, by omega, by omega, by omega, trivial⟩ trivial (.bool rd) (.bool ru) (.int .i64 rl) (.int .i64 rh)).drop 8⟩
        · have hv : ∃ p, vw = .iface 112 (.pointer (some p)) := ⟨_, by rw [Hvw.out, errV, if_neg h2]⟩
          obtain ⟨p, rfl⟩ := hv
          go_wp2_with fail
          go_ret
          exact ⟨rfl, s6.bel⟩
      · have hv : ∃ p, vj = .iface 112 (.pointer (some p)) := ⟨_, by rw [Hvj.out, errV, if_neg h1]⟩
        obtain ⟨p, rfl⟩ := hv
        go_wp2_with fail
        go_ret
        exact ⟨rfl, s4.bel⟩
    · have hkn' : ¬ (k : Int) < (m : Int) := by omega
      have hcn' : (cn : Int) ≤ 2 * (n : Int) + 2 := by have := hcn.out; omega
      go_wp2_with fail
      go_ret
      exact ⟨ret_bool (by simp), s1.bel⟩

set_option maxHeartbeats 1000000 in
theorem stays_long (a : Nat → Addr) (hT : ThreeC a) (d u : Bool) (lo hi : Int) (z x : Option Addr) (m c' n c : Nat) (w : World) (hS : ErrS w a) (h : ((60 : Int) < (m : Int)) ∨ ((20 : Int) < (n : Int))) :
    Calls Tryd.prog 8 #[(.agg #[.bool d, .bool u, .int .i64 lo, .int .i64 hi]), .slice z m c', .slice x n c] w fun e w' => e = .returned (.bool true) ∧ Below w.heap.size w w' := by
  by_cases h1 : (60 : Int) < (m : Int)
  all_goals
    go_enter Tryd.func8, Tryd.ntmps8
    go_wp2_with fail
    have s0 := (St.startE hS).box4 23 (.bool d) (.bool u) (.int .i64 lo) (.int .i64 hi)
    refine (hT _ s0.errz).mono ?_
    (rintro x1 w1 ⟨rfl, hb⟩; have s1 := s0.call hb; have q1 := s1.hold; simp only [Holds, and_true] at q1; clear hb s0; try clear q0)
    try (have h2 : (20 : Int) < (n : Int) := by omega)
    go_wp2_with fail
    go_ret
    exact ⟨ret_bool (by simp), s1.bel⟩

theorem intervalStays_by (a : Nat → Addr) (hT : ThreeC a) (hJ : JoinC a) (hW : WidenC a) (hI : WithinC a) (d u : Bool) (lo hi : Int) (z : Option Addr) (m c' : Nat) (M : List Iv) (x : Option Addr) (n c : Nat) (l : List Int) (w : World) (hS : ErrS w a) (r1 : ((-9223372036854775808 ≤ lo ∧ lo ≤ 9223372036854775807) ∧ (-9223372036854775808 ≤ hi ∧ hi ≤ 9223372036854775807))) (hM : IvsAt w z M) (hm : m = M.length) (hrM : ∀ A ∈ M, ((-9223372036854775808 ≤ A.lo ∧ A.lo ≤ 9223372036854775807) ∧ (-9223372036854775808 ≤ A.hi ∧ A.hi ≤ 9223372036854775807))) (hA : IntsAt w x l) (hl : n = l.length) (hr : ∀ s ∈ l, (-9223372036854775808 ≤ s ∧ s ≤ 9223372036854775807)) :
    Calls Tryd.prog 8 #[(.agg #[.bool d, .bool u, .int .i64 lo, .int .i64 hi]), .slice z m c', .slice x n c] w fun e w' => e = .returned (.bool true) ∧ Below w.heap.size w w' := by
  by_cases h : 60 < m ∨ 20 < n
  · exact stays_long a hT d u lo hi z x m c' n c w hS (by omega)
  · exact stays_walk a hT hJ hW hI d u lo hi z x m c' n c M l w hS r1 hM hA hm hl (by omega) (by omega) hrM hr

end Go.Proofs.YtijbjahedfmfgaaDoor
