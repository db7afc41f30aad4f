/- Zones: what is widened over and over: the law's walk. -/
import Derived.Test.YthnjnieocjpjiaaDoorZw
import Derived.Test.YthnjnieocjpjiaaDoorRx
import Derived.Deep.Cut
import Derived.Deep.DeepCutAuto
namespace Go.Proofs.YthnjnieocjpjiaaDoor
open Go.RowKit
set_option linter.unusedVariables false

/-- How often it has changed. -/
def Stay (N : Int) (l0 c : List Ce) (ch : Nat) : Prop := (ch = 0 ∧ c = l0) ∨ (zErr N c = 0 ∧ NoNeg (nOf N) (fw (matOf (nOf N) c) (nOf N)) ∧ ch + cnt c ≤ l0.length + 1)
theorem Stay.fine {N : Int} {l0 c : List Ce} {ch : Nat} (h : Stay N l0 c ch) : ch ≤ l0.length + 1 := by
  rcases h with h | h <;> omega
theorem Stay.step {N : Int} {l0 c m : List Ce} {ch : Nat} (h : Stay N l0 c ch) (hc : c.length = l0.length) (he : pairErr N c N m = 0) (L : List Ce) (hL : L = tellL (nOf N) (widM (nOf N) (matOf (nOf N) c) (matOf (nOf N) m))) :
    L.length = l0.length ∧ (L = c → Stay N l0 L ch) ∧ (L ≠ c → Stay N l0 L (ch + 1)) := by
  obtain ⟨w1, w2, w3, w4⟩ := wid_step he
  rw [← hL] at w1 w2 w3 w4
  have hle := cnt_le L
  refine ⟨by omega, fun e => by rw [e]; exact h, fun hne => ?_⟩
  by_cases hA : NoNeg (nOf N) (fw (matOf (nOf N) c) (nOf N))
  · obtain ⟨k1, k2, k3⟩ := w4 hA
    have hlt : cnt L < cnt c := by
      rcases k3 with k | k
      · exact absurd k hne
      · exact k
    refine .inr ⟨w1, k1, ?_⟩
    rcases h with ⟨rfl, rfl⟩ | h
    · have := cnt_le c; omega
    · omega
  · have k := (w3 hA).resolve_left hne
    refine .inr ⟨w1, k, ?_⟩
    rcases h with ⟨rfl, _⟩ | h
    · omega
    · exact absurd h.2.1 hA

theorem keepX0 {w W : World} {Z P : World → Prop} (hP : ∀ W, Z W → P W) (L : List (Nat × Nat × Value)) (h : St w W Z L) : P W ∧ CellsAnd W L (St w W Z L) := ⟨hP _ h.sent, CellsAnd.mk h.hold h⟩
theorem keepX {w W W' : World} {Z P : World → Prop} (hP : ∀ W, Z W → P W) (L : List (Nat × Nat × Value)) (hb : Below W.heap.size W W') (h : P W ∧ CellsAnd W L (St w W Z L)) : P W' ∧ CellsAnd W' L (St w W' Z L) := keepX0 hP L (h.2.last.call hb)
theorem keepX_st {w W : World} {Z P : World → Prop} (L : List (Nat × Nat × Value)) (h : P W ∧ CellsAnd W L (St w W Z L)) : St w W Z L := h.2.last

set_option maxRecDepth 20000 in
set_option maxHeartbeats 8000000 in
theorem zoneStays_by (N : Int) (x : Option Addr) (c0 len : Nat) (l : List Ce) (y : Option Addr) (cy k : Nat) (Ls : List ZnM) (a : Nat → Addr) (w : World) (hS : ErrS w a) (hA : CsAt w x l) (hZ : ZnsAt w y Ls) (hl : Hid (len = l.length)) (hlen : len ≤ 9223372036854775807) (hk : Hid (k = Ls.length)) (hkl : k ≤ 9223372036854775807) (hLs : Hid (∀ z ∈ Ls, z.l.length ≤ 9223372036854775807)) :
    Calls Tryd.prog 11 #[(.agg #[.int .i64 N, (.slice x len c0)]), .slice y k cy] w fun e w' => e = .returned (.bool true) ∧ Below w.heap.size w w' := by
  have s0 := ((St.startZs (em := false) (cs := [(x, l)]) hS (fun h => by cases h) (by intro p hp; simp at hp; subst hp; exact hA)).both (Y := fun W => ZnsAt W y Ls) hZ (fun _ _ q hb => hZ.stays q hb)).box2 24 (.int .i64 N) (.slice x len c0)
  go_enter Tryd.func11, Tryd.ntmps11
  go_wp2_with fail
  refine (free_any a _ s0.sent.1.e).mono ?_
  rintro e w1 ⟨rfl, hb1⟩
  (have s1 := s0.call hb1; have q1 := s1.hold; simp only [Holds, and_true] at q1; clear s0 hb1; try clear q0)
  clear hS hA hZ
  by_cases h1 : len ≤ 100
  rotate_left
  · have h1' : (100 : Int) < (len : Int) := by omega
    go_wp2_with fail
    go_ret
    exact ⟨rfl, s1.bel⟩
  have h1' : ¬ (100 : Int) < (len : Int) := by omega
  by_cases h2 : k ≤ 40
  rotate_left
  · have h2' : (40 : Int) < (k : Int) := by omega
    go_wp2_with fail
    go_ret
    exact ⟨rfl, s1.bel⟩
  have h2' : ¬ (40 : Int) < (k : Int) := by omega
  go_wp2_with fail
  refine (zoneOf_any N x c0 len l _ (s1.sent.1.c (by simp)) hl (by omega)).mono ?_
  rintro e w2 ⟨z2, d2, rfl, hz2, hb2⟩
  (have s2 := s1.call hb2; have q2 := s2.hold; simp only [Holds, and_true] at q2; clear s1 hb2; try clear q1)
  have s3 := s2.box2 30 (.int .i64 N) (.slice z2 len d2)
  have hz3 := hz2.below ((Below.refl _ _).alloc (Nat.le_refl _) (.cells #[.int .i64 N, .slice z2 len d2] 30))
  obtain ⟨B6, hB6⟩ : ∃ B, B = w2.heap.size := ⟨_, rfl⟩
  rw [← hB6] at s3
  have hB6w : w.heap.size < B6 := by rw [hB6]; exact q2.1.2.1
  go_wp2_with fail
  rw [← hB6]
  clear hB6 q2 s2 hz2
  go_loopg [7, 8] k (fun gh t7 t8 wr => ∃ (ch i : Nat) (xn : Option Addr) (cn : Nat) (cl : List Ce), i + gh = k ∧ t7 = .int .i64 ch ∧ t8 = .int .i64 i ∧ CsAt wr xn cl ∧ Hid (cl.length = l.length) ∧ Hid (Stay N l cl ch) ∧ St w wr (Both (Zs false a [(x, l)]) (fun W => ZnsAt W y Ls)) ((B6, 0, Value.int .i64 N) :: (B6, 1, Value.slice xn len cn) :: (w.heap.size, 0, Value.int .i64 N) :: (w.heap.size, 1, Value.slice x len c0) :: []))
  case atStart => exact ⟨0, 0, z2, d2, l, by omega, rfl, rfl, hz3, rfl, .inl ⟨rfl, rfl⟩, s3⟩
  case round =>
    clear s3 hz3
    obtain ⟨ch, i, xn, cn, cl, hig, rfl, rfl, hcl, hclen, hst, st⟩ := hrel
    have qs := st.hold
    simp only [Holds, and_true] at qs
    have hfine := hst.out.fine
    have hch : (ch : Int) ≤ (len : Int) + 1 := by rw [hl.out]; omega
    by_cases hik : i < k
    · have hik' : (i : Int) < (k : Int) := by omega
      have hiL : i < Ls.length := by rw [← hk.out]; exact hik
      obtain ⟨b, off, hy, hbl, hcells⟩ : ∃ b off, y = some ⟨b, off, none⟩ ∧ b < wr.heap.size ∧ ZnAt wr b (off + i * 2) (Ls.getD i znZ) := by
        rcases st.sent.2 with h | ⟨b, off, h1, h2, h3⟩
        · rw [h] at hiL; simp at hiL
        · exact ⟨b, off, h1, h2, h3 i hiL⟩
      subst hy
      obtain ⟨⟨Ni, ai, ci, li⟩, hzi⟩ : ∃ z, z = Ls.getD i znZ := ⟨_, rfl⟩
      rw [← hzi] at hcells
      have hli : Hid (li.length ≤ 9223372036854775807) := hLs.out ⟨Ni, ai, ci, li⟩ (by rw [hzi, show Ls.getD i znZ = Ls[i] by simp [hiL]]; exact List.getElem_mem hiL)
      obtain ⟨ki, hki⟩ : ∃ m, m = li.length := ⟨_, rfl⟩
      have Hki := hide hki
      obtain ⟨cc1, cc2, cc3⟩ := hcells
      dsimp only at cc1 cc2 cc3
      rw [← hki] at cc2 hli
      have hP : Hid (∀ W, (Both (Both (Zs false a [(x, l)]) (fun W => ZnsAt W (some ⟨b, off, none⟩) Ls)) (fun W => CsAt W xn cl)) W → (W.cell? ⟨b, off + i * 2, none⟩ = some (.int .i64 Ni) ∧ W.cell? ⟨b, off + i * 2 + 1, none⟩ = some (.slice ai ki ci)) ∧ CsAt W ai li ∧ ErrS W a ∧ CsAt W xn cl) := by
        intro W h
        rcases h.1.2 with h' | ⟨b', off', e, h2, h3⟩
        · rw [h'] at hiL; simp at hiL
        · obtain ⟨rfl, rfl⟩ : b = b' ∧ off = off' := by simpa using e
          have k := h3 i hiL
          rw [← hzi] at k
          exact ⟨⟨k.1, by rw [hki]; exact k.2.1⟩, k.2.2, h.1.1.e, h.2⟩
      clear hzi hki
      by_cases hki100 : ki ≤ 100
      rotate_left
      · have hki' : (100 : Int) < (ki : Int) := by omega
        have hkl2 := hli.out
        go_wp2_with fail
        go_ret
        exact ⟨rfl, st.bel⟩
      have hki' : ¬ (100 : Int) < (ki : Int) := by omega
      have HZ : Hid (∀ W : World, CsAt W ai li → Calls Tryd.prog 15 #[(.agg #[.int .i64 Ni, (.slice ai ki ci)])] W fun e w' => ∃ z cap, e = .returned (.agg #[.int .i64 Ni, (.slice z ki cap)]) ∧ CsAt w' z li ∧ Below W.heap.size W w') := fun W h => zoneOf_any Ni ai ci ki li W h Hki (by omega)
      have HW : Hid (∀ (W : World) (z : Option Addr) (cz : Nat), ErrS W a → CsAt W xn cl → CsAt W z li → Calls Tryd.prog 39 #[(.agg #[.int .i64 N, (.slice xn len cn)]), (.agg #[.int .i64 Ni, (.slice z ki cz)])] W fun e w' => ∃ (N5 : Int) (x5 : Option Addr) (k5 c5 : Nat) (er : Int) (L5 : List Ce), e = .returned (.tuple #[(.agg #[.int .i64 N5, (.slice x5 k5 c5)]), erV a er]) ∧ Hid (er = 0 → N5 = N ∧ k5 = len ∧ L5.length = l.length ∧ (L5 = cl → Stay N l L5 ch) ∧ (L5 ≠ cl → Stay N l L5 (ch + 1)) ∧ ∃ g, x5 = some ⟨g, 0, none⟩ ∧ W.heap.size ≤ g ∧ RowC w' g 0 L5) ∧ Below W.heap.size W w') := by
        intro W z cz h1 h2 h3
        refine (widen_any N Ni xn z len cn ki cz cl li a W h1 h2 h3 (by show _ = _; rw [hl.out]; exact hclen.out.symm) Hki (by omega) (by omega)).mono ?_
        rintro e w' ⟨hb, h | h | h⟩
        · exact ⟨0, none, 0, 0, _, [], h.2, fun h0 => absurd h0 h.1, hb⟩
        · exact absurd h.2.1 (fun k => k)
        · obtain ⟨h0, _, g5, cp5, rfl, hg5, hR5⟩ := h
          have hNN := (pairErr_0 h0).2.2
          subst hNN
          obtain ⟨t1, t2, t3⟩ := hst.out.step hclen.out h0 _ rfl
          exact ⟨N, _, len, cp5, 0, _, rfl, fun _ => ⟨rfl, rfl, t1, t2, t3, g5, rfl, hg5, hR5⟩, hb⟩
      go_upto_region 11 with fail
      have s6 := st.re.both (Y := fun W => CsAt W xn cl) hcl (fun _ _ q hb => CsAt.stays hcl q hb)
      have hbX := st.bel
      obtain ⟨Z6, hZ6⟩ : ∃ Z : World → Prop, Z = (Both (Both (Zs false a [(x, l)]) (fun W => ZnsAt W (some ⟨b, off, none⟩) Ls)) (fun W => CsAt W xn cl)) := ⟨_, rfl⟩
      rw [← hZ6] at s6 hP
      have hP6 : Hid (∀ W, Z6 W → (W.cell? ⟨b, off + i * 2, none⟩ = some (.int .i64 Ni) ∧ W.cell? ⟨b, off + i * 2 + 1, none⟩ = some (.slice ai ki ci))) := fun W h => (hP.out W h).1
      have hZb : Hid (∀ W, Z6 W → Both (Zs false a [(x, l)]) (fun W => ZnsAt W (some ⟨b, off, none⟩) Ls) W) := fun W h => by rw [hZ6] at h; exact h.1
      have stcl := st.cl
      have hB6r : B6 < wr.heap.size := qs.1.2.1
      clear hZ6 st hcl
      go_cut [9, 10] (fun t9 t10 wx => ∃ (bj : Nat) (N5 : Int) (x5 : Option Addr) (k5 c5 : Nat) (er : Int) (L5 : List Ce), t10 = erV a er ∧ t9 = .pointer (some ⟨bj, 0, none⟩) ∧ wr.heap.size ≤ bj ∧ Hid (er = 0 → N5 = N ∧ k5 = len ∧ L5.length = l.length ∧ (L5 = cl → Stay N l L5 ch) ∧ (L5 ≠ cl → Stay N l L5 (ch + 1)) ∧ ∃ g, x5 = some ⟨g, 0, none⟩ ∧ wr.heap.size ≤ g ∧ RowC wx g 0 L5) ∧ St wr wx Z6 ((bj, 0, Value.int .i64 N5) :: (bj, 1, Value.slice x5 k5 c5) :: ((B6, 0, Value.int .i64 N) :: (B6, 1, Value.slice xn len cn) :: (w.heap.size, 0, Value.int .i64 N) :: (w.heap.size, 1, Value.slice x len c0) :: [])))
      case first =>
        have hwB := Nat.le_refl wr.heap.size
        have k2 := s6.hold
        go_region_held3 (fun w' => (w'.cell? ⟨b, off + i * 2, none⟩ = some (.int .i64 Ni) ∧ w'.cell? ⟨b, off + i * 2 + 1, none⟩ = some (.slice ai ki ci)) ∧ (w'.cell? ⟨B6, 0, none⟩ = some (.int .i64 N) ∧ w'.cell? ⟨B6, 1, none⟩ = some (.slice xn len cn) ∧ w'.cell? ⟨w.heap.size, 0, none⟩ = some (.int .i64 N) ∧ w'.cell? ⟨w.heap.size, 1, none⟩ = some (.slice x len c0) ∧ St wr w' Z6 ((B6, 0, Value.int .i64 N) :: (B6, 1, Value.slice xn len cn) :: (w.heap.size, 0, Value.int .i64 N) :: (w.heap.size, 1, Value.slice x len c0) :: []))) (first | (exact keepX hP6.out (((B6, 0, Value.int .i64 N) :: (B6, 1, Value.slice xn len cn) :: (w.heap.size, 0, Value.int .i64 N) :: (w.heap.size, 1, Value.slice x len c0) :: [])) (by assumption) (by assumption)) | (exact keepX hP6.out (((B6, 0, Value.int .i64 N) :: (B6, 1, Value.slice xn len cn) :: (w.heap.size, 0, Value.int .i64 N) :: (w.heap.size, 1, Value.slice x len c0) :: [])) (Below.refl _ _).drew (by assumption)) | (exact keepX hP6.out (((B6, 0, Value.int .i64 N) :: (B6, 1, Value.slice xn len cn) :: (w.heap.size, 0, Value.int .i64 N) :: (w.heap.size, 1, Value.slice x len c0) :: [])) ((Below.refl _ _).alloc (Nat.le_refl _) _) (by assumption)) | (exact keepX0 hP6.out (((B6, 0, Value.int .i64 N) :: (B6, 1, Value.slice xn len cn) :: (w.heap.size, 0, Value.int .i64 N) :: (w.heap.size, 1, Value.slice x len c0) :: [])) (St.drew (by assumption))) | (exact keepX0 hP6.out (((B6, 0, Value.int .i64 N) :: (B6, 1, Value.slice xn len cn) :: (w.heap.size, 0, Value.int .i64 N) :: (w.heap.size, 1, Value.slice x len c0) :: [])) (s8.alloc _)) | (exact keepX0 hP6.out (((B6, 0, Value.int .i64 N) :: (B6, 1, Value.slice xn len cn) :: (w.heap.size, 0, Value.int .i64 N) :: (w.heap.size, 1, Value.slice x len c0) :: [])) (St.twoP s8 k2 hwB (by first | exact Nat.le_refl _ | exact hb7.size))) | (exact keepX0 hP6.out (((B6, 0, Value.int .i64 N) :: (B6, 1, Value.slice xn len cn) :: (w.heap.size, 0, Value.int .i64 N) :: (w.heap.size, 1, Value.slice x len c0) :: [])) (by assumption)))
          (first
            | (go_at_call 15; refine (HZ.out _ (hP.out _ (keepX_st (w := wr) (Z := Z6) (P := fun W' => W'.cell? ⟨b, off + i * 2, none⟩ = some (.int .i64 Ni) ∧ W'.cell? ⟨b, off + i * 2 + 1, none⟩ = some (.slice ai ki ci)) ((B6, 0, Value.int .i64 N) :: (B6, 1, Value.slice xn len cn) :: (w.heap.size, 0, Value.int .i64 N) :: (w.heap.size, 1, Value.slice x len c0) :: []) (by assumption)).sent).2.1).mono ?_; rintro e w7 ⟨y7, c7, rfl, hy7, hb7⟩; have s7 := (keepX_st (w := wr) (Z := Z6) (P := fun W' => W'.cell? ⟨b, off + i * 2, none⟩ = some (.int .i64 Ni) ∧ W'.cell? ⟨b, off + i * 2 + 1, none⟩ = some (.slice ai ki ci)) ((B6, 0, Value.int .i64 N) :: (B6, 1, Value.slice xn len cn) :: (w.heap.size, 0, Value.int .i64 N) :: (w.heap.size, 1, Value.slice x len c0) :: []) (by assumption)).call hb7; first | (have hx7 := boxed2 hb7) | (have hx7 := boxed2' hb7) | skip)
            | (go_at_call 39; refine (HW.out _ y7 c7 (hP.out _ (keepX_st (w := wr) (Z := Z6) (P := fun W' => W'.cell? ⟨b, off + i * 2, none⟩ = some (.int .i64 Ni) ∧ W'.cell? ⟨b, off + i * 2 + 1, none⟩ = some (.slice ai ki ci)) ((B6, 0, Value.int .i64 N) :: (B6, 1, Value.slice xn len cn) :: (w.heap.size, 0, Value.int .i64 N) :: (w.heap.size, 1, Value.slice x len c0) :: []) (by assumption)).sent).2.2.1 (hP.out _ (keepX_st (w := wr) (Z := Z6) (P := fun W' => W'.cell? ⟨b, off + i * 2, none⟩ = some (.int .i64 Ni) ∧ W'.cell? ⟨b, off + i * 2 + 1, none⟩ = some (.slice ai ki ci)) ((B6, 0, Value.int .i64 N) :: (B6, 1, Value.slice xn len cn) :: (w.heap.size, 0, Value.int .i64 N) :: (w.heap.size, 1, Value.slice x len c0) :: []) (by assumption)).sent).2.2.2 (by first | exact hy7 | exact hy7.below ((Below.refl _ _).alloc (Nat.le_refl _) _).drew | exact hy7.below ((Below.refl _ _).alloc (Nat.le_refl _) _))).mono ?_; rintro e w8 ⟨N8, x8, k8, c8, er8, L8, rfl, h8, hb8⟩; have s8 := (keepX_st (w := wr) (Z := Z6) (P := fun W' => W'.cell? ⟨b, off + i * 2, none⟩ = some (.int .i64 Ni) ∧ W'.cell? ⟨b, off + i * 2 + 1, none⟩ = some (.slice ai ki ci)) ((B6, 0, Value.int .i64 N) :: (B6, 1, Value.slice xn len cn) :: (w.heap.size, 0, Value.int .i64 N) :: (w.heap.size, 1, Value.slice x len c0) :: []) (by assumption)).call hb8; (first | (have hx8 := hx7.below hb8; clear hx7; have ho8 := hx8; simp only [Holds, and_true] at ho8) | (have hx8 := boxed2 hb8; have ho8 := hx8; simp only [Holds, and_true] at ho8) | (have hx8 := boxed2' hb8; have ho8 := hx8; simp only [Holds, and_true] at ho8) | skip)))
        all_goals
          have za := hb7.size
          try simp only [World.drew, World.size_alloc] at za
          have zb := hb8.size
          try simp only [World.size_alloc] at zb
          go_wp2_with fail
          go_meet
          case rel => first
            | exact ⟨_, N8, x8, k8, c8, er8, L8, rfl, rfl, (by first | exact s8.bel.size | omega), (fun h0 => by
                obtain ⟨e1, e2, e3, e4, e5, g, rfl, hg, hR⟩ := h8.out h0
                try simp only [World.size_alloc] at hg
                exact ⟨e1, e2, e3, e4, e5, g, rfl, by omega, hR.below ((Below.refl _ _).alloc (Nat.le_refl _) _)⟩), s8.box2 30 _ _⟩
            | exact ⟨_, N8, x8, k8, c8, er8, L8, rfl, rfl, (by first | exact hwB | omega), (fun h0 => by
                obtain ⟨e1, e2, e3, e4, e5, g, rfl, hg, hR⟩ := h8.out h0
                try simp only [World.size_alloc] at hg
                exact ⟨e1, e2, e3, e4, e5, g, rfl, by omega, (hR.other (by dsimp only; omega) _).other (by dsimp only; omega) _⟩), s8.late2 k2 hwB (by first | exact Nat.le_refl _ | exact hb7.size) hx8 _ _⟩
      case rest =>
      clear s6 HZ HW cc1 cc2 cc3 qs
      obtain ⟨bj, N5, x5, k5, c5, er, L5, rfl, rfl, hbj, hC, s7⟩ := hcut
      by_cases her : er = 0
      rotate_left
      · rw [erV_ne her]
        clear her hC
        go_wp2_with fail
        go_ret
        exact ⟨rfl, hbX.trans (s7.bel.mono hbX.size)⟩
      · obtain ⟨e5, e6, hL5, hs0, hs1, g5, hx5, hg5, hR5⟩ := hC.out her
        subst her e5 e6 hx5
        rw [erV_0]
        have q7 := s7.hold
        simp only [Holds, and_true] at q7
        have HB : Hid (∀ W : World, CsAt W xn cl → Calls Tryd.prog 43 #[(.agg #[.int .i64 N5, (.slice xn k5 cn)])] W fun e w' => ∃ y cap, e = .returned (.agg #[.int .i64 N5, (.slice y k5 cap)]) ∧ CsAt w' y cl ∧ Below W.heap.size W w') := fun W h => zoneBack_any N5 xn cn k5 cl W h (by show _ = _; rw [hl.out]; exact hclen.out.symm) (by omega)
        obtain ⟨dd, hdd⟩ : ∃ b, b = decide (L5 = cl) := ⟨_, rfl⟩
        have HIz : Hid (∀ (W : World) (z : Option Addr) (cz : Nat), CsAt W (some ⟨g5, 0, none⟩) L5 → CsAt W z cl → Calls Tryd.prog 25 #[(.agg #[.int .i64 N5, (.slice (some ⟨g5, 0, none⟩) k5 c5)]), (.agg #[.int .i64 N5, (.slice z k5 cz)])] W fun e w' => e = .returned (.bool dd) ∧ Below W.heap.size W w') := by
          intro W z cz h1 h2
          refine (isZone_any N5 N5 _ z k5 c5 k5 cz L5 cl W h1 h2 (by show _ = _; rw [hl.out]; exact hL5.symm) (by show _ = _; rw [hl.out]; exact hclen.out.symm) (by omega)).mono ?_
          rintro e w' ⟨rfl, hb⟩
          exact ⟨by rw [hdd]; simp, hb⟩
        have hcl7 : CsAt _ xn cl := (hP.out _ s7.sent).2.2.2
        have hstay : Hid (Stay N5 l L5 (if dd = true then ch else ch + 1)) := by
          show Stay _ _ _ _
          rw [hdd]
          by_cases h : L5 = cl
          · rw [if_pos (by simp [h])]; exact hs0 h
          · rw [if_neg (by simp [h])]; exact hs1 h
        have s8 := s7.re.both (Y := fun W => RowC W g5 0 L5) hR5 (fun _ _ q hb => RowC.stays hR5.lt q hb)
        have hbY := hbX.trans (s7.bel.mono hbX.size)
        have hb7' := s7.bel
        clear s7 hdd hs0 hs1 hC hR5 hcl7
        go_wp2_with fail
        go_region_with (first
          | (go_at_call 43; refine (HB.out _ (hP.out _ s8.drew.sent.1).2.2.2).mono ?_; rintro e w9 ⟨y9, c9, rfl, hy9, hb9⟩; have s9 := s8.drew.call hb9; have q9 := s9.hold; simp only [Holds, and_true] at q9)
          | (go_at_call 25; refine (HIz.out _ y9 c9 (.inr ⟨g5, 0, rfl, s9.sent.2⟩) hy9).mono ?_; rintro e w10 ⟨rfl, hb10⟩; have s10 := s9.call hb10; have q10 := s10.hold; simp only [Holds, and_true] at q10))
        all_goals
          have s11 : St w w10 (Both (Zs false a [(x, l)]) (fun W => ZnsAt W (some ⟨b, off, none⟩) Ls)) ((B6, 0, Value.int .i64 N5) :: (B6, 1, Value.slice xn k5 cn) :: (w.heap.size, 0, Value.int .i64 N5) :: (w.heap.size, 1, Value.slice x k5 c0) :: []) := ⟨hbY.trans (s10.bel.mono hbY.size), (s10.drop 2).hold, hZb.out _ s10.sent.1, stcl⟩
          have s12 := (s11.put20 (by omega) ⟨by dsimp only; omega, by dsimp only; omega, trivial⟩ (.int .i64 N5)).put21 (by omega) ⟨by dsimp only; omega, by dsimp only; omega, trivial⟩ (.slice (some ⟨g5, 0, none⟩) k5 c5)
          have hR12 := ((show RowC w10 g5 0 L5 from s10.sent.2).other (p := ⟨B6, 0, none⟩) (by show B6 ≠ g5; omega) (.int .i64 N5)).other (p := ⟨B6, 1, none⟩) (by show B6 ≠ g5; omega) (.slice (some ⟨g5, 0, none⟩) k5 c5)
          have hbjB : bj ≠ B6 := by omega
          clear s11 s8 s9 q9 s10
          cases dd
          · go_wp2_with fail
            go_roundg (k - (i + 1))
            case measure => omega
            case rel => exact ⟨ch + 1, i + 1, some ⟨g5, 0, none⟩, c5, L5, by omega, by go_num, by go_num, .inr ⟨g5, 0, rfl, hR12⟩, hL5, (by have h := hstay.out; rw [if_neg (by simp)] at h; exact h), s12⟩
          · go_wp2_with fail
            go_roundg (k - (i + 1))
            case measure => omega
            case rel => exact ⟨ch, i + 1, some ⟨g5, 0, none⟩, c5, L5, by omega, rfl, by go_num, .inr ⟨g5, 0, rfl, hR12⟩, hL5, (by have h := hstay.out; first | rw [if_pos rfl] at h | rw [if_pos trivial] at h; exact h), s12⟩
    · have hik' : ¬ (i : Int) < (k : Int) := by omega
      go_wp2_with fail
      go_ret
      exact ⟨by first | rfl | exact ret_bool (by simp; omega), st.bel⟩

theorem zoneStays_true (N : Int) (x : Option Addr) (c0 : Nat) (l : List Ce) (y : Option Addr) (cy k : Nat) (Ls : List ZnM) (a : Nat → Addr) (w : World) (hS : ErrS w a) (hN : -9223372036854775808 ≤ N ∧ N ≤ 9223372036854775807) (hA : CsAt w x l) (hlen : l.length ≤ 9223372036854775807) (hm : ∀ A ∈ l, -9223372036854775808 ≤ A.m ∧ A.m ≤ 9223372036854775807)
    (hZ : ZnsAt w y Ls) (hk : k = Ls.length) (hkl : k ≤ 9223372036854775807) (hLs : ∀ z ∈ Ls, (-9223372036854775808 ≤ z.n ∧ z.n ≤ 9223372036854775807) ∧ z.l.length ≤ 9223372036854775807) :
    Calls Tryd.prog 11 #[(.agg #[.int .i64 N, (.slice x l.length c0)]), .slice y k cy] w fun e w' => e = .returned (.bool true) ∧ Below w.heap.size w w' :=
  zoneStays_by N x c0 l.length l y cy k Ls a w hS hA hZ rfl hlen hk hkl (fun z hz => (hLs z hz).2)

end Go.Proofs.YthnjnieocjpjiaaDoor
