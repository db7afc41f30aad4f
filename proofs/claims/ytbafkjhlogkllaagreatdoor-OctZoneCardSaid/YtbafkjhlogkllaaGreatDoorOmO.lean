/- Octagons: the reference's walk: all rules over and over. -/
import Derived.Test.YtbafkjhlogkllaaGreatDoorOl
import Derived.Deep.Cut
namespace Go.Proofs.YtbafkjhlogkllaaGreatDoor.Oc
open Go.RowKit
set_option linter.unusedVariables false

/-- All numbers are such as an int holds. -/
def InR (L : List Ce) : Prop := ∀ x, x < L.length → -9223372036854775808 ≤ (L.getD x ceZ).m ∧ (L.getD x ceZ).m ≤ 9223372036854775807
theorem InR.low {L : List Ce} (h : InR L) {x : Nat} (hx : x < L.length) {most : Int} (hm : -9223372036854775808 ≤ most ∧ most ≤ 9223372036854775807) : InR (lowL L x most) := by
  intro y hy
  rw [lowL_len] at hy
  unfold lowL
  rw [getD_set hx]
  split
  · unfold lowC
    split
    · exact h x hx
    · exact hm
  · exact h y hy
theorem wrap_rng (z : Int) : -9223372036854775808 ≤ wrap64 z ∧ wrap64 z ≤ 9223372036854775807 := by unfold wrap64; omega
theorem InR.app {n : Nat} (he : n % 2 = 0) {L : List Ce} (hL : L.length = n * n) (h : InR L) {o : Op} (ho : o.ok n) : InR (appL n L o) := by
  cases o with
  | tig i =>
    have hb := idx_in ho (bar_lt he ho)
    have := h (i * n + bar i) (by rw [hL]; exact hb)
    simp only [appL, tigL]
    split
    · exact h.low (by rw [hL]; exact hb) (by omega)
    · exact h
  | str i j =>
    simp only [appL, strL]
    split
    · refine h.low (by rw [hL]; exact idx_in ho.1 ho.2) ?_
      have := wrap_rng ((L.getD (i * n + bar i) ceZ).m + (L.getD (bar j * n + j) ceZ).m)
      omega
    · exact h
  | rel i j k =>
    simp only [appL, relL]
    split
    · exact h.low (by rw [hL]; exact idx_in ho.1 ho.2.1) (wrap_rng _)
    · exact h
theorem InR.run {n : Nat} (he : n % 2 = 0) : ∀ (l : List Op) (L : List Ce), L.length = n * n → (∀ o ∈ l, o.ok n) → InR L → InR (runL n L l) := by
  intro l
  induction l with
  | nil => intro L _ _ h; exact h
  | cons o l ih => intro L hL hl h; exact ih _ (by rw [appL_len]; exact hL) (fun o' h' => hl o' (List.mem_cons_of_mem _ h')) (h.app he hL (hl o (List.mem_cons_self ..)))
theorem InR.rt {n : Nat} (he : n % 2 = 0) {L : List Ce} (hL : L.length = n * n) (h : InR L) : ∀ t, InR (rtL n L t) := by
  intro t
  induction t with
  | zero => exact h
  | succ t ih => exact InR.run he _ _ (by rw [rtL_len]; exact hL) (fun o ho => all_ops.1 ho) ih
theorem InR.diag {n : Nat} {L : List Ce} (hL : L.length = n * n) (h : InR L) : ∀ k, k ≤ n → InR (diagL n L k) := by
  intro k
  induction k with
  | zero => intro _; exact h
  | succ k ih => intro hk; exact (ih (by omega)).low (by rw [diagL_len, hL]; exact idx_in (by omega) (by omega)) (by omega)
theorem pre_ok {n i : Nat} (hi : i ≤ n) : ∀ o ∈ oRnd n i, o.ok n := by
  intro o ho
  obtain ⟨p, hp, h⟩ := mem_oRnd.1 ho
  exact all_ops.1 (mem_oRnd.2 ⟨p, by omega, h⟩)
theorem row_ok {n i j : Nat} (hi : i < n) (hj : j ≤ n) : ∀ o ∈ oRow n i j, o.ok n := by
  intro o ho
  rcases mem_oRow.1 ho with rfl | ⟨q, hq, rfl | ⟨k, hk, rfl⟩⟩
  · exact hi
  · exact ⟨hi, by omega⟩
  · exact ⟨hi, by omega, hk⟩
theorem rel_ok {n i j k : Nat} (hi : i < n) (hj : j < n) (hk : k ≤ n) : ∀ o ∈ oRel i j k, o.ok n := by
  intro o ho
  obtain ⟨q, hq, rfl⟩ := mem_oRel.1 ho
  exact ⟨hi, hj, by omega⟩
theorem all_ok {n : Nat} {l m : List Op} (h : ∀ o ∈ l, o.ok n) (k : ∀ o ∈ m, o.ok n) : ∀ o ∈ l ++ m, o.ok n := fun o ho => (List.mem_append.1 ho).elim (h o) (k o)
theorem belowM {B : Nat} {w w' : World} (h : Below B w w') (n : Nat) : Below B w (w'.drewN n) := by
  induction n with
  | zero => exact h
  | succ n ih => exact ih.drew
theorem _root_.Go.Proofs.YtbafkjhlogkllaaGreatDoor.St.ovr {w v W : World} {Z Z' : World → Prop} {L L' : List (Nat × Nat × Value)} (s : St w v Z L) (t : St v W Z' L') (hz : Z W) : St w W Z L' := ⟨s.bel.trans (t.bel.mono s.bel.size), t.hold, hz, s.cl⟩
theorem keepV0 {w W : World} {Z P : World → Prop} (hP : ∀ W, Z W → P W) (L : List (Nat × Nat × Value)) (h : St w W Z L) : P W ∧ CellsAnd W L (St w W Z L) := ⟨hP _ h.sent, keepSt0 L h⟩

theorem Tryz.infoCellO : (Tryz.prog.info? 56).map (fun i => (i.zero, i.size, i.bytes)) = some (some (.agg #[.bool false, .int .i64 0]), 2, 16) := by kernel_rfl
/-- What the closing answers. -/
def CoPost (w : World) (Ni : Int) (n len : Nat) (D : List Ce) (e : Ending) (w' : World) : Prop :=
  Below w.heap.size w w' ∧ ((∃ t i, t ≤ 5 ∧ i < n ∧ ((runL n (rtL n D t) (oRnd n i)).getD (i * n + i) ceZ).m < 0 ∧ e = .returned (.tuple #[(.agg #[.int .i64 0, (.slice none 0 0)]), .bool false])) ∨
    (∃ t g cap, t ≤ 5 ∧ (∀ i, i < n → leB (some 0) (matOf n (rtL n D t) i i)) ∧ rtL n D (t + 1) = rtL n D t ∧ e = .returned (.tuple #[(.agg #[.int .i64 Ni, (.slice (some ⟨g, 0, none⟩) len cap)]), .bool true]) ∧ w.heap.size ≤ g ∧ (∀ o, w'.frozen? ⟨g, o, none⟩ = false) ∧ RowC w' g 0 ((rtL n D t).map clipC)))

set_option maxRecDepth 20000 in
set_option maxHeartbeats 16000000 in
theorem closedOct_any (Ni : Int) (n b off c len : Nat) (l : List Ce) (w : World) (hN : 2 * Ni = n) (hn : 2 ≤ n ∧ n ≤ 10) (he : n % 2 = 0) (hR : RowC w b off l) (hl : Hid (len = l.length)) (hll : Hid (len = n * n)) (hIn : Hid (InR l))
    (HE6 : Hid ((∀ i, i < n → leB (some 0) (matOf n (rtL n (diagL n l n) 5) i i)) → ∀ p q, p < n → q < n → leB (matOf n (rtL n (diagL n l n) 5) p q) (matOf n (rtL n (diagL n l n) 6) p q))) :
    Calls Tryz.prog 11 #[(.agg #[.int .i64 Ni, (.slice (some ⟨b, off, none⟩) len c)])] w fun e w' => CoPost w Ni n len (diagL n l n) e w' := by
  have hlen : 1 ≤ len ∧ len ≤ 100 := by
    have := hll.out
    have h1 := Nat.mul_le_mul hn.2 hn.2
    have h2 := Nat.mul_le_mul hn.1 hn.1
    omega
  obtain ⟨i0, hi0, hz0, hz1, hz2⟩ := info_parts Tryz.infoCellO
  have s0 := ((St.start1' w).box2 42 (.int .i64 Ni) (.slice (some ⟨b, off, none⟩) len c)).box2 42 (.int .i64 0) (.slice none 0 0)
  have s1 := s0.box2 42 (.int .i64 Ni) (.slice none 0 0)
  simp only [World.size_alloc] at s1
  have hR1 := hR.below (s1.bel)
  have hnews := hR1.news
  have hcl : (cellsV l).length = len * 2 := by rw [cellsV_len, hl.out]
  have hone := cellsV_one l
  obtain ⟨zs, hzs⟩ : ∃ zs, zs = cellsV l := ⟨_, rfl⟩
  rw [← hzs] at hnews hcl hone
  have Hzs := hide hzs
  clear hzs s0 hR1 hR
  go_enter Tryz.func11, Tryz.ntmps11
  go_wp2_with (at_builtin; refine wpList_append_lies _ rfl _ _ 22 rfl w.heap.size 56 i0 _ 2 16 Tryz.underlying22 hi0 hz0 hz1 hz2 rfl (by decide) _ _ _ rfl (World.ownsRow_nil _ _ _ _) ⟨b, off, none⟩ len c zs rfl hcl hnews hone (by omega) (by unfold maxLen; omega) (by omega) (by simp; omega) (w.heap.size + 1 + 1 + 1) (by simp) ?_)
  intro g cap w1 own1 hgrow hat hlt1
  have hg : g = w.heap.size + 1 + 1 + 1 := by
    rcases hat with h | h
    · simp [Value.ownBlock] at h
    · exact h
  have hb1 := (Below.refl _ _).grown hgrow (Nat.le_refl _) (fun j hj => by simp [Value.ownBlock] at hj)
  have s2 := s1.call hb1
  have own2 : w1.ownsRow w.heap.size 56 2 (.slice (some ⟨g, 0, none⟩) len cap) len (cellsV l) := by
    have := own1
    rw [Hzs.out] at this
    exact this
  obtain ⟨R2, F2⟩ := RowC.of_own own2 hl.out hlt1
  have q2 := s2.hold
  simp only [Holds, and_true] at q2
  have s3 := s2.put21 (by omega) ⟨by dsimp only; omega, by dsimp only; omega, by dsimp only; omega, by dsimp only; omega, trivial⟩ (.slice (some ⟨g, 0, none⟩) len cap)
  have R3 := R2.other (p := ⟨w.heap.size + 1 + 1, 1, none⟩) (by show w.heap.size + 1 + 1 ≠ g; omega) (.slice (some ⟨g, 0, none⟩) len cap)
  have F3 : ∀ o, (w1.setCell ⟨w.heap.size + 1 + 1, 1, none⟩ (.slice (some ⟨g, 0, none⟩) len cap)).frozen? ⟨g, o, none⟩ = false := fun o => by rw [frozen?_setCell']; exact F2 o
  have hgb : w.heap.size + 1 + 1 < g := by omega
  clear hg hat hgrow own1 own2 R2 F2 hb1 hnews hcl hone hlt1 hi0 hz0 hz1 hz2
  go_wp2_with fail
  obtain ⟨W3, hW3⟩ : ∃ W, W = w1.setCell ⟨w.heap.size + 1 + 1, 1, none⟩ (.slice (some ⟨g, 0, none⟩) len cap) := ⟨_, rfl⟩
  rw [← hW3] at s3 R3 F3 ⊢
  clear hW3 q2 s2 s1 Hzs
  go_loopg [6] n (fun gh iv wr => ∃ k : Nat, k + gh = n ∧ iv = .int .i64 k ∧ RowC wr g 0 (diagL n l k) ∧ Hid (∀ o, wr.frozen? ⟨g, o, none⟩ = false) ∧ St w wr (fun _ => True) ((w.heap.size + 1 + 1, 0, Value.int .i64 Ni) :: (w.heap.size + 1 + 1, 1, Value.slice (some ⟨g, 0, none⟩) len cap) :: (w.heap.size + 1, 0, Value.int .i64 0) :: (w.heap.size + 1, 1, Value.slice none 0 0) :: (w.heap.size, 0, Value.int .i64 Ni) :: (w.heap.size, 1, Value.slice (some ⟨b, off, none⟩) len c) :: []))
  case atStart => exact ⟨0, by omega, rfl, R3, F3, s3⟩
  case round =>
    clear s3 R3 F3
    obtain ⟨k, hkg, rfl, hR, hF, st⟩ := hrel
    have qs := st.hold
    simp only [Holds, and_true] at qs
    by_cases hk : k < n
    · have hkn : (k : Int) < (n : Int) := by omega
      obtain ⟨kn, hkn'⟩ : ∃ m : Nat, m = k * n := ⟨_, rfl⟩
      have e1 : (k : Int) * (n : Int) = (kn : Int) := by rw [hkn', Int.natCast_mul]
      have hin := idx_in hk hk
      have hidx : kn + k < len := by rw [hll.out, hkn']; exact hin
      have HLw : Hid (∀ W : World, RowC W g 0 (diagL n l k) → (∀ o, W.frozen? ⟨g, o, none⟩ = false) → Calls Tryz.prog 25 #[.slice (some ⟨g, 0, none⟩) len cap, .int .i64 ((kn : Int) + (k : Int)), .int .i64 0] W fun e w' => (e = .returned (.bool (lowR ((diagL n l k).getD (kn + k) ceZ) 0))) ∧ RowC w' g 0 (diagL n l (k + 1)) ∧ Only g W w') := by
        intro W h1 h2
        have := lower_as g 0 len cap (kn + k) ((kn : Int) + (k : Int)) 0 (by show _ = _; omega) (diagL n l k) (by show _ = _; rw [diagL_len]; exact hl.out) hidx (by omega) W h1 h2
        rw [hkn'] at this ⊢
        exact this
      clear hkn' hin
      go_wp2_with fail
      refine (HLw.out _ hR hF.out).mono ?_
      rintro e2 w2 ⟨rfl, hR2, hO⟩
      have st2 := st.only hO ⟨by dsimp only; omega, by dsimp only; omega, by dsimp only; omega, by dsimp only; omega, by dsimp only; omega, by dsimp only; omega, trivial⟩ (by omega)
      have hF2 : Hid (∀ o, w2.frozen? ⟨g, o, none⟩ = false) := fun o => (hO.fr _).trans (hF.out o)
      clear HLw
      go_wp2_with fail
      go_roundg (n - (k + 1))
      case measure => omega
      case rel => exact ⟨k + 1, by omega, by go_num, hR2, hF2, st2⟩
    · have hke : k = n := by omega
      obtain rfl := hke.symm
      have hkn : ¬ (n : Int) < (n : Int) := by omega
      obtain ⟨D, hD⟩ : ∃ D, D = diagL n l n := ⟨_, rfl⟩
      rw [← hD] at hR HE6
      have HD := hide hD
      have hDl : Hid (len = D.length) := by show _ = _; rw [hD, diagL_len]; exact hl.out
      have hDI : Hid (InR D) := by show InR D; rw [hD]; exact hIn.out.diag (by rw [← hl.out]; exact hll.out) n (Nat.le_refl n)
      clear hD hkg hk
      go_wp2_with fail
      go_loopg [7] 7 (fun gh av wr => ∃ (t : Nat) (ag : Bool), t + gh = 7 ∧ t ≤ 6 ∧ av = .bool ag ∧ Hid ((t = 0 ∧ ag = true) ∨ (1 ≤ t ∧ (∀ i, i < n → leB (some 0) (matOf n (rtL n D (t - 1)) i i)) ∧ FlagO n (rtL n D (t - 1)) (rtL n D t) ag)) ∧ RowC wr g 0 (rtL n D t) ∧ Hid (∀ o, wr.frozen? ⟨g, o, none⟩ = false) ∧ St w wr (fun _ => True) ((w.heap.size + 1 + 1, 0, Value.int .i64 Ni) :: (w.heap.size + 1 + 1, 1, Value.slice (some ⟨g, 0, none⟩) len cap) :: (w.heap.size + 1, 0, Value.int .i64 0) :: (w.heap.size + 1, 1, Value.slice none 0 0) :: (w.heap.size, 0, Value.int .i64 Ni) :: (w.heap.size, 1, Value.slice (some ⟨b, off, none⟩) len c) :: []))
      case atStart => exact ⟨0, true, by omega, by omega, rfl, .inl ⟨rfl, rfl⟩, hR, hF, st⟩
      case round =>
        clear hR hF st qs
        obtain ⟨t, ag, htg, ht6, rfl, HFl, hR, hF, st⟩ := hrel
        have qs := st.hold
        simp only [Holds, and_true] at qs
        cases ag
        · obtain ⟨t0, rfl⟩ : ∃ t0, t = t0 + 1 := by
            rcases HFl.out with k | k
            · exact absurd k.2 (by simp)
            · exact ⟨t - 1, by omega⟩
          obtain ⟨k1, k2⟩ : (∀ i, i < n → leB (some 0) (matOf n (rtL n D t0) i i)) ∧ rtL n D (t0 + 1) = rtL n D t0 := by
            rcases HFl.out with k | ⟨_, k1, k2⟩
            · exact absurd k.2 (by simp)
            · rw [Nat.add_sub_cancel] at k1 k2
              exact ⟨k1, k2.no rfl⟩
          obtain ⟨F, hFF⟩ : ∃ F, F = rtL n D t0 := ⟨_, rfl⟩
          rw [k2, ← hFF] at hR
          have hFl : Hid (len = F.length) := by show _ = _; rw [hFF, rtL_len]; exact hDl.out
          have HK : Hid (t0 ≤ 5 ∧ (∀ i, i < n → leB (some 0) (matOf n (rtL n (diagL n l n) t0) i i)) ∧ rtL n (diagL n l n) (t0 + 1) = rtL n (diagL n l n) t0 ∧ F = rtL n (diagL n l n) t0) := by
            rw [← HD.out]; exact ⟨by omega, k1, k2, hFF⟩
          have HCl : Hid (∀ W : World, RowC W g 0 F → (∀ o, W.frozen? ⟨g, o, none⟩ = false) → Calls Tryz.prog 28 #[.slice (some ⟨g, 0, none⟩) len cap] W fun e w' => e = .returned (.tuple #[]) ∧ RowC w' g 0 (F.map clipC) ∧ Only g W w') := fun W h1 h2 => clip_any g 0 cap len F W h1 h2 hFl (by omega)
          clear k1 k2 hFF HFl HE6
          go_wp2_with fail
          refine (HCl.out _ hR hF.out).mono ?_
          rintro e2 w2 ⟨rfl, hR2, hO⟩
          have st2 := st.only hO ⟨by dsimp only; omega, by dsimp only; omega, by dsimp only; omega, by dsimp only; omega, by dsimp only; omega, by dsimp only; omega, trivial⟩ (by omega)
          have q2 := st2.hold
          simp only [Holds, and_true] at q2
          have F2 : Hid (∀ o, w2.frozen? ⟨g, o, none⟩ = false) := fun o => (hO.fr _).trans (hF.out o)
          clear HCl qs st
          go_wp2_with fail
          refine bodyPost_ret (v := .tuple #[(.agg #[.int .i64 Ni, (.slice (some ⟨g, 0, none⟩) len cap)]), .bool true]) (by simp [results, Tryz.results11, go_sem, *]) rfl ⟨?_, .inr ⟨t0, g, cap, HK.out.1, HK.out.2.1, HK.out.2.2.1, rfl, by omega, ?_, ?_⟩⟩
          · iterate 2 refine Below.setCell ?_ (by first | (simp; done) | (simp; omega)) _
            exact st2.bel
          · intro o
            rw [frozen?_setCell', frozen?_setCell']
            exact F2.out o
          · rw [← HK.out.2.2.2]
            exact (hR2.other (by show w.heap.size + 1 ≠ g; omega) _).other (by show w.heap.size + 1 ≠ g; omega) _
        · have ht5 : t ≤ 5 := by
            apply Classical.byContradiction
            intro h
            obtain rfl : t = 6 := by omega
            rcases HFl.out with k | ⟨_, k1, k2⟩
            · omega
            · obtain ⟨p, q, hp, hq, hno⟩ := k2.yes rfl
              exact hno (HE6.out k1 p q hp hq)
          obtain ⟨Rt, hRt⟩ : ∃ R, R = rtL n D t := ⟨_, rfl⟩
          rw [← hRt] at hR
          have hRl : Hid (len = Rt.length) := by show _ = _; rw [hRt, rtL_len]; exact hDl.out
          have hRI : Hid (InR Rt) := by show InR Rt; rw [hRt]; exact hDI.out.rt he (by rw [← hDl.out]; exact hll.out) t
          have HRt := hide hRt
          clear hRt HFl
          go_wp2_with fail
          go_loopg [8, 7] n (fun gh iv av wr => ∃ (i : Nat) (S : List Ce) (fl : Bool), i + gh = n ∧ iv = .int .i64 i ∧ av = .bool fl ∧ Hid (∀ p, p < i → leB (some 0) (matOf n Rt p p)) ∧ (RowC wr g 0 S ∧ Hid (∀ o, wr.frozen? ⟨g, o, none⟩ = false) ∧ St w wr (fun _ => True) ((w.heap.size + 1 + 1, 0, Value.int .i64 Ni) :: (w.heap.size + 1 + 1, 1, Value.slice (some ⟨g, 0, none⟩) len cap) :: (w.heap.size + 1, 0, Value.int .i64 0) :: (w.heap.size + 1, 1, Value.slice none 0 0) :: (w.heap.size, 0, Value.int .i64 Ni) :: (w.heap.size, 1, Value.slice (some ⟨b, off, none⟩) len c) :: []) ∧ Hid (S = runL n Rt (oRnd n i) ∧ FlagO n Rt S fl)))
          case atStart => exact ⟨0, Rt, false, by omega, rfl, rfl, fun p hp => by omega, hR, hF, st, rfl, FlagO.start n Rt⟩
          case round =>
            clear hR hF st qs
            obtain ⟨i, S, fl, hig, rfl, rfl, hpos, hR, hF, st, HS⟩ := hrel
            have qs := st.hold
            simp only [Holds, and_true] at qs
            by_cases hi : i < n
            · have hin : (i : Int) < (n : Int) := by omega
              have hSl : Hid (len = S.length) := by show _ = _; rw [HS.out.1, runL_len]; exact hRl.out
              obtain ⟨ik, hik⟩ : ∃ m : Nat, m = i * n := ⟨_, rfl⟩
              have a1 : (i : Int) * (n : Int) = (ik : Int) := by rw [hik, Int.natCast_mul]
              have b1 : ik + i < len := by rw [hll.out, hik]; exact idx_in hi hi
              obtain ⟨x1, hx1⟩ : ∃ m : Nat, m = ik + i := ⟨_, rfl⟩
              have a3 : (ik : Int) + (i : Int) = (x1 : Int) := by omega
              have b4 : (x1 : Int) < (len : Int) := by omega
              obtain ⟨am, hA⟩ : ∃ C, C = (S.getD x1 ceZ).m := ⟨_, rfl⟩
              have c2 : wr.cell? ⟨g, x1 * 2 + 1, none⟩ = some (.int .i64 am) := by have := hR.most x1 (by rw [← hSl.out]; omega); rw [← hA, Nat.zero_add] at this; exact this
              have hgl := hR.lt
              have HA : Hid (am = (S.getD (i * n + i) ceZ).m) := by show _ = _; rw [hA, hx1, hik]
              clear hx1 hA
              by_cases hneg : am < 0
              · have HP : Hid (((runL n (rtL n D t) (oRnd n i)).getD (i * n + i) ceZ).m < 0) := by show _ < _; rw [← HRt.out, ← HS.out.1, ← HA.out]; exact hneg
                clear HS hik
                go_wp2_with fail
                refine bodyPost_ret (v := .tuple #[(.agg #[.int .i64 0, (.slice none 0 0)]), .bool false]) (by simp [results, Tryz.results11, go_sem, *]) rfl ⟨?_, .inl ⟨t, i, ht5, hi, by rw [← HD.out]; exact HP.out, rfl⟩⟩
                iterate 2 refine Below.setCell ?_ (by first | (simp; done) | (simp; omega)) _
                exact st.bel
              have hbi := bar_lt he hi
              obtain ⟨bi, hbie⟩ : ∃ m : Nat, m = bar i := ⟨_, rfl⟩
              have hpos2 : Hid (∀ p, p < i + 1 → leB (some 0) (matOf n Rt p p)) := by
                intro p hp
                by_cases e : p = i
                · subst e
                  refine leB_trans ?_ (HS.out.2.le p p hi hi)
                  unfold matOf Ce.bd
                  rw [← HA.out]
                  split
                  · simp [leB]; omega
                  · trivial
                · exact hpos.out p (by omega)
              have HO : Hid (∀ W : World, Calls Tryz.prog 26 #[.int .i64 i] W fun e w' => e = .returned (.int .i64 (bi : Int)) ∧ w' = W) := fun W => by rw [hbie]; exact other_any i (by omega) W
              have hbn : bi < n := by rw [hbie]; exact hbi
              have b5 : ik + bi < len := by rw [hll.out, hik]; exact idx_in hi hbn
              obtain ⟨x2, hx2⟩ : ∃ m : Nat, m = ik + bi := ⟨_, rfl⟩
              have w1 : IntKind.i64.wrap ((i : Int) * (n : Int)) = (ik : Int) := by rw [a1]; exact wrap_small _ (by omega) (by omega)
              have w2 : IntKind.i64.wrap ((ik : Int) + (bi : Int)) = (x2 : Int) := by rw [show (ik : Int) + (bi : Int) = (x2 : Int) by omega]; exact wrap_small _ (by omega) (by omega)
              have a6 : (ik : Int) + (bi : Int) = (x2 : Int) := by omega
              have w3 : IntKind.i64.wrap (x2 : Int) = (x2 : Int) := wrap_small _ (by omega) (by omega)
              have w0 : IntKind.i64.wrap (ik : Int) = (ik : Int) := wrap_small _ (by omega) (by omega)
              have b6 : (x2 : Int) < (len : Int) := by omega
              obtain ⟨⟨ch, cm⟩, hC⟩ : ∃ C, C = S.getD x2 ceZ := ⟨_, rfl⟩
              have hP2 : Hid (∀ W, RowC W g 0 S → (fun w' : World => w'.cell? ⟨g, x2 * 2, none⟩ = some (.bool ch) ∧ w'.cell? ⟨g, x2 * 2 + 1, none⟩ = some (.int .i64 cm)) W) := by
                intro W h
                have h1 := h.has x2 (by rw [← hSl.out]; omega)
                have h2 := h.most x2 (by rw [← hSl.out]; omega)
                rw [← hC, Nat.zero_add] at h1 h2
                exact ⟨h1, h2⟩
              have HC : Hid (S.getD (i * n + bar i) ceZ = ⟨ch, cm⟩) := by show _ = _; rw [hC, hx2, hik, hbie]
              have Hik := hide hik
              have Hx2 := hide hx2
              have Hbi := hide hbie
              have s5 : St wr wr (fun W => RowC W g 0 S) ((w.heap.size + 1 + 1, 0, Value.int .i64 Ni) :: (w.heap.size + 1 + 1, 1, Value.slice (some ⟨g, 0, none⟩) len cap) :: (w.heap.size + 1, 0, Value.int .i64 0) :: (w.heap.size + 1, 1, Value.slice none 0 0) :: (w.heap.size, 0, Value.int .i64 Ni) :: (w.heap.size, 1, Value.slice (some ⟨b, off, none⟩) len c) :: []) := ⟨Below.refl _ _, st.hold, hR, fun _ _ q hb => RowC.stays hR.lt q hb⟩
              have s5d := s5.drew
              clear hC hik hx2 hbie hbi HA hpos
              go_upto_region 16 with fail
              clear c2 b4 a3 hneg b1
              have hSI : Hid (InR S) := by show InR S; rw [HS.out.1]; exact InR.run he _ _ (by rw [← hRl.out]; exact hll.out) (pre_ok (by omega)) hRI.out
              go_cut [9] from 42 to 176 (fun t9 wx => ∃ b9 : Nat, wr.heap.size ≤ b9 ∧ t9 = .pointer (some ⟨b9, 0, none⟩) ∧ St wr wx (fun W => RowC W g 0 S) ((b9, 0, .bool ch) :: (b9, 1, .int .i64 cm) :: ((w.heap.size + 1 + 1, 0, Value.int .i64 Ni) :: (w.heap.size + 1 + 1, 1, Value.slice (some ⟨g, 0, none⟩) len cap) :: (w.heap.size + 1, 0, Value.int .i64 0) :: (w.heap.size + 1, 1, Value.slice none 0 0) :: (w.heap.size, 0, Value.int .i64 Ni) :: (w.heap.size, 1, Value.slice (some ⟨b, off, none⟩) len c) :: [])))
              case first =>
               as_aux_lemma =>
                go_region_held3 (fun w' => (w'.cell? ⟨g, x2 * 2, none⟩ = some (.bool ch) ∧ w'.cell? ⟨g, x2 * 2 + 1, none⟩ = some (.int .i64 cm)) ∧ w'.cell? ⟨w.heap.size + 1 + 1, 0, none⟩ = some (.int .i64 Ni) ∧ w'.cell? ⟨w.heap.size + 1 + 1, 1, none⟩ = some (.slice (some ⟨g, 0, none⟩) len cap) ∧ w'.cell? ⟨w.heap.size + 1, 0, none⟩ = some (.int .i64 0) ∧ w'.cell? ⟨w.heap.size + 1, 1, none⟩ = some (.slice none 0 0) ∧ w'.cell? ⟨w.heap.size, 0, none⟩ = some (.int .i64 Ni) ∧ w'.cell? ⟨w.heap.size, 1, none⟩ = some (.slice (some ⟨b, off, none⟩) len c) ∧ St wr w' (fun W => RowC W g 0 S) ((w.heap.size + 1 + 1, 0, Value.int .i64 Ni) :: (w.heap.size + 1 + 1, 1, Value.slice (some ⟨g, 0, none⟩) len cap) :: (w.heap.size + 1, 0, Value.int .i64 0) :: (w.heap.size + 1, 1, Value.slice none 0 0) :: (w.heap.size, 0, Value.int .i64 Ni) :: (w.heap.size, 1, Value.slice (some ⟨b, off, none⟩) len c) :: [])) (first | (exact keepV0 (P := (fun w' : World => w'.cell? ⟨g, x2 * 2, none⟩ = some (.bool ch) ∧ w'.cell? ⟨g, x2 * 2 + 1, none⟩ = some (.int .i64 cm))) hP2.out ((w.heap.size + 1 + 1, 0, Value.int .i64 Ni) :: (w.heap.size + 1 + 1, 1, Value.slice (some ⟨g, 0, none⟩) len cap) :: (w.heap.size + 1, 0, Value.int .i64 0) :: (w.heap.size + 1, 1, Value.slice none 0 0) :: (w.heap.size, 0, Value.int .i64 Ni) :: (w.heap.size, 1, Value.slice (some ⟨b, off, none⟩) len c) :: []) s5d) | (exact keepV0 (P := (fun w' : World => w'.cell? ⟨g, x2 * 2, none⟩ = some (.bool ch) ∧ w'.cell? ⟨g, x2 * 2 + 1, none⟩ = some (.int .i64 cm))) hP2.out ((w.heap.size + 1 + 1, 0, Value.int .i64 Ni) :: (w.heap.size + 1 + 1, 1, Value.slice (some ⟨g, 0, none⟩) len cap) :: (w.heap.size + 1, 0, Value.int .i64 0) :: (w.heap.size + 1, 1, Value.slice none 0 0) :: (w.heap.size, 0, Value.int .i64 Ni) :: (w.heap.size, 1, Value.slice (some ⟨b, off, none⟩) len c) :: []) (s5d.alloc _)) | assumption)
                  (first
                    | (go_at_call 26; refine (HO.out _).mono ?_; rintro e w9 ⟨rfl, rfl⟩))
                all_goals
                  go_wp2_with fail
                  go_meet
                  case rel => exact ⟨_, Nat.le_refl _, rfl, (s5.box2 56 _ _).drew⟩
              case rest =>
              obtain ⟨b9, hb9, rfl, s6⟩ := hcut
              have st6 := st.ovr s6 trivial
              have hR6 := s6.sent
              have hF6 : Hid (∀ o, wc.frozen? ⟨g, o, none⟩ = false) := fun o => (s6.bel.frozen (p := ⟨g, o, none⟩) hR.lt).trans (hF.out o)
              have hgl6 := hR.lt
              clear s5 s5d s6 hR hF st qs hgl
              have q6 := st6.hold
              simp only [Holds, and_true] at q6
              obtain ⟨hf, hhf⟩ : ∃ h, h = cm / 2 := ⟨_, rfl⟩
              have hcr : -9223372036854775808 ≤ cm ∧ cm ≤ 9223372036854775807 := by
                have := hSI.out (i * n + bar i) (by rw [← hSl.out, hll.out]; exact idx_in hi (bar_lt he hi))
                rw [HC.out] at this
                exact this
              have HDn : Hid (∀ W : World, Calls Tryz.prog 27 #[.int .i64 cm] W fun e w' => e = .returned (.int .i64 hf) ∧ w' = W) := fun W => by rw [hhf]; exact down_any cm hcr W
              obtain ⟨ev, hev⟩ : ∃ v, v = 2 * hf := ⟨_, rfl⟩
              have wE : IntKind.i64.wrap (2 * hf) = ev := by rw [hev]; exact wrap_small _ (by omega) (by omega)
              obtain ⟨rr, hrr⟩ : ∃ r, r = lowR (S.getD x2 ceZ) ev := ⟨_, rfl⟩
              obtain ⟨S1, hS1⟩ : ∃ S1, S1 = lowL S x2 ev := ⟨_, rfl⟩
              have HLw : Hid (∀ W : World, RowC W g 0 S → (∀ o, W.frozen? ⟨g, o, none⟩ = false) → Calls Tryz.prog 25 #[.slice (some ⟨g, 0, none⟩) len cap, .int .i64 (x2 : Int), .int .i64 ev] W fun e w' => e = .returned (.bool rr) ∧ RowC w' g 0 S1 ∧ Only g W w') := by
                intro W h1 h2
                rw [hrr, hS1]
                exact lower_as g 0 len cap x2 (x2 : Int) ev (by show _ = _; rfl) S hSl (by omega) (by omega) W h1 h2
              have hx2e : x2 = i * n + bar i := by rw [Hx2.out, Hik.out, Hbi.out]
              have HT1 : Hid (ch = true → S1 = tigL n S i ∧ FlagO n Rt S1 (if rr = true then true else fl)) := by
                intro hc
                subst hc
                have e1 : S1 = tigL n S i := by
                  rw [hS1]; unfold tigL; rw [HC.out, if_pos rfl, hev, hhf, hx2e]
                refine ⟨e1, ?_⟩
                rw [hS1, hrr, hx2e]
                exact HS.out.2.low (by rw [← hSl.out]; exact hll.out) hi (bar_lt he hi) ev
              have HT0 : Hid (ch = false → S = tigL n S i) := by
                intro hc
                subst hc
                unfold tigL; rw [HC.out, if_neg (by simp)]
              clear hhf hev hrr hS1 hcr hx2e
              go_upto_region 17 with fail
              go_cut [85] from 42 to 176 (fun t85 wy => ∃ (r : Bool) (S2 : List Ce), t85 = .bool r ∧ RowC wy g 0 S2 ∧ Hid (∀ o, wy.frozen? ⟨g, o, none⟩ = false) ∧ St w wy (fun _ => True) ((w.heap.size + 1 + 1, 0, Value.int .i64 Ni) :: (w.heap.size + 1 + 1, 1, Value.slice (some ⟨g, 0, none⟩) len cap) :: (w.heap.size + 1, 0, Value.int .i64 0) :: (w.heap.size + 1, 1, Value.slice none 0 0) :: (w.heap.size, 0, Value.int .i64 Ni) :: (w.heap.size, 1, Value.slice (some ⟨b, off, none⟩) len c) :: []) ∧ Hid (S2 = tigL n S i ∧ FlagO n Rt S2 (if r = true then true else fl)))
              case first =>
               as_aux_lemma =>
                cases ch
                · go_quiet (fail)
                  go_wp2_with fail
                  go_meet
                  case rel => exact ⟨false, S, rfl, hR6.below (belowM (Below.refl _ _) nq), fun o => hF6.out o, (st6.drop 2).call (belowM (Below.refl _ _) nq), HT0.out trivial, HS.out.2⟩
                · have st6d := st6.drew
                  go_region_held3 (fun w' => w'.cell? ⟨b9, 0, none⟩ = some (.bool true) ∧ w'.cell? ⟨b9, 1, none⟩ = some (.int .i64 cm) ∧ w'.cell? ⟨w.heap.size + 1 + 1, 0, none⟩ = some (.int .i64 Ni) ∧ w'.cell? ⟨w.heap.size + 1 + 1, 1, none⟩ = some (.slice (some ⟨g, 0, none⟩) len cap) ∧ w'.cell? ⟨w.heap.size + 1, 0, none⟩ = some (.int .i64 0) ∧ w'.cell? ⟨w.heap.size + 1, 1, none⟩ = some (.slice none 0 0) ∧ w'.cell? ⟨w.heap.size, 0, none⟩ = some (.int .i64 Ni) ∧ w'.cell? ⟨w.heap.size, 1, none⟩ = some (.slice (some ⟨b, off, none⟩) len c) ∧ St w w' (fun _ => True) ((b9, 0, Value.bool true) :: (b9, 1, Value.int .i64 cm) :: ((w.heap.size + 1 + 1, 0, Value.int .i64 Ni) :: (w.heap.size + 1 + 1, 1, Value.slice (some ⟨g, 0, none⟩) len cap) :: (w.heap.size + 1, 0, Value.int .i64 0) :: (w.heap.size + 1, 1, Value.slice none 0 0) :: (w.heap.size, 0, Value.int .i64 Ni) :: (w.heap.size, 1, Value.slice (some ⟨b, off, none⟩) len c) :: []))) (first | (exact keepSt0 _ st6d) | (exact keepSt0 _ (st6d.only hO ⟨by dsimp only; omega, by dsimp only; omega, by dsimp only; omega, by dsimp only; omega, by dsimp only; omega, by dsimp only; omega, by dsimp only; omega, by dsimp only; omega, trivial⟩ (by omega))) | assumption)
                    (first
                      | (go_at_call 26; refine (HO.out _).mono ?_; rintro e w9 ⟨rfl, rfl⟩)
                      | (go_at_call 27; refine (HDn.out _).mono ?_; rintro e w9 ⟨rfl, rfl⟩)
                      | (go_at_call 25; refine (HLw.out _ (hR6.below (Below.refl _ _).drew) (fun o => hF6.out o)).mono ?_; rintro e w9 ⟨rfl, hR9, hO⟩))
                  all_goals
                    go_wp2_with fail
                    go_meet
                    case rel => exact ⟨rr, S1, rfl, hR9, fun o => (hO.fr _).trans (hF6.out o), (st6d.only hO ⟨by dsimp only; omega, by dsimp only; omega, by dsimp only; omega, by dsimp only; omega, by dsimp only; omega, by dsimp only; omega, by dsimp only; omega, by dsimp only; omega, trivial⟩ (by omega)).drop 2, HT1.out trivial⟩
              case rest =>
              obtain ⟨r, S2, rfl, hR7, hF7, st7, H7⟩ := hcut
              obtain ⟨fl2, hfl2⟩ : ∃ b, b = (if r = true then true else fl) := ⟨_, rfl⟩
              rw [← hfl2] at H7
              have Hfl2 := hide hfl2
              clear hfl2 st6 q6 hR6 hF6 HDn HLw HT1 HT0 wE hgl6
              go_upto_if 85 with fail
              obtain ⟨W7, hW7, st7⟩ : ∃ W, W = wc ∧ St w W (fun _ => True) ((w.heap.size + 1 + 1, 0, Value.int .i64 Ni) :: (w.heap.size + 1 + 1, 1, Value.slice (some ⟨g, 0, none⟩) len cap) :: (w.heap.size + 1, 0, Value.int .i64 0) :: (w.heap.size + 1, 1, Value.slice none 0 0) :: (w.heap.size, 0, Value.int .i64 Ni) :: (w.heap.size, 1, Value.slice (some ⟨b, off, none⟩) len c) :: []) := ⟨wc, rfl, st7⟩
              rw [← hW7] at hR7 hF7 ⊢
              clear hW7
              go_cut [7] from 42 to 176 (fun t7 wy => t7 = .bool fl2 ∧ W7 = wy)
              case first =>
                cases r
                · have Hq : Hid (fl2 = fl) := Hfl2.out
                  go_wp2_with fail
                  go_meet
                  case rel => exact ⟨by rw [Hq.out], rfl⟩
                · have Hq : Hid (fl2 = true) := Hfl2.out
                  go_wp2_with fail
                  go_meet
                  case rel => exact ⟨by rw [Hq.out], rfl⟩
              case rest =>
              obtain ⟨rfl, rfl⟩ := hcut
              have HS2 : Hid (S2 = runL n Rt (oRnd n i ++ oRow n i 0) ∧ FlagO n Rt S2 fl2) := ⟨by rw [runL_append, ← HS.out.1]; exact H7.out.1, H7.out.2⟩
              clear H7 HS Hfl2 HC hSl hP2 hSI
              have q7 := st7.hold
              simp only [Holds, and_true] at q7
              go_wp2_with fail
              go_loopg [10, 7] n (fun gh jv av wr => ∃ (j : Nat) (S : List Ce) (fl : Bool), j + gh = n ∧ jv = .int .i64 j ∧ av = .bool fl ∧ (RowC wr g 0 S ∧ Hid (∀ o, wr.frozen? ⟨g, o, none⟩ = false) ∧ St w wr (fun _ => True) ((w.heap.size + 1 + 1, 0, Value.int .i64 Ni) :: (w.heap.size + 1 + 1, 1, Value.slice (some ⟨g, 0, none⟩) len cap) :: (w.heap.size + 1, 0, Value.int .i64 0) :: (w.heap.size + 1, 1, Value.slice none 0 0) :: (w.heap.size, 0, Value.int .i64 Ni) :: (w.heap.size, 1, Value.slice (some ⟨b, off, none⟩) len c) :: []) ∧ Hid (S = runL n Rt (oRnd n i ++ oRow n i j) ∧ FlagO n Rt S fl)))
              case atStart => exact ⟨0, S2, fl2, by omega, rfl, rfl, hR7, hF7, st7, HS2⟩
              case round =>
                clear hR7 hF7 st7 q7 HS2
                obtain ⟨j, S, fl, hjg, rfl, rfl, hR, hF, st, HS⟩ := hrel
                have qs := st.hold
                simp only [Holds, and_true] at qs
                by_cases hj : j < n
                · have hjn : (j : Int) < (n : Int) := by omega
                  have hgl := hR.lt
                  have hSl : Hid (len = S.length) := by show _ = _; rw [HS.out.1, runL_len]; exact hRl.out
                  have hSI : Hid (InR S) := by show InR S; rw [HS.out.1]; exact InR.run he _ _ (by rw [← hRl.out]; exact hll.out) (all_ok (pre_ok (by omega)) (row_ok hi (by omega))) hRI.out
                  obtain ⟨⟨ah, am⟩, hA⟩ : ∃ C, C = S.getD x2 ceZ := ⟨_, rfl⟩
                  have hP2 : Hid (∀ W, RowC W g 0 S → (fun w' : World => w'.cell? ⟨g, x2 * 2, none⟩ = some (.bool ah) ∧ w'.cell? ⟨g, x2 * 2 + 1, none⟩ = some (.int .i64 am)) W) := by
                    intro W h
                    have h1 := h.has x2 (by rw [← hSl.out]; omega)
                    have h2 := h.most x2 (by rw [← hSl.out]; omega)
                    rw [← hA, Nat.zero_add] at h1 h2
                    exact ⟨h1, h2⟩
                  obtain ⟨bj, hbje⟩ : ∃ m : Nat, m = bar j := ⟨_, rfl⟩
                  have hbj : bj < n := by rw [hbje]; exact bar_lt he hj
                  have HOj : Hid (∀ W : World, Calls Tryz.prog 26 #[.int .i64 j] W fun e w' => e = .returned (.int .i64 (bj : Int)) ∧ w' = W) := fun W => by rw [hbje]; exact other_any j (by omega) W
                  obtain ⟨jk, hjk⟩ : ∃ m : Nat, m = bj * n := ⟨_, rfl⟩
                  have d1 : (bj : Int) * (n : Int) = (jk : Int) := by rw [hjk, Int.natCast_mul]
                  have d2 : jk + j < len := by rw [hll.out, hjk]; exact idx_in hbj hj
                  obtain ⟨x3, hx3⟩ : ∃ m : Nat, m = jk + j := ⟨_, rfl⟩
                  have d3 : (jk : Int) + (j : Int) = (x3 : Int) := by omega
                  have d4 : IntKind.i64.wrap (jk : Int) = (jk : Int) := wrap_small _ (by omega) (by omega)
                  have d5 : IntKind.i64.wrap (x3 : Int) = (x3 : Int) := wrap_small _ (by omega) (by omega)
                  have d6 : (x3 : Int) < (len : Int) := by omega
                  obtain ⟨⟨bh, bm⟩, hB⟩ : ∃ C, C = S.getD x3 ceZ := ⟨_, rfl⟩
                  have hP3 : Hid (∀ W, RowC W g 0 S → (fun w' : World => w'.cell? ⟨g, x3 * 2, none⟩ = some (.bool bh) ∧ w'.cell? ⟨g, x3 * 2 + 1, none⟩ = some (.int .i64 bm)) W) := by
                    intro W h
                    have h1 := h.has x3 (by rw [← hSl.out]; omega)
                    have h2 := h.most x3 (by rw [← hSl.out]; omega)
                    rw [← hB, Nat.zero_add] at h1 h2
                    exact ⟨h1, h2⟩
                  have d7 : ik + j < len := by rw [hll.out, Hik.out]; exact idx_in hi hj
                  obtain ⟨x4, hx4⟩ : ∃ m : Nat, m = ik + j := ⟨_, rfl⟩
                  have d8 : (ik : Int) + (j : Int) = (x4 : Int) := by omega
                  have d9 : IntKind.i64.wrap (x4 : Int) = (x4 : Int) := wrap_small _ (by omega) (by omega)
                  have s5 : St wr wr (fun W => RowC W g 0 S) ((w.heap.size + 1 + 1, 0, Value.int .i64 Ni) :: (w.heap.size + 1 + 1, 1, Value.slice (some ⟨g, 0, none⟩) len cap) :: (w.heap.size + 1, 0, Value.int .i64 0) :: (w.heap.size + 1, 1, Value.slice none 0 0) :: (w.heap.size, 0, Value.int .i64 Ni) :: (w.heap.size, 1, Value.slice (some ⟨b, off, none⟩) len c) :: []) := ⟨Below.refl _ _, st.hold, hR, fun _ _ q hb => RowC.stays hR.lt q hb⟩
                  have s5d := s5.drew
                  obtain ⟨sv, hsv⟩ : ∃ v, v = wrap64 (am + bm) := ⟨_, rfl⟩
                  have e1 : IntKind.i64.wrap (am + bm) = sv := by rw [hsv]; simp only [wrap64, IntKind.wrap_i64]
                  obtain ⟨hf, hhf⟩ : ∃ h, h = sv / 2 := ⟨_, rfl⟩
                  have HDn : Hid (∀ W : World, Calls Tryz.prog 27 #[.int .i64 sv] W fun e w' => e = .returned (.int .i64 hf) ∧ w' = W) := fun W => by rw [hhf, hsv]; exact down_any _ (wrap_rng _) W
                  obtain ⟨rr, hrr⟩ : ∃ r, r = lowR (S.getD x4 ceZ) hf := ⟨_, rfl⟩
                  obtain ⟨S1, hS1⟩ : ∃ S1, S1 = lowL S x4 hf := ⟨_, rfl⟩
                  have HLw : Hid (∀ W : World, RowC W g 0 S → (∀ o, W.frozen? ⟨g, o, none⟩ = false) → Calls Tryz.prog 25 #[.slice (some ⟨g, 0, none⟩) len cap, .int .i64 (x4 : Int), .int .i64 hf] W fun e w' => e = .returned (.bool rr) ∧ RowC w' g 0 S1 ∧ Only g W w') := by
                    intro W h1 h2
                    rw [hrr, hS1]
                    exact lower_as g 0 len cap x4 (x4 : Int) hf (by show _ = _; rfl) S hSl (by omega) (by omega) W h1 h2
                  have hx2e : x2 = i * n + bar i := by rw [Hx2.out, Hik.out, Hbi.out]
                  have hx3e : x3 = bar j * n + j := by rw [hx3, hjk, hbje]
                  have hx4e : x4 = i * n + j := by rw [hx4, Hik.out]
                  have HT1 : Hid (ah = true → bh = true → S1 = strL n S i j ∧ FlagO n Rt S1 (if rr = true then true else fl)) := by
                    intro hc hd
                    subst hc hd
                    have e1 : S1 = strL n S i j := by
                      rw [hS1]; unfold strL; rw [← hx2e, ← hx3e, ← hA, ← hB, if_pos ⟨rfl, rfl⟩, hhf, hsv, hx4e]
                    refine ⟨e1, ?_⟩
                    rw [hS1, hrr, hx4e]
                    exact HS.out.2.low (by rw [← hSl.out]; exact hll.out) hi hj hf
                  have HT0 : Hid (¬ (ah = true ∧ bh = true) → S = strL n S i j) := by
                    intro hc
                    unfold strL; rw [← hx2e, ← hx3e, ← hA, ← hB, if_neg hc]
                  have Hx4 := hide hx4e
                  clear hA hB hbje hjk hx3 hsv hhf hrr hS1 hx2e hx3e hx4 hx4e
                  go_upto_region 22 with fail
                  go_cut [11] from 86 to 176 (fun t9 wx => ∃ b9 : Nat, wr.heap.size ≤ b9 ∧ t9 = .pointer (some ⟨b9, 0, none⟩) ∧ St wr wx (fun W => RowC W g 0 S) ((b9, 0, .bool ah) :: (b9, 1, .int .i64 am) :: ((w.heap.size + 1 + 1, 0, Value.int .i64 Ni) :: (w.heap.size + 1 + 1, 1, Value.slice (some ⟨g, 0, none⟩) len cap) :: (w.heap.size + 1, 0, Value.int .i64 0) :: (w.heap.size + 1, 1, Value.slice none 0 0) :: (w.heap.size, 0, Value.int .i64 Ni) :: (w.heap.size, 1, Value.slice (some ⟨b, off, none⟩) len c) :: [])))
                  case first =>
                   as_aux_lemma =>
                    go_region_held3 (fun w' => (w'.cell? ⟨g, x2 * 2, none⟩ = some (.bool ah) ∧ w'.cell? ⟨g, x2 * 2 + 1, none⟩ = some (.int .i64 am)) ∧ w'.cell? ⟨w.heap.size + 1 + 1, 0, none⟩ = some (.int .i64 Ni) ∧ w'.cell? ⟨w.heap.size + 1 + 1, 1, none⟩ = some (.slice (some ⟨g, 0, none⟩) len cap) ∧ w'.cell? ⟨w.heap.size + 1, 0, none⟩ = some (.int .i64 0) ∧ w'.cell? ⟨w.heap.size + 1, 1, none⟩ = some (.slice none 0 0) ∧ w'.cell? ⟨w.heap.size, 0, none⟩ = some (.int .i64 Ni) ∧ w'.cell? ⟨w.heap.size, 1, none⟩ = some (.slice (some ⟨b, off, none⟩) len c) ∧ St wr w' (fun W => RowC W g 0 S) ((w.heap.size + 1 + 1, 0, Value.int .i64 Ni) :: (w.heap.size + 1 + 1, 1, Value.slice (some ⟨g, 0, none⟩) len cap) :: (w.heap.size + 1, 0, Value.int .i64 0) :: (w.heap.size + 1, 1, Value.slice none 0 0) :: (w.heap.size, 0, Value.int .i64 Ni) :: (w.heap.size, 1, Value.slice (some ⟨b, off, none⟩) len c) :: [])) (first | (exact keepV0 (P := (fun w' : World => w'.cell? ⟨g, x2 * 2, none⟩ = some (.bool ah) ∧ w'.cell? ⟨g, x2 * 2 + 1, none⟩ = some (.int .i64 am))) hP2.out ((w.heap.size + 1 + 1, 0, Value.int .i64 Ni) :: (w.heap.size + 1 + 1, 1, Value.slice (some ⟨g, 0, none⟩) len cap) :: (w.heap.size + 1, 0, Value.int .i64 0) :: (w.heap.size + 1, 1, Value.slice none 0 0) :: (w.heap.size, 0, Value.int .i64 Ni) :: (w.heap.size, 1, Value.slice (some ⟨b, off, none⟩) len c) :: []) s5d) | (exact keepV0 (P := (fun w' : World => w'.cell? ⟨g, x2 * 2, none⟩ = some (.bool ah) ∧ w'.cell? ⟨g, x2 * 2 + 1, none⟩ = some (.int .i64 am))) hP2.out ((w.heap.size + 1 + 1, 0, Value.int .i64 Ni) :: (w.heap.size + 1 + 1, 1, Value.slice (some ⟨g, 0, none⟩) len cap) :: (w.heap.size + 1, 0, Value.int .i64 0) :: (w.heap.size + 1, 1, Value.slice none 0 0) :: (w.heap.size, 0, Value.int .i64 Ni) :: (w.heap.size, 1, Value.slice (some ⟨b, off, none⟩) len c) :: []) (s5d.alloc _)) | assumption)
                      (first
                        | (go_at_call 26; refine (HO.out _).mono ?_; rintro e w9 ⟨rfl, rfl⟩))
                    all_goals
                      go_wp2_with fail
                      go_meet
                      case rel => exact ⟨_, Nat.le_refl _, rfl, (s5.box2 56 _ _).drew⟩
                  case rest =>
                  obtain ⟨b11, hb11, rfl, s6⟩ := hcut
                  clear s5 s5d
                  obtain ⟨V6, hV6, s6⟩ : ∃ W, W = wc ∧ St wr W (fun W => RowC W g 0 S) ((b11, 0, Value.bool ah) :: (b11, 1, Value.int .i64 am) :: ((w.heap.size + 1 + 1, 0, Value.int .i64 Ni) :: (w.heap.size + 1 + 1, 1, Value.slice (some ⟨g, 0, none⟩) len cap) :: (w.heap.size + 1, 0, Value.int .i64 0) :: (w.heap.size + 1, 1, Value.slice none 0 0) :: (w.heap.size, 0, Value.int .i64 Ni) :: (w.heap.size, 1, Value.slice (some ⟨b, off, none⟩) len c) :: [])) := ⟨wc, rfl, s6⟩
                  rw [← hV6]
                  clear hV6
                  have s6d := s6.drew
                  have hz6 := s6.bel.size
                  go_upto_region 23 with fail
                  go_cut [12] from 86 to 176 (fun t9 wx => ∃ b9 : Nat, wr.heap.size ≤ b9 ∧ t9 = .pointer (some ⟨b9, 0, none⟩) ∧ St wr wx (fun W => RowC W g 0 S) ((b9, 0, .bool bh) :: (b9, 1, .int .i64 bm) :: ((b11, 0, Value.bool ah) :: (b11, 1, Value.int .i64 am) :: ((w.heap.size + 1 + 1, 0, Value.int .i64 Ni) :: (w.heap.size + 1 + 1, 1, Value.slice (some ⟨g, 0, none⟩) len cap) :: (w.heap.size + 1, 0, Value.int .i64 0) :: (w.heap.size + 1, 1, Value.slice none 0 0) :: (w.heap.size, 0, Value.int .i64 Ni) :: (w.heap.size, 1, Value.slice (some ⟨b, off, none⟩) len c) :: []))))
                  case first =>
                   as_aux_lemma =>
                    go_region_held3 (fun w' => (w'.cell? ⟨g, x3 * 2, none⟩ = some (.bool bh) ∧ w'.cell? ⟨g, x3 * 2 + 1, none⟩ = some (.int .i64 bm)) ∧ w'.cell? ⟨b11, 0, none⟩ = some (.bool ah) ∧ w'.cell? ⟨b11, 1, none⟩ = some (.int .i64 am) ∧ w'.cell? ⟨w.heap.size + 1 + 1, 0, none⟩ = some (.int .i64 Ni) ∧ w'.cell? ⟨w.heap.size + 1 + 1, 1, none⟩ = some (.slice (some ⟨g, 0, none⟩) len cap) ∧ w'.cell? ⟨w.heap.size + 1, 0, none⟩ = some (.int .i64 0) ∧ w'.cell? ⟨w.heap.size + 1, 1, none⟩ = some (.slice none 0 0) ∧ w'.cell? ⟨w.heap.size, 0, none⟩ = some (.int .i64 Ni) ∧ w'.cell? ⟨w.heap.size, 1, none⟩ = some (.slice (some ⟨b, off, none⟩) len c) ∧ St wr w' (fun W => RowC W g 0 S) ((b11, 0, Value.bool ah) :: (b11, 1, Value.int .i64 am) :: ((w.heap.size + 1 + 1, 0, Value.int .i64 Ni) :: (w.heap.size + 1 + 1, 1, Value.slice (some ⟨g, 0, none⟩) len cap) :: (w.heap.size + 1, 0, Value.int .i64 0) :: (w.heap.size + 1, 1, Value.slice none 0 0) :: (w.heap.size, 0, Value.int .i64 Ni) :: (w.heap.size, 1, Value.slice (some ⟨b, off, none⟩) len c) :: []))) (first | (exact keepV0 (P := (fun w' : World => w'.cell? ⟨g, x3 * 2, none⟩ = some (.bool bh) ∧ w'.cell? ⟨g, x3 * 2 + 1, none⟩ = some (.int .i64 bm))) hP3.out ((b11, 0, Value.bool ah) :: (b11, 1, Value.int .i64 am) :: ((w.heap.size + 1 + 1, 0, Value.int .i64 Ni) :: (w.heap.size + 1 + 1, 1, Value.slice (some ⟨g, 0, none⟩) len cap) :: (w.heap.size + 1, 0, Value.int .i64 0) :: (w.heap.size + 1, 1, Value.slice none 0 0) :: (w.heap.size, 0, Value.int .i64 Ni) :: (w.heap.size, 1, Value.slice (some ⟨b, off, none⟩) len c) :: [])) s6d) | (exact keepV0 (P := (fun w' : World => w'.cell? ⟨g, x3 * 2, none⟩ = some (.bool bh) ∧ w'.cell? ⟨g, x3 * 2 + 1, none⟩ = some (.int .i64 bm))) hP3.out ((b11, 0, Value.bool ah) :: (b11, 1, Value.int .i64 am) :: ((w.heap.size + 1 + 1, 0, Value.int .i64 Ni) :: (w.heap.size + 1 + 1, 1, Value.slice (some ⟨g, 0, none⟩) len cap) :: (w.heap.size + 1, 0, Value.int .i64 0) :: (w.heap.size + 1, 1, Value.slice none 0 0) :: (w.heap.size, 0, Value.int .i64 Ni) :: (w.heap.size, 1, Value.slice (some ⟨b, off, none⟩) len c) :: [])) (s6d.alloc _)) | assumption)
                      (first
                        | (go_at_call 26; refine (HOj.out _).mono ?_; rintro e w9 ⟨rfl, rfl⟩))
                    all_goals
                      go_wp2_with fail
                      go_meet
                      case rel => exact ⟨_, hz6, rfl, (s6.box2 56 _ _).drew⟩
                  case rest =>
                  obtain ⟨b12, hb12, rfl, s7⟩ := hcut
                  have st6 := st.ovr s7 trivial
                  have hR6 := s7.sent
                  have hF6 : Hid (∀ o, wc.frozen? ⟨g, o, none⟩ = false) := fun o => (s7.bel.frozen (p := ⟨g, o, none⟩) hR.lt).trans (hF.out o)
                  clear s6 s6d s7 hR hF st qs hz6
                  have q6 := st6.hold
                  simp only [Holds, and_true] at q6
                  go_upto_region 24 with fail
                  go_cut [132] from 86 to 176 (fun t85 wy => ∃ (r : Bool) (S2 : List Ce), t85 = .bool r ∧ RowC wy g 0 S2 ∧ Hid (∀ o, wy.frozen? ⟨g, o, none⟩ = false) ∧ St w wy (fun _ => True) ((w.heap.size + 1 + 1, 0, Value.int .i64 Ni) :: (w.heap.size + 1 + 1, 1, Value.slice (some ⟨g, 0, none⟩) len cap) :: (w.heap.size + 1, 0, Value.int .i64 0) :: (w.heap.size + 1, 1, Value.slice none 0 0) :: (w.heap.size, 0, Value.int .i64 Ni) :: (w.heap.size, 1, Value.slice (some ⟨b, off, none⟩) len c) :: []) ∧ Hid (S2 = strL n S i j ∧ FlagO n Rt S2 (if r = true then true else fl)))
                  case first =>
                   as_aux_lemma =>
                    cases ah
                    · go_quiet (fail)
                      go_wp2_with fail
                      go_meet
                      case rel => exact ⟨false, S, rfl, hR6.below (belowM (Below.refl _ _) nq), fun o => hF6.out o, (st6.drop 4).call (belowM (Below.refl _ _) nq), HT0.out (by simp), HS.out.2⟩
                    cases bh
                    · go_quiet (fail)
                      go_wp2_with fail
                      go_meet
                      case rel => exact ⟨false, S, rfl, hR6.below (belowM (Below.refl _ _) nq), fun o => hF6.out o, (st6.drop 4).call (belowM (Below.refl _ _) nq), HT0.out (by simp), HS.out.2⟩
                    have st6d := st6.drew
                    go_region_held3 (fun w' => w'.cell? ⟨b12, 0, none⟩ = some (.bool true) ∧ w'.cell? ⟨b12, 1, none⟩ = some (.int .i64 bm) ∧ w'.cell? ⟨b11, 0, none⟩ = some (.bool true) ∧ w'.cell? ⟨b11, 1, none⟩ = some (.int .i64 am) ∧ w'.cell? ⟨w.heap.size + 1 + 1, 0, none⟩ = some (.int .i64 Ni) ∧ w'.cell? ⟨w.heap.size + 1 + 1, 1, none⟩ = some (.slice (some ⟨g, 0, none⟩) len cap) ∧ w'.cell? ⟨w.heap.size + 1, 0, none⟩ = some (.int .i64 0) ∧ w'.cell? ⟨w.heap.size + 1, 1, none⟩ = some (.slice none 0 0) ∧ w'.cell? ⟨w.heap.size, 0, none⟩ = some (.int .i64 Ni) ∧ w'.cell? ⟨w.heap.size, 1, none⟩ = some (.slice (some ⟨b, off, none⟩) len c) ∧ St w w' (fun _ => True) ((b12, 0, Value.bool true) :: (b12, 1, Value.int .i64 bm) :: (b11, 0, Value.bool true) :: (b11, 1, Value.int .i64 am) :: ((w.heap.size + 1 + 1, 0, Value.int .i64 Ni) :: (w.heap.size + 1 + 1, 1, Value.slice (some ⟨g, 0, none⟩) len cap) :: (w.heap.size + 1, 0, Value.int .i64 0) :: (w.heap.size + 1, 1, Value.slice none 0 0) :: (w.heap.size, 0, Value.int .i64 Ni) :: (w.heap.size, 1, Value.slice (some ⟨b, off, none⟩) len c) :: []))) (first | (exact keepSt0 _ st6d) | (exact keepSt0 _ (st6d.only hO ⟨by dsimp only; omega, by dsimp only; omega, by dsimp only; omega, by dsimp only; omega, by dsimp only; omega, by dsimp only; omega, by dsimp only; omega, by dsimp only; omega, by dsimp only; omega, by dsimp only; omega, trivial⟩ (by omega))) | assumption)
                      (first
                        | (go_at_call 27; refine (HDn.out _).mono ?_; rintro e w9 ⟨rfl, rfl⟩)
                        | (go_at_call 25; refine (HLw.out _ (hR6.below (Below.refl _ _).drew) (fun o => hF6.out o)).mono ?_; rintro e w9 ⟨rfl, hR9, hO⟩))
                    all_goals
                      go_wp2_with fail
                      go_meet
                      case rel => exact ⟨rr, S1, rfl, hR9, fun o => (hO.fr _).trans (hF6.out o), (st6d.only hO ⟨by dsimp only; omega, by dsimp only; omega, by dsimp only; omega, by dsimp only; omega, by dsimp only; omega, by dsimp only; omega, by dsimp only; omega, by dsimp only; omega, by dsimp only; omega, by dsimp only; omega, trivial⟩ (by omega)).drop 4, HT1.out trivial trivial⟩
                  case rest =>
                  obtain ⟨r, S2, rfl, hR7, hF7, st7, H7⟩ := hcut
                  obtain ⟨fl2, hfl2⟩ : ∃ b, b = (if r = true then true else fl) := ⟨_, rfl⟩
                  rw [← hfl2] at H7
                  have Hfl2 := hide hfl2
                  clear hfl2 st6 q6 hR6 hF6 HDn HLw HT1 HT0
                  go_upto_if 132 with fail
                  obtain ⟨W7, hW7, st7⟩ : ∃ W, W = wc ∧ St w W (fun _ => True) ((w.heap.size + 1 + 1, 0, Value.int .i64 Ni) :: (w.heap.size + 1 + 1, 1, Value.slice (some ⟨g, 0, none⟩) len cap) :: (w.heap.size + 1, 0, Value.int .i64 0) :: (w.heap.size + 1, 1, Value.slice none 0 0) :: (w.heap.size, 0, Value.int .i64 Ni) :: (w.heap.size, 1, Value.slice (some ⟨b, off, none⟩) len c) :: []) := ⟨wc, rfl, st7⟩
                  rw [← hW7] at hR7 hF7 ⊢
                  clear hW7
                  go_cut [7] from 86 to 176 (fun t7 wy => t7 = .bool fl2 ∧ W7 = wy)
                  case first =>
                    cases r
                    · have Hq : Hid (fl2 = fl) := Hfl2.out
                      go_wp2_with fail
                      go_meet
                      case rel => exact ⟨by rw [Hq.out], rfl⟩
                    · have Hq : Hid (fl2 = true) := Hfl2.out
                      go_wp2_with fail
                      go_meet
                      case rel => exact ⟨by rw [Hq.out], rfl⟩
                  case rest =>
                  obtain ⟨rfl, rfl⟩ := hcut
                  have HS2 : Hid (S2 = runL n Rt ((oRnd n i ++ oRow n i j) ++ (.str i j :: oRel i j 0)) ∧ FlagO n Rt S2 fl2) := ⟨by rw [runL_append, ← HS.out.1]; exact H7.out.1, H7.out.2⟩
                  clear H7 HS Hfl2 hSl hP2 hP3 hSI HOj
                  have q7 := st7.hold
                  simp only [Holds, and_true] at q7
                  go_wp2_with fail
                  go_loopg [13, 7] n (fun gh kv av wr => ∃ (p : Nat) (S : List Ce) (fl : Bool), p + gh = n ∧ kv = .int .i64 p ∧ av = .bool fl ∧ (RowC wr g 0 S ∧ Hid (∀ o, wr.frozen? ⟨g, o, none⟩ = false) ∧ St w wr (fun _ => True) ((w.heap.size + 1 + 1, 0, Value.int .i64 Ni) :: (w.heap.size + 1 + 1, 1, Value.slice (some ⟨g, 0, none⟩) len cap) :: (w.heap.size + 1, 0, Value.int .i64 0) :: (w.heap.size + 1, 1, Value.slice none 0 0) :: (w.heap.size, 0, Value.int .i64 Ni) :: (w.heap.size, 1, Value.slice (some ⟨b, off, none⟩) len c) :: []) ∧ Hid (S = runL n Rt ((oRnd n i ++ oRow n i j) ++ (.str i j :: oRel i j p)) ∧ FlagO n Rt S fl)))
                  case atStart => exact ⟨0, S2, fl2, by omega, rfl, rfl, hR7, hF7, st7, HS2⟩
                  case round =>
                    clear hR7 hF7 st7 q7 HS2
                    obtain ⟨p, S, fl, hpg, rfl, rfl, hR, hF, st, HS⟩ := hrel
                    have qs := st.hold
                    simp only [Holds, and_true] at qs
                    by_cases hp : p < n
                    · have hpn : (p : Int) < (n : Int) := by omega
                      have hSl : Hid (len = S.length) := by show _ = _; rw [HS.out.1, runL_len]; exact hRl.out
                      have hNext : Hid (runL n Rt ((oRnd n i ++ oRow n i j) ++ (.str i j :: oRel i j (p + 1))) = relL n S i j p) := by
                        show runL n Rt ((oRnd n i ++ oRow n i j) ++ (.str i j :: (oRel i j p ++ [.rel i j p]))) = _
                        rw [← List.cons_append, ← List.append_assoc, runL_append, ← HS.out.1]
                        rfl
                      obtain ⟨pk, hpk⟩ : ∃ m : Nat, m = p * n := ⟨_, rfl⟩
                      have a2 : (p : Int) * (n : Int) = (pk : Int) := by rw [hpk, Int.natCast_mul]
                      have b1 : ik + p < len := by rw [hll.out, Hik.out]; exact idx_in hi hp
                      have b2 : pk + j < len := by rw [hll.out, hpk]; exact idx_in hp hj
                      obtain ⟨y1, hy1⟩ : ∃ m : Nat, m = ik + p := ⟨_, rfl⟩
                      obtain ⟨y2, hy2⟩ : ∃ m : Nat, m = pk + j := ⟨_, rfl⟩
                      have a3 : (ik : Int) + (p : Int) = (y1 : Int) := by omega
                      have a4 : (pk : Int) + (j : Int) = (y2 : Int) := by omega
                      have b4 : (y1 : Int) < (len : Int) := by omega
                      have b5 : (y2 : Int) < (len : Int) := by omega
                      obtain ⟨⟨ah, am⟩, hA⟩ : ∃ C, C = S.getD y1 ceZ := ⟨_, rfl⟩
                      obtain ⟨⟨bh, bm⟩, hB⟩ : ∃ C, C = S.getD y2 ceZ := ⟨_, rfl⟩
                      have c1 : wr.cell? ⟨g, y1 * 2, none⟩ = some (.bool ah) := by have := hR.has y1 (by rw [← hSl.out]; omega); rw [← hA, Nat.zero_add] at this; exact this
                      have c2 : wr.cell? ⟨g, y1 * 2 + 1, none⟩ = some (.int .i64 am) := by have := hR.most y1 (by rw [← hSl.out]; omega); rw [← hA, Nat.zero_add] at this; exact this
                      have c3 : wr.cell? ⟨g, y2 * 2, none⟩ = some (.bool bh) := by have := hR.has y2 (by rw [← hSl.out]; omega); rw [← hB, Nat.zero_add] at this; exact this
                      have c4 : wr.cell? ⟨g, y2 * 2 + 1, none⟩ = some (.int .i64 bm) := by have := hR.most y2 (by rw [← hSl.out]; omega); rw [← hB, Nat.zero_add] at this; exact this
                      have hgl := hR.lt
                      have hrel' : Hid (relL n S i j p = if ah = true ∧ bh = true then lowL S x4 (wrap64 (am + bm)) else S) := by
                        show _ = _
                        unfold relL
                        rw [← Hik.out, ← hpk, ← hy1, ← hy2, ← hA, ← hB, Hx4.out, ← Hik.out]
                      obtain ⟨rr, hrr⟩ : ∃ r, r = lowR (S.getD x4 ceZ) (wrap64 (am + bm)) := ⟨_, rfl⟩
                      have HFl : Hid (FlagO n Rt (lowL S x4 (wrap64 (am + bm))) (if rr = true then true else fl)) := by
                        show FlagO _ _ _ _
                        rw [hrr, Hx4.out]
                        exact HS.out.2.low (by rw [← hSl.out]; exact hll.out) hi hj _
                      have HLw : Hid (∀ (W : World), RowC W g 0 S → (∀ o, W.frozen? ⟨g, o, none⟩ = false) → Calls Tryz.prog 25 #[.slice (some ⟨g, 0, none⟩) len cap, .int .i64 (x4 : Int), .int .i64 (wrap64 (am + bm))] W fun e w' => (e = .returned (.bool rr)) ∧ RowC w' g 0 (lowL S x4 (wrap64 (am + bm))) ∧ Only g W w') := by
                        intro W h1 h2
                        rw [hrr]
                        exact lower_as g 0 len cap x4 (x4 : Int) (wrap64 (am + bm)) (by show _ = _; rfl) S hSl (by omega) (by omega) W h1 h2
                      have HR := hide hR
                      clear hpk hy1 hy2 hA hB hR hrr
                      have st1 := st.alloc (.cells #[.bool ah, .int .i64 am] 56)
                      have st2 := st1.alloc (.cells #[.bool bh, .int .i64 bm] 56)
                      have bel2 : Below wr.heap.size wr ((wr.alloc (.cells #[.bool ah, .int .i64 am] 56)).alloc (.cells #[.bool bh, .int .i64 bm] 56)) := ((Below.refl _ _).alloc (Nat.le_refl _) _).alloc (by simp) _
                      have R2 := HR.out.below bel2
                      have F2 : ∀ o, ((wr.alloc (.cells #[.bool ah, .int .i64 am] 56)).alloc (.cells #[.bool bh, .int .i64 bm] 56)).frozen? ⟨g, o, none⟩ = false := fun o => (bel2.frozen (p := ⟨g, o, none⟩) hgl).trans (hF.out o)
                      cases ah
                      · have hN2 : Hid (runL n Rt ((oRnd n i ++ oRow n i j) ++ (.str i j :: oRel i j (p + 1))) = S) := by show _ = _; rw [hNext.out, hrel'.out]; simp
                        go_wp2_with fail
                        go_roundg (n - (p + 1))
                        case measure => omega
                        case rel => exact ⟨p + 1, S, fl, by omega, by go_num, rfl, R2, F2, st2, hN2.out.symm, HS.out.2⟩
                      · cases bh
                        · have hN2 : Hid (runL n Rt ((oRnd n i ++ oRow n i j) ++ (.str i j :: oRel i j (p + 1))) = S) := by show _ = _; rw [hNext.out, hrel'.out]; simp
                          go_wp2_with fail
                          go_roundg (n - (p + 1))
                          case measure => omega
                          case rel => exact ⟨p + 1, S, fl, by omega, by go_num, rfl, R2, F2, st2, hN2.out.symm, HS.out.2⟩
                        · have hN2 : Hid (runL n Rt ((oRnd n i ++ oRow n i j) ++ (.str i j :: oRel i j (p + 1))) = lowL S x4 (wrap64 (am + bm))) := by show _ = _; rw [hNext.out, hrel'.out]; simp
                          go_wp2_with fail
                          refine (HLw.out _ R2 F2).mono ?_
                          rintro e2 w2 ⟨rfl, hR2, hO⟩
                          have st3 := st2.only hO ⟨by dsimp only; omega, by dsimp only; omega, by dsimp only; omega, by dsimp only; omega, by dsimp only; omega, by dsimp only; omega, trivial⟩ (by omega)
                          have hF2 : Hid (∀ o, w2.frozen? ⟨g, o, none⟩ = false) := fun o => (hO.fr _).trans (F2 o)
                          clear HLw
                          cases rr
                          · go_wp2_with fail
                            go_roundg (n - (p + 1))
                            case measure => omega
                            case rel => exact ⟨p + 1, _, fl, by omega, by go_num, rfl, hR2, hF2, st3, hN2.out.symm, by simpa using HFl.out⟩
                          · go_wp2_with fail
                            go_roundg (n - (p + 1))
                            case measure => omega
                            case rel => exact ⟨p + 1, _, true, by omega, by go_num, rfl, hR2, hF2, st3, hN2.out.symm, by simpa using HFl.out⟩
                    · obtain rfl : p = n := by omega
                      go_wp2_with fail
                      go_roundg (p - (j + 1))
                      case measure => omega
                      case rel => exact ⟨j + 1, S, fl, by omega, by go_num, rfl, hR, hF, st, by rw [HS.out.1, List.append_assoc]; rfl, HS.out.2⟩
                · obtain rfl : j = n := by omega
                  go_wp2_with fail
                  go_roundg (j - (i + 1))
                  case measure => omega
                  case rel => exact ⟨i + 1, S, fl, by omega, by go_num, rfl, hpos2, hR, hF, st, HS⟩
            · obtain rfl : i = n := by omega
              go_wp2_with fail
              go_roundg (7 - (t + 1))
              case measure => omega
              case rel =>
                have e : S = rtL i D (t + 1) := by rw [HS.out.1, HRt.out]; rfl
                refine ⟨t + 1, fl, by omega, by omega, rfl, .inr ⟨by omega, ?_, ?_⟩, by rw [← e]; exact hR, hF, st⟩
                · rw [Nat.add_sub_cancel, ← HRt.out]; exact hpos.out
                · rw [Nat.add_sub_cancel, ← HRt.out, ← e]; exact HS.out.2
end Go.Proofs.YtbafkjhlogkllaaGreatDoor.Oc
