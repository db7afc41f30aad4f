/- The least congruence of some numbers: the reference. -/
import Derived.Test.YtjimjbilmlnipaaDoorCb
import Derived.Deep.CutBlock
namespace Go.Proofs.YtjimjbilmlnipaaDoor
open Go.RowKit
set_option linter.unusedVariables false

/-- What divides all that they differ by. -/
def gcdD (l : List Int) : Nat → Nat
  | 0 => 0
  | k + 1 => Int.gcd (gcdD l k) (l.getD k 0 - l.getD 0 0)

theorem gcdD_dvd (l : List Int) (k : Nat) (d : Int) : d ∣ (gcdD l k : Int) ↔ ∀ i, i < k → d ∣ l.getD i 0 - l.getD 0 0 := by
  induction k with
  | zero => simp [gcdD]
  | succ k ih =>
    have : d ∣ (gcdD l (k + 1) : Int) ↔ d ∣ (gcdD l k : Int) ∧ d ∣ l.getD k 0 - l.getD 0 0 := by
      show d ∣ ((Int.gcd (gcdD l k) (l.getD k 0 - l.getD 0 0) : Nat) : Int) ↔ _
      constructor
      · intro h; exact ⟨Int.dvd_trans h (Int.gcd_dvd_left ..), Int.dvd_trans h (Int.gcd_dvd_right ..)⟩
      · rintro ⟨h1, h2⟩; exact Int.dvd_coe_gcd h1 h2
    rw [this, ih]
    constructor
    · rintro ⟨h1, h2⟩ i hi
      by_cases h : i = k
      · subst h; exact h2
      · exact h1 i (by omega)
    · intro h; exact ⟨fun i hi => h i (by omega), h k (by omega)⟩

theorem gcdD_le {l : List Int} {k : Nat} {B : Nat} (h : gcdD l k ≤ B) (h2 : (l.getD k 0 - l.getD 0 0).natAbs ≤ B) : gcdD l (k + 1) ≤ B := by
  show Int.gcd (gcdD l k) (l.getD k 0 - l.getD 0 0) ≤ B
  by_cases h0 : gcdD l k = 0
  · rw [h0]; simpa using h2
  · have : Int.gcd (gcdD l k : Int) (l.getD k 0 - l.getD 0 0) ∣ gcdD l k := by
      have := Nat.gcd_dvd_left ((gcdD l k : Int)).natAbs (l.getD k 0 - l.getD 0 0).natAbs
      simpa [Int.gcd] using this
    exact Nat.le_trans (Nat.le_of_dvd (by omega) this) h

theorem keepI {w W : World} {b off k : Nat} {l : List Int} {y y0 : Int} (hk : k < l.length) (hy : Hid (y = l.getD k 0)) (h0 : Hid (y0 = l.getD 0 0)) (L : List (Nat × Nat × Value)) (h : St w W (IZ (some ⟨b, off, none⟩) l) L) :
    W.cell? ⟨b, off + k, none⟩ = some (.int .i64 y) ∧ W.cell? ⟨b, off, none⟩ = some (.int .i64 y0) ∧ St w W (IZ (some ⟨b, off, none⟩) l) L := by
  obtain ⟨b', off', e, c⟩ := h.ints.get k hk y hy.out
  obtain ⟨rfl, rfl⟩ : b = b' ∧ off = off' := by simpa using e
  obtain ⟨b', off', e, c0⟩ := h.ints.get 0 (by omega) y0 h0.out
  obtain ⟨rfl, rfl⟩ : b = b' ∧ off = off' := by simpa using e
  exact ⟨c, by simpa using c0, h⟩
theorem projI {w W : World} {Z : World → Prop} {p0 p1 : Prop} (L : List (Nat × Nat × Value)) (h : p0 ∧ p1 ∧ St w W Z L) : St w W Z L := h.2.2

theorem neg_lt_tmod (y : Int) {D : Int} (hD : 0 < D) : -D < y.tmod D := by
  have h1 : (y.tmod D).natAbs = y.natAbs % D.natAbs := Int.natAbs_tmod y D
  have h2 : y.natAbs % D.natAbs < D.natAbs := Nat.mod_lt _ (by omega)
  omega
theorem emod_tmod (y : Int) {D : Int} (hD : 0 < D) : y % D = if y.tmod D < 0 then y.tmod D + D else y.tmod D := by
  have h1 := Int.tmod_lt_of_pos y hD
  have h2 := neg_lt_tmod y hD
  have e := Int.mul_tdiv_add_tmod y D
  obtain ⟨q, hq⟩ : ∃ q, y.tdiv D = q := ⟨_, rfl⟩
  obtain ⟨t, ht⟩ : ∃ t, y.tmod D = t := ⟨_, rfl⟩
  rw [hq, ht] at e
  rw [ht] at h1 h2 ⊢
  split
  · have : y = t + D + D * (q - 1) := by rw [← e, Int.mul_sub]; omega
    rw [this, Int.add_mul_emod_self_left]
    exact Int.emod_eq_of_lt (by omega) (by omega)
  · have : y = t + D * q := by omega
    rw [this, Int.add_mul_emod_self_left]
    exact Int.emod_eq_of_lt (by omega) (by omega)

set_option maxRecDepth 20000 in
set_option maxHeartbeats 4000000 in
theorem least_any (b off n c : Nat) (l : List Int) (w : World) (hA : IntsAt w (some ⟨b, off, none⟩) l) (hl : Hid (n = l.length)) (hn : n ≤ 1000000) (h0 : 0 < n) (hb : Hid (∀ s ∈ l, -2305843009213693952 ≤ s ∧ s ≤ 2305843009213693952)) :
    Calls Tryd.prog 22 #[.slice (some ⟨b, off, none⟩) n c] w fun e w' => e = .returned (formC (l.getD 0 0) (gcdD l n)).v ∧ Below w.heap.size w w' := by
  obtain ⟨y0, hy0⟩ : ∃ y, y = l.getD 0 0 := ⟨_, rfl⟩
  have h0l : 0 < l.length := by rw [← hl.out]; exact h0
  have hmem : ∀ k, k < l.length → l.getD k 0 ∈ l := fun k hk => by rw [show l.getD k 0 = l[k] by simp [hk]]; exact List.getElem_mem hk
  have hb0 : -2305843009213693952 ≤ y0 ∧ y0 ≤ 2305843009213693952 := by rw [hy0]; exact hb.out _ (hmem 0 h0l)
  have Hmem := hide hmem
  have Hy0 := hide hy0
  obtain ⟨D, hDD⟩ : ∃ D, D = gcdD l n := ⟨_, rfl⟩
  have HDD := hide hDD
  rw [← hy0, ← hDD]
  clear hmem hy0 hDD
  go_enter Tryd.func22, Tryd.ntmps22
  have s0 := (St.startI hA).box2 23 (.int .i64 0) (.int .i64 0)
  go_upto_block 0 with fail
  go_cut [3, 4] (fun s3 s4 wx => s3 = .int .i64 D ∧ D ≤ 4611686018427387904 ∧ St w wx (IZ (some ⟨b, off, none⟩) l) ((w.heap.size, 0, Value.int .i64 0) :: (w.heap.size, 1, Value.int .i64 0) :: []))
  case first =>
    go_wp2_with fail
    go_loopg [3, 4] n (fun g gv iv wr => ∃ (k E : Nat), k + g = n ∧ gv = .int .i64 E ∧ iv = .int .i64 k ∧ Hid (E = gcdD l k) ∧ E ≤ 4611686018427387904 ∧ St w wr (IZ (some ⟨b, off, none⟩) l) ((w.heap.size, 0, Value.int .i64 0) :: (w.heap.size, 1, Value.int .i64 0) :: []))
    case atStart => exact ⟨0, 0, by omega, rfl, rfl, rfl, by omega, s0⟩
    case round =>
      clear s0
      obtain ⟨k, E, hkg, rfl, rfl, hD, hD2, s1⟩ := hrel
      by_cases hlt : k < n
      · have hkn : (k : Int) < (n : Int) := by omega
        have hkl : k < l.length := by rw [← hl.out]; exact hlt
        obtain ⟨y, hy⟩ : ∃ y, y = l.getD k 0 := ⟨_, rfl⟩
        have hby : -2305843009213693952 ≤ y ∧ y ≤ 2305843009213693952 := by rw [hy]; exact hb.out _ (Hmem.out k hkl)
        obtain ⟨D', hD'⟩ : ∃ D', D' = gcdD l (k + 1) := ⟨_, rfl⟩
        have hle : D' ≤ 4611686018427387904 := by
          rw [hD']; refine gcdD_le (by rw [← hD.out]; exact hD2) ?_
          rw [← hy, ← Hy0.out]; omega
        have hgc : Int.gcd (E : Int) (y - y0) = D' := by rw [hD']; show _ = Int.gcd _ _; rw [← hD.out, ← hy, ← Hy0.out]
        have HC : Hid (∀ W : World, Calls Tryd.prog 38 #[.int .i64 E, .int .i64 (IntKind.i64.wrap (y - y0))] W fun e w' => e = .returned (.int .i64 D') ∧ Below W.heap.size W w') := by
          intro W; rw [wrap_small (y - y0) (by omega) (by omega)]; have := common_any E (y - y0) (by omega) (by omega) W; rw [hgc] at this; exact this
        have Hy := hide hy
        have HD' := hide hD'
        obtain ⟨ky, ky0, _⟩ := keepI hkl Hy Hy0 _ s1
        have h0n : (0 : Int) < (n : Int) := by omega
        clear hy hD' hgc hD
        go_wp2_with fail
        go_region_held3 (fun w' => w'.cell? ⟨b, off + k, none⟩ = some (.int .i64 y) ∧ w'.cell? ⟨b, off, none⟩ = some (.int .i64 y0) ∧ St w w' (IZ (some ⟨b, off, none⟩) l) ((w.heap.size, 0, Value.int .i64 0) :: (w.heap.size, 1, Value.int .i64 0) :: [])) (first | (exact keepI hkl Hy Hy0 _ s1.drew) | (exact keepI hkl Hy Hy0 _ s2))
          (first
            | (go_at_call 38; refine (HC.out _).mono ?_; rintro e w2 ⟨rfl, hb2⟩; have s2 := (projI ((w.heap.size, 0, Value.int .i64 0) :: (w.heap.size, 1, Value.int .i64 0) :: []) (by assumption)).call hb2))
        go_wp2_with fail
        go_roundg (n - (k + 1))
        case measure => omega
        case rel => exact ⟨k + 1, D', by omega, rfl, by go_num, HD', hle, s2⟩
      · have hkn : ¬ (k : Int) < (n : Int) := by omega
        have hke : k = n := by omega
        subst hke
        go_wp2_with fail
        go_meet
        case rel => exact ⟨by rw [HDD.out, ← hD.out], by rw [HDD.out, ← hD.out]; exact hD2, s1⟩
  case rest =>
  clear s0
  obtain ⟨rfl, hD2, s1⟩ := hcut
  have q1 := s1.hold
  simp only [Holds, and_true] at q1
  obtain ⟨_, hc0, _⟩ := keepI h0l Hy0 Hy0 _ s1
  have h0n : (0 : Int) < (n : Int) := by omega
  by_cases c1 : 1048576 < (D : Int)
  · have hf : formC y0 D = ⟨0, 1⟩ := by unfold formC; rw [if_pos (.inl c1)]
    have Hf := hide hf
    clear hf
    go_wp2_with fail
    refine bodyPost_ret (v := (.agg #[.int .i64 0, .int .i64 1])) (by simp [results, Tryd.results22, go_sem, *]) rfl ⟨by rw [Hf.out]; rfl, ?_⟩
    iterate 2 refine Below.setCell ?_ (by first | (simp; done) | (simp; omega)) _
    exact s1.bel
  · by_cases c2 : D = 0
    · subst c2
      obtain ⟨f, hf⟩ : ∃ f, farB y0 1099511627776 = f := ⟨_, rfl⟩
      have H1 : Hid (∀ W : World, Calls Tryd.prog 10 #[.int .i64 y0, .int .i64 1099511627776] W fun e w' => e = .returned (.bool f) ∧ w' = W) := by
        intro W; rw [← hf]; exact far_any y0 _ W (by omega) (by omega)
      have hfo : formC y0 ((0 : Nat) : Int) = if f = true then ⟨0, 1⟩ else ⟨y0, 0⟩ := by unfold formC; rw [hf]; cases f <;> simp
      have Hfo := hide hfo
      clear hf hfo
      go_wp2_with fail
      refine (H1.out _).mono ?_
      rintro e w2 ⟨rfl, rfl⟩
      cases f
      · go_wp2_with fail
        refine bodyPost_ret (v := (.agg #[.int .i64 y0, .int .i64 0])) (by simp [results, Tryd.results22, go_sem, *]) rfl ⟨by rw [Hfo.out]; rfl, ?_⟩
        iterate 2 refine Below.setCell ?_ (by first | (simp; done) | (simp; omega)) _
        exact s1.bel
      · go_wp2_with fail
        refine bodyPost_ret (v := (.agg #[.int .i64 0, .int .i64 1])) (by simp [results, Tryd.results22, go_sem, *]) rfl ⟨by rw [Hfo.out]; rfl, ?_⟩
        iterate 2 refine Below.setCell ?_ (by first | (simp; done) | (simp; omega)) _
        exact s1.bel
    · have c2' : ¬ (D : Int) = 0 := by omega
      have hDp : (0 : Int) < (D : Int) := by omega
      have hfo : formC y0 D = ⟨y0 % (D : Int), D⟩ := by unfold formC; rw [if_neg (by omega), if_neg c2']
      have ht := emod_tmod y0 hDp
      have h1 := Int.tmod_lt_of_pos y0 hDp
      have h2 := neg_lt_tmod y0 hDp
      obtain ⟨t, hte⟩ : ∃ t, y0.tmod D = t := ⟨_, rfl⟩
      rw [hte] at ht h1 h2
      rw [ht] at hfo
      have Hfo := hide hfo
      clear hfo ht
      by_cases c3 : t < 0
      all_goals
        go_wp2_with fail
        first
          | refine bodyPost_ret (v := (.agg #[.int .i64 (t + D), .int .i64 D])) (by simp [results, Tryd.results22, go_sem, *]) rfl ⟨by rw [Hfo.out, if_pos (by omega)]; rfl, ?_⟩
          | refine bodyPost_ret (v := (.agg #[.int .i64 t, .int .i64 D])) (by simp [results, Tryd.results22, go_sem, *]) rfl ⟨by rw [Hfo.out, if_neg (by omega)]; rfl, ?_⟩
        iterate 2 refine Below.setCell ?_ (by first | (simp; done) | (simp; omega)) _
        exact s1.bel

end Go.Proofs.YtjimjbilmlnipaaDoor
