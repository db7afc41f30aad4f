/- Zones: has one a point? The point as a square of bounds. -/
import Derived.Test.YtbafkjhlogkllaaGreatDoorYd
import Derived.Test.YtbafkjhlogkllaaGreatDoorOfO
import Derived.Test.YtbafkjhlogkllaaGreatDoorYjO
import Derived.Laws.EntriesVeiled
namespace Go.Proofs.YtbafkjhlogkllaaGreatDoor.Oc
open Go.RowKit
set_option linter.unusedVariables false

/-- A point's numbers, each with its opposite. -/
def ptF (p : List Int) (i : Nat) : Int := if i % 2 = 1 then -(p.getD (i / 2) 0) else p.getD (i / 2) 0

set_option maxRecDepth 20000 in
set_option maxHeartbeats 1000000 in
theorem pt_one (x : Option Addr) (k c bx i : Nat) (p : List Int) (W : World) (hI : IntsAt W x p) (hc : W.cell? ⟨bx, 0, none⟩ = some (.slice x k c)) (hk : Hid (k = p.length)) (hi : i < 2 * k) (hk4 : k ≤ 4) (hp : Hid (∀ v ∈ p, v.natAbs ≤ 1099511627776)) :
    Calls Tryz.prog 63 #[.int .i64 i, .pointer (some ⟨bx, 0, none⟩)] W fun e w' => e = .returned (.int .i64 (ptF p i)) ∧ w' = W := by
  obtain ⟨j, hj⟩ : ∃ j, j = i / 2 := ⟨_, rfl⟩
  have hjk : j < p.length := by rw [← hk.out]; omega
  obtain ⟨v, hv⟩ : ∃ v, v = p.getD j 0 := ⟨_, rfl⟩
  obtain ⟨b, off, rfl, hcell⟩ := hI.get j hjk v hv
  have hvs : -1099511627776 ≤ v ∧ v ≤ 1099511627776 := by
    have : v ∈ p := by rw [hv, show p.getD j 0 = p[j] by simp [hjk]]; exact List.getElem_mem hjk
    have := hp.out v this
    omega
  have e1 : (i : Int) / 2 = (j : Int) := by omega
  have e2 : (j : Int) < (k : Int) := by omega
  have hr : Hid (ptF p i = if i % 2 = 1 then -v else v) := by show _ = _; rw [hv, hj]; rfl
  have hi8 : i ≤ 8 := by omega
  clear hv hI hj hp hk
  by_cases h : i % 2 = 1
  · have h1 : (i : Int) % 2 = 1 := by omega
    have hr2 : Hid (ptF p i = -v) := by show _ = _; rw [hr.out, if_pos h]
    clear hr h
    go_enter Tryz.func63, Tryz.ntmps63
    go_wp2_with fail
    go_ret
    exact ⟨ret_int (by rw [hr2.out]), rfl⟩
  · have h1 : (i : Int) % 2 = 0 := by omega
    have hr2 : Hid (ptF p i = v) := by show _ = _; rw [hr.out, if_neg h]
    clear hr h
    go_enter Tryz.func63, Tryz.ntmps63
    go_wp2_with fail
    go_ret
    exact ⟨ret_int (by rw [hr2.out]), rfl⟩

def ptD (p : List Int) (i j : Nat) : Int := ptF p j - ptF p i
theorem ptF_small {p : List Int} (h : ∀ v ∈ p, v.natAbs ≤ 1099511627776) (i : Nat) : (ptF p i).natAbs ≤ 1099511627776 := by
  have key : (p.getD (i / 2) 0).natAbs ≤ 1099511627776 := by
    by_cases k : i / 2 < p.length
    · have e : p.getD (i / 2) 0 = p[i / 2] := by simp [k]
      rw [e]; exact h _ (List.getElem_mem k)
    · have e : p.getD (i / 2) 0 = 0 := by simp [Nat.le_of_not_lt k]
      rw [e]; simp
  unfold ptF
  split
  · omega
  · exact key

theorem enters_pt : Enters 64 := enters_of Tryz.func64 (by kernel_rfl) rfl
theorem keepI {w W : World} {x : Option Addr} {p : List Int} (L : List (Nat × Nat × Value)) (h : CellsAnd W L (St w W (IZ x p) L)) : IntsAt W x p := h.last.sent
set_option maxRecDepth 20000 in
set_option maxHeartbeats 2000000 in
theorem pt_asks (x : Option Addr) (k c bx bf : Nat) (p : List Int) (w : World) (s : St w w (IZ x p) ((bf, 0, (Value.func (.func 63) #[] #[.pointer (some ⟨bx, 0, none⟩)])) :: (bx, 0, Value.slice x k c) :: [])) (hk : Hid (k = p.length)) (hk4 : k ≤ 4) (hp : Hid (∀ v ∈ p, v.natAbs ≤ 1099511627776)) :
    Asks 64 #[.pointer (some ⟨bf, 0, none⟩)] w (2 * k) (ptD p) := by
  intro W i j hb hi hj
  have sW := (s.call hb).re
  have q0 := sW.hold
  simp only [Holds, and_true] at q0
  have HA : Hid (∀ (W : World) (i : Nat), IntsAt W x p → W.cell? ⟨bx, 0, none⟩ = some (.slice x k c) → i < 2 * k → Calls Tryz.prog 63 #[.int .i64 i, .pointer (some ⟨bx, 0, none⟩)] W fun e w' => e = .returned (.int .i64 (ptF p i)) ∧ w' = W) := fun W i h1 h2 h3 => pt_one x k c bx i p W h1 h2 hk h3 hk4 hp
  have u1 := ptF_small hp.out i
  have u2 := ptF_small hp.out j
  have hw : IntKind.i64.wrap (ptF p j - ptF p i) = ptF p j - ptF p i := by unfold IntKind.wrap; simp [IntKind.signed, IntKind.bits]; omega
  show Calls _ _ #[.int .i64 i, .int .i64 j, .pointer (some ⟨bf, 0, none⟩)] _ fun e w' => e = .returned (.int .i64 (ptF p j - ptF p i)) ∧ _
  clear s hb hk hp u1 u2
  go_enter Tryz.func64, Tryz.ntmps64
  go_wp2_with fail
  go_region_held3 (fun w' => w'.cell? ⟨bf, 0, none⟩ = some (Value.func (.func 63) #[] #[.pointer (some ⟨bx, 0, none⟩)]) ∧ w'.cell? ⟨bx, 0, none⟩ = some (.slice x k c) ∧ St W w' (IZ x p) ((bf, 0, (Value.func (.func 63) #[] #[.pointer (some ⟨bx, 0, none⟩)])) :: (bx, 0, Value.slice x k c) :: []))
    (first | (exact keepSt0 ((bf, 0, (Value.func (.func 63) #[] #[.pointer (some ⟨bx, 0, none⟩)])) :: (bx, 0, Value.slice x k c) :: []) sW.drew) | (exact keepSt ((bf, 0, (Value.func (.func 63) #[] #[.pointer (some ⟨bx, 0, none⟩)])) :: (bx, 0, Value.slice x k c) :: []) (by assumption) (by assumption)) | assumption)
    (first
      | (go_at_call 63; refine (HA.out _ _ (keepI (w := W) ((bf, 0, (Value.func (.func 63) #[] #[.pointer (some ⟨bx, 0, none⟩)])) :: (bx, 0, Value.slice x k c) :: []) (by assumption)) (show _ ∧ _ ∧ _ by assumption).2.1 (by first | exact hi | exact hj)).mono ?_; rintro e w2 ⟨rfl, rfl⟩))
  go_wp2_with fail
  go_ret
  exact ⟨ret_int (by first | rfl | exact hw | rw [hw]), keepSt_bel (w := W) ((bf, 0, (Value.func (.func 63) #[] #[.pointer (some ⟨bx, 0, none⟩)])) :: (bx, 0, Value.slice x k c) :: []) (by assumption)⟩

set_option maxRecDepth 20000 in
set_option maxHeartbeats 2000000 in
theorem pointBounds_any (x : Option Addr) (k c n len : Nat) (p : List Int) (w : World) (hI : IntsAt w x p) (hk : Hid (k = p.length)) (hk4 : k ≤ 4) (hp : Hid (∀ v ∈ p, v.natAbs ≤ 1099511627776)) (hn : 2 * k = n) (hll : Hid (len = n * n)) :
    Calls Tryz.prog 39 #[.slice x k c] w fun e w' => GrPost w n len (ptD p) e w' := by
  have s0 := (((St.startI hI).box1 25 (.slice x k c)).box2 62 (.int .i64 0) (.slice none 0 0)).box1 69 (.func (.func 63) #[] #[.pointer (some ⟨w.heap.size, 0, none⟩)])
  simp only [World.size_alloc] at s0
  have hn2 : 2 * (k : Int) = (n : Int) := by omega
  have HO : Hid (∀ W : World, St W W (IZ x p) [(w.heap.size + 1 + 1, 0, (.func (.func 63) #[] #[.pointer (some ⟨w.heap.size, 0, none⟩)])), (w.heap.size + 1, 0, Value.int .i64 0), (w.heap.size + 1, 1, Value.slice none 0 0), (w.heap.size, 0, Value.slice x k c)] → Calls Tryz.prog 46 #[.int .i64 n, .func (.func 64) #[] #[.pointer (some ⟨w.heap.size + 1 + 1, 0, none⟩)]] W fun e w' => GrPost W n len (ptD p) e w') := by
    intro W h
    subst hn
    refine of_any _ _ (2 * k) len _ W hll (by omega) enters_pt (pt_asks x k c w.heap.size (w.heap.size + 1 + 1) p W ⟨h.bel, ?_, h.sent, h.cl⟩ hk hk4 hp)
    have := h.hold
    exact ⟨this.1, this.2.2.2.1, trivial⟩
  have hk5 : (k : Int) ≤ 4 := by omega
  clear hI hk hp hll hn
  go_enter Tryz.func39, Tryz.ntmps39
  go_wp2_with fail
  refine (HO.out _ s0.re).mono ?_
  rintro e w1 ⟨g1, cp1, rfl, hg1, hG1, hb1⟩
  have s1 := s0.call hb1
  have q1 := s1.hold
  simp only [Holds, and_true] at q1
  simp only [World.size_alloc] at hg1
  clear s0 hb1
  go_wp2_with fail
  refine bodyPost_ret (v := (.agg #[.int .i64 n, (.slice (some ⟨g1, 0, none⟩) len cp1)])) (by simp [results, Tryz.results39, go_sem, q1]) rfl ⟨g1, cp1, rfl, by omega, ?_, ?_⟩
  · exact (hG1.other (by show w.heap.size + 1 ≠ g1; omega) _).other (by show w.heap.size + 1 ≠ g1; omega) _
  · iterate 2 refine Below.setCell ?_ (by first | (simp; done) | (simp; omega)) _
    exact s1.bel

def inB (n : Nat) (f f' : Nat → Nat → Int) : Bool := decide (∀ p, p < n * n → f (p / n) (p % n) ≤ f' (p / n) (p % n))
set_option maxRecDepth 20000 in
set_option maxHeartbeats 2000000 in
theorem gwithin_any (n g cp h ch len : Nat) (f f' : Nat → Nat → Int) (w : World) (hG : GrI w g n f) (hH : GrI w h n f') (hl : Hid (len = n * n)) (hn : n ≤ 8) :
    Calls Tryz.prog 36 #[(.agg #[.int .i64 n, (.slice (some ⟨g, 0, none⟩) len cp)]), (.agg #[.int .i64 n, (.slice (some ⟨h, 0, none⟩) len ch)])] w fun e w' => e = .returned (.bool (inB n f f')) ∧ Below w.heap.size w w' := by
  have hlen : len ≤ 64 := by
    have := hl.out
    have h1 := Nat.mul_le_mul hn hn
    omega
  have s0 := (((⟨Below.refl _ _, trivial, ⟨hG, hH⟩, fun _ _ q hb => ⟨GrI.stays hG.lt q.1 hb, GrI.stays hH.lt q.2 hb⟩⟩ : St w w (fun W => GrI W g n f ∧ GrI W h n f') [])).box2 62 (.int .i64 n) (.slice (some ⟨g, 0, none⟩) len cp)).box2 62 (.int .i64 n) (.slice (some ⟨h, 0, none⟩) len ch)
  simp only [World.size_alloc] at s0
  have q0 := s0.hold
  simp only [Holds, and_true] at q0
  have hat : Hid (∀ (W : World) (b k : Nat) (F : Nat → Nat → Int), GrI W b n F → k < len → W.cell? ⟨b, k, none⟩ = some (.int .i64 (F (k / n) (k % n)))) := by
    intro W b k F hB hk
    have hk2 : k < n * n := by rw [← hl.out]; exact hk
    have c := hB.cell (k / n) (k % n) (Nat.div_lt_of_lt_mul hk2) (Nat.mod_lt _ (Nat.pos_of_ne_zero (fun e => by subst e; simp at hk2)))
    rwa [show k / n * n + k % n = k by rw [Nat.mul_comm]; exact Nat.div_add_mod _ _] at c
  obtain ⟨r, hr⟩ : ∃ r, r = inB n f f' := ⟨_, rfl⟩
  rw [← hr]
  have Hr := hide hr
  have z1 := hG.lt
  have z2 := hH.lt
  have bel0 := s0.bel
  clear hr
  go_enter Tryz.func36, Tryz.ntmps36
  go_wp2_with fail
  go_loopg [10] len (fun gh kv wr => ∃ k : Nat, k + gh = len ∧ kv = .int .i64 k ∧ wr = ((w.alloc (.cells #[.int .i64 n, (.slice (some ⟨g, 0, none⟩) len cp)] 62)).alloc (.cells #[.int .i64 n, (.slice (some ⟨h, 0, none⟩) len ch)] 62)) ∧ Hid (∀ p, p < k → f (p / n) (p % n) ≤ f' (p / n) (p % n)))
  case atStart => exact ⟨0, by omega, rfl, rfl, fun p h => by omega⟩
  case round =>
    obtain ⟨k, hkg, rfl, rfl, HL⟩ := hrel
    by_cases hk : k < len
    · have hk' : (k : Int) < (len : Int) := by omega
      obtain ⟨u, hu⟩ : ∃ u, u = f (k / n) (k % n) := ⟨_, rfl⟩
      obtain ⟨v, hv⟩ : ∃ v, v = f' (k / n) (k % n) := ⟨_, rfl⟩
      have c1 := hat.out w g k f hG hk
      have c2 := hat.out w h k f' hH hk
      rw [← hu] at c1
      rw [← hv] at c2
      have Hu := hide hu
      have Hv := hide hv
      clear hu hv
      by_cases huv : v < u
      · have hre : Hid (r = false) := by
          show _ = _; rw [Hr.out]; unfold inB; apply decide_eq_false
          intro hall
          have := hall k (by rw [← hl.out]; exact hk)
          rw [← Hu.out, ← Hv.out] at this
          omega
        go_wp2_with fail
        go_ret
        exact ⟨ret_bool (by rw [hre.out]), bel0⟩
      · go_wp2_with fail
        go_roundg (len - (k + 1))
        case measure => omega
        case rel =>
          refine ⟨k + 1, by omega, by go_num, rfl, fun p hp => ?_⟩
          by_cases e : p = k
          · subst e; rw [← Hu.out, ← Hv.out]; omega
          · exact HL.out p (by omega)
    · have hk' : ¬ (k : Int) < (len : Int) := by omega
      have hre : Hid (r = true) := by
        show _ = _; rw [Hr.out]; unfold inB; apply decide_eq_true
        intro p hp
        exact HL.out p (by rw [← hl.out] at hp; omega)
      go_wp2_with fail
      go_ret
      exact ⟨ret_bool (by rw [hre.out]), bel0⟩

end Go.Proofs.YtbafkjhlogkllaaGreatDoor.Oc
