/- Zones: the law's closed fact (free). -/
import Derived.Test.YtbafkjhlogkllaaGreatDoorYjO
import Derived.Test.YtbafkjhlogkllaaGreatDoorZqO
import Derived.Test.YtbafkjhlogkllaaGreatDoorYqO
import Derived.Test.YtbafkjhlogkllaaGreatDoorZoO
namespace Go.Proofs.YtbafkjhlogkllaaGreatDoor.Oc
open Go.RowKit
set_option linter.unusedVariables false

def fr0 : List Ce := [ceZ, ceZ, ⟨true, 3⟩, ceZ]
def fre : List Ce := [⟨true, 0⟩, ceZ, ⟨true, 2⟩, ⟨true, 0⟩]
theorem fre_err : zErr 1 fr0 = 0 := by decide
theorem fre_is : tellL 2 (tg 2 (matOf 2 fr0)) = fre := by decide
theorem fre_ok : NoNeg 2 (tg 2 (matOf 2 fr0)) := tnB_iff.1 (by decide)
theorem fr0_row (W : World) : RowC (W.alloc (.cells #[.bool false, .int .i64 0, .bool false, .int .i64 0, .bool true, .int .i64 3, .bool false, .int .i64 0] 55)) W.heap.size 0 fr0 := by
  refine ⟨by simp, fun i hi => ?_, fun i hi => ?_⟩
  · have hi' : i < 4 := hi
    rcases (by omega : i = 0 ∨ i = 1 ∨ i = 2 ∨ i = 3) with rfl | rfl | rfl | rfl <;> simp [fr0, ceZ]
  · have hi' : i < 4 := hi
    rcases (by omega : i = 0 ∨ i = 1 ∨ i = 2 ∨ i = 3) with rfl | rfl | rfl | rfl <;> simp [fr0, ceZ]
theorem fre_row (W : World) : RowC (W.alloc (.cells #[.bool true, .int .i64 0, .bool false, .int .i64 0, .bool true, .int .i64 2, .bool true, .int .i64 0] 56)) W.heap.size 0 fre := by
  refine ⟨by simp, fun i hi => ?_, fun i hi => ?_⟩
  · have hi' : i < 4 := hi
    rcases (by omega : i = 0 ∨ i = 1 ∨ i = 2 ∨ i = 3) with rfl | rfl | rfl | rfl <;> simp [fre, ceZ]
  · have hi' : i < 4 := hi
    rcases (by omega : i = 0 ∨ i = 1 ∨ i = 2 ∨ i = 3) with rfl | rfl | rfl | rfl <;> simp [fre, ceZ]

set_option maxRecDepth 20000 in
set_option maxHeartbeats 4000000 in
theorem free_any (a : Nat → Addr) (w : World) (hS : ErrS w a) :
    Calls Tryz.prog 4 #[] w fun e w' => e = .returned (.bool true) ∧ Below w.heap.size w w' := by
  have HC : Hid (∀ (W : World) (b c : Nat), ErrS W a → RowC W b 0 fr0 → Calls Tryz.prog 18 #[(.agg #[.int .i64 1, (.slice (some ⟨b, 0, none⟩) 4 c)])] W fun e w' => ∃ g cp, e = .returned (.tuple #[(.agg #[.int .i64 1, (.slice (some ⟨g, 0, none⟩) 4 cp)]), .bool true, .nilIface]) ∧ RowC w' g 0 fre ∧ Below W.heap.size W w') := by
    intro W b c h1 h2
    refine (close_any 1 (some ⟨b, 0, none⟩) c 4 fr0 a W h1 (.inr ⟨b, 0, rfl, h2⟩) rfl (by omega)).mono ?_
    rintro e w' ⟨hb, h | h | h⟩
    · exact absurd fre_err h.1
    · exact absurd fre_ok h.2.1
    · obtain ⟨_, _, g, cp, rfl, _, hR⟩ := h
      exact ⟨g, cp, rfl, by rw [← fre_is]; exact hR, hb⟩
  have HI : Hid (∀ (W : World) (g cp b c : Nat), RowC W g 0 fre → RowC W b 0 fre → Calls Tryz.prog 14 #[(.agg #[.int .i64 1, (.slice (some ⟨g, 0, none⟩) 4 cp)]), (.agg #[.int .i64 1, (.slice (some ⟨b, 0, none⟩) 4 c)])] W fun e w' => e = .returned (.bool true) ∧ Below W.heap.size W w') := by
    intro W g cp b c h1 h2
    refine (isZone_any 1 1 (some ⟨g, 0, none⟩) (some ⟨b, 0, none⟩) 4 cp 4 c fre fre W (.inr ⟨g, 0, rfl, h1⟩) (.inr ⟨b, 0, rfl, h2⟩) rfl rfl (by omega)).mono ?_
    rintro e w' ⟨rfl, hb⟩
    exact ⟨by simp, hb⟩
  have s0 := St.startE hS
  have s1 := s0.alloc (.cells #[.bool false, .int .i64 0, .bool false, .int .i64 0, .bool true, .int .i64 3, .bool false, .int .i64 0] 55)
  have R1 := fr0_row w
  clear s0
  go_enter Tryz.func4, Tryz.ntmps4
  go_wp2_with fail
  refine (HC.out _ w.heap.size 4 s1.sent R1).mono ?_
  rintro e w2 ⟨g, cp, rfl, hR2, hb2⟩
  have s2 := (s1.call hb2).box2 30 (.int .i64 1) (.slice (some ⟨g, 0, none⟩) 4 cp)
  have hR3 := hR2.below ((Below.refl _ _).alloc (Nat.le_refl _) (.cells #[.int .i64 1, .slice (some ⟨g, 0, none⟩) 4 cp] 30))
  have q2 := s2.hold
  simp only [Holds, and_true] at q2
  clear hb2 s1 R1 HC
  go_wp2_with fail
  have s3 := s2.alloc (.cells #[.bool true, .int .i64 0, .bool false, .int .i64 0, .bool true, .int .i64 2, .bool true, .int .i64 0] 56)
  have hF := fre_row (w2.alloc (.cells #[.int .i64 1, .slice (some ⟨g, 0, none⟩) 4 cp] 30))
  simp only [World.size_alloc] at hF
  refine (HI.out _ g cp _ 4 (hR3.below ((Below.refl _ _).alloc (Nat.le_refl _) _)) hF).mono ?_
  rintro e w4 ⟨rfl, hb4⟩
  have s4 := s3.call hb4
  go_wp2_with fail
  go_ret
  exact ⟨rfl, s4.bel⟩

end Go.Proofs.YtbafkjhlogkllaaGreatDoor.Oc

/- Zones: what the laws' walks keep: errors and any many slices of cells; what a closed zone is again. -/
namespace Go.Proofs.YtbafkjhlogkllaaGreatDoor.Oc
open Go.RowKit
set_option linter.unusedVariables false

theorem near_size {l : List Ce} {B : Int} (h : nearL l B = true) : ∀ i, i < l.length → (l.getD i ceZ).m.natAbs ≤ B.natAbs := by
  intro i hi
  have e : l.getD i ceZ = l[i] := by simp [hi]
  rw [e]
  unfold nearL at h
  simp only [Bool.not_eq_true', List.any_eq_false] at h
  have := h l[i] (List.getElem_mem hi)
  simp [farC, farB] at this
  omega
theorem _root_.Go.Proofs.YtbafkjhlogkllaaGreatDoor.St.setP {w W : World} {Z : World → Prop} {L : List (Nat × Nat × Value)} (h : St w W Z L) {p : Addr} (hb : w.heap.size ≤ p.block) (ap : Apart p.block L) (v : Value) : St w (W.setCell p v) Z L := by
  have b : Below w.heap.size W (W.setCell p v) := (Below.refl _ _).setCell hb _
  exact ⟨h.bel.trans b, h.hold.setCell ap v, h.cl _ _ h.sent b, h.cl⟩
theorem _root_.Go.Proofs.YtbafkjhlogkllaaGreatDoor.St.twoP {w W W2 : World} {Z : World → Prop} {L : List (Nat × Nat × Value)} {b : Nat} {v0 v1 : Value} (h : St w W Z L) (k : Holds W2 L) (hw : w.heap.size ≤ W2.heap.size) (hb : W2.heap.size ≤ b) : St w ((W.setCell ⟨b, 0, none⟩ v0).setCell ⟨b, 1, none⟩ v1) Z L :=
  (h.setP (p := ⟨b, 0, none⟩) (by dsimp only; omega) (k.apart_ge hb) v0).setP (p := ⟨b, 1, none⟩) (by dsimp only; omega) (k.apart_ge hb) v1

/-- The errors that are laid (the empty one, where the Bool says so), and slices of cells. -/
def Zs (em : Bool) (a : Nat → Addr) (cs : List (Option Addr × List Ce)) (W : World) : Prop := (ErrS W a ∧ (em = true → ErrAt W a 3)) ∧ ∀ p ∈ cs, CsAt W p.1 p.2
theorem St.startZs {w : World} {em : Bool} {a : Nat → Addr} {cs : List (Option Addr × List Ce)} (h : ErrS w a) (h3 : em = true → ErrAt w a 3) (k : ∀ p ∈ cs, CsAt w p.1 p.2) : St w w (Zs em a cs) [] :=
  ⟨Below.refl _ _, trivial, ⟨⟨h, h3⟩, k⟩, fun _ _ q hb => ⟨⟨h.stays q.1.1 hb, fun e => (hb.cell (World.block_lt_of_cell? w _ (h3 e))).trans (q.1.2 e)⟩, fun p hp => (k p hp).stays (q.2 p hp) hb⟩⟩
theorem _root_.Go.Proofs.YtbafkjhlogkllaaGreatDoor.St.more {w W : World} {em : Bool} {a : Nat → Addr} {cs : List (Option Addr × List Ce)} {L : List (Nat × Nat × Value)} (h : St w W (Zs em a cs) L) {y : Option Addr} {m : List Ce} (k : CsAt W y m) : St W W (Zs em a ((y, m) :: cs)) L := by
  have s := St.startZs (em := em) (a := a) (cs := (y, m) :: cs) h.sent.1.1 h.sent.1.2 (by
    intro p hp
    rcases List.mem_cons.1 hp with rfl | hp
    · exact k
    · exact h.sent.2 p hp)
  exact ⟨s.bel, h.hold, s.sent, s.cl⟩
theorem keepZs {w W : World} {em : Bool} {a : Nat → Addr} {cs : List (Option Addr × List Ce)} (L : List (Nat × Nat × Value)) (h : CellsAnd W L (St w W (Zs em a cs) L)) : Zs em a cs W := h.last.sent
theorem Zs.e {em : Bool} {a : Nat → Addr} {cs : List (Option Addr × List Ce)} {W : World} (h : Zs em a cs W) : ErrS W a := h.1.1
theorem Zs.c {em : Bool} {a : Nat → Addr} {cs : List (Option Addr × List Ce)} {W : World} (h : Zs em a cs W) {y : Option Addr} {m : List Ce} (hp : (y, m) ∈ cs) : CsAt W y m := h.2 (y, m) hp

theorem Tryz.stoodZC : Tryz.prog.stoodInHeld 55 = false := by kernel_rfl
theorem Tryz.fieldsZC : Tryz.prog.underlying 55 = some (.struct (Tryz.prog.fieldsOf 55)) := by kernel_rfl
theorem eqZC (h : Bool) (m : Int) (h' : Bool) (m' : Int) (W : World) : (binOp .eql 55 (.agg #[.bool h, .int .i64 m]) (.agg #[.bool h', .int .i64 m'])).run Tryz.prog W = .ok (.bool (decide (h = h') && decide (m = m'))) W := by
  rw [run_eql_struct, run_equalIn_struct W 9999 _ _ _ Tryz.fieldsZC Tryz.stoodZC]
  simp [Program.fieldsOf, Tryz.underlying55, go_sem, Tryz.underlying3, Tryz.underlying4]
  by_cases h1 : h = h' <;> by_cases h2 : m = m' <;> simp [h1, h2]
theorem neZC (h : Bool) (m : Int) (h' : Bool) (m' : Int) (W : World) : (binOp .neq 55 (.agg #[.bool h, .int .i64 m]) (.agg #[.bool h', .int .i64 m'])).run Tryz.prog W = .ok (.bool (!(decide (h = h') && decide (m = m')))) W := by
  have hh := eqZC h m h' m' W
  rw [run_eql_struct] at hh
  rw [run_neq_struct]
  cases hq : (Op.equalIn 10000 55 (.agg #[.bool h, .int .i64 m]) (.agg #[.bool h', .int .i64 m'])).run Tryz.prog W with
  | ok b w' => rw [hq] at hh; simp only [Result.andThen_ok, Result.ok.injEq, Value.bool.injEq] at hh ⊢; exact ⟨by rw [hh.1], hh.2⟩
  | halt x w' => rw [hq] at hh; simp [Result.andThen] at hh

/-- A told row is right. -/
theorem tell_right {N : Int} {n : Nat} (hN : 2 * N = n) (hn : n % 2 = 0 ∧ n ≤ 8) (d : Mat) (hd : Coh n d) : zErr N (tellL n d) = 0 := by
  have hlen : (((tellL n d).length : Nat) : Int) = 4 * N * N := by
    have e2 : 4 * N * N = (2 * N) * (2 * N) := by rw [Int.mul_assoc, Int.mul_assoc, Int.mul_left_comm N 2 N, ← Int.mul_assoc 2 2]; simp
    rw [tellL_len, e2, hN, Int.natCast_mul]
  have h1 : (tellL n d).any badC = false := by
    rw [List.any_eq_false]
    intro c hc
    obtain ⟨p, _, rfl⟩ := List.mem_map.1 hc
    cases d (p / n) (p % n) with
    | none => simp [tellC, badC]
    | some m => simp only [tellC]; split <;> simp [badC]
  have h2 : (tellL n d).any (farC 1099511627776) = false := by
    rw [List.any_eq_false]
    intro c hc
    obtain ⟨p, _, rfl⟩ := List.mem_map.1 hc
    cases d (p / n) (p % n) with
    | none => simp [tellC, farC, farB]
    | some m =>
      simp only [tellC]; split
      · simp [farC, farB]
      · split <;> simp [farC, farB] <;> omega
  have ec : celErr N (tellL n d) (4 * N * N) = 0 := by
    unfold celErr
    rw [if_neg (by omega), if_neg (fun k => k hlen), h1, h2]; simp
  have en : (2 * N).toNat = n := by omega
  unfold zErr
  rw [ec, if_neg (by simp), if_pos]
  rw [en]
  intro i hi j hj
  rw [tellL_at hi hj, tellL_at (bar_lt hn.1 hj) (bar_lt hn.1 hi), hd i j hi hj]


theorem nOf_is {N : Int} {n : Nat} (hN : 2 * N = n) : nOf N = n := by unfold nOf; omega
theorem _root_.Go.Proofs.YtbafkjhlogkllaaGreatDoor.OPt.tell {n : Nat} {d : Mat} {x : Nat → Int} (h : OPt n d x) : OPt n (matOf n (tellL n d)) x := ⟨h.1.tell, h.2⟩
theorem coh_tell {n : Nat} (he : n % 2 = 0) {d : Mat} (h : Coh n d) : Coh n (matOf n (tellL n d)) := by
  intro i j hi hj
  unfold matOf
  rw [tellL_at hi hj, tellL_at (bar_lt he hj) (bar_lt he hi), h i j hi hj]
theorem coh_of {N : Int} {l : List Ce} (h : zErr N l = 0) : Coh (nOf N) (matOf (nOf N) l) := coh_mat (zErr_coh h)
theorem coh_with {n : Nat} {c d : Mat} (F : Bd → Bd → Bd) (h : Coh n c) (k : Coh n d) : Coh n (With2 F c d) := fun i j hi hj => by unfold With2; rw [← h i j hi hj, ← k i j hi hj]

/-- What a tight octagon of near bounds is. -/
structure CloNear (n : Nat) (m : Mat) : Prop where
  hn : n % 2 = 0 ∧ n ≤ 8
  sz : Sz n 1048576 m
  coh : Coh n m
  ok : NoNeg n (tg n m)
theorem CloNear.tig {n : Nat} {m : Mat} (h : CloNear n m) : Tight n (tg n m) := tg_tight h.hn.1 h.coh h.ok
theorem CloNear.small {n : Nat} {m : Mat} (h : CloNear n m) : Sz n 536870912 (tg n m) := sz_tg h.sz h.hn.2 h.hn.1
theorem CloNear.row {n : Nat} {m : Mat} (h : CloNear n m) : tellL n (tg n m) = rowOf n (tg n m) := tellL_near (h.small.mono (by omega))
theorem CloNear.at {n : Nat} {m : Mat} (h : CloNear n m) {i j : Nat} (hi : i < n) (hj : j < n) : (tellL n (tg n m)).getD (i * n + j) ceZ = ceOf (tg n m i j) := by rw [h.row, rowOf_at hi hj]
theorem CloNear.mat {n : Nat} {m : Mat} (h : CloNear n m) {i j : Nat} (hi : i < n) (hj : j < n) : matOf n (tellL n (tg n m)) i j = tg n m i j := by rw [h.row, mat_row hi hj]
theorem CloNear.againT {n : Nat} {m : Mat} (h : CloNear n m) : Tight n (matOf n (tellL n (tg n m))) := by
  have t := h.tig
  have e : ∀ i j, i < n → j < n → matOf n (tellL n (tg n m)) i j = tg n m i j := fun i j hi hj => h.mat hi hj
  have et : ∀ i, i < n → topB (matOf n (tellL n (tg n m))) i = topB (tg n m) i := fun i hi => by unfold topB; rw [e _ _ (bar_lt h.hn.1 hi) hi]
  refine ⟨h.hn.1, ⟨fun i hi => by rw [e i i hi hi]; exact t.clo.diag i hi, fun i j k hi hj hk => by rw [e i j hi hj, e i k hi hk, e k j hk hj]; exact t.clo.tri i j k hi hj hk⟩, coh_tell h.hn.1 t.coh, fun i j hi hj => ?_, fun i v hi hv => t.par i v hi (by rw [← e _ _ (bar_lt h.hn.1 hi) hi]; exact hv)⟩
  rw [e i j hi hj, et _ (bar_lt h.hn.1 hi), et j hj]
  exact t.str i j hi hj
theorem CloNear.again {n : Nat} {m : Mat} (h : CloNear n m) : ∀ i j, i < n → j < n → tg n (matOf n (tellL n (tg n m))) i j = tg n m i j := by
  intro i j hi hj
  rw [(tg_same h.againT).2 i j hi hj, h.mat hi hj]
theorem CloNear.tell_again {n : Nat} {m : Mat} (h : CloNear n m) : tellL n (tg n (matOf n (tellL n (tg n m)))) = tellL n (tg n m) := tellL_congr h.again
theorem CloNear.ok_again {n : Nat} {m : Mat} (h : CloNear n m) : NoNeg n (tg n (matOf n (tellL n (tg n m)))) := (tg_same h.againT).1
theorem CloNear.join {n : Nat} {m : Mat} (h : CloNear n m) : tellL n (joinM n m m) = tellL n (tg n m) := by
  rw [joinM_ab h.ok h.ok]
  apply tellL_congr
  intro i j _ _
  cases tg n m i j <;> simp [maxB]
theorem min_self (b : Bd) : minB b b = b := by cases b <;> simp [minB]
theorem with_min_self (m : Mat) : With2 minB m m = m := by funext i j; exact min_self _

end Go.Proofs.YtbafkjhlogkllaaGreatDoor.Oc
