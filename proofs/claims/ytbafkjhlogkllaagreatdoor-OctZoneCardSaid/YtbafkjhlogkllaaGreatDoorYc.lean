/- Zones: the program's squares: one number, sums, ways through a variable. -/
import Derived.Test.YtbafkjhlogkllaaGreatDoorYb
namespace Go.Proofs.YtbafkjhlogkllaaGreatDoor
open Go.RowKit
set_option linter.unusedVariables false

/-- 'min' of two ints as one step of a region that draws. -/
theorem step_min {P : Program} {ops : Array Oper} {o : Oper} {a : Act} {w : World} {K : Act → World → Prop} {Q : Exit → Act → World → Prop} {E : Prop}
    (hg : o.guard = none) (s x : Operand) (t : TypeId) (hop : o.op = Op.call { callee := Callee.builtin Builtin.min, args := #[s, x], argTypes := #[t, t] })
    (u v z : Int) (hs : a.eval s = .int .i64 u) (hx : a.eval x = .int .i64 v) (hz : z = if v < u then v else u) (hK : K (a.put o.dst (.int .i64 z)) w) :
    if Region.wanted o (yielded ops a.tmps) = true then Oper.wp P o a w K Q else E := by
  have hw : Region.wanted o (yielded ops a.tmps) = true := by simp [Region.wanted, hg]
  rw [if_pos hw]
  unfold Oper.wp
  simp [execOp, hop, resolve, invoke, builtin, hs, hx, Result.andThen, run_min_int2]
  rw [← hz]
  exact hK

theorem St.re {w W : World} {Z : World → Prop} {L : List (Nat × Nat × Value)} (h : St w W Z L) : St W W Z L :=
  ⟨Below.refl _ _, h.hold, h.sent, fun W1 W2 q hb => h.cl W1 W2 q (hb.mono h.bel.size)⟩

def encM (d : Mat) : Nat → Nat → Int := fun i j => encB (d i j)
/-- One square kept. -/
def GZ (g n : Nat) (f : Nat → Nat → Int) (W : World) : Prop := GrI W g n f
theorem St.startG {w : World} {g n : Nat} {f : Nat → Nat → Int} (h : GrI w g n f) : St w w (GZ g n f) [] := ⟨Below.refl _ _, trivial, h, fun _ _ k hb => GrI.stays h.lt k hb⟩
theorem keepG {w W : World} {g n : Nat} {f : Nat → Nat → Int} (L : List (Nat × Nat × Value)) (h : CellsAnd W L (St w W (GZ g n f) L)) : GrI W g n f := h.last.sent

set_option maxRecDepth 20000 in
set_option maxHeartbeats 1000000 in
theorem at_any (n g cp len i j : Nat) (f : Nat → Nat → Int) (w : World) (hG : GrI w g n f) (hl : Hid (len = n * n)) (hi : i < n) (hj : j < n) (hn : n ≤ 8) :
    Calls Tryz.prog 70 #[(.agg #[.int .i64 n, (.slice (some ⟨g, 0, none⟩) len cp)]), .int .i64 i, .int .i64 j] w fun e w' => e = .returned (.int .i64 (f i j)) ∧ Below w.heap.size w w' := by
  obtain ⟨v, hv⟩ : ∃ v, v = f i j := ⟨_, rfl⟩
  rw [← hv]
  obtain ⟨ik, hik⟩ : ∃ m : Nat, m = i * n := ⟨_, rfl⟩
  obtain ⟨x1, hx1⟩ : ∃ m : Nat, m = ik + j := ⟨_, rfl⟩
  have a1 : (i : Int) * (n : Int) = (ik : Int) := by rw [hik, Int.natCast_mul]
  have a3 : (ik : Int) + (j : Int) = (x1 : Int) := by omega
  have b1 : x1 < len := by rw [hl.out, hx1, hik]; exact idx_in hi hj
  have b2 : len ≤ 64 := by
    have := Nat.mul_le_mul hn hn
    have := hl.out
    omega
  have b4 : (x1 : Int) < (len : Int) := by omega
  have c1 : w.cell? ⟨g, x1, none⟩ = some (.int .i64 v) := by rw [hv, hx1, hik]; exact hG.cell i j hi hj
  have hgl := hG.lt
  clear hik hx1 hv hG hl
  go_enter Tryz.func70, Tryz.ntmps70
  go_wp2_with fail
  go_ret
  exact ⟨rfl, (Below.refl _ _).alloc (Nat.le_refl _) _⟩

def plusOk (x y : Int) : Prop := x = 9223372036854775807 ∨ y = 9223372036854775807 ∨ (-9223372036854775808 ≤ x + y ∧ x + y ≤ 9223372036854775807)
set_option maxHeartbeats 1000000 in
theorem plus_any (x y : Int) (w : World) (h : Hid (plusOk x y)) :
    Calls Tryz.prog 71 #[.int .i64 x, .int .i64 y] w fun e w' => e = .returned (.int .i64 (plusI x y)) ∧ w' = w := by
  obtain ⟨v, hv⟩ : ∃ v, v = plusI x y := ⟨_, rfl⟩
  rw [← hv]
  have Hv := hide hv
  clear hv
  by_cases h1 : x = 9223372036854775807
  · subst h1
    go_enter Tryz.func71, Tryz.ntmps71
    go_wp2
    go_ret
    exact ⟨ret_int (by rw [Hv.out]; simp [plusI]), rfl⟩
  have h1b : (x == 9223372036854775807) = false := by simp [h1]
  by_cases h2 : y = 9223372036854775807
  · subst h2
    go_enter Tryz.func71, Tryz.ntmps71
    go_wp2
    go_ret
    exact ⟨ret_int (by rw [Hv.out]; simp [plusI]), rfl⟩
  have h2b : (y == 9223372036854775807) = false := by simp [h2]
  have hw : wrap64 (x + y) = x + y := by
    rcases h.out with k | k | k
    · exact absurd k h1
    · exact absurd k h2
    · unfold wrap64; omega
  have e : v = x + y := by rw [Hv.out]; simp [plusI, h1, h2]
  subst e
  go_enter Tryz.func71, Tryz.ntmps71
  go_wp2
  go_ret
  exact ⟨ret_int (by first | rfl | exact hw | rw [hw]), rfl⟩

def minI (x y : Int) : Int := if y < x then y else x
def thrF (f : Nat → Nat → Int) (k i j : Nat) : Int := minI (f i j) (plusI (f i k) (f k j))

set_option maxRecDepth 20000 in
set_option maxHeartbeats 4000000 in
theorem thr_asks (n g cp len k bg bk : Nat) (f : Nat → Nat → Int) (w : World) (s : St w w (GZ g n f) ((bg, 0, Value.int .i64 n) :: (bg, 1, Value.slice (some ⟨g, 0, none⟩) len cp) :: (bk, 0, Value.int .i64 k) :: [])) (hl : Hid (len = n * n)) (hk : k < n) (hn : n ≤ 8) (hP : Hid (∀ i j, i < n → j < n → plusOk (f i k) (f k j))) :
    Asks 92 #[.pointer (some ⟨bg, 0, none⟩), .pointer (some ⟨bk, 0, none⟩)] w n (thrF f k) := by
  intro W i j hb hi hj
  have sW := (s.call hb).re
  obtain ⟨z, hz⟩ : ∃ z, z = thrF f k i j := ⟨_, rfl⟩
  rw [← hz]
  obtain ⟨p, hp⟩ : ∃ p, p = plusI (f i k) (f k j) := ⟨_, rfl⟩
  have Hz : Hid (z = if p < f i j then p else f i j) := by show _ = _; rw [hz, hp]; rfl
  have HP : Hid (∀ W : World, Calls Tryz.prog 71 #[.int .i64 (f i k), .int .i64 (f k j)] W fun e w' => e = .returned (.int .i64 p) ∧ w' = W) := fun W => by rw [hp]; exact plus_any _ _ W (hP.out i j hi hj)
  have HA : Hid (∀ (W : World) (a b : Nat), GrI W g n f → a < n → b < n → Calls Tryz.prog 70 #[(.agg #[.int .i64 n, (.slice (some ⟨g, 0, none⟩) len cp)]), .int .i64 a, .int .i64 b] W fun e w' => e = .returned (.int .i64 (f a b)) ∧ Below W.heap.size W w') := fun W a b h h1 h2 => at_any n g cp len a b f W h hl h1 h2 hn
  have q0 := sW.hold
  simp only [Holds, and_true] at q0
  clear s hP hz hp hl hb
  show Calls _ _ #[.int .i64 i, .int .i64 j, .pointer (some ⟨bg, 0, none⟩), .pointer (some ⟨bk, 0, none⟩)] _ _
  go_enter Tryz.func92, Tryz.ntmps92
  go_wp2_with fail
  go_region_held3 (fun w' => w'.cell? ⟨bg, 0, none⟩ = some (.int .i64 n) ∧ w'.cell? ⟨bg, 1, none⟩ = some (.slice (some ⟨g, 0, none⟩) len cp) ∧ w'.cell? ⟨bk, 0, none⟩ = some (.int .i64 k) ∧ St W w' (GZ g n f) ((bg, 0, Value.int .i64 n) :: (bg, 1, Value.slice (some ⟨g, 0, none⟩) len cp) :: (bk, 0, Value.int .i64 k) :: []))
    (first | (exact keepSt0 ((bg, 0, Value.int .i64 n) :: (bg, 1, Value.slice (some ⟨g, 0, none⟩) len cp) :: (bk, 0, Value.int .i64 k) :: []) sW.drew) | (exact keepSt ((bg, 0, Value.int .i64 n) :: (bg, 1, Value.slice (some ⟨g, 0, none⟩) len cp) :: (bk, 0, Value.int .i64 k) :: []) (by assumption) (by assumption)) | assumption)
    (first
      | (go_at_call 70; refine (HA.out _ _ _ (keepG (w := W) ((bg, 0, Value.int .i64 n) :: (bg, 1, Value.slice (some ⟨g, 0, none⟩) len cp) :: (bk, 0, Value.int .i64 k) :: []) (by assumption)) (by first | exact hi | exact hk) (by first | exact hj | exact hk)).mono ?_; rintro e w2 ⟨rfl, hb2⟩)
      | (go_at_call 71; refine (HP.out _).mono ?_; rintro e w2 ⟨rfl, rfl⟩)
      | (refine step_min (by rfl) _ _ 3 (by rfl) (f i j) p z (by rfl) (by rfl) Hz.out ?_))
  go_wp2_with fail
  go_ret
  exact ⟨rfl, keepSt_bel (w := W) ((bg, 0, Value.int .i64 n) :: (bg, 1, Value.slice (some ⟨g, 0, none⟩) len cp) :: (bk, 0, Value.int .i64 k) :: []) (by assumption)⟩

theorem St.box1 {w W : World} {Z : World → Prop} {L : List (Nat × Nat × Value)} (h : St w W Z L) (t : TypeId) (v0 : Value) :
    St w (W.alloc (.cells #[v0] t)) Z ((W.heap.size, 0, v0) :: L) := by
  have k := h.alloc (.cells #[v0] t)
  exact ⟨k.bel, ⟨⟨by simp, by simp, by simp⟩, k.hold⟩, k.sent, k.cl⟩

theorem enters_thr : Enters 92 := enters_of Tryz.func92 (by kernel_rfl) rfl
set_option maxRecDepth 20000 in
set_option maxHeartbeats 2000000 in
theorem through_any (n g cp len k : Nat) (f : Nat → Nat → Int) (w : World) (hG : GrI w g n f) (hl : Hid (len = n * n)) (hk : k < n) (hn : n ≤ 8) (hP : Hid (∀ i j, i < n → j < n → plusOk (f i k) (f k j))) :
    Calls Tryz.prog 86 #[(.agg #[.int .i64 n, (.slice (some ⟨g, 0, none⟩) len cp)]), .int .i64 k] w fun e w' => GrPost w n len (thrF f k) e w' := by
  have s0 := (((St.startG hG).box2 62 (.int .i64 n) (.slice (some ⟨g, 0, none⟩) len cp)).box1 3 (.int .i64 k)).box2 62 (.int .i64 0) (.slice none 0 0)
  simp only [World.size_alloc] at s0
  obtain ⟨F, hF⟩ : ∃ F, F = thrF f k := ⟨_, rfl⟩
  have HO : Hid (∀ W : World, St W W (GZ g n f) [(w.heap.size + 1, 0, Value.int .i64 k), (w.heap.size, 0, Value.int .i64 n), (w.heap.size, 1, (.slice (some ⟨g, 0, none⟩) len cp))] → Calls Tryz.prog 46 #[.int .i64 n, .func (.func 92) #[] #[.pointer (some ⟨w.heap.size, 0, none⟩), .pointer (some ⟨w.heap.size + 1, 0, none⟩)]] W fun e w' => GrPost W n len F e w') := by
    intro W h
    rw [hF]
    refine of_any _ _ n len _ W hl hn enters_thr (thr_asks n g cp len k w.heap.size (w.heap.size + 1) f W ⟨h.bel, ?_, h.sent, h.cl⟩ hl hk hn hP)
    have := h.hold
    exact ⟨this.2.1, this.2.2.1, this.1, trivial⟩
  rw [← hF]
  clear hF hP hG
  go_enter Tryz.func86, Tryz.ntmps86
  go_wp2_with fail
  refine (HO.out _ (s0.re.drop 2)).mono ?_
  rintro e w1 ⟨g1, cp1, rfl, hg1, hG1, hb1⟩
  have s1 := s0.call hb1
  have q1 := s1.hold
  simp only [Holds, and_true] at q1
  simp only [World.size_alloc] at hg1
  clear s0 hb1
  go_wp2_with fail
  refine bodyPost_ret (v := (.agg #[.int .i64 n, (.slice (some ⟨g1, 0, none⟩) len cp1)])) (by simp [results, Tryz.results86, go_sem, q1]) rfl ⟨g1, cp1, rfl, by omega, ?_, ?_⟩
  · exact (hG1.other (by show w.heap.size + 1 + 1 ≠ g1; omega) _).other (by show w.heap.size + 1 + 1 ≠ g1; omega) _
  · iterate 2 refine Below.setCell ?_ (by first | (simp; done) | (simp; omega)) _
    exact s1.bel

end Go.Proofs.YtbafkjhlogkllaaGreatDoor
