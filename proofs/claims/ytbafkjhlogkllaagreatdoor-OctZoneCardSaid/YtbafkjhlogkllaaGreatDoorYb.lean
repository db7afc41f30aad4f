/- Zones: the program's squares in memory; a square by a closure (grid.Of). -/
import Derived.Test.YtbafkjhlogkllaaGreatDoorYa
import Derived.Test.YtbafkjhlogkllaaGreatDoorKu
import Derived.Test.YtbafkjhlogkllaaGreatDoorZg
import Derived.Deep.RegionLaw
import Derived.Deep.RegionHeld3
import Derived.Deep.AppendLies
namespace Go.Proofs.YtbafkjhlogkllaaGreatDoor
open Go.RowKit
set_option linter.unusedVariables false

theorem Tryz.infoInt : (Tryz.prog.info? 3).map (fun i => (i.zero, i.size, i.bytes)) = some (some (.int .i64 0), 1, 8) := by kernel_rfl

/-- A square of numbers that can be read. -/
structure GrI (w : World) (g n : Nat) (f : Nat → Nat → Int) : Prop where
  lt : g < w.heap.size
  cell : ∀ i j, i < n → j < n → w.cell? ⟨g, i * n + j, none⟩ = some (.int .i64 (f i j))
theorem GrI.below {w w' : World} {g n : Nat} {f : Nat → Nat → Int} (h : GrI w g n f) (hb : Below w.heap.size w w') : GrI w' g n f :=
  ⟨Nat.lt_of_lt_of_le h.lt hb.size, fun i j hi hj => (hb.cell (p := ⟨g, i * n + j, none⟩) h.lt).trans (h.cell i j hi hj)⟩
theorem GrI.stays {w W1 W2 : World} {g n : Nat} {f : Nat → Nat → Int} (h : g < w.heap.size) (k : GrI W1 g n f) (hb : Below w.heap.size W1 W2) : GrI W2 g n f :=
  ⟨Nat.lt_of_lt_of_le k.lt hb.size, fun i j hi hj => (hb.cell (p := ⟨g, i * n + j, none⟩) h).trans (k.cell i j hi hj)⟩
theorem GrI.congr {w : World} {g n : Nat} {f f' : Nat → Nat → Int} (h : GrI w g n f) (e : ∀ i j, i < n → j < n → f i j = f' i j) : GrI w g n f' :=
  ⟨h.lt, fun i j hi hj => by rw [← e i j hi hj]; exact h.cell i j hi hj⟩
theorem GrI.other {w : World} {g n : Nat} {f : Nat → Nat → Int} (h : GrI w g n f) {p : Addr} (hp : p.block ≠ g) (v : Value) : GrI (w.setCell p v) g n f :=
  ⟨by simpa [World.setCell] using h.lt, fun i j hi hj => (World.cell?_of_block (Below.heap_setCell w p v g (fun e => hp e.symm))).trans (h.cell i j hi hj)⟩

/-- A function that has a body: a call enters it. -/
def Enters (f : Nat) : Prop := ∀ (args : Array Value) (W : World), (callFunc f args).run Tryz.prog W = .ok (.enter f args) W
theorem enters_of {f : Nat} {fn : Func} {c : Code} (hf : Tryz.prog.funcs[f]? = some fn) (hname : (fn.name == "runtime.NumGoroutine") = false) (hb : fn.body = some c) : Enters f := by
  intro args w
  have h1 : fn.name ≠ "runtime.NumGoroutine" := by simpa using hname
  simp [callFunc, hf, h1, hb]

/-- What a closure answers of each row and column. -/
def Asks (fn : Nat) (caps : Array Value) (w : World) (n : Nat) (f : Nat → Nat → Int) : Prop :=
  ∀ (W : World) (i j : Nat), Below w.heap.size w W → i < n → j < n → Calls Tryz.prog fn (#[.int .i64 i, .int .i64 j] ++ caps) W fun e w' => e = .returned (.int .i64 (f i j)) ∧ Below W.heap.size W w'

def intsV (l : List Int) : List Value := l.map fun z => Value.int .i64 z
def flat (n : Nat) (f : Nat → Nat → Int) (k : Nat) : List Int := (List.range k).map fun p => f (p / n) (p % n)
theorem flat_succ (n : Nat) (f : Nat → Nat → Int) (k : Nat) : intsV (flat n f (k + 1)) = intsV (flat n f k) ++ [.int .i64 (f (k / n) (k % n))] := by
  simp [intsV, flat, List.range_succ]
theorem flat_at {n k : Nat} {f : Nat → Nat → Int} {p : Nat} (hp : p < k) : (intsV (flat n f k))[p]? = some (.int .i64 (f (p / n) (p % n))) := by
  simp [intsV, flat, hp]

theorem owns_other {w : World} {base e size n : Nat} {v : Value} {xs : List Value} (h : w.ownsRow base e size v n xs) {p : Addr} (hp : v.ownBlock ≠ some p.block) (u : Value) : (w.setCell p u).ownsRow base e size v n xs := by
  obtain ⟨h1, h2⟩ := h
  refine ⟨h1, ?_⟩
  rcases h2 with h2 | ⟨g, cap, cur, rfl, hb, hh, r⟩
  · exact .inl h2
  · refine .inr ⟨g, cap, cur, rfl, hb, (Below.heap_setCell w p u g ?_).trans hh, r⟩
    intro e
    exact hp (by simp [Value.ownBlock, e])
theorem owns_bel {w w' : World} {base e size n : Nat} {v : Value} {xs : List Value} (h : w.ownsRow base e size v n xs) (hb : Below w.heap.size w w') : w'.ownsRow base e size v n xs := by
  have lt := h.lt
  obtain ⟨h1, h2⟩ := h
  refine ⟨h1, ?_⟩
  rcases h2 with h2 | ⟨g, cap, cur, rfl, hb', hh, r⟩
  · exact .inl h2
  · exact .inr ⟨g, cap, cur, rfl, hb', (hb.block g (lt g (by simp [Value.ownBlock])).2).trans hh, r⟩
theorem Holds.grown {w w' : World} {L : List (Nat × Nat × Value)} {b : Nat} (h : Holds w L) (hg : w.grownBy w' (some b)) (ap : Apart b L) : Holds w' L := by
  induction L with
  | nil => trivial
  | cons x L ih =>
    have e := hg.block x.1 h.1.2.1 (fun e => ap.1 (by simpa using e))
    exact ⟨⟨(World.cell?_of_block (a := ⟨x.1, x.2.1, none⟩) e).trans h.1.1, Nat.lt_of_lt_of_le h.1.2.1 hg.size, (World.frozen?_of_block (a := ⟨x.1, x.2.1, none⟩) e).trans h.1.2.2⟩, ih h.2 ap.2⟩
theorem St.grown {w W W' : World} {L : List (Nat × Nat × Value)} {b : Nat} (h : St w W (fun _ => True) L) (hg : W.grownBy W' (some b)) (ap : Apart b L) (hb : w.heap.size ≤ b) : St w W' (fun _ => True) L :=
  ⟨h.bel.grown hg h.bel.size (fun k e => by simp at e; omega), h.hold.grown hg ap, trivial, fun _ _ _ _ => trivial⟩
theorem St.grown0 {w W W' : World} {L : List (Nat × Nat × Value)} (h : St w W (fun _ => True) L) (hg : W.grownBy W' none) : St w W' (fun _ => True) L := by
  refine ⟨h.bel.grown hg h.bel.size (fun k e => by cases e), ?_, trivial, fun _ _ _ _ => trivial⟩
  have := h.hold
  clear h
  induction L with
  | nil => trivial
  | cons x L ih =>
    have e := hg.block x.1 this.1.2.1 (fun e => by cases e)
    exact ⟨⟨(World.cell?_of_block (a := ⟨x.1, x.2.1, none⟩) e).trans this.1.1, Nat.lt_of_lt_of_le this.1.2.1 hg.size, (World.frozen?_of_block (a := ⟨x.1, x.2.1, none⟩) e).trans this.1.2.2⟩, ih this.2⟩
theorem cell_one (W : World) (t : TypeId) (v : Value) : ∀ j u, [v][j]? = some u → (W.alloc (.cells #[v] t)).cell? ((⟨W.heap.size, 0, none⟩ : Addr).add j) = some u := by
  intro j u h
  rcases (by omega : j = 0 ∨ 1 ≤ j) with rfl | hj
  · simp at h; subst h; simp [Addr.add]
  · rw [List.getElem?_eq_none (by simpa using hj)] at h; cases h

/-- A new square is answered. -/
def GrPost (w : World) (n len : Nat) (f : Nat → Nat → Int) (e : Ending) (w' : World) : Prop :=
  ∃ g cp, e = .returned (.agg #[.int .i64 n, (.slice (some ⟨g, 0, none⟩) len cp)]) ∧ w.heap.size ≤ g ∧ GrI w' g n f ∧ Below w.heap.size w w'

set_option maxRecDepth 20000 in
set_option maxHeartbeats 4000000 in
theorem of_any (fn : Nat) (caps : Array Value) (n m : Nat) (f : Nat → Nat → Int) (w : World) (Hm : Hid (m = n * n)) (hn : n ≤ 8) (hE : Hid (Enters fn)) (hA : Hid (Asks fn caps w n f)) :
    Calls Tryz.prog 46 #[.int .i64 n, .func (.func fn) #[] caps] w fun e w' => GrPost w n m f e w' := by
  have hE' : ∀ (args : Array Value) (W : World), (callFunc fn args).run Tryz.prog W = .ok (.enter fn args) W := hE.out
  obtain ⟨i0, hi, hz0, hz1, hz2⟩ := info_parts Tryz.infoInt
  have hm := Hm.out
  have hmb : m ≤ 64 := by
    have h1 := Nat.mul_le_mul hn hn
    omega
  have hmi : (n : Int) * (n : Int) = (m : Int) := by rw [hm, Int.natCast_mul]
  have s0 := (St.start1' w).box2 62 (.int .i64 0) (.slice none 0 0)
  clear hm
  go_enter Tryz.func46, Tryz.ntmps46
  go_wp2_with (at_make; refine wpList_make_own _ rfl _ _ 25 rfl (w.heap.size + 1) 3 i0 (.int .i64 0) 1 Tryz.underlying25 hi hz0 hz1 _ _ _ m rfl rfl (by first | rfl | exact hmi | simp [hmi]) ?b2 ?b3 (by simp) ?_)
  case b2 => rw [hz2]; omega
  case b3 => unfold maxLen; omega
  intro w1 own1 hgrow1
  have s1 := (s0.grown0 hgrow1).box2 62 (.int .i64 n) (.slice (some ⟨w.heap.size + 1, 0, none⟩) 0 m)
  have hB0 := (own1.lt (w.heap.size + 1) (by simp [Value.ownBlock])).2
  have own2 := own1.alloc (.cells #[.int .i64 n, .slice (some ⟨w.heap.size + 1, 0, none⟩) 0 m] 62)
  obtain ⟨B, hB⟩ : ∃ B, B = w1.heap.size := ⟨_, rfl⟩
  rw [← hB] at s1 hB0
  clear own1 hgrow1 s0
  try simp only [World.size_alloc] at own2
  try simp only [World.size_alloc] at s1
  have hap : B ≠ w.heap.size := by omega
  have HB := hide hB
  go_wp2_with fail
  rw [← hB]
  clear hB
  go_loopg [15] n (fun gh iv wr => ∃ i : Nat, i + gh = n ∧ iv = .int .i64 i ∧ (∃ (cp g : Nat), g ≠ B ∧ w.heap.size + 1 ≤ g ∧ wr.ownsRow (w.heap.size + 1) 3 1 (.slice (some ⟨g, 0, none⟩) (i * n + 0) cp) (i * n + 0) (intsV (flat n f (i * n + 0))) ∧ St w wr (fun _ => True) [(B, 0, Value.int .i64 n), (B, 1, Value.slice (some ⟨g, 0, none⟩) (i * n + 0) cp), (w.heap.size, 0, Value.int .i64 0), (w.heap.size, 1, Value.slice none 0 0)]))
  case atStart => exact ⟨0, by omega, rfl, m, w.heap.size + 1, by omega, by omega, by simpa [flat, intsV] using own2, by simpa using s1⟩
  case round =>
    clear own2 s1
    obtain ⟨i, hig, rfl, cp, g, hgB, hgw, own, st⟩ := hrel
    have qs := st.hold
    simp only [Holds, and_true] at qs
    by_cases hin : i < n
    · have hi' : (i : Int) < (n : Int) := by omega
      go_wp2_with fail
      go_loopg [19] n (fun gh jv wr => ∃ j : Nat, j + gh = n ∧ jv = .int .i64 j ∧ (∃ (cp g : Nat), g ≠ B ∧ w.heap.size + 1 ≤ g ∧ wr.ownsRow (w.heap.size + 1) 3 1 (.slice (some ⟨g, 0, none⟩) (i * n + j) cp) (i * n + j) (intsV (flat n f (i * n + j))) ∧ St w wr (fun _ => True) [(B, 0, Value.int .i64 n), (B, 1, Value.slice (some ⟨g, 0, none⟩) (i * n + j) cp), (w.heap.size, 0, Value.int .i64 0), (w.heap.size, 1, Value.slice none 0 0)]))
      case atStart => exact ⟨0, by omega, rfl, cp, g, hgB, hgw, own, st⟩
      case round =>
        clear own st qs hgB hgw
        clear g cp
        obtain ⟨j, hjg, rfl, cp, g, hgB, hgw, own, st⟩ := hrel
        have qs := st.hold
        simp only [Holds, and_true] at qs
        by_cases hjn : j < n
        · have hj' : (j : Int) < (n : Int) := by omega
          obtain ⟨v, hv⟩ : ∃ v, v = f i j := ⟨_, rfl⟩
          obtain ⟨k, hk⟩ : ∃ k, k = i * n + j := ⟨_, rfl⟩
          have hkm : k < m := by rw [hk, Hm.out]; exact idx_in hin hjn
          have HN : Hid (intsV (flat n f (i * n + (j + 1))) = intsV (flat n f k) ++ [.int .i64 v] ∧ i * n + (j + 1) = k + 1) := by
            obtain ⟨e1, e2⟩ := div_at (i := i) hjn
            rw [show i * n + (j + 1) = (i * n + j) + 1 by omega, flat_succ, e1, e2, ← hv, ← hk]
            exact ⟨rfl, rfl⟩
          have hC : Hid (∀ W : World, Below w.heap.size w W → Calls Tryz.prog fn (#[.int .i64 i, .int .i64 j] ++ caps) W fun e w' => e = .returned (.int .i64 v) ∧ Below W.heap.size W w') := fun W hb => by rw [hv]; exact hA.out W i j hb hin hjn
          rw [← hk] at own st qs
          obtain ⟨zs, hzs⟩ : ∃ zs, zs = intsV (flat n f k) := ⟨_, rfl⟩
          rw [← hzs] at own HN
          clear hk hv hzs
          go_wp2_with fail
          go_region_law (first
            | (refine step_append_lies _ (by rfl) _ _ 25 (by rfl) (w.heap.size + 1) 3 i0 (.int .i64 0) 1 8 Tryz.underlying25 hi hz0 hz1 hz2 rfl (by decide) (.slice (some ⟨g, 0, none⟩) k cp) k zs (by first | rfl | simp [Act.eval, Act.put]) (own2.alloc _) ⟨w2.heap.size, 0, none⟩ 1 1 [.int .i64 v] (by first | rfl | simp [Act.eval, Act.put]) rfl (fun j u h => cell_one w2 _ _ j u h) (by intro u hu; simp at hu; subst hu; rfl) (by omega) (by unfold maxLen; omega) (by omega) (by simp; omega) (w2.heap.size + 1) (by simp) ?_; intro g3 c3 w3 own3 hgrow3 hat3 hlt3; have s3 := (s2.alloc (.cells #[.int .i64 v] 3)).grown (b := g) hgrow3 ⟨by dsimp only; omega, by dsimp only; omega, by dsimp only; omega, by dsimp only; omega, trivial⟩ (by omega); have q3 := s3.hold; simp only [Holds, and_true] at q3)
            | (go_simp; refine (hC.out _ (st.drew.bel)).mono ?_; rintro e w2 ⟨rfl, hb2⟩; have s2 := st.drew.call hb2; have own2 := owns_bel own.drew hb2; have q2 := s2.hold; simp only [Holds, and_true] at q2; have z2 := s2.bel.size; go_wp2_with fail))
          all_goals
            have hB2 : B < w2.heap.size := q2.1.2.1
            have hg3 : g3 ≠ B ∧ w.heap.size + 1 ≤ g3 := by
              rcases hat3 with e | e
              · have e' : g = g3 := by simpa [Value.ownBlock] using e
                exact ⟨by omega, by omega⟩
              · exact ⟨by omega, by omega⟩
            have st4 := s3.put21 (by omega) ⟨by dsimp only; omega, by dsimp only; omega, trivial⟩ (.slice (some ⟨g3, 0, none⟩) (k + 1) c3)
            have own4 : (w3.setCell ⟨B, 1, none⟩ (.slice (some ⟨g3, 0, none⟩) (k + 1) c3)).ownsRow (w.heap.size + 1) 3 1 (.slice (some ⟨g3, 0, none⟩) (k + 1) c3) (k + 1) (intsV (flat n f (i * n + (j + 1)))) := by
              rw [HN.out.1]
              exact owns_other own3 (by simp [Value.ownBlock]; omega) _
            clear q2 q3 qs
            go_wp2_with fail
            go_roundg (n - (j + 1))
            case measure => omega
            case rel => exact ⟨j + 1, by omega, by go_num, c3, g3, hg3.1, hg3.2, by rw [HN.out.2] at own4 ⊢; exact own4, by rw [HN.out.2]; exact st4⟩
        · have hje : j = n := by omega
          subst hje
          have hj' : ¬ (j : Int) < (j : Int) := by omega
          have e : i * j + j = (i + 1) * j + 0 := by rw [Nat.add_mul]; omega
          rw [e] at own st
          clear qs
          go_wp2_with fail
          go_roundg (j - (i + 1))
          case measure => omega
          case rel => exact ⟨i + 1, by omega, by go_num, cp, g, hgB, hgw, own, st⟩
    · have hie : i = n := by omega
      subst hie
      have hi' : ¬ (i : Int) < (i : Int) := by omega
      have e : i * i + 0 = m := by rw [Hm.out]; rfl
      rw [e] at own st qs
      have HG : Hid (GrI wr g i f) := by
        refine ⟨(own.lt g (by simp [Value.ownBlock])).2, fun p q hp hq => ?_⟩
        have hk : p * i + q < m := by rw [Hm.out]; exact idx_in hp hq
        obtain ⟨e1, e2⟩ := div_at (i := p) hq
        rw [own.cellAt (p * i + q) (by omega), flat_at hk, e1, e2]
      go_wp2_with fail
      refine bodyPost_ret (v := (.agg #[.int .i64 i, (.slice (some ⟨g, 0, none⟩) m cp)])) (by simp [results, Tryz.results46, go_sem, *]) rfl ⟨g, cp, rfl, by omega, ?_, ?_⟩
      · exact (HG.out.other (by show w.heap.size ≠ g; omega) _).other (by show w.heap.size ≠ g; omega) _
      · iterate 2 refine Below.setCell ?_ (by first | (simp; done) | (simp; omega)) _
        exact st.bel

end Go.Proofs.YtbafkjhlogkllaaGreatDoor
