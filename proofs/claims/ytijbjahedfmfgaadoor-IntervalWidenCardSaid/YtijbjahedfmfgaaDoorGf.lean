/- Intervals by their ends: widened, narrowed. -/
import Derived.Test.YtijbjahedfmfgaaDoorGd
import Derived.Test.YtijbjahedfmfgaaDoorIl
namespace Go.Proofs.YtijbjahedfmfgaaDoor

def lowStep (c m n : Int) : Int := if n ≤ c then max m n else m
def highStep (c m n : Int) : Int := if c ≤ n then min m n else m
def lowOf (l : List Int) (c : Int) : Int := l.foldl (lowStep c) (-9223372036854775807)
def highOf (l : List Int) (c : Int) : Int := l.foldl (highStep c) 9223372036854775807

theorem lowOf_snoc (l : List Int) (c x : Int) : lowOf (l ++ [x]) c = lowStep c (lowOf l c) x := by unfold lowOf; rw [List.foldl_append]; rfl
theorem highOf_snoc (l : List Int) (c x : Int) : highOf (l ++ [x]) c = highStep c (highOf l c) x := by unfold highOf; rw [List.foldl_append]; rfl

theorem take_snoc_getD (l : List Int) (k : Nat) (h : k < l.length) : l.take (k + 1) = l.take k ++ [l.getD k 0] := by
  rw [List.take_succ_eq_append_getElem h]
  simp [List.getD, h]

theorem low_fold (l : List Int) (c z : Int) (hl : ∀ s ∈ l, -1099511627776 ≤ s ∧ s ≤ 1099511627776) (hz : z = -9223372036854775807 ∨ (-1099511627776 ≤ z ∧ z ≤ c)) :
    (l.foldl (lowStep c) z = z ∧ ∀ s ∈ l, s ≤ c → s ≤ z) ∨ (l.foldl (lowStep c) z ∈ l ∧ l.foldl (lowStep c) z ≤ c ∧ z ≤ l.foldl (lowStep c) z ∧ ∀ s ∈ l, s ≤ c → s ≤ l.foldl (lowStep c) z) := by
  induction l generalizing z with
  | nil => left; exact ⟨rfl, fun s h => by cases h⟩
  | cons x l ih =>
    have hx := hl x (List.mem_cons_self)
    have hl' : ∀ s ∈ l, -1099511627776 ≤ s ∧ s ≤ 1099511627776 := fun s h => hl s (List.mem_cons_of_mem _ h)
    rw [List.foldl_cons]
    by_cases e : x ≤ c
    · have es : lowStep c z x = max z x := by unfold lowStep; rw [if_pos e]
      rw [es]
      by_cases o : x ≤ z
      · rw [Int.max_eq_left o]
        rcases ih z hl' hz with ⟨h1, h2⟩ | ⟨h1, h2, h3, h4⟩
        · left; refine ⟨h1, fun s hs hc => ?_⟩
          rcases List.mem_cons.1 hs with rfl | hs
          · exact o
          · exact h2 s hs hc
        · right; refine ⟨List.mem_cons_of_mem _ h1, h2, h3, fun s hs hc => ?_⟩
          rcases List.mem_cons.1 hs with rfl | hs
          · omega
          · exact h4 s hs hc
      · rw [Int.max_eq_right (by omega)]
        right
        rcases ih x hl' (.inr ⟨hx.1, e⟩) with ⟨h1, h2⟩ | ⟨h1, h2, h3, h4⟩
        · rw [h1]
          refine ⟨List.mem_cons_self, e, by omega, fun s hs hc => ?_⟩
          rcases List.mem_cons.1 hs with rfl | hs
          · omega
          · exact h2 s hs hc
        · refine ⟨List.mem_cons_of_mem _ h1, h2, by omega, fun s hs hc => ?_⟩
          rcases List.mem_cons.1 hs with rfl | hs
          · exact h3
          · exact h4 s hs hc
    · have es : lowStep c z x = z := by unfold lowStep; rw [if_neg e]
      rw [es]
      rcases ih z hl' hz with ⟨h1, h2⟩ | ⟨h1, h2, h3, h4⟩
      · left; refine ⟨h1, fun s hs hc => ?_⟩
        rcases List.mem_cons.1 hs with rfl | hs
        · omega
        · exact h2 s hs hc
      · right; refine ⟨List.mem_cons_of_mem _ h1, h2, h3, fun s hs hc => ?_⟩
        rcases List.mem_cons.1 hs with rfl | hs
        · omega
        · exact h4 s hs hc

theorem neg_fold (l : List Int) (c z : Int) : l.foldl (highStep c) z = -((l.map fun s => -s).foldl (lowStep (-c)) (-z)) := by
  induction l generalizing z with
  | nil => simp
  | cons x l ih =>
    rw [List.foldl_cons, ih, List.map_cons, List.foldl_cons]
    congr 2
    unfold highStep lowStep
    by_cases e : c ≤ x
    · rw [if_pos e, if_pos (by omega)]; omega
    · rw [if_neg e, if_neg (by omega)]

theorem loStop_of (l : List Int) (c : Int) (hl : ∀ s ∈ l, -1099511627776 ≤ s ∧ s ≤ 1099511627776) : LoStop l c (decide (lowOf l c < -1099511627776)) (if lowOf l c < -1099511627776 then 0 else lowOf l c) ∧ (lowOf l c = -9223372036854775807 ∨ (-1099511627776 ≤ lowOf l c ∧ lowOf l c ≤ 1099511627776 ∧ lowOf l c ≤ c)) := by
  unfold lowOf
  rcases low_fold l c (-9223372036854775807) hl (.inl rfl) with ⟨h1, h2⟩ | ⟨h1, h2, h3, h4⟩
  · rw [h1]
    refine ⟨.inl ⟨rfl, rfl, fun s hs hc => ?_⟩, .inl rfl⟩
    have := h2 s hs hc; have := hl s hs; omega
  · have b := hl _ h1
    rw [if_neg (by omega), decide_eq_false (by omega)]
    exact ⟨.inr ⟨rfl, h1, h2, h4⟩, .inr ⟨b.1, b.2, h2⟩⟩

theorem hiStop_of (l : List Int) (c : Int) (hl : ∀ s ∈ l, -1099511627776 ≤ s ∧ s ≤ 1099511627776) : HiStop l c (decide (1099511627776 < highOf l c)) (if 1099511627776 < highOf l c then 0 else highOf l c) ∧ (highOf l c = 9223372036854775807 ∨ (-1099511627776 ≤ highOf l c ∧ highOf l c ≤ 1099511627776 ∧ c ≤ highOf l c)) := by
  unfold highOf
  rw [neg_fold]
  have hl' : ∀ s ∈ l.map (fun s => -s), -1099511627776 ≤ s ∧ s ≤ 1099511627776 := by
    intro s hs
    obtain ⟨x, hx, rfl⟩ := List.mem_map.1 hs
    have := hl x hx; omega
  rcases low_fold (l.map fun s => -s) (-c) (-9223372036854775807) hl' (.inl rfl) with ⟨h1, h2⟩ | ⟨h1, h2, h3, h4⟩
  · rw [h1]
    refine ⟨.inl ⟨rfl, rfl, fun s hs hc => ?_⟩, .inl rfl⟩
    have := h2 (-s) (List.mem_map.2 ⟨s, hs, rfl⟩) (by omega); have := hl s hs; omega
  · have b := hl' _ h1
    generalize (l.map fun s => -s).foldl (lowStep (-c)) (-9223372036854775807) = y at *
    rw [if_neg (by omega), decide_eq_false (by omega)]
    refine ⟨.inr ⟨rfl, ?_, by omega, fun s hs hc => ?_⟩, .inr ⟨by omega, by omega, by omega⟩⟩
    · obtain ⟨x, hx, e⟩ := List.mem_map.1 h1
      have : -y = x := by omega
      rw [this]; exact hx
    · have := h4 (-s) (List.mem_map.2 ⟨s, hs, rfl⟩) (by omega); omega

def wdL (p p' : Int) (l : List Int) : Int := if p' < p then lowOf l p' else p
def wdH (q q' : Int) (l : List Int) : Int := if q < q' then highOf l q' else q

theorem lo_low {l : List Int} {c : Int} (hl : ∀ s ∈ l, -1099511627776 ≤ s ∧ s ≤ 1099511627776) (hc : c = -9223372036854775807) : lowOf l c = -9223372036854775807 := by
  rcases (loStop_of l c hl).2 with h | h
  · exact h
  · omega
theorem hi_high {l : List Int} {c : Int} (hl : ∀ s ∈ l, -1099511627776 ≤ s ∧ s ≤ 1099511627776) (hc : c = 9223372036854775807) : highOf l c = 9223372036854775807 := by
  rcases (hiStop_of l c hl).2 with h | h
  · exact h
  · omega

theorem isWid_of {A B : Iv} (h : okI A) (k : okI B) {l : List Int} (hl : ∀ s ∈ l, -1099511627776 ≤ s ∧ s ≤ 1099511627776) : IsWid A B l (told (wdL (eLo A) (eLo B) l) (wdH (eHi A) (eHi B) l)) := by
  have a1 := eLo_r h; have a2 := eHi_r h; have b1 := eLo_r k; have b2 := eHi_r k
  have l1 := loStop_of l (eLo B) hl
  have l2 := hiStop_of l (eHi B) hl
  constructor
  · unfold WidLo
    dsimp only [told]
    by_cases c : A.d = false ∧ (B.d = true ∨ B.lo < A.lo)
    · rw [if_pos c]
      have cc : eLo B < eLo A := by
        rcases a1 with ⟨d, _⟩ | ⟨d, e, _, _⟩
        · rw [c.1] at d; cases d
        · rcases b1 with ⟨d', e'⟩ | ⟨d', e', _, _⟩
          · omega
          · rcases c.2 with c2 | c2
            · rw [d'] at c2; cases c2
            · omega
      unfold wdL; rw [if_pos cc]
      by_cases bd : B.d = true
      · rw [if_pos bd]
        have eb : eLo B = -9223372036854775807 := by rcases b1 with ⟨_, e⟩ | ⟨d, _⟩
                                                     · exact e
                                                     · rw [bd] at d; cases d
        rw [lo_low hl eb]; exact ⟨rfl, rfl⟩
      · rw [if_neg bd]
        have eb : eLo B = B.lo := by rcases b1 with ⟨d, e⟩ | ⟨d, e, _⟩
                                     · exact absurd d bd
                                     · exact e
        rw [eb] at l1 ⊢
        obtain ⟨l3, l4⟩ := l1
        have e2 : (if lowOf l B.lo < -1099511627776 then 0 else min (lowOf l B.lo) 1099511627776) = (if lowOf l B.lo < -1099511627776 then 0 else lowOf l B.lo) := by split <;> omega
        rw [e2]; exact l3
    · rw [if_neg c]
      have cc : ¬ eLo B < eLo A := by
        intro o
        apply c
        rcases a1 with ⟨d, e⟩ | ⟨d, e, _, _⟩
        · rcases b1 with ⟨d', e'⟩ | ⟨d', e', _, _⟩ <;> omega
        · refine ⟨d, ?_⟩
          rcases b1 with ⟨d', e'⟩ | ⟨d', e', _, _⟩
          · exact .inl d'
          · right; omega
      unfold wdL; rw [if_neg cc]
      rcases a1 with ⟨d, e⟩ | ⟨d, e, e1, e2⟩
      · rw [e, d, h.1 d]; exact ⟨rfl, rfl⟩
      · rw [e, d, if_neg (by omega), decide_eq_false (by omega)]; exact ⟨rfl, by omega⟩
  · unfold WidHi
    dsimp only [told]
    by_cases c : A.u = false ∧ (B.u = true ∨ A.hi < B.hi)
    · rw [if_pos c]
      have cc : eHi A < eHi B := by
        rcases a2 with ⟨d, _⟩ | ⟨d, e, _, _⟩
        · rw [c.1] at d; cases d
        · rcases b2 with ⟨d', e'⟩ | ⟨d', e', _, _⟩
          · omega
          · rcases c.2 with c2 | c2
            · rw [d'] at c2; cases c2
            · omega
      unfold wdH; rw [if_pos cc]
      by_cases bd : B.u = true
      · rw [if_pos bd]
        have eb : eHi B = 9223372036854775807 := by rcases b2 with ⟨_, e⟩ | ⟨d, _⟩
                                                    · exact e
                                                    · rw [bd] at d; cases d
        rw [hi_high hl eb]; exact ⟨rfl, rfl⟩
      · rw [if_neg bd]
        have eb : eHi B = B.hi := by rcases b2 with ⟨d, e⟩ | ⟨d, e, _⟩
                                     · exact absurd d bd
                                     · exact e
        rw [eb] at l2 ⊢
        obtain ⟨l3, l4⟩ := l2
        have e2 : (if 1099511627776 < highOf l B.hi then 0 else max (highOf l B.hi) (-1099511627776)) = (if 1099511627776 < highOf l B.hi then 0 else highOf l B.hi) := by split <;> omega
        rw [e2]; exact l3
    · rw [if_neg c]
      have cc : ¬ eHi A < eHi B := by
        intro o
        apply c
        rcases a2 with ⟨d, e⟩ | ⟨d, e, _, _⟩
        · rcases b2 with ⟨d', e'⟩ | ⟨d', e', _, _⟩ <;> omega
        · refine ⟨d, ?_⟩
          rcases b2 with ⟨d', e'⟩ | ⟨d', e', _, _⟩
          · exact .inl d'
          · right; omega
      unfold wdH; rw [if_neg cc]
      rcases a2 with ⟨d, e⟩ | ⟨d, e, e1, e2⟩
      · rw [e, d, h.2.1 d]; exact ⟨rfl, rfl⟩
      · rw [e, d, if_neg (by omega), decide_eq_false (by omega)]; exact ⟨rfl, by omega⟩

def naL (p p' : Int) : Int := if p = -9223372036854775807 then p' else p
def naH (q q' : Int) : Int := if q = 9223372036854775807 then q' else q

theorem narrowed_told {A B : Iv} (h : okI A) (k : okI B) : (naH (eHi A) (eHi B) < naL (eLo A) (eLo B) ↔ ((narrowed A B).d = false ∧ (narrowed A B).u = false ∧ (narrowed A B).hi < (narrowed A B).lo)) ∧ told (naL (eLo A) (eLo B)) (naH (eHi A) (eHi B)) = narrowed A B := by
  obtain ⟨h1, h2, h3, h4, h5, h6, h7⟩ := h
  obtain ⟨k1, k2, k3, k4, k5, k6, k7⟩ := k
  obtain ⟨d, u, lo, hi⟩ := A
  obtain ⟨d', u', lo', hi'⟩ := B
  dsimp only at *
  cases d <;> cases u <;> cases d' <;> cases u' <;> simp_all [narrowed, naL, naH, told, eLo, eHi] <;> grind

end Go.Proofs.YtijbjahedfmfgaaDoor
