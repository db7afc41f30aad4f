/- Zones: points of what is forgotten, assigned, joined; a copy of numbers of one's own. -/
import Derived.Test.YthnjnieocjpjiaaDoorYz
import Derived.Test.YthnjnieocjpjiaaDoorYs
import Derived.Test.YthnjnieocjpjiaaDoorYv
import Derived.Test.YthnjnieocjpjiaaDoorZr
namespace Go.Proofs.YthnjnieocjpjiaaDoor
open Go.RowKit
set_option linter.unusedVariables false

theorem ptF_set {p : List Int} {x : Nat} (hx : 1 ≤ x) (hxl : x ≤ p.length) (c : Int) (i : Nat) : ptF (p.set (x - 1) c) i = if i = x then c else ptF p i := by
  unfold ptF
  by_cases h0 : i = 0
  · subst h0; rw [if_pos rfl, if_pos rfl, if_neg (by omega)]
  · rw [if_neg h0, if_neg h0]
    by_cases e : i = x
    · subst e; rw [if_pos rfl]; simp [show i - 1 < p.length by omega]
    · rw [if_neg e]
      simp only [List.getD_eq_getElem?_getD]
      rw [List.getElem?_set_ne (by omega)]
theorem pt_wo {n x : Nat} {d : Mat} {p : List Int} (h : Pt n d (ptF p)) (hx : 1 ≤ x) (hxl : x ≤ p.length) (c : Int) : Pt n (woM d x) (ptF (p.set (x - 1) c)) := by
  intro i j hi hj
  unfold woM
  split
  · simp [okB]
  · rename_i hne
    rw [ptF_set hx hxl, ptF_set hx hxl]
    by_cases e : i = j
    · subst e
      have := h i i hi hi
      rw [Int.sub_self] at this ⊢
      exact this
    · have h1 : ¬ i = x := fun k => hne ⟨e, .inl k⟩
      have h2 : ¬ j = x := fun k => hne ⟨e, .inr k⟩
      rw [if_neg h1, if_neg h2]
      exact h i j hi hj
theorem pt_mv {n x y : Nat} {d : Mat} {p : List Int} (h : Pt n d (ptF p)) (hx : 1 ≤ x) (hxl : x ≤ p.length) (hy : y < n) (c : Int) : Pt n (mvM d x y c) (ptF (p.set (x - 1) (ptF p y + c))) := by
  have val : ∀ i, ptF (p.set (x - 1) (ptF p y + c)) i = ptF p (stI x y i) + shI x c i := by
    intro i
    rw [ptF_set hx hxl]
    unfold stI shI
    by_cases e : i = x
    · rw [if_pos e, if_pos e, if_pos e]
    · rw [if_neg e, if_neg e, if_neg e]; omega
  intro i j hi hj
  rw [val, val]
  have := okB_add (h (stI x y i) (stI x y j) (stI_lt hy hi) (stI_lt hy hj)) (show okB (shI x c j - shI x c i) (some (shI x c j - shI x c i)) by simp [okB])
  have e : ptF p (stI x y j) + shI x c j - (ptF p (stI x y i) + shI x c i) = ptF p (stI x y j) - ptF p (stI x y i) + (shI x c j - shI x c i) := by omega
  rw [e]
  exact this
theorem pt_join {n : Nat} {A B : Mat} {z : Nat → Int} (h : Pt n (fw A n) z) (hA : NoNeg n (fw A n)) : Pt n (joinM n A B) z := by
  by_cases hB : NoNeg n (fw B n)
  · rw [joinM_ab hA hB]
    intro i j hi hj
    have := h i j hi hj
    show okB _ (maxB (fw A n i j) (fw B n i j))
    revert this
    cases fw A n i j <;> cases fw B n i j <;> simp [okB, maxB]
    omega
  · rw [joinM_a hA hB]; exact h

/-- A told zone has a point that its bounds have. -/
theorem has_told (N : Int) (n len k : Nat) (D : Mat) (q : List Int) (z : Option Addr) (cz : Nat) (y : Option Addr) (cy : Nat) (a : Nat → Addr) (W : World) (hN : N + 1 = n) (hn : 1 ≤ n ∧ n ≤ 5) (hll : len = n * n) (hkN : (k : Int) = N) (hq : k = q.length) (hs : ∀ v ∈ q, v.natAbs ≤ 1099511627776) (hP : Pt n D (ptF q)) (hS : ErrS W a) (hA : CsAt W z (tellL n D)) (hI : IntsAt W y q) :
    Calls Tryd.prog 16 #[(.agg #[.int .i64 N, (.slice z len cz)]), .slice y k cy] W fun e w' => e = .returned (.tuple #[.bool true, .nilIface]) ∧ Below W.heap.size W w' := by
  have hlen : len ≤ 25 := by
    have := Nat.mul_le_mul hn.2 hn.2
    omega
  refine (has_any N z len cz (tellL n D) y k cy q a W hS hA hI (by show _ = _; rw [tellL_len]; exact hll) (by omega) hq (by omega)).mono ?_
  have h0 : hasErr N (tellL n D) q = 0 := by
    unfold hasErr
    rw [firstE_0, firstE_0]
    refine ⟨tell_right hN hn D, ?_, rfl⟩
    unfold ptErr
    rw [if_neg (by rw [← hq]; omega), if_neg]
    simp only [List.any_eq_true, not_exists, not_and]
    intro v hv hf
    have := hs v hv
    simp [farP, farB] at hf
    omega
  rintro e w' ⟨hb, h | h⟩
  · exact absurd h0 h.1
  · refine ⟨?_, hb⟩
    rw [h.2, nOf_is hN, (inB_pt hn.1 hs).2 hP.tell]

set_option maxHeartbeats 400000 in
theorem ints_own (y : Option Addr) (k c : Nat) (p : List Int) (w : World) (hI : IntsAt w y p) (hk : Hid (k = p.length)) (hk0 : 1 ≤ k) (hk2 : k ≤ 1000) :
    Calls Tryd.prog 17 #[.slice y k c] w fun e w' => ∃ g cp, e = .returned (.slice (some ⟨g, 0, none⟩) k cp) ∧ w.heap.size ≤ g ∧ IntsAt w' (some ⟨g, 0, none⟩) p ∧ g < w'.heap.size ∧ (∀ o, w'.frozen? ⟨g, o, none⟩ = false) ∧ Below w.heap.size w w' := by
  obtain ⟨i0, hi, hz0, hz1, hz2⟩ := info_parts Tryd.infoInt
  rcases hI with rfl | ⟨b, off, rfl, hlt, hc⟩
  · have := hk.out; simp at this; omega
  go_enter Tryd.func17, Tryd.ntmps17
  go_wp2_with (at_builtin; refine wpList_append_own _ rfl _ _ 25 rfl w.heap.size 3 i0 (.int .i64 0) 1 8 Tryd.underlying25 hi hz0 hz1 hz2 rfl (by decide) _ _ _ rfl (World.ownsRow_nil _ _ _ _) ⟨b, off, none⟩ k c (p.map (Value.int .i64)) rfl (by rw [List.length_map, ← hk.out, Nat.mul_one]) (news_ints hc) (ints_oneCell _ _) (by unfold maxLen; omega) (by omega) (Nat.le_refl _) ?_)
  intro v' w1 hown hgrow _
  obtain ⟨g, cp, rfl, hg, hI1⟩ := own_form (l := p) hown (by omega)
  have hfr := hown.frozenAt
  have hgl := (hown.lt g (by simp [Value.ownBlock])).2
  go_wp2_with fail
  go_ret
  exact ⟨g, cp, rfl, hg, hI1, hgl, hfr, (Below.refl _ _).grown hgrow (Nat.le_refl _) (fun j hj => by cases hj)⟩
theorem IntsAt.set {w : World} {g k : Nat} {p : List Int} (h : IntsAt w (some ⟨g, 0, none⟩) p) (hk : k < p.length) (c : Int) : IntsAt (w.setCell ⟨g, k, none⟩ (.int .i64 c)) (some ⟨g, 0, none⟩) (p.set k c) := by
  rcases h with h | ⟨b, off, e, hlt, hc⟩
  · subst h; simp at hk
  · obtain ⟨rfl, rfl⟩ : g = b ∧ 0 = off := by simpa using e
    refine .inr ⟨g, 0, rfl, by simpa [World.setCell] using hlt, fun i hi => ?_⟩
    rw [List.length_set] at hi
    have h1 := hc i hi
    rw [Nat.zero_add] at h1 ⊢
    by_cases ei : i = k
    · subst ei
      have h2 : (p.set i c).getD i 0 = c := by simp [hi]
      rw [h2]
      apply World.cell?_setCell_same
      exact h1
    · have h2 : (p.set k c).getD i 0 = p.getD i 0 := by simp only [List.getD_eq_getElem?_getD]; rw [List.getElem?_set_ne (fun h => ei h.symm)]
      rw [h2]
      have h3 : (w.setCell ⟨g, k, none⟩ (.int .i64 c)).cell? ⟨g, i, none⟩ = w.cell? ⟨g, i, none⟩ := by
        apply World.cell?_setCell_other
        intro h; apply ei; cases h; rfl
      rw [h3]; exact h1

end Go.Proofs.YthnjnieocjpjiaaDoor
