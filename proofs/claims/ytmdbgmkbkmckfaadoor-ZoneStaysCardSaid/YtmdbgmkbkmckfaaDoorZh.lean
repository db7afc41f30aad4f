/- Zones: the reference cuts bounds that are too great. -/
import Derived.Test.YtmdbgmkbkmckfaaDoorZf
namespace Go.Proofs.YtmdbgmkbkmckfaaDoor
open Go.RowKit
set_option linter.unusedVariables false

def clipC (c : Ce) : Ce := if 1099511627776 < c.m then ⟨false, 0⟩ else if c.m < -1099511627776 then ⟨c.h, -1099511627776⟩ else c

theorem RowC.setM {w : World} {b off : Nat} {l : List Ce} (h : RowC w b off l) {k : Nat} (hk : k < l.length) (m : Int) :
    RowC (w.setCell ⟨b, off + k * 2 + 1, none⟩ (.int .i64 m)) b off (l.set k ⟨(l.getD k ceZ).h, m⟩) := by
  have ne : ∀ {o o' : Nat}, o ≠ o' → (⟨b, o, none⟩ : Addr) ≠ ⟨b, o', none⟩ := fun h e => h (by cases e; rfl)
  have oth : ∀ (o o' : Nat) (v : Value), o ≠ o' → (w.setCell ⟨b, o, none⟩ v).cell? ⟨b, o', none⟩ = w.cell? ⟨b, o', none⟩ := by
    intro o o' v hne
    apply World.cell?_setCell_other
    exact ne hne
  have sam : ∀ (o : Nat) (v u : Value), w.cell? ⟨b, o, none⟩ = some u → (w.setCell ⟨b, o, none⟩ v).cell? ⟨b, o, none⟩ = some v := by
    intro o v u hu
    apply World.cell?_setCell_same
    exact hu
  refine ⟨by simpa [World.setCell] using h.lt, fun i hi => ?_, fun i hi => ?_⟩
  · rw [List.length_set] at hi
    rw [getD_set hk, oth _ _ _ (by omega), h.has i hi]
    by_cases e : i = k
    · subst e; rw [if_pos rfl]
    · rw [if_neg e]
  · rw [List.length_set] at hi
    rw [getD_set hk]
    by_cases e : i = k
    · subst e; rw [if_pos rfl]; exact sam _ _ _ (h.most i hi)
    · rw [if_neg e, oth _ _ _ (by omega)]; exact h.most i hi

/-- Cut up to k. -/
def clipK (l : List Ce) : Nat → List Ce
  | 0 => l
  | k + 1 => (clipK l k).set k (clipC ((clipK l k).getD k ceZ))
theorem clipK_len (l : List Ce) (k : Nat) : (clipK l k).length = l.length := by
  induction k with
  | zero => rfl
  | succ k ih => unfold clipK; rw [List.length_set, ih]
theorem clipK_at (l : List Ce) (k i : Nat) (hk : k ≤ l.length) : (clipK l k).getD i ceZ = if i < k then clipC (l.getD i ceZ) else l.getD i ceZ := by
  induction k with
  | zero => rw [if_neg (by omega)]; rfl
  | succ k ih =>
    have I := ih (by omega)
    unfold clipK
    rw [getD_set (by rw [clipK_len]; omega)]
    by_cases e : i = k
    · subst e
      rw [if_pos rfl, if_pos (by omega), I, if_neg (by omega)]
    · rw [if_neg e, I]
      by_cases c : i < k
      · rw [if_pos c, if_pos (by omega)]
      · rw [if_neg c, if_neg (by omega)]
theorem clipK_all (l : List Ce) : clipK l l.length = l.map clipC := by
  apply List.ext_getElem?
  intro i
  by_cases h : i < l.length
  · have := clipK_at l l.length i (Nat.le_refl _)
    rw [if_pos h] at this
    have e1 : (clipK l l.length)[i]? = some ((clipK l l.length).getD i ceZ) := by
      have : i < (clipK l l.length).length := by rw [clipK_len]; exact h
      simp [this]
    rw [e1, this]
    simp [h]
  · rw [List.getElem?_eq_none (by rw [clipK_len]; omega), List.getElem?_eq_none (by simp; omega)]

theorem set_same {l : List Ce} {k : Nat} (hk : k < l.length) : l.set k (l.getD k ceZ) = l := by
  apply List.ext_getElem?
  intro i
  by_cases e : i = k
  · subst e; simp [hk]
  · rw [List.getElem?_set_ne (fun h => e h.symm)]

set_option maxRecDepth 20000 in
set_option maxHeartbeats 4000000 in
theorem clip_any (b off c n : Nat) (l : List Ce) (w : World) (hR : RowC w b off l) (hF : ∀ o, w.frozen? ⟨b, o, none⟩ = false) (hl : Hid (n = l.length)) (hn : n ≤ 1000) :
    Calls Tryd.prog 42 #[.slice (some ⟨b, off, none⟩) n c] w fun e w' => e = .returned (.tuple #[]) ∧ RowC w' b off (l.map clipC) ∧ Only b w w' := by
  have HF := hide hF
  clear hF
  go_enter Tryd.func42, Tryd.ntmps42
  go_wp2_with fail
  go_loopg [2] n (fun g iv wr => ∃ k : Nat, k + g = n ∧ iv = .int .i64 k ∧ RowC wr b off (clipK l k) ∧ Only b w wr)
  case atStart => exact ⟨0, by omega, rfl, hR, Only.refl _ _⟩
  case round =>
    clear hR
    obtain ⟨k, hkg, rfl, hR, hO⟩ := hrel
    have hlt := hR.lt
    by_cases hk : k < n
    · have hkl : k < (clipK l k).length := by rw [clipK_len, ← hl.out]; exact hk
      have hkn : (k : Int) < (n : Int) := by omega
      obtain ⟨⟨ch, cm⟩, hc⟩ : ∃ C, C = (clipK l k).getD k ceZ := ⟨_, rfl⟩
      have h1 := hR.has k hkl
      have h2 := hR.most k hkl
      rw [← hc] at h1 h2
      have f1 : wr.frozen? ⟨b, off + k * 2, none⟩ = false := (hO.fr _).trans (HF.out _)
      have f2 : wr.frozen? ⟨b, off + k * 2 + 1, none⟩ = false := (hO.fr _).trans (HF.out _)
      have HC := hide hc
      have HR := hide hR
      clear hc hR
      by_cases c1 : 1099511627776 < cm
      · go_wp2_with fail
        go_roundg (n - (k + 1))
        case measure => omega
        case rel =>
          refine ⟨k + 1, by omega, by go_num, ?_, hO.trans ((Only.set b _ wr _).trans (Only.set b _ _ _))⟩
          have := HR.out.set hkl ⟨false, 0⟩
          unfold clipK
          rw [← HC.out]; unfold clipC; rw [if_pos c1]
          exact this
      · by_cases c2 : cm < -1099511627776
        · go_wp2_with fail
          go_roundg (n - (k + 1))
          case measure => omega
          case rel =>
            refine ⟨k + 1, by omega, by go_num, ?_, hO.trans (Only.set b _ wr _)⟩
            have := HR.out.setM hkl (-1099511627776)
            unfold clipK
            rw [← HC.out] at this ⊢
            unfold clipC; rw [if_neg (by dsimp only; omega), if_pos (by dsimp only; omega)]
            exact this
        · go_wp2_with fail
          go_roundg (n - (k + 1))
          case measure => omega
          case rel =>
            refine ⟨k + 1, by omega, by go_num, ?_, hO⟩
            have e : clipK l (k + 1) = clipK l k := by
              show (clipK l k).set k (clipC _) = _
              rw [← HC.out]; unfold clipC; rw [if_neg (by dsimp only; omega), if_neg (by dsimp only; omega), HC.out]
              exact set_same hkl
            rw [e]; exact HR.out
    · have hke : k = n := by omega
      subst hke
      have e : clipK l k = l.map clipC := by have := clipK_all l; rwa [← hl.out] at this
      have hR' : RowC wr b off (l.map clipC) := by rw [← e]; exact hR
      clear hR e
      go_wp2_with fail
      refine bodyPost_end (v := .tuple #[]) (by simp [results, Tryd.results42, go_sem]) rfl ⟨rfl, hR', hO⟩

end Go.Proofs.YtmdbgmkbkmckfaaDoor
