/- Widening and narrowing: what is asked of the program's functions; facts. -/
import Derived.Test.YtijbjahedfmfgaaDoorIyz
import Derived.Test.YtijbjahedfmfgaaDoorKt
namespace Go.Proofs.YtijbjahedfmfgaaDoor
open Go.RowKit

def anyFar (l : List Int) : Bool := l.any fun s => farB s 1099511627776
def widErr (A B : Iv) (l : List Int) : Int := if twoErr A B = 0 then (if 20 < l.length ∨ anyFar l = true then 2 else 0) else twoErr A B
def WidenC (a : Nat → Addr) : Prop := ∀ (d u d' u' : Bool) (lo hi lo' hi' : Int) (x : Option Addr) (n c : Nat) (l : List Int) (w : World), ErrS w a → (-9223372036854775808 ≤ lo ∧ lo ≤ 9223372036854775807) ∧ (-9223372036854775808 ≤ hi ∧ hi ≤ 9223372036854775807) → (-9223372036854775808 ≤ lo' ∧ lo' ≤ 9223372036854775807) ∧ (-9223372036854775808 ≤ hi' ∧ hi' ≤ 9223372036854775807) → IntsAt w x l → n = l.length → n ≤ 1000 → (∀ s ∈ l, (-9223372036854775808 ≤ s ∧ s ≤ 9223372036854775807)) →
  Calls Tryd.prog 32 #[(.agg #[.bool d, .bool u, .int .i64 lo, .int .i64 hi]), (.agg #[.bool d', .bool u', .int .i64 lo', .int .i64 hi']), .slice x n c] w fun e w' => (∃ R : Iv, e = .returned (.tuple #[R.v, errV a (widErr ⟨d, u, lo, hi⟩ ⟨d', u', lo', hi'⟩ l)]) ∧ (widErr ⟨d, u, lo, hi⟩ ⟨d', u', lo', hi'⟩ l = 0 → IsWid ⟨d, u, lo, hi⟩ ⟨d', u', lo', hi'⟩ l R) ∧ (widErr ⟨d, u, lo, hi⟩ ⟨d', u', lo', hi'⟩ l ≠ 0 → R = ivZ)) ∧ Below w.heap.size w w'

def narrowed (A B : Iv) : Iv := ⟨if A.d then B.d else A.d, if A.u then B.u else A.u, if A.d then B.lo else A.lo, if A.u then B.hi else A.hi⟩
def narErr (A B : Iv) : Int := if twoErr A B = 0 then (if (narrowed A B).d = false ∧ (narrowed A B).u = false ∧ (narrowed A B).hi < (narrowed A B).lo then 4 else 0) else twoErr A B
def NarrowC (a : Nat → Addr) : Prop := ∀ (d u d' u' : Bool) (lo hi lo' hi' : Int) (w : World), Sents w a → (-9223372036854775808 ≤ lo ∧ lo ≤ 9223372036854775807) ∧ (-9223372036854775808 ≤ hi ∧ hi ≤ 9223372036854775807) → (-9223372036854775808 ≤ lo' ∧ lo' ≤ 9223372036854775807) ∧ (-9223372036854775808 ≤ hi' ∧ hi' ≤ 9223372036854775807) →
  Calls Tryd.prog 34 #[(.agg #[.bool d, .bool u, .int .i64 lo, .int .i64 hi]), (.agg #[.bool d', .bool u', .int .i64 lo', .int .i64 hi'])] w fun e w' => e = .returned (.tuple #[(if narErr ⟨d, u, lo, hi⟩ ⟨d', u', lo', hi'⟩ = 0 then narrowed ⟨d, u, lo, hi⟩ ⟨d', u', lo', hi'⟩ else ivZ).v, errV a (narErr ⟨d, u, lo, hi⟩ ⟨d', u', lo', hi'⟩)]) ∧ Below w.heap.size w w'

theorem IsWid.inside {A B R : Iv} {l : List Int} (h : IsWid A B l R) : joined R A = R := by
  obtain ⟨h1, h2⟩ := h
  obtain ⟨d, u, lo, hi⟩ := A
  obtain ⟨d', u', lo', hi'⟩ := B
  obtain ⟨rd, ru, rl, rh⟩ := R
  have k1 : rd = true ∧ (d = true → rl = lo) ∨ rd = false ∧ d = false ∧ rl ≤ lo := by
    unfold WidLo at h1
    dsimp only at h1
    split at h1
    · split at h1
      · exact .inl ⟨h1.1, fun e => by simp_all⟩
      · rcases h1 with ⟨a1, a2, _⟩ | ⟨a1, _, a2, _⟩
        · exact .inl ⟨a1, fun e => by simp_all⟩
        · right; simp_all; omega
    · obtain ⟨rfl, rfl⟩ := h1
      cases rd <;> simp_all
  have k2 : ru = true ∧ (u = true → rh = hi) ∨ ru = false ∧ u = false ∧ hi ≤ rh := by
    unfold WidHi at h2
    dsimp only at h2
    split at h2
    · split at h2
      · exact .inl ⟨h2.1, fun e => by simp_all⟩
      · rcases h2 with ⟨a1, a2, _⟩ | ⟨a1, _, a2, _⟩
        · exact .inl ⟨a1, fun e => by simp_all⟩
        · right; simp_all; omega
    · obtain ⟨rfl, rfl⟩ := h2
      cases ru <;> simp_all
  clear h1 h2
  unfold joined
  rcases k1 with ⟨rfl, k1⟩ | ⟨rfl, rfl, k1⟩ <;> rcases k2 with ⟨rfl, k2⟩ | ⟨rfl, rfl, k2⟩
  · cases d <;> cases u <;> simp_all
  · cases d <;> simp_all <;> omega
  · cases u <;> simp_all <;> omega
  · simp; omega

theorem LoStop.exists (l : List Int) (b : Int) : ∃ d lo, LoStop l b d lo := by
  suffices h : ∀ k, k ≤ l.length → ∃ d lo, LoStop (l.take k) b d lo by
    have := h l.length (Nat.le_refl _); rwa [List.take_length] at this
  intro k
  induction k with
  | zero => intro _; exact ⟨true, 0, .inl ⟨rfl, rfl, by simp⟩⟩
  | succ k ih =>
    intro hk
    obtain ⟨d, lo, h⟩ := ih (by omega)
    have nx := LoStop.next (by omega) h _ rfl
    by_cases hc : l.getD k 0 ≤ b ∧ (d = true ∨ lo < l.getD k 0)
    · exact ⟨_, _, nx.1 hc⟩
    · exact ⟨_, _, nx.2 hc⟩
theorem HiStop.exists (l : List Int) (b : Int) : ∃ d lo, HiStop l b d lo := by
  suffices h : ∀ k, k ≤ l.length → ∃ d lo, HiStop (l.take k) b d lo by
    have := h l.length (Nat.le_refl _); rwa [List.take_length] at this
  intro k
  induction k with
  | zero => intro _; exact ⟨true, 0, .inl ⟨rfl, rfl, by simp⟩⟩
  | succ k ih =>
    intro hk
    obtain ⟨d, lo, h⟩ := ih (by omega)
    have nx := HiStop.next (by omega) h _ rfl
    by_cases hc : b ≤ l.getD k 0 ∧ (d = true ∨ l.getD k 0 < lo)
    · exact ⟨_, _, nx.1 hc⟩
    · exact ⟨_, _, nx.2 hc⟩
theorem IsWid.exists (A B : Iv) (l : List Int) : ∃ R, IsWid A B l R := by
  obtain ⟨d, lo, h1⟩ : ∃ d lo, WidLo A B l d lo := by
    unfold WidLo
    split
    · split
      · exact ⟨true, 0, rfl, rfl⟩
      · exact LoStop.exists _ _
    · exact ⟨_, _, rfl, rfl⟩
  obtain ⟨u, hi, h2⟩ : ∃ u hi, WidHi A B l u hi := by
    unfold WidHi
    split
    · split
      · exact ⟨true, 0, rfl, rfl⟩
      · exact HiStop.exists _ _
    · exact ⟨_, _, rfl, rfl⟩
  exact ⟨⟨d, u, lo, hi⟩, h1, h2⟩

/-- The first loop: what it has found. -/
def farE (E : Int) (l : List Int) : Int := if E = 0 ∧ anyFar l = true then 2 else E

theorem anyFar_take {l : List Int} {k : Nat} (hk : k < l.length) : anyFar (l.take (k + 1)) = (anyFar (l.take k) || farB (l.getD k 0) 1099511627776) := by
  have e : l.take (k + 1) = l.take k ++ [l.getD k 0] := by rw [List.take_succ_eq_append_getElem hk]; simp [hk]
  rw [e]; simp [anyFar]

theorem anyFar_of_take {l : List Int} {k : Nat} (h : anyFar (l.take k) = true) : anyFar l = true := by
  unfold anyFar at h ⊢
  obtain ⟨x, hx, hf⟩ := List.any_eq_true.1 h
  exact List.any_eq_true.2 ⟨x, List.mem_of_mem_take hx, hf⟩

theorem farE_next0 {E : Int} {l : List Int} {k : Nat} (h : 0 = farE E (l.take k)) (h2 : anyFar (l.take (k + 1)) = (anyFar (l.take k) || false)) : Hid (0 = farE E (l.take (k + 1))) := by
  show (0 : Int) = farE E (l.take (k + 1))
  unfold farE at h ⊢
  rw [h2, Bool.or_false]; exact h
theorem farE_next2 {E : Int} {l : List Int} {k : Nat} (h : 0 = farE E (l.take k)) (h2 : anyFar (l.take (k + 1)) = (anyFar (l.take k) || true)) : Hid (2 = farE E (l.take (k + 1))) := by
  show (2 : Int) = farE E (l.take (k + 1))
  unfold farE at h ⊢
  have h0 : E = 0 := by
    split at h
    · omega
    · exact h.symm
  rw [h2, Bool.or_true, if_pos ⟨h0, rfl⟩]
theorem farE_stop {E ev : Int} {l : List Int} {k : Nat} (h : ev = farE E (l.take k)) (h0 : ev ≠ 0) : ev = farE E l := by
  unfold farE at h ⊢
  by_cases h1 : E = 0
  · by_cases h2 : anyFar (l.take k) = true
    · rw [if_pos ⟨h1, h2⟩] at h
      rw [if_pos ⟨h1, anyFar_of_take h2⟩]; exact h
    · rw [if_neg (by simp [h2])] at h; omega
  · rw [if_neg (by simp [h1])] at h
    rw [if_neg (by simp [h1])]; exact h

theorem widErr_range (A B : Iv) (l : List Int) : 0 ≤ widErr A B l ∧ widErr A B l ≤ 8 := by
  unfold widErr; split
  · split <;> omega
  · exact twoErr_range _ _

theorem wd_far (n : Int) (b : Bool) (hb : Hid (farB n 1099511627776 = b)) (w : World) :
    Calls Tryd.prog 31 #[.int .i64 n, .int .i64 1099511627776] w fun e w' => e = .returned (.bool b) ∧ Below w.heap.size w w' := by
  rw [← hb.out]; refine (far_any n _ w (by omega) (by omega)).mono ?_; rintro e w' ⟨rfl, rfl⟩; exact ⟨rfl, Below.refl _ _⟩

end Go.Proofs.YtijbjahedfmfgaaDoor
