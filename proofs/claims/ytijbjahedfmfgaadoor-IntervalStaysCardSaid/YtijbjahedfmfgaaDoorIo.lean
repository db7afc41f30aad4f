/- IntervalStays: facts. -/
import Derived.Test.YtijbjahedfmfgaaDoorIl
import Derived.Deep.DeepCutAuto
import Derived.Deep.CutBlock
import Derived.Deep.LoopGhost
namespace Go.Proofs.YtijbjahedfmfgaaDoor
open Go.RowKit
set_option linter.unusedVariables false

/-- A slice of intervals that can be read. -/
def IvsAt (w : World) (x : Option Addr) (L : List Iv) : Prop :=
  L = [] ∨ ∃ b off, x = some ⟨b, off, none⟩ ∧ b < w.heap.size ∧ ∀ i, i < L.length → w.cell? ⟨b, off + i * 4, none⟩ = some (.bool (L.getD i ivZ).d) ∧ w.cell? ⟨b, off + i * 4 + 1, none⟩ = some (.bool (L.getD i ivZ).u) ∧ w.cell? ⟨b, off + i * 4 + 2, none⟩ = some (.int .i64 (L.getD i ivZ).lo) ∧ w.cell? ⟨b, off + i * 4 + 3, none⟩ = some (.int .i64 (L.getD i ivZ).hi)

theorem IvsAt.stays {w W1 W2 : World} {x : Option Addr} {L : List Iv} (h : IvsAt w x L) (k : IvsAt W1 x L) (hb : Below w.heap.size W1 W2) : IvsAt W2 x L := by
  rcases h with h | ⟨b, off, h1, h2, _⟩
  · exact .inl h
  · rcases k with k | ⟨b', off', k1, k2, k3⟩
    · exact .inl k
    · obtain ⟨rfl, rfl⟩ : b = b' ∧ off = off' := by rw [h1] at k1; simpa using k1
      exact .inr ⟨b, off, h1, Nat.lt_of_lt_of_le k2 hb.size, fun i hi => ⟨(hb.cell (p := ⟨b, off + i * 4, none⟩) h2).trans (k3 i hi).1, (hb.cell (p := ⟨b, off + i * 4 + 1, none⟩) h2).trans (k3 i hi).2.1, (hb.cell (p := ⟨b, off + i * 4 + 2, none⟩) h2).trans (k3 i hi).2.2.1, (hb.cell (p := ⟨b, off + i * 4 + 3, none⟩) h2).trans (k3 i hi).2.2.2⟩⟩

theorem IvsAt.get {W : World} {x : Option Addr} {L : List Iv} (h : IvsAt W x L) (k : Nat) (hk : k < L.length) (d u : Bool) (lo hi : Int) (hy : ⟨d, u, lo, hi⟩ = L.getD k ivZ) :
    ∃ b off, x = some ⟨b, off, none⟩ ∧ W.cell? ⟨b, off + k * 4, none⟩ = some (.bool d) ∧ W.cell? ⟨b, off + k * 4 + 1, none⟩ = some (.bool u) ∧ W.cell? ⟨b, off + k * 4 + 2, none⟩ = some (.int .i64 lo) ∧ W.cell? ⟨b, off + k * 4 + 3, none⟩ = some (.int .i64 hi) := by
  rcases h with rfl | ⟨b, off, h1, _, h3⟩
  · simp at hk
  · have := h3 k hk
    rw [← hy] at this
    exact ⟨b, off, h1, this⟩

/-- Two errors, the stops, the intervals. -/
def EIZ (a : Nat → Addr) (x : Option Addr) (l : List Int) (z : Option Addr) (L : List Iv) (W : World) : Prop := ErrS W a ∧ IntsAt W x l ∧ IvsAt W z L
theorem St.startEI {w : World} {a : Nat → Addr} {x z : Option Addr} {l : List Int} {L : List Iv} (h : ErrS w a) (k : IntsAt w x l) (j : IvsAt w z L) : St w w (EIZ a x l z L) [] :=
  ⟨Below.refl _ _, trivial, ⟨h, k, j⟩, fun _ _ q hb => ⟨h.stays q.1 hb, k.stays q.2.1 hb, j.stays q.2.2 hb⟩⟩
theorem St.ee {w W : World} {a : Nat → Addr} {x z : Option Addr} {l : List Int} {M : List Iv} {L : List (Nat × Nat × Value)} (h : St w W (EIZ a x l z M) L) : ErrS W a := h.sent.1
theorem St.ei {w W : World} {a : Nat → Addr} {x z : Option Addr} {l : List Int} {M : List Iv} {L : List (Nat × Nat × Value)} (h : St w W (EIZ a x l z M) L) : IntsAt W x l := h.sent.2.1
theorem St.ev {w W : World} {a : Nat → Addr} {x z : Option Addr} {l : List Int} {M : List Iv} {L : List (Nat × Nat × Value)} (h : St w W (EIZ a x l z M) L) : IvsAt W z M := h.sent.2.2

theorem joined_okI {A B : Iv} (h : okI A) (k : okI B) : okI (joined A B) := by
  obtain ⟨h1, h2, h3, h4, h5, h6, h7⟩ := h
  obtain ⟨k1, k2, k3, k4, k5, k6, k7⟩ := k
  obtain ⟨d, u, lo, hi⟩ := A
  obtain ⟨d', u', lo', hi'⟩ := B
  unfold joined okI
  cases d <;> cases d' <;> cases u <;> cases u' <;> simp_all <;> grind

theorem joined_absorb {A B : Iv} (h : okI A) (k : okI B) : joined (joined A B) A = joined A B := by
  obtain ⟨h1, h2, h3, h4, h5, h6, h7⟩ := h
  obtain ⟨k1, k2, k3, k4, k5, k6, k7⟩ := k
  obtain ⟨d, u, lo, hi⟩ := A
  obtain ⟨d', u', lo', hi'⟩ := B
  unfold joined
  cases d <;> cases d' <;> cases u <;> cases u' <;> simp_all <;> grind

theorem notFar {l : List Int} (h : anyFar l = false) {s : Int} (hs : s ∈ l) : -1099511627776 ≤ s ∧ s ≤ 1099511627776 := by
  unfold anyFar at h
  have := List.any_eq_false.1 h s hs
  simp [farB] at this
  omega

theorem IsWid.ok {A B R : Iv} {l : List Int} (h : IsWid A B l R) (hA : okI A) (hB : okI B) (hf : anyFar l = false) (hj : joined B A = B) : okI R ∧ joined R B = R := by
  obtain ⟨h1, h2⟩ := h
  obtain ⟨a1, a2, a3, a4, a5, a6, a7⟩ := hA
  obtain ⟨b1, b2, b3, b4, b5, b6, b7⟩ := hB
  obtain ⟨d, u, lo, hi⟩ := A
  obtain ⟨d', u', lo', hi'⟩ := B
  obtain ⟨rd, ru, rl, rh⟩ := R
  have k1 : (rd = true ∧ rl = 0) ∨ (rd = false ∧ d' = false ∧ rl ≤ lo' ∧ rl ≤ lo ∧ -1099511627776 ≤ rl ∧ rl ≤ 1099511627776) := by
    unfold WidLo at h1
    dsimp only at *
    split at h1
    · split at h1
      · exact .inl h1
      · rcases h1 with ⟨c1, c2, _⟩ | ⟨c1, c0, c2, _⟩
        · exact .inl ⟨c1, c2⟩
        · have := notFar hf c0
          right; simp_all; omega
    · obtain ⟨rfl, rfl⟩ := h1
      cases rd <;> cases d' <;> simp_all <;> omega
  have k2 : (ru = true ∧ rh = 0) ∨ (ru = false ∧ u' = false ∧ hi' ≤ rh ∧ hi ≤ rh ∧ -1099511627776 ≤ rh ∧ rh ≤ 1099511627776) := by
    unfold WidHi at h2
    dsimp only at *
    split at h2
    · split at h2
      · exact .inl h2
      · rcases h2 with ⟨c1, c2, _⟩ | ⟨c1, c0, c2, _⟩
        · exact .inl ⟨c1, c2⟩
        · have := notFar hf c0
          right; simp_all; omega
    · obtain ⟨rfl, rfl⟩ := h2
      cases ru <;> cases u' <;> simp_all <;> omega
  clear h1 h2 hj
  dsimp only at *
  unfold joined okI
  rcases k1 with ⟨rfl, rfl⟩ | ⟨rfl, rfl, k1⟩ <;> rcases k2 with ⟨rfl, rfl⟩ | ⟨rfl, rfl, k2⟩ <;> simp_all <;> grind

/-- How often it can still change. -/
def cntB (l : List Int) (b : Int) : Nat := (l.filter fun s => decide (s < b)).length
def cntA (l : List Int) (b : Int) : Nat := (l.filter fun s => decide (b < s)).length
def meas (l : List Int) (A : Iv) : Nat := (if A.d then 0 else 1 + cntB l A.lo) + (if A.u then 0 else 1 + cntA l A.hi)

theorem meas_le (l : List Int) (A : Iv) : meas l A ≤ 2 * l.length + 2 := by
  have h1 : cntB l A.lo ≤ l.length := List.length_filter_le _ _
  have h2 : cntA l A.hi ≤ l.length := List.length_filter_le _ _
  unfold meas; split <;> split <;> omega

theorem cntB_lt {l : List Int} {s b : Int} (hs : s ∈ l) (h : s < b) : cntB l s < cntB l b := by
  unfold cntB
  induction l with
  | nil => cases hs
  | cons t l ih =>
    have mono : ∀ l : List Int, (l.filter fun x => decide (x < s)).length ≤ (l.filter fun x => decide (x < b)).length := by
      intro l
      induction l with
      | nil => simp
      | cons y l ih =>
        by_cases h1 : y < s
        · simp [h1, show y < b by omega]; exact ih
        · by_cases h2 : y < b
          · simp [h1, h2]; omega
          · simp [h1, h2]; exact ih
    rcases List.mem_cons.1 hs with rfl | hs
    · have := mono l
      simp [h]; omega
    · have := ih hs
      by_cases h1 : t < s
      · simp [h1, show t < b by omega]; exact this
      · by_cases h2 : t < b
        · simp [h1, h2]; omega
        · simp [h1, h2]; exact this

theorem cntA_lt {l : List Int} {s b : Int} (hs : s ∈ l) (h : b < s) : cntA l s < cntA l b := by
  unfold cntA
  induction l with
  | nil => cases hs
  | cons t l ih =>
    have mono : ∀ l : List Int, (l.filter fun x => decide (s < x)).length ≤ (l.filter fun x => decide (b < x)).length := by
      intro l
      induction l with
      | nil => simp
      | cons y l ih =>
        by_cases h1 : s < y
        · simp [h1, show b < y by omega]; exact ih
        · by_cases h2 : b < y
          · simp [h1, h2]; omega
          · simp [h1, h2]; exact ih
    rcases List.mem_cons.1 hs with rfl | hs
    · have := mono l
      simp [h]; omega
    · have := ih hs
      by_cases h1 : s < t
      · simp [h1, show b < t by omega]; exact this
      · by_cases h2 : b < t
        · simp [h1, h2]; omega
        · simp [h1, h2]; exact this

theorem IsWid.less {A B R : Iv} {l : List Int} (h : IsWid A B l R) : meas l R ≤ meas l A ∧ (R ≠ A → meas l R < meas l A) := by
  obtain ⟨h1, h2⟩ := h
  obtain ⟨d, u, lo, hi⟩ := A
  obtain ⟨d', u', lo', hi'⟩ := B
  obtain ⟨rd, ru, rl, rh⟩ := R
  have k1 : (rd = d ∧ rl = lo) ∨ ((if rd then 0 else 1 + cntB l rl) < (if d then 0 else 1 + cntB l lo)) := by
    unfold WidLo at h1
    dsimp only at *
    split at h1
    · rename_i hc
      split at h1
      · obtain ⟨rfl, _⟩ := h1; right; simp [hc.1]; omega
      · rename_i hd
        rcases h1 with ⟨rfl, _, _⟩ | ⟨rfl, c0, c2, _⟩
        · right; simp [hc.1]; omega
        · right
          have hlt : rl < lo := by rcases hc.2 with h | h; exact absurd h hd; omega
          have := cntB_lt c0 hlt
          simp [hc.1]; omega
    · exact .inl h1
  have k2 : (ru = u ∧ rh = hi) ∨ ((if ru then 0 else 1 + cntA l rh) < (if u then 0 else 1 + cntA l hi)) := by
    unfold WidHi at h2
    dsimp only at *
    split at h2
    · rename_i hc
      split at h2
      · obtain ⟨rfl, _⟩ := h2; right; simp [hc.1]; omega
      · rename_i hd
        rcases h2 with ⟨rfl, _, _⟩ | ⟨rfl, c0, c2, _⟩
        · right; simp [hc.1]; omega
        · right
          have hlt : hi < rh := by rcases hc.2 with h | h; exact absurd h hd; omega
          have := cntA_lt c0 hlt
          simp [hc.1]; omega
    · exact .inl h2
  clear h1 h2
  unfold meas
  dsimp only
  rcases k1 with ⟨rfl, rfl⟩ | k1 <;> rcases k2 with ⟨rfl, rfl⟩ | k2
  · exact ⟨Nat.le_refl _, fun h => absurd rfl h⟩
  · constructor
    · omega
    · intro _; omega
  · constructor
    · omega
    · intro _; omega
  · constructor
    · omega
    · intro _; omega

end Go.Proofs.YtijbjahedfmfgaaDoor
