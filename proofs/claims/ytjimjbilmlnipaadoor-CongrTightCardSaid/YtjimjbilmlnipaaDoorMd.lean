/- The tight interval of a congruence: plain facts. -/
import Derived.Test.YtjimjbilmlnipaaDoorMc
import Derived.Test.YtjimjbilmlnipaaDoorCt
namespace Go.Proofs.YtjimjbilmlnipaaDoor

/-- What Tight tells, by rests. -/
def tiL (r m : Int) (d : Bool) (lo : Int) : Int := if d then lo else lo + restI (r - lo) m
def tiH (r m : Int) (u : Bool) (hi : Int) : Int := if u then hi else hi - restI (hi - r) m

theorem tight_none {r m lo hi : Int} (hm : 0 < m) (h : tiH r m false hi < tiL r m false lo) : TightS ⟨r, m⟩ ⟨false, false, lo, hi⟩ ⟨false, false, 0, 0⟩ false := by
  have e1 : tiL r m false lo = nxt r m lo := by unfold tiL nxt restI; rw [if_neg (by omega : ¬ m = 0)]; simp
  have e2 : tiH r m false hi = prv r m hi := by unfold tiH prv restI; rw [if_neg (by omega : ¬ m = 0)]; simp
  rw [e1, e2] at h
  refine ⟨⟨fun e => (by cases e), ?_⟩, fun _ => rfl, fun e => (by cases e)⟩
  rintro ⟨n, h1, h2⟩
  have l1 : lo ≤ n := h2.1.resolve_left (by simp)
  have l2 : n ≤ hi := h2.2.resolve_left (by simp)
  have q1 : nxt r m lo ≤ n := nxt_le hm l1 h1
  have q2 : n ≤ prv r m hi := le_prv hm l2 h1
  omega

theorem tight_some {r m lo hi : Int} {d u : Bool} (hA : okC ⟨r, m⟩) (hB : okI ⟨d, u, lo, hi⟩) (hm : 0 < m) (h : ¬ (d = false ∧ u = false ∧ tiH r m u hi < tiL r m d lo)) :
    TightS ⟨r, m⟩ ⟨d, u, lo, hi⟩ ⟨d, u, min (tiL r m d lo) 1099511627776, max (tiH r m u hi) (-1099511627776)⟩ true := by
  have n1 := nxt_in (r := r) (m := m) lo
  have n2 := nxt_r (r := r) hm lo
  have p1 := prv_in (r := r) (m := m) hi
  have p2 := prv_r (r := r) hm hi
  have e1 : tiL r m d lo = if d then lo else nxt r m lo := by unfold tiL nxt restI; rw [if_neg (by omega : ¬ m = 0)]
  have e2 : tiH r m u hi = if u then hi else prv r m hi := by unfold tiH prv restI; rw [if_neg (by omega : ¬ m = 0)]
  rw [e1, e2] at h ⊢
  clear e1 e2
  obtain ⟨o1, o2, o3, o4, o5, o6, o7⟩ := hB
  obtain ⟨a1, a2, a3, a4⟩ := hA
  dsimp only at *
  have ar := a4 hm
  have far : ∀ K : Int, m ∣ r + K * m - r := fun K => by rw [show r + K * m - r = K * m by omega]; exact Int.dvd_mul_left ..
  have big : r + 1099511627776 * 2 * m > 1099511627776 := by omega
  have low : r + (-1099511627776 * 2) * m < -1099511627776 := by omega
  have L : LeastOf (fun n => inC ⟨r, m⟩ n ∧ inI ⟨d, u, lo, hi⟩ n) ⟨d, u, min (if d then lo else nxt r m lo) 1099511627776, max (if u then hi else prv r m hi) (-1099511627776)⟩ := by
    cases d <;> cases u <;> simp only [Bool.false_eq_true, if_false, if_true, true_and, Int.not_lt, false_and, not_false_eq_true, and_false, forall_const, Bool.true_eq_false] at h o1 o2 o3 ⊢
    · rw [Int.min_eq_left (by omega), Int.max_eq_left (by omega)]
      refine ⟨⟨by simp, by simp, fun _ _ => by dsimp only; omega, by dsimp only; omega, by dsimp only; omega, by dsimp only; omega, by dsimp only; omega⟩, ?_, fun e => (by cases e), fun _ => ⟨prv r m hi, ⟨p1, .inr (by dsimp only; omega), .inr p2.1⟩, .inl rfl⟩, fun e => (by cases e), fun _ => ⟨nxt r m lo, ⟨n1, .inr n2.1, .inr (by dsimp only; omega)⟩, .inl rfl⟩⟩
      rintro n ⟨k1, k2⟩
      exact ⟨.inr (nxt_le hm (k2.1.resolve_left (by simp)) k1), .inr (le_prv hm (k2.2.resolve_left (by simp)) k1)⟩
    · rw [Int.max_eq_left (by omega)]
      refine ⟨⟨by simp, fun _ => o2, by simp, by dsimp only; omega, by dsimp only; omega, by dsimp only; omega, by dsimp only; omega⟩, ?_, fun _ => ⟨_, ⟨far (1099511627776 * 2 + 1), .inr (by dsimp only; omega), .inl rfl⟩, by omega⟩, fun e => (by cases e), fun e => (by cases e), fun _ => ⟨nxt r m lo, ⟨n1, .inr n2.1, .inl rfl⟩, ?_⟩⟩
      · rintro n ⟨k1, k2⟩
        have q1 : nxt r m lo ≤ n := nxt_le hm (k2.1.resolve_left (by simp)) k1
        exact ⟨.inr (by dsimp only; omega), .inl rfl⟩
      · dsimp only; omega
    · rw [Int.min_eq_left (by omega)]
      refine ⟨⟨fun _ => o1, by simp, by simp, by dsimp only; omega, by dsimp only; omega, by dsimp only; omega, by dsimp only; omega⟩, ?_, fun e => (by cases e), fun _ => ⟨prv r m hi, ⟨p1, .inl rfl, .inr p2.1⟩, ?_⟩, fun _ => ⟨_, ⟨far (-1099511627776 * 2 - 1), .inl rfl, .inr (by dsimp only; omega)⟩, by omega⟩, fun e => (by cases e)⟩
      · rintro n ⟨k1, k2⟩
        have q1 : n ≤ prv r m hi := le_prv hm (k2.2.resolve_left (by simp)) k1
        exact ⟨.inl rfl, .inr (by dsimp only; omega)⟩
      · dsimp only; omega
    · rw [Int.min_eq_left (by omega), Int.max_eq_left (by omega)]
      refine ⟨⟨fun _ => o1, fun _ => o2, by simp, by dsimp only; omega, by dsimp only; omega, by dsimp only; omega, by dsimp only; omega⟩, fun _ _ => ⟨.inl rfl, .inl rfl⟩, fun _ => ⟨_, ⟨far (1099511627776 * 2), .inl rfl, .inl rfl⟩, big⟩, fun e => (by cases e), fun _ => ⟨_, ⟨far (-1099511627776 * 2), .inl rfl, .inl rfl⟩, low⟩, fun e => (by cases e)⟩
  refine ⟨⟨fun _ => ?_, fun _ => rfl⟩, fun e => (by cases e), fun _ => L⟩
  cases e : d
  · obtain ⟨n, hn, _⟩ := L.lo e; rw [e] at hn; exact ⟨n, hn⟩
  · obtain ⟨n, hn, _⟩ := L.dn e; rw [e] at hn; exact ⟨n, hn⟩

theorem tight_num {r lo hi : Int} {d u : Bool} (hA : okC ⟨r, 0⟩) : TightS ⟨r, 0⟩ ⟨d, u, lo, hi⟩ (if inB ⟨d, u, lo, hi⟩ r then ⟨false, false, r, r⟩ else ⟨false, false, 0, 0⟩) (inB ⟨d, u, lo, hi⟩ r) := by
  have hr := hA.2.2.1 rfl
  dsimp only at hr
  have iA : ∀ n, inC ⟨r, 0⟩ n ↔ n = r := by intro n; unfold inC; rw [Int.zero_dvd]; dsimp only; omega
  have S : inB ⟨d, u, lo, hi⟩ r = true ↔ ∃ n, inC ⟨r, 0⟩ n ∧ inI ⟨d, u, lo, hi⟩ n := by
    rw [inB_iff]
    exact ⟨fun hh => ⟨r, (iA _).2 rfl, hh⟩, fun ⟨n, h1, h2⟩ => by rw [(iA n).1 h1] at h2; exact h2⟩
  refine ⟨S, fun e => (by rw [e]; rfl), fun e => ?_⟩
  rw [e, if_pos rfl]
  have h2 := (inB_iff _ _).1 e
  refine ⟨⟨by simp, by simp, fun _ _ => Int.le_refl _, hr.1, hr.2, hr.1, hr.2⟩, ?_, fun e => (by cases e), fun _ => ⟨r, ⟨(iA _).2 rfl, h2⟩, .inl rfl⟩, fun e => (by cases e), fun _ => ⟨r, ⟨(iA _).2 rfl, h2⟩, .inl rfl⟩⟩
  rintro n ⟨k1, _⟩
  rw [(iA n).1 k1]
  exact ⟨.inr (Int.le_refl _), .inr (Int.le_refl _)⟩

end Go.Proofs.YtjimjbilmlnipaaDoor
