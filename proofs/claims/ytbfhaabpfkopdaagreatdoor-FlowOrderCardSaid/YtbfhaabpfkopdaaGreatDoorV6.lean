/- The language: a writer: what is written only grows (plain); statements that memory can hold. -/
import Derived.Test.YtbfhaabpfkopdaaGreatDoorV5
namespace Go.Proofs.YtbfhaabpfkopdaaGreatDoor
set_option linter.unusedVariables false

/-- Whatever is written lies behind. -/
def Grows (F : Wst → Option Wst) : Prop := ∀ st st', F st = some st' → st.1.length ≤ st'.1.length
theorem Grows.put (l : List Bs) : Grows (putW l) := fun st st' h => (putW_up l st st' h).1
theorem Grows.bind {F : Wst → Option Wst} {G : Wst → Option Wst} (hF : Grows F) (hG : Grows G) : Grows (fun st => (F st).bind G) := fun st st' h => by
  have h : (F st).bind G = Option.some st' := h
  cases e : F st with
  | none => rw [e] at h; cases h
  | some s1 => rw [e] at h; exact Nat.le_trans (hF st s1 e) (hG s1 st' h)
theorem Grows.some : Grows (fun st => some st) := fun st st' h => by cases h; exact Nat.le_refl _
theorem Grows.none : Grows (fun _ => none) := fun st st' h => by cases h
theorem Grows.ite {c : Prop} [Decidable c] {F G : Wst → Option Wst} (hF : Grows F) (hG : Grows G) : Grows (fun st => if c then F st else G st) := fun st st' h => by
  by_cases k : c
  · simp only [if_pos k] at h; exact hF st st' h
  · simp only [if_neg k] at h; exact hG st st' h
theorem Grows.tm (e : Ex) : Grows (tmW e) := fun st st' h => (tmW_up h).1
theorem Grows.ind : ∀ n, Grows (indW n)
  | 0 => Grows.some
  | n + 1 => (Grows.put [[32, 32]]).bind (Grows.ind n)
theorem Grows.bet {t : Bs} {F : Nat → Wst → Option Wst} (hF : ∀ i, Grows (F i)) : ∀ m i, Grows (betW t F m i)
  | 0, i => Grows.some
  | m + 1, i => (Grows.ite Grows.some (Grows.put [t])).bind ((hF i).bind (Grows.bet hF m (i + 1)))
theorem Grows.te (t : Te) : Grows (teW t) := (Grows.tm t.a).bind ((Grows.put _).bind (Grows.tm t.b))
theorem Grows.row (l : List Te) : Grows (rowW l) := by
  refine Grows.bind (F := fun st => if l.length = 0 then putW [[116, 114, 117, 101]] st else Option.some st) (Grows.ite (Grows.put _) Grows.some) (Grows.bet ?_ l.length 0)
  intro i st st' h
  cases e : l[i]? with
  | none => simp [e] at h
  | some a => simp [e] at h; exact Grows.te a st st' h
theorem Grows.cond (l : List (List Te)) : Grows (condW l) := by
  refine Grows.bind (F := fun st => if l.length = 0 then putW [[102, 97, 108, 115, 101]] st else Option.some st) (Grows.ite (Grows.put _) Grows.some) (Grows.bet ?_ l.length 0)
  intro i st st' h
  cases e : l[i]? with
  | none => simp [e] at h
  | some a => simp [e] at h; exact Grows.row a st st' h
theorem Grows.sts {f : Stm → Nat → Wst → Option Wst} (hf : ∀ s b, Grows (f s b)) (b : Nat) : ∀ l, Grows (stsW f b l)
  | [] => Grows.some
  | s :: l => (Grows.ind b).bind ((hf s b).bind (Grows.sts hf b l))
theorem Grows.br {f : Stm → Nat → Wst → Option Wst} (hf : ∀ s b, Grows (f s b)) (s : Stm) (b : Nat) : Grows (brW f s b) :=
  (Grows.put _).bind ((Grows.sts hf (b + 1) s.body).bind ((Grows.ite ((Grows.ind b).bind ((Grows.put _).bind (Grows.sts hf (b + 1) s.els))) Grows.some).bind ((Grows.ind b).bind (Grows.put _))))
theorem Grows.pick {l : List Ex} {i : Nat} : Grows (fun st => pickW l i fun a => tmW a st) := fun st st' h => by
  unfold pickW at h
  cases e : l[i]? with
  | none => rw [e] at h; cases h
  | some a => rw [e] at h; exact Grows.tm a st st' h
theorem Grows.st : ∀ (k : Nat) (s : Stm) (b : Nat), Grows (stW k s b)
  | 0, s, b => Grows.none
  | k + 1, s, b => by
    intro st st' h
    unfold stW at h
    split at h
    · exact ((Grows.put _).bind (Grows.pick.bind (Grows.put _))) st st' h
    split at h
    · exact ((Grows.put _).bind (Grows.pick.bind ((Grows.put _).bind (Grows.pick.bind (Grows.put _))))) st st' h
    split at h
    · refine (Grows.bind (Grows.put _) (Grows.bind (Grows.bet ?_ s.args.length 0) (Grows.put [[41, 59, 10]]))) st st' h
      intro i st st' h
      cases e : s.args[i]? with
      | none => simp [e] at h
      | some a => simp [e] at h; exact Grows.tm a st st' h
    split at h
    · exact ((Grows.put _).bind ((Grows.cond s.cond).bind (Grows.br (Grows.st k) s b))) st st' h
    split at h
    · exact ((Grows.put _).bind ((Grows.cond s.cond).bind (Grows.put _))) st st' h
    split at h
    · exact Grows.put _ st st' h
    · cases h
/-- A statement such as memory can hold. -/
inductive StSm : Stm → Prop
  | mk (s : Stm) (h0 : s.args.length ≤ maxLen) (h1 : ∀ (i : Nat) (a : Ex), s.args[i]? = some a → ExSm a) (h2 : s.cond.length ≤ maxLen) (h3 : ∀ (i : Nat) (a : List Te), s.cond[i]? = some a → RwSm a) (h4 : s.body.length ≤ maxLen) (h5 : ∀ (i : Nat) (a : Stm), s.body[i]? = some a → StSm a) (h6 : s.els.length ≤ maxLen) (h7 : ∀ (i : Nat) (a : Stm), s.els[i]? = some a → StSm a) : StSm s
/-- A list of statements. -/
structure StsSm (l : List Stm) : Prop where
  len : l.length ≤ maxLen
  el : ∀ (i : Nat) (a : Stm), l[i]? = some a → StSm a
theorem StSm.argl {s : Stm} (h : StSm s) : s.args.length ≤ maxLen := by cases h; assumption
theorem StSm.arg {s : Stm} (h : StSm s) : ∀ (i : Nat) (a : Ex), s.args[i]? = some a → ExSm a := by cases h; assumption
theorem StSm.condl {s : Stm} (h : StSm s) : s.cond.length ≤ maxLen := by cases h; assumption
theorem StSm.cond {s : Stm} (h : StSm s) : ∀ (i : Nat) (a : List Te), s.cond[i]? = some a → RwSm a := by cases h; assumption
theorem StSm.body {s : Stm} (h : StSm s) : StsSm s.body := by cases h with | mk _ h0 h1 h2 h3 h4 h5 h6 h7 => exact ⟨h4, h5⟩
theorem StSm.els {s : Stm} (h : StSm s) : StsSm s.els := by cases h with | mk _ h0 h1 h2 h3 h4 h5 h6 h7 => exact ⟨h6, h7⟩
/-- An element of a row of statements. -/
theorem StmsAt.elem {W : World} {ok : Nat → Prop} {x : Option Addr} {l : List Stm} (h : StmsAt W ok x l) {i : Nat} {s : Stm} (hi : l[i]? = some s) : ∃ b off xa ca xc cc xb cb xe ce, x = some ⟨b, off, none⟩ ∧ b < W.heap.size ∧ W.cell? ⟨b, off + i * 7, none⟩ = some (.string (bs s.kind)) ∧ W.cell? ⟨b, off + i * 7 + 1, none⟩ = some (.string (bs s.name)) ∧ W.cell? ⟨b, off + i * 7 + 2, none⟩ = some (.string (bs s.proc)) ∧ W.cell? ⟨b, off + i * 7 + 3, none⟩ = some (.slice xa s.args.length ca) ∧
    W.cell? ⟨b, off + i * 7 + 4, none⟩ = some (.slice xc s.cond.length cc) ∧ W.cell? ⟨b, off + i * 7 + 5, none⟩ = some (.slice xb s.body.length cb) ∧ W.cell? ⟨b, off + i * 7 + 6, none⟩ = some (.slice xe s.els.length ce) ∧ ExsAt W ok xa s.args ∧ RowAt coVals 1 W ok xc s.cond ∧ StmsAt W ok xb s.body ∧ StmsAt W ok xe s.els := by
  cases h with
  | nil => cases hi
  | row b off l A C B E ca cc cb ce hB hlt c0 c1 c2 c3 c4 c5 c6 ha hc hb he => exact ⟨b, off, A i, ca i, C i, cc i, B i, cb i, E i, ce i, rfl, hlt, c0 i s hi, c1 i s hi, c2 i s hi, c3 i s hi, c4 i s hi, c5 i s hi, c6 i s hi, ha i s hi, hc i s hi, hb i s hi, he i s hi⟩
end Go.Proofs.YtbfhaabpfkopdaaGreatDoor
