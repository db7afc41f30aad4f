/- The language: the scanner's walks. -/
import Derived.Test.YtbfhaabpfkopdaaGreatDoorLs
import Derived.Test.YtbfhaabpfkopdaaGreatDoorKu
import Derived.Deep.LoopGhost
import Derived.Deep.Cut
import Derived.Deep.CutBlock
import Derived.Deep.DeepCutAuto
import Derived.Maps.Own
import Derived.Maps.OwnOps
import Derived.Maps.Views
namespace Go.Proofs.YtbfhaabpfkopdaaGreatDoor
open Go.RowKit
set_option linter.unusedVariables false

/-- A function that has a body: a call enters it. -/
def Enters (f : Nat) : Prop := ∀ (args : Array Value) (W : World), (callFunc f args).run Tryz.prog W = .ok (.enter f args) W
theorem enters_of {f : Nat} {fn : Func} {c : Code} (hf : Tryz.prog.funcs[f]? = some fn) (hname : (fn.name == "runtime.NumGoroutine") = false) (hb : fn.body = some c) : Enters f := by
  intro args w
  have h1 : fn.name ≠ "runtime.NumGoroutine" := by simpa using hname
  simp [callFunc, hf, h1, hb]
/-- A function that tells of a byte. -/
def TellsB (f : Nat) (p : UInt8 → Bool) : Prop := ∀ (W : World) (c : UInt8), Calls Tryz.prog f #[.int .u8 (c.toNat : Int)] W fun e w' => e = .returned (.bool (p c)) ∧ w' = W
set_option maxHeartbeats 1000000 in
theorem isLetter_any : TellsB 200 isLet := by
  intro W c
  have hc : (c.toNat : Int) ≤ 255 := by have := c.toNat_lt; omega
  unfold isLet
  by_cases h1 : 97 ≤ c.toNat
  · have h1' : (97 : Int) ≤ (c.toNat : Int) := by omega
    by_cases h2 : c.toNat ≤ 122
    · have h2' : (c.toNat : Int) ≤ 122 := by omega
      rw [decide_eq_true h1, decide_eq_true h2]
      go_enter Tryz.func200, Tryz.ntmps200
      go_wp2
      go_ret
      exact ⟨rfl, rfl⟩
    · have h2' : ¬ (c.toNat : Int) ≤ 122 := by omega
      rw [decide_eq_true h1, decide_eq_false h2]
      go_enter Tryz.func200, Tryz.ntmps200
      go_wp2
      go_ret
      exact ⟨rfl, rfl⟩
  · have h1' : ¬ (97 : Int) ≤ (c.toNat : Int) := by omega
    rw [decide_eq_false h1]
    go_enter Tryz.func200, Tryz.ntmps200
    go_wp2
    go_ret
    exact ⟨rfl, rfl⟩
set_option maxHeartbeats 1000000 in
theorem isDigit_any : TellsB 201 isDig := by
  intro W c
  have hc : (c.toNat : Int) ≤ 255 := by have := c.toNat_lt; omega
  unfold isDig
  by_cases h1 : 48 ≤ c.toNat
  · have h1' : (48 : Int) ≤ (c.toNat : Int) := by omega
    by_cases h2 : c.toNat ≤ 57
    · have h2' : (c.toNat : Int) ≤ 57 := by omega
      rw [decide_eq_true h1, decide_eq_true h2]
      go_enter Tryz.func201, Tryz.ntmps201
      go_wp2
      go_ret
      exact ⟨rfl, rfl⟩
    · have h2' : ¬ (c.toNat : Int) ≤ 57 := by omega
      rw [decide_eq_true h1, decide_eq_false h2]
      go_enter Tryz.func201, Tryz.ntmps201
      go_wp2
      go_ret
      exact ⟨rfl, rfl⟩
  · have h1' : ¬ (48 : Int) ≤ (c.toNat : Int) := by omega
    rw [decide_eq_false h1]
    go_enter Tryz.func201, Tryz.ntmps201
    go_wp2
    go_ret
    exact ⟨rfl, rfl⟩

set_option maxRecDepth 20000 in
set_option maxHeartbeats 2000000 in
theorem runOf_any (f : Nat) (p : UInt8 → Bool) (l : Bs) (w : World) (hE : Hid (Enters f)) (hf : Hid (TellsB f p)) (hl : l.length ≤ 9223372036854775807) :
    Calls Tryz.prog 199 #[.string (bs l), .func (.func f) #[] #[]] w fun e w' => e = .returned (.int .i64 (runL p l)) ∧ w' = w := by
  have hsz : ((bs l).size : Int) = (l.length : Int) := by rw [bs_size]
  have hEn := hE.out
  unfold Enters at hEn
  go_enter Tryz.func199, Tryz.ntmps199
  go_wp2_with fail
  go_loopg [5] l.length (fun gh iv wx => ∃ i : Nat, i + gh = l.length ∧ iv = .int .i64 i ∧ wx = w ∧ Hid (∀ j, j < i → ∀ c, l[j]? = some c → p c = true))
  case atStart => exact ⟨0, by omega, rfl, rfl, fun j hj => by omega⟩
  case round =>
    obtain ⟨i, hig, rfl, rfl, hpos⟩ := hrel
    by_cases hi : i < l.length
    · have hi' : (i : Int) < (l.length : Int) := by omega
      have hib : i < (bs l).size := by rw [bs_size]; exact hi
      obtain ⟨c, hc⟩ : ∃ c, c = (bs l)[i] := ⟨_, rfl⟩
      have Hc : Hid (l[i]? = some c) := by show _ = _; rw [hc]; exact bs_at l i hib
      obtain ⟨b, hb⟩ : ∃ b, b = p c := ⟨_, rfl⟩
      have HF : Hid (∀ W : World, Calls Tryz.prog f #[.int .u8 (((bs l)[i]).toNat : Int)] W fun e w' => e = .returned (.bool b) ∧ w' = W) := fun W => by rw [← hc, hb]; exact hf.out W c
      have Hb := hide hb
      clear hc hb
      cases b
      · go_wp2_with fail
        refine (HF.out _).mono ?_
        rintro e w1 ⟨rfl, rfl⟩
        go_wp2_with fail
        go_ret
        refine ⟨ret_int ?_, rfl⟩
        rw [runL_in hi hpos.out (fun c' hc' => by rw [Hc.out] at hc'; cases hc'; exact Hb.out.symm)]
      · go_wp2_with fail
        refine (HF.out _).mono ?_
        rintro e w1 ⟨rfl, rfl⟩
        go_wp2_with fail
        go_roundg (l.length - (i + 1))
        case measure => omega
        case rel =>
          refine ⟨i + 1, by omega, by go_num, rfl, fun j hj c' hc' => ?_⟩
          by_cases e : j = i
          · subst e; rw [Hc.out] at hc'; cases hc'; exact Hb.out.symm
          · exact hpos.out j (by omega) c' hc'
    · have hi' : ¬ (i : Int) < (l.length : Int) := by omega
      go_wp2_with fail
      go_ret
      refine ⟨ret_int ?_, rfl⟩
      rw [runL_all (fun j hj c hc => hpos.out j (by omega) c hc)]
      omega
end Go.Proofs.YtbfhaabpfkopdaaGreatDoor

/- The language: the map of the words' roles. -/
namespace Go.Proofs.YtbfhaabpfkopdaaGreatDoor
open Go.RowKit Go.Maps Go.WideMaps
set_option linter.unusedVariables false

/-- The words and signs, each with its role. -/
def tab : List (Bs × Int) := [([118, 97, 114], 4), ([97, 114, 114, 97, 121], 4), ([112, 114, 111, 99], 4), ([109, 97, 105, 110], 4), ([114, 101, 116, 117, 114, 110], 4), ([99, 97, 108, 108], 4), ([101, 108, 115, 101], 4), ([116, 114, 117, 101], 4), ([102, 97, 108, 115, 101], 4), ([111, 114], 4), ([97, 110, 100], 4), ([105, 102], 5), ([119, 104, 105, 108, 101], 5), ([97, 115, 115, 101, 114, 116], 5), ([97, 115, 115, 117, 109, 101], 5), ([114, 101, 97, 100], 5), ([59], 4), ([44], 4), ([61], 4), ([123], 4), ([125], 4), ([40], 4), ([41], 4), ([91], 4), ([93], 4), ([60], 6), ([60, 61], 6), ([61, 61], 6), ([33, 61], 6), ([62], 6), ([62, 61], 6), ([43], 7), ([45], 7), ([42], 8), ([47], 8), ([37], 8)]
def roleTab (t : Bs) : Int := match tab.reverse.find? (fun p => p.1 == t) with | some p => p.2 | none => 0
def putR (D : DataW Unit) (p : Bs × Int) : DataW Unit := D.put (.string p.1) (.lit (.int .i64 p.2))
def tabD : DataW Unit := tab.foldl putR (.map [])

theorem isMap_put {D : DataW Unit} (h : IsMap D) (k : Lit) (d : DataW Unit) : IsMap (D.put k d) := by
  obtain ⟨es, rfl⟩ := h
  exact ⟨_, rfl⟩
theorem atKey_fold (l : List (Bs × Int)) (t : Bs) : ((l.reverse).foldr (fun p D => putR D p) (.map [])).atKey (.string t) (.lit (.int .i64 0)) = .lit (.int .i64 (match l.reverse.find? (fun p => p.1 == t) with | some p => p.2 | none => 0)) := by
  generalize l.reverse = m
  induction m with
  | nil => rfl
  | cons p m ih =>
    have hm : IsMap (m.foldr (fun p D => putR D p) (.map [])) := by
      clear ih
      induction m with
      | nil => exact ⟨_, rfl⟩
      | cons q m ih => exact isMap_put ih _ _
    show (putR (m.foldr (fun p D => putR D p) (.map [])) p).atKey _ _ = _
    generalize m.foldr (fun p D => putR D p) (.map []) = X at ih hm ⊢
    unfold putR
    by_cases e : p.1 = t
    · subst e
      rw [atKey_put_same hm (by trivial)]
      simp
    · rw [atKey_put_other (fun h => e (by cases h; rfl)), ih]
      simp [e]
theorem tab_at (t : Bs) : tabD.atKey (.string t) (.lit (.int .i64 0)) = .lit (.int .i64 (roleTab t)) := by
  unfold tabD roleTab
  rw [← atKey_fold, List.foldl_eq_foldr_reverse]

theorem Tryz.lawStr : Keyed Tryz.prog 9 := string_keyed Tryz.underlying9
theorem Tryz.zeroRole (w : World) : (zeroValue 222).run Tryz.prog w = .ok (.int .i64 0) w := by kernel_rfl

/-- A map of so many entries that a call makes, in its block. -/
structure RM (w : World) (B n : Nat) (D : DataW Unit) (W : World) : Prop where
  own : W.ownsMap Tryz.prog 9 (plainElem (H := Unit) Tryz.prog 222) B n D
  bel : Below w.heap.size w W
  le : w.heap.size ≤ B
theorem RM.put {w W : World} {B n : Nat} {D : DataW Unit} (h : RM w B n D W) (hn : n < 1000) (t : Bs) (v : Int) (ht : t.length ≤ 1000) (hv : (Lit.int .i64 v).wf = true) : ∃ W', (Instr.mapUpdate 220 (.map (some B)) (.string ⟨t.toArray⟩) (.int .i64 v)).run Tryz.prog W = .ok () W' ∧ RM w B (n + 1) (putR D (t, v)) W' := by
  have hkey : keyOf Tryz.prog 9 (.string ⟨t.toArray⟩) = some (.string t) := by
    have := keyOf_string_mk (P := Tryz.prog) Tryz.underlying9 (s := ⟨t.toArray⟩) (by show t.toArray.size ≤ maxLen; simp [maxLen]; omega)
    simpa using this
  obtain ⟨W', hrun, ho, hg⟩ := h.own.update Tryz.lawStr Tryz.underlying220 (by unfold maxLen; omega) hkey (plainElem_int Tryz.underlying222 hv)
  exact ⟨W', hrun, ho, h.bel.grown hg h.bel.size (fun j hj => by cases hj; exact h.le), h.le⟩
theorem wpList_insert_rm {w : World} (W : World) {ops : Array Oper} {rest : List Oper} {o : Oper} {a : Act} {Q : Exit → Act → World → Prop} {B n : Nat} {D : DataW Unit}
    (hg : o.guard = none) (m x v : Operand) (hop : o.op = Op.insert 220 m x v) (t : Bs) (z : Int) (hm : a.eval m = .map (some B)) (hx : a.eval x = .string ⟨t.toArray⟩) (hv : a.eval v = .int .i64 z)
    (h : RM w B n D W) (hn : n < 1000) (ht : t.length ≤ 1000) (hz : (Lit.int .i64 z).wf = true)
    (hK : ∀ W', RM w B (n + 1) (putR D (t, z)) W' → wpList Tryz.prog ops Q rest (a.put o.dst undef) W') : wpList Tryz.prog ops Q (o :: rest) a W := by
  refine wpList_plain hg fun K' hK' => ?_
  obtain ⟨w', hrun, r1⟩ := h.put hn t z ht hz
  unfold Oper.wp
  simp [execOp, hop, hm, hx, hv, hrun, Result.andThen]
  exact hK' _ _ (hK w' r1)

/-- The map of roles lies in a block. -/
def RolesAt (W : World) (r : Nat) : Prop := W.ownsMap Tryz.prog 9 (plainElem (H := Unit) Tryz.prog 222) r 36 tabD
theorem RolesAt.lt {W : World} {r : Nat} (h : RolesAt W r) : r < W.heap.size := World.ownsMap.lt h
theorem RolesAt.below {W W' : World} {r : Nat} (h : RolesAt W r) (hb : Below W.heap.size W W') : RolesAt W' r := by
  obtain ⟨es, c, h1, h2⟩ := h
  exact ⟨es, c, (hb.block r (RolesAt.lt ⟨es, c, h1, h2⟩)).trans h1, h2⟩
theorem RolesAt.look {W : World} {r : Nat} (h : RolesAt W r) (t : Bs) (ht : t.length ≤ 1000000) : (Instr.lookup 220 (.map (some r)) (.string (bs t)) false).run Tryz.prog W = .ok (.int .i64 (roleTab t)) W := by
  have hkey : keyOf Tryz.prog 9 (.string (bs t)) = some (.string t) := by
    have := keyOf_string_mk (P := Tryz.prog) Tryz.underlying9 (s := bs t) (by rw [bs_size]; unfold maxLen; omega)
    rw [bs_list] at this; exact this
  obtain ⟨c, hrun, hat, _⟩ := World.ownsMap.lookup_int h Tryz.lawStr Tryz.underlying220 Tryz.underlying222 (Tryz.zeroRole _) hkey
  rw [tab_at] at hat
  rw [hrun]
  simp only [DataW.lit.injEq, Lit.int.injEq, true_and] at hat
  rw [hat]

set_option maxRecDepth 100000 in
set_option maxHeartbeats 4000000 in
theorem wordRoles_any (w : World) : Calls Tryz.prog 102 #[] w fun e w' => e = .returned (.map (some w.heap.size)) ∧ RolesAt w' w.heap.size ∧ Below w.heap.size w w' := by
  have hmm := @run_makeMap Tryz.prog
  have hR : RM w w.heap.size 0 (.map []) (w.alloc (.map #[] 0)) := ⟨World.ownsMap_made _ _ _ _, (Below.refl _ _).alloc (Nat.le_refl _) _, Nat.le_refl _⟩
  go_enter Tryz.func102, Tryz.ntmps102
  go_wp2_with (refine wpList_insert_rm _ rfl _ _ _ rfl _ _ rfl rfl rfl hR (by omega) (by decide) (by decide) ?_; clear hR; intro W' hR)
  go_ret
  exact ⟨rfl, hR.own, hR.bel⟩
end Go.Proofs.YtbfhaabpfkopdaaGreatDoor
