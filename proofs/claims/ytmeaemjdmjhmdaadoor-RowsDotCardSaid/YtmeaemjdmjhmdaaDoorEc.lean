/- The copy of a list of ints. -/
import Derived.Test.YtmeaemjdmjhmdaaDoorKz
import Derived.Laws.AppendOwnNone
import Derived.LaidEql
import Derived.Stop.Asserts
import Derived.RowKitTokens
namespace Go.Proofs.YtmeaemjdmjhmdaaDoor
open Go.RowKit

set_option maxHeartbeats 400000 in
theorem intsCopy_some (b off c : Nat) (l : List Int) (w : World) (hc : ∀ i, i < l.length → w.cell? ⟨b, off + i, none⟩ = some (.int .i64 (l.getD i 0))) (hn : l.length ≤ 4398046511104) :
    Calls Tryd.prog 6 #[.slice (some ⟨b, off, none⟩) l.length c] w fun e w' => ∃ a cap, e = .returned (.slice a l.length cap) ∧ IntsAt w' a l ∧ Below w.heap.size w w' := by
  obtain ⟨i0, hi, hz0, hz1, hz2⟩ := info_parts Tryd.info3
  have hnews : ∀ j u, (l.map (Value.int .i64))[j]? = some u → w.cell? ((⟨b, off, none⟩ : Addr).add j) = some u := by
    intro j u hj
    have hjl : j < l.length := by
      rcases Nat.lt_or_ge j l.length with h | h
      · exact h
      · rw [List.getElem?_eq_none (by simpa using h)] at hj; cases hj
    have := hc j hjl
    have hu : u = .int .i64 (l.getD j 0) := by simp [hjl] at hj; rw [← hj]; simp [hjl]
    rw [hu, ← this]
    unfold Addr.add
    split
    · rename_i h0; subst h0; simp
    · rfl
  go_enter Tryd.func6, Tryd.ntmps6
  go_wp2_with (at_builtin; refine wpList_append_own _ rfl _ _ 22 rfl w.heap.size 3 i0 (.int .i64 0) 1 8 Tryd.underlying22 hi hz0 hz1 hz2 rfl (by decide) _ _ _ rfl (World.ownsRow_nil _ _ _ _) ⟨b, off, none⟩ l.length c (l.map (Value.int .i64)) rfl (by simp) hnews (ints_oneCell _ _) (by unfold maxLen; omega) (by omega) (Nat.le_refl _) ?_)
  intro v' w1 hown hgrow _
  obtain ⟨a, cap, rfl, hI⟩ := IntsAt_of_own hown
  go_wp2_with fail
  go_ret
  exact ⟨a, cap, rfl, hI, (Below.refl _ _).grown hgrow (Nat.le_refl _) (fun j hj => by cases hj)⟩

set_option maxHeartbeats 400000 in
theorem intsCopy_nil (c : Nat) (w : World) :
    Calls Tryd.prog 6 #[.slice none 0 c] w fun e w' => ∃ a cap, e = .returned (.slice a 0 cap) ∧ IntsAt w' a [] ∧ Below w.heap.size w w' := by
  obtain ⟨i0, hi, hz0, hz1, hz2⟩ := info_parts Tryd.info3
  go_enter Tryd.func6, Tryd.ntmps6
  go_wp2
  go_ret
  exact ⟨none, 0, rfl, .inl rfl, Below.refl _ _⟩

set_option maxHeartbeats 400000 in
theorem intsCopy_empty (x : Addr) (c : Nat) (w : World) :
    Calls Tryd.prog 6 #[.slice (some x) 0 c] w fun e w' => ∃ a cap, e = .returned (.slice a 0 cap) ∧ IntsAt w' a [] ∧ Below w.heap.size w w' := by
  obtain ⟨i0, hi, hz0, hz1, hz2⟩ := info_parts Tryd.info3
  go_enter Tryd.func6, Tryd.ntmps6
  go_wp2_with (at_builtin; refine wpList_append_own _ rfl _ _ 22 rfl w.heap.size 3 i0 (.int .i64 0) 1 8 Tryd.underlying22 hi hz0 hz1 hz2 rfl (by decide) _ _ _ rfl (World.ownsRow_nil _ _ _ _) x 0 c (([] : List Int).map (Value.int .i64)) rfl (by simp) (by intro j u h; simp at h) (by simp) (by unfold maxLen; omega) (by omega) (Nat.le_refl _) ?_)
  intro v' w1 hown hgrow _
  obtain ⟨a, cap, hv, hI⟩ := IntsAt_of_own (l := []) (by simpa using hown)
  rw [hv]
  go_wp2_with fail
  go_ret
  exact ⟨_, _, rfl, .inl rfl, (Below.refl _ _).grown hgrow (Nat.le_refl _) (fun j hj => by cases hj)⟩

theorem intsCopy_any (a : Option Addr) (c : Nat) (l : List Int) (w : World) (hA : IntsAt w a l) (hn : l.length ≤ 4398046511104) :
    Calls Tryd.prog 6 #[.slice a l.length c] w fun e w' => ∃ a' cap, e = .returned (.slice a' l.length cap) ∧ IntsAt w' a' l ∧ Below w.heap.size w w' := by
  rcases hA with rfl | ⟨b, off, rfl, hb, hc⟩
  · cases a with
    | none => exact intsCopy_nil c w
    | some x => exact intsCopy_empty x c w
  · exact intsCopy_some b off c l w hc hn

theorem intsCopy_as (a : Option Addr) (n c : Nat) (l : List Int) (w : World) (hA : IntsAt w a l) (hl : Hid (n = l.length)) (hn : n ≤ 4398046511104) :
    Calls Tryd.prog 6 #[.slice a n c] w fun e w' => ∃ a' cap, e = .returned (.slice a' n cap) ∧ IntsAt w' a' l ∧ Below w.heap.size w w' := by
  have h := hl.out
  subst h
  exact intsCopy_any a c l w hA hn

end Go.Proofs.YtmeaemjdmjhmdaaDoor

/- errors.As and errors.Is at the errors of package api: errors of errors.New's make. Go's own text of both is walked. -/
namespace Go.Proofs.YtmeaemjdmjhmdaaDoor
open Go.RowKit Go.Extern.Stop Go.Stop Go.Extern

theorem Tryd.isTypeOf (v : Value) (w : World) : (Extern.ReflectliteType.typeOf #[.iface 118 v]).run Tryd.prog w = .ok (.iface 96 (.agg #[.pointer (some ⟨11, 118, none⟩)])) w := by kernel_rfl
theorem Tryd.isComparable (w : World) : ((Extern.ReflectliteType.method fun t => do Rtype.noPackHeld "Comparable" t; (fun a => Value.bool a.comparable) <$> typeInfo t) #[.agg #[.pointer (some ⟨11, 118, none⟩)]]).run Tryd.prog w = .ok (.bool true) w := by kernel_rfl
theorem Tryd.isMethodComparable (v : Value) (w : World) : (Go.method 251 96 v "Comparable").run Tryd.prog w = .ok (97, v) w := by kernel_rfl
theorem Tryd.isComp : (Tryd.prog.info? 118).map (·.comparable) = some true := by kernel_rfl
theorem Tryd.isSize : (Tryd.prog.info? 139).map (·.size) = some 1 := by kernel_rfl
theorem Tryd.noIsE (v : Value) (xT : TypeId) (w : World) : (Instr.typeAssert (.iface 118 v) xT 107 true).run Tryd.prog w = .ok (.tuple #[.nilIface, .bool false]) w := run_typeAssert_lacksB Tryd.underlying107 (by kernel_rfl) (by kernel_rfl) v xT w
theorem Tryd.noUnwrapE (v : Value) (xT : TypeId) (w : World) : (Instr.typeAssert (.iface 118 v) xT 103 true).run Tryd.prog w = .ok (.tuple #[.nilIface, .bool false]) w := run_typeAssert_lacksB Tryd.underlying103 (by kernel_rfl) (by kernel_rfl) v xT w
theorem Tryd.noUnwrapsE (v : Value) (xT : TypeId) (w : World) : (Instr.typeAssert (.iface 118 v) xT 105 true).run Tryd.prog w = .ok (.tuple #[.nilIface, .bool false]) w := run_typeAssert_lacksB Tryd.underlying105 (by kernel_rfl) (by kernel_rfl) v xT w
theorem Tryd.noAsE (v : Value) (xT : TypeId) (w : World) : (Instr.typeAssert (.iface 118 v) xT 100 true).run Tryd.prog w = .ok (.tuple #[.nilIface, .bool false]) w := run_typeAssert_lacksB Tryd.underlying100 (by kernel_rfl) (by kernel_rfl) v xT w

/-- errors.Is(x, x). -/
theorem is_same (a : Addr) (w : World) :
    Calls Tryd.prog 26 #[.iface 118 (.pointer (some a)), .iface 118 (.pointer (some a))] w fun e w' => e = .returned (.bool true) ∧ w' = w := by
  obtain ⟨i, hi, hcmp⟩ := Option.map_eq_some_iff.1 Tryd.isComp
  obtain ⟨j, hj, hjs⟩ := Option.map_eq_some_iff.1 Tryd.isSize
  have h8 := @run_callFunc_extern Tryd.prog 47 _ Extern.ReflectliteType.typeOf Tryd.func47 (by kernel_rfl) (by kernel_rfl) (by kernel_rfl) (by kernel_rfl)
  have h32 := @run_callFunc_extern Tryd.prog 97 _ (Extern.ReflectliteType.method fun t => do Rtype.noPackHeld "Comparable" t; pure (.bool (← typeInfo t).comparable)) Tryd.func97 (by kernel_rfl) (by kernel_rfl) (by kernel_rfl) (by kernel_rfl)
  have tT := Tryd.isTypeOf
  have cT := Tryd.isComparable
  have mR := Tryd.isMethodComparable
  have heq := run_eql_iface_ptr_same (P := Tryd.prog) w a Tryd.underlying25 Tryd.underlying118 hi hcmp hj
  go_enter Tryd.func26, Tryd.ntmps26
  go_wp2
  refine wp_loop_rounds 1 ?_
  rw [rounds_succ]
  go_wp2
  go_ret
  exact ⟨rfl, rfl⟩

/-- errors.Is(x, y), two different errors of errors.New's make. -/
theorem is_other (a b : Addr) (ca cb : Array Value) (ta tb : TypeId) (w : World) (hne : a ≠ b) (ha : w.heap[a.block]? = some (.cells ca ta (0, 0))) (hb : w.heap[b.block]? = some (.cells cb tb (0, 0))) :
    Calls Tryd.prog 26 #[.iface 118 (.pointer (some a)), .iface 118 (.pointer (some b))] w fun e w' => e = .returned (.bool false) ∧ w' = w := by
  obtain ⟨i, hi, hcmp⟩ := Option.map_eq_some_iff.1 Tryd.isComp
  obtain ⟨j, hj, hjs⟩ := Option.map_eq_some_iff.1 Tryd.isSize
  have h8 := @run_callFunc_extern Tryd.prog 47 _ Extern.ReflectliteType.typeOf Tryd.func47 (by kernel_rfl) (by kernel_rfl) (by kernel_rfl) (by kernel_rfl)
  have h32 := @run_callFunc_extern Tryd.prog 97 _ (Extern.ReflectliteType.method fun t => do Rtype.noPackHeld "Comparable" t; pure (.bool (← typeInfo t).comparable)) Tryd.func97 (by kernel_rfl) (by kernel_rfl) (by kernel_rfl) (by kernel_rfl)
  have tT := Tryd.isTypeOf
  have cT := Tryd.isComparable
  have mR := Tryd.isMethodComparable
  have nE := Tryd.noIsE
  have uE := Tryd.noUnwrapE
  have vE := Tryd.noUnwrapsE
  have heq := run_eql_iface_ptr_other (P := Tryd.prog) w Tryd.underlying25 Tryd.underlying118 hi hcmp hj (by rw [hjs]; decide) hne ha hb
  go_enter Tryd.func26, Tryd.ntmps26
  go_wp2
  refine wp_loop_rounds 1 ?_
  rw [rounds_succ]
  go_wp2
  go_ret
  exact ⟨rfl, rfl⟩

end Go.Proofs.YtmeaemjdmjhmdaaDoor

/- errors.As at an error of errors.New's make, the target a *api.Fault variable: false. Go's own text is walked. -/
namespace Go.Proofs.YtmeaemjdmjhmdaaDoor
open Go.RowKit Go.Extern.Stop Go.Stop Go.Extern

/-- errors.As(nil, target). -/
theorem as_nil (t : Value) (w : World) :
    Calls Tryd.prog 25 #[.nilIface, t] w fun e w' => e = .returned (.bool false) ∧ w' = w := by
  go_enter Tryd.func25, Tryd.ntmps25
  go_wp2
  go_ret
  exact ⟨rfl, rfl⟩

theorem Tryd.valueOfPP (t : Addr) (w : World) : (ReflectliteValue.unpack (.iface 55 (.pointer (some t)))).run Tryd.prog w
    = .ok (.agg #[.pointer (some ⟨11, 55, none⟩), .pointer (some ⟨w.heap.size, 0, none⟩), .int .u64 150]) (w.alloc (.cells #[.pointer (some t)] 55)) := by kernel_rfl
theorem Tryd.typePP (a : Addr) (w : World) : (ReflectliteValue.methodAny (ReflectliteValue.valueError "reflectlite.Value.Type" 0) (fun t _ _ _ => ReflectliteType.toType t) #[.agg #[.pointer (some ⟨11, 55, none⟩), .pointer (some a), .int .u64 150]]).run Tryd.prog w
    = .ok (.iface 96 (.agg #[.pointer (some ⟨11, 55, none⟩)])) w := by kernel_rfl
theorem Tryd.methodKind (h : Value) (w : World) : (Go.method 251 96 (.agg #[h]) "Kind").run Tryd.prog w = .ok (86, h) w := by kernel_rfl
theorem Tryd.kindPP (w : World) : ((ReflectliteType.abiMethod fun t => (fun a : Nat => Value.int IntKind.u8 (a : Int)) <$> Rtype.kind t) #[.pointer (some ⟨11, 55, none⟩)]).run Tryd.prog w = .ok (.int .u8 22) w := by kernel_rfl
theorem Tryd.kindP (w : World) : ((ReflectliteType.abiMethod fun t => (fun a : Nat => Value.int IntKind.u8 (a : Int)) <$> Rtype.kind t) #[.pointer (some ⟨11, 53, none⟩)]).run Tryd.prog w = .ok (.int .u8 22) w := by kernel_rfl
theorem rlm (z : Sem Value) (f : TypeId → Addr → Nat → Nat → Sem Value) (v : Value) :
    ReflectliteValue.method z f #[v] = (do match ← ReflectliteValue.parts v with | none => z | some (t, a, fl) => f t a fl (fl % 32)) := rfl
theorem Tryd.partsPP (a : Addr) (w : World) : (ReflectliteValue.parts (.agg #[.pointer (some ⟨11, 55, none⟩), .pointer (some a), .int .u64 150])).run Tryd.prog w = .ok (some (55, a, 150)) w := by kernel_rfl
theorem Tryd.isNilPP (a p : Addr) (W : World) (ha : W.cell? a = some (.pointer (some p))) :
    (ReflectliteValue.method (ReflectliteValue.valueError "reflectlite.Value.IsNil" 0) ReflectliteValue.isNil #[.agg #[.pointer (some ⟨11, 55, none⟩), .pointer (some a), .int .u64 150]]).run Tryd.prog W = .ok (.bool false) W := by
  rw [rlm]
  simp only [Sem.run_bind, Tryd.partsPP, Result.andThen]
  simp [ReflectliteValue.isNil, loadVar, isAgg, underlying, Tryd.underlying55, ha, Result.andThen]
theorem Tryd.methodElem (h : Value) (w : World) : (Go.method 251 96 (.agg #[h]) "Elem").run Tryd.prog w = .ok (98, .agg #[h]) w := by kernel_rfl
theorem Tryd.methodImplements (h : Value) (w : World) : (Go.method 251 96 (.agg #[h]) "Implements").run Tryd.prog w = .ok (99, .agg #[h]) w := by kernel_rfl
theorem Tryd.methodAssignableTo (h : Value) (w : World) : (Go.method 251 96 (.agg #[h]) "AssignableTo").run Tryd.prog w = .ok (96, .agg #[h]) w := by kernel_rfl
theorem Tryd.elemPP (w : World) : (ReflectliteType.method ReflectliteType.elem #[.agg #[.pointer (some ⟨11, 55, none⟩)]]).run Tryd.prog w = .ok (.iface 96 (.agg #[.pointer (some ⟨11, 53, none⟩)])) w := by kernel_rfl
theorem Tryd.implementsP (w : World) : (ReflectliteType.relation "Implements" ReflectliteType.implements_ #[.agg #[.pointer (some ⟨11, 53, none⟩)], .iface 96 (.agg #[.pointer (some ⟨11, 25, none⟩)])]).run Tryd.prog w = .ok (.bool true) w := by kernel_rfl
theorem Tryd.assignableE (w : World) : (ReflectliteType.relation "AssignableTo" ReflectliteType.assignableTo #[.agg #[.pointer (some ⟨11, 118, none⟩)], .iface 96 (.agg #[.pointer (some ⟨11, 53, none⟩)])]).run Tryd.prog w = .ok (.bool false) w := by kernel_rfl

set_option maxHeartbeats 4000000 in
/-- An error of errors.New's make is no *api.Fault. -/
theorem as_miss (e t : Addr) (w : World) (hg : w.cell? ⟨8, 0, none⟩ = some (.iface 96 (.agg #[.pointer (some ⟨11, 25, none⟩)]))) :
    Calls Tryd.prog 25 #[.iface 118 (.pointer (some e)), .iface 55 (.pointer (some t))] w fun ev w' => ev = .returned (.bool false) ∧ Below w.heap.size w w' := by
  have h6 := @run_callFunc_extern Tryd.prog 43 _ (fun args => ReflectliteValue.unpack (args.getD 0 (.tuple #[]))) Tryd.func43 (by kernel_rfl) (by kernel_rfl) (by kernel_rfl) (by kernel_rfl)
  have h7 := @run_callFunc_extern Tryd.prog 44 _ (ReflectliteValue.methodAny (ReflectliteValue.valueError "reflectlite.Value.Type" 0) (fun t _ _ _ => ReflectliteType.toType t)) Tryd.func44 (by kernel_rfl) (by kernel_rfl) (by kernel_rfl) (by kernel_rfl)
  have h8 := @run_callFunc_extern Tryd.prog 45 _ (ReflectliteValue.method (ReflectliteValue.valueError "reflectlite.Value.IsNil" 0) ReflectliteValue.isNil) Tryd.func45 (by kernel_rfl) (by kernel_rfl) (by kernel_rfl) (by kernel_rfl)
  have h27 := @run_callFunc_extern Tryd.prog 86 _ (ReflectliteType.abiMethod fun t => do pure (.int .u8 (← Rtype.kind t))) Tryd.func86 (by kernel_rfl) (by kernel_rfl) (by kernel_rfl) (by kernel_rfl)
  have h37 := @run_callFunc_extern Tryd.prog 98 _ (ReflectliteType.method ReflectliteType.elem) Tryd.func98 (by kernel_rfl) (by kernel_rfl) (by kernel_rfl) (by kernel_rfl)
  have h38 := @run_callFunc_extern Tryd.prog 99 _ (ReflectliteType.relation "Implements" ReflectliteType.implements_) Tryd.func99 (by kernel_rfl) (by kernel_rfl) (by kernel_rfl) (by kernel_rfl)
  have h10 := @run_callFunc_extern Tryd.prog 47 _ ReflectliteType.typeOf Tryd.func47 (by kernel_rfl) (by kernel_rfl) (by kernel_rfl) (by kernel_rfl)
  have h35 := @run_callFunc_extern Tryd.prog 96 _ (ReflectliteType.relation "AssignableTo" ReflectliteType.assignableTo) Tryd.func96 (by kernel_rfl) (by kernel_rfl) (by kernel_rfl) (by kernel_rfl)
  have tO := Tryd.isTypeOf
  have mA := Tryd.methodAssignableTo
  have a25 := Tryd.assignableE
  have f6 := Tryd.valueOfPP
  have f7 := Tryd.typePP
  have mK := Tryd.methodKind
  have mE := Tryd.methodElem
  have mI := Tryd.methodImplements
  have k27 := Tryd.kindPP
  have k25 := Tryd.kindP
  have e27 := Tryd.elemPP
  have i25 := Tryd.implementsP
  have nA := Tryd.noAsE
  have uE := Tryd.noUnwrapE
  have vE := Tryd.noUnwrapsE
  have n8 := Tryd.isNilPP ⟨w.heap.size, 0, none⟩ t ((w.alloc (.cells #[.pointer (some t)] 55)).alloc (.cells #[.pointer (some ⟨11, 55, none⟩), .pointer (some ⟨w.heap.size, 0, none⟩), .int .u64 150] 76)) (by simp)
  have hlt : 8 < w.heap.size := World.block_lt_of_cell? w _ hg
  have hg2 : ((w.alloc (.cells #[.pointer (some t)] 55)).alloc (.cells #[.pointer (some ⟨11, 55, none⟩), .pointer (some ⟨w.heap.size, 0, none⟩), .int .u64 150] 76)).cell? ⟨8, 0, none⟩ = some (.iface 96 (.agg #[.pointer (some ⟨11, 25, none⟩)])) := by
    rw [World.cell?_alloc_lt _ _ ⟨8, 0, none⟩ (by simp; omega), World.cell?_alloc_lt _ _ ⟨8, 0, none⟩ hlt]; exact hg
  go_enter Tryd.func25, Tryd.ntmps25
  go_wp2
  refine wp_loop_rounds 1 ?_
  rw [rounds_succ]
  go_wp2
  go_ret
  exact ⟨rfl, (((Below.refl _ _).alloc (Nat.le_refl _) _).alloc (by simp) _).alloc (by simp; omega) _⟩

end Go.Proofs.YtmeaemjdmjhmdaaDoor

/- plain.Code at nil and at the bare errors of package api. -/
namespace Go.Proofs.YtmeaemjdmjhmdaaDoor
open Go.RowKit Go.Extern.Stop Go.Stop Go.Extern

/-- The k-th error of plain.Code's list: its package-level variable. -/
def gvar : Nat → Nat
  | 0 => 2
  | 1 => 0
  | 2 => 1
  | 3 => 3
  | 4 => 4
  | 5 => 5
  | 6 => 6
  | _ => 7

/-- The errors of package api as their initialisers lay them: eight different pointers. -/
structure Sents (w : World) (a : Nat → Addr) : Prop where
  cell : ∀ k, k < 8 → w.cell? ⟨gvar k, 0, none⟩ = some (.iface 118 (.pointer (some (a k))))
  row : ∀ k, k < 8 → ∃ c t, w.heap[(a k).block]? = some (.cells c t (0, 0))
  ne : ∀ i j, i < 8 → j < 8 → i ≠ j → a i ≠ a j
  errType : w.cell? ⟨8, 0, none⟩ = some (.iface 96 (.agg #[.pointer (some ⟨11, 25, none⟩)]))

theorem Sents.below {w w' : World} {a : Nat → Addr} (h : Sents w a) (hb : Below w.heap.size w w') : Sents w' a where
  cell k hk := (hb.cell (World.block_lt_of_cell? w _ (h.cell k hk))).trans (h.cell k hk)
  row k hk := by
    obtain ⟨c, t, e⟩ := h.row k hk
    exact ⟨c, t, (hb.block _ (lt_of_block e)).trans e⟩
  ne := h.ne
  errType := (hb.cell (World.block_lt_of_cell? w _ h.errType)).trans h.errType

set_option maxHeartbeats 400000 in
theorem code_nil (w : World) :
    Calls Tryd.prog 16 #[.nilIface] w fun e w' => e = .returned (.tuple #[.int .i64 0, .int .i64 (-1)]) ∧ Below w.heap.size w w' := by
  go_enter Tryd.func16, Tryd.ntmps16
  go_wp2
  go_ret2
  exact ⟨rfl, Below.refl _ _⟩

set_option maxHeartbeats 1000000 in
theorem code_sent (k : Nat) (hk : k < 8) (a : Nat → Addr) (w : World) (hS : Sents w a) :
    Calls Tryd.prog 16 #[.iface 118 (.pointer (some (a k)))] w fun e w' => e = .returned (.tuple #[.int .i64 (k + 1), .int .i64 (-1)]) ∧ Below w.heap.size w w' := by
  obtain ⟨x, hx⟩ : ∃ x, x = a k := ⟨_, rfl⟩
  rw [← hx]
  have Hx := hide hx
  clear hx
  go_enter Tryd.func16, Tryd.ntmps16
  go_wp2_with fail
  refine (as_miss x _ _ ?_).mono ?_
  · exact (hS.below ((Below.refl _ _).alloc (Nat.le_refl _) _)).errType
  rintro e w1 ⟨rfl, hb1⟩
  have hb2 : Below w.heap.size w w1 := ((Below.refl _ _).alloc (Nat.le_refl _) _).trans (hb1.mono (by simp))
  have hS1 := hS.below hb2
  have e0 : w1.cell? ⟨2, 0, none⟩ = some (.iface 118 (.pointer (some (a 0)))) := hS1.cell 0 (by omega)
  have e1 : w1.cell? ⟨0, 0, none⟩ = some (.iface 118 (.pointer (some (a 1)))) := hS1.cell 1 (by omega)
  have e2 : w1.cell? ⟨1, 0, none⟩ = some (.iface 118 (.pointer (some (a 2)))) := hS1.cell 2 (by omega)
  have e3 : w1.cell? ⟨3, 0, none⟩ = some (.iface 118 (.pointer (some (a 3)))) := hS1.cell 3 (by omega)
  have e4 : w1.cell? ⟨4, 0, none⟩ = some (.iface 118 (.pointer (some (a 4)))) := hS1.cell 4 (by omega)
  have e5 : w1.cell? ⟨5, 0, none⟩ = some (.iface 118 (.pointer (some (a 5)))) := hS1.cell 5 (by omega)
  have e6 : w1.cell? ⟨6, 0, none⟩ = some (.iface 118 (.pointer (some (a 6)))) := hS1.cell 6 (by omega)
  have e7 : w1.cell? ⟨7, 0, none⟩ = some (.iface 118 (.pointer (some (a 7)))) := hS1.cell 7 (by omega)
  have hcell : ∀ j, j < 8 → (w1.alloc (.cells #[.iface 118 (.pointer (some (a 0))), .iface 118 (.pointer (some (a 1))), .iface 118 (.pointer (some (a 2))), .iface 118 (.pointer (some (a 3))), .iface 118 (.pointer (some (a 4))), .iface 118 (.pointer (some (a 5))), .iface 118 (.pointer (some (a 6))), .iface 118 (.pointer (some (a 7)))] 25)).cell? ⟨w1.heap.size, j, none⟩ = some (.iface 118 (.pointer (some (a j)))) := by
    intro j hj
    rw [World.cell?_alloc_at _ _ _ _ rfl]
    match j, hj with
    | 0, _ => rfl
    | 1, _ => rfl
    | 2, _ => rfl
    | 3, _ => rfl
    | 4, _ => rfl
    | 5, _ => rfl
    | 6, _ => rfl
    | 7, _ => rfl
  have hb3 : Below w.heap.size w (w1.alloc (.cells #[.iface 118 (.pointer (some (a 0))), .iface 118 (.pointer (some (a 1))), .iface 118 (.pointer (some (a 2))), .iface 118 (.pointer (some (a 3))), .iface 118 (.pointer (some (a 4))), .iface 118 (.pointer (some (a 5))), .iface 118 (.pointer (some (a 6))), .iface 118 (.pointer (some (a 7)))] 25)) := hb2.alloc hb2.size _
  have hS3 : Sents (w1.alloc (.cells #[.iface 118 (.pointer (some (a 0))), .iface 118 (.pointer (some (a 1))), .iface 118 (.pointer (some (a 2))), .iface 118 (.pointer (some (a 3))), .iface 118 (.pointer (some (a 4))), .iface 118 (.pointer (some (a 5))), .iface 118 (.pointer (some (a 6))), .iface 118 (.pointer (some (a 7)))] 25)) a := hS1.below ((Below.refl _ _).alloc (Nat.le_refl _) _)
  go_wp2_with fail
  obtain ⟨W, hW⟩ : ∃ W, W = w1.alloc (.cells #[.iface 118 (.pointer (some (a 0))), .iface 118 (.pointer (some (a 1))), .iface 118 (.pointer (some (a 2))), .iface 118 (.pointer (some (a 3))), .iface 118 (.pointer (some (a 4))), .iface 118 (.pointer (some (a 5))), .iface 118 (.pointer (some (a 6))), .iface 118 (.pointer (some (a 7)))] 25) := ⟨_, rfl⟩
  rw [← hW] at hcell hb3 hS3 ⊢
  clear hW e0 e1 e2 e3 e4 e5 e6 e7 hS1
  go_loop [3, 26] (fun at' i => ∃ j : Nat, j ≤ k ∧ i = .int .i64 j ∧ at' = .int .i64 (-1)) (fun _ i => 8 - (intOf i).toNat)
  case atStart => exact ⟨0, Nat.zero_le _, rfl, rfl⟩
  case round =>
    obtain ⟨j, hj, rfl, rfl⟩ := hrel
    have hj8 : j < 8 := by omega
    obtain ⟨y, hy⟩ : ∃ y, y = a j := ⟨_, rfl⟩
    have hcj := hcell j hj8
    rw [← hy] at hcj
    have Hy := hide hy
    have Hcell := hide hcell
    clear hy hcell
    by_cases hjk : j = k
    · have Hjk := hide hjk
      have hxy : x = y := by rw [Hx.out, Hy.out, hjk]
      clear hjk
      rw [hxy]
      go_wp2_with fail
      refine (is_same y _).mono ?_
      rintro e w2 ⟨rfl, rfl⟩
      go_wp2_with fail
      go_ret2
      exact ⟨by rw [← Hjk.out]; simp, hb3⟩
    · have hne : x ≠ y := by rw [Hx.out, Hy.out]; exact hS3.ne k j hk hj8 (fun h => hjk h.symm)
      obtain ⟨c1, t1, r1⟩ := hS3.row k hk
      obtain ⟨c2, t2, r2⟩ := hS3.row j hj8
      rw [← Hx.out] at r1
      rw [← Hy.out] at r2
      have R1 := hide r1
      have R2 := hide r2
      clear r1 r2
      go_wp2_with fail
      refine (is_other x y c1 c2 t1 t2 _ hne R1.out R2.out).mono ?_
      rintro e w2 ⟨rfl, rfl⟩
      go_wp2_with fail
      go_round
      case rel => exact ⟨j + 1, by omega, by go_num, rfl⟩
      case measure => simp [intOf]; omega

/-- coded at nil. -/
theorem coded_nil (c : Int) (w : World) :
    Calls Tryd.prog 7 #[.nilIface, .int .i64 c] w fun e w' => e = .returned (.bool (decide (0 = c))) ∧ Below w.heap.size w w' := by
  by_cases h : 0 = c
  · subst h
    go_enter Tryd.func7, Tryd.ntmps7
    go_wp2_with (go_at_call 16; refine (code_nil _).mono ?_; rintro e w1 ⟨rfl, hb1⟩)
    go_ret
    exact ⟨rfl, hb1⟩
  · have hd : (0 == c) = false := by simp [h]
    have Hd := hide h
    clear h
    go_enter Tryd.func7, Tryd.ntmps7
    go_wp2_with (go_at_call 16; refine (code_nil _).mono ?_; rintro e w1 ⟨rfl, hb1⟩)
    go_ret
    exact ⟨by simp [Hd.out], hb1⟩

/-- coded at the k-th bare error. -/
theorem coded_sent (k : Nat) (hk : k < 8) (c : Int) (a : Nat → Addr) (x : Addr) (Hx : Hid (x = a k)) (w : World) (hS : Sents w a) :
    Calls Tryd.prog 7 #[.iface 118 (.pointer (some x)), .int .i64 c] w fun e w' => e = .returned (.bool (decide ((k : Int) + 1 = c))) ∧ Below w.heap.size w w' := by
  by_cases h : (k : Int) + 1 = c
  · have hd : ((k : Int) + 1 == c) = true := by simp [h]
    have Hd := hide h
    clear h
    go_enter Tryd.func7, Tryd.ntmps7
    go_wp2_with fail
    rw [Hx.out]
    refine (code_sent k hk a _ hS).mono ?_
    rintro e w1 ⟨rfl, hb1⟩
    go_wp2_with fail
    go_ret
    exact ⟨by simp [Hd.out], hb1⟩
  · have hd : ((k : Int) + 1 == c) = false := by simp [h]
    have Hd := hide h
    clear h
    go_enter Tryd.func7, Tryd.ntmps7
    go_wp2_with fail
    rw [Hx.out]
    refine (code_sent k hk a _ hS).mono ?_
    rintro e w1 ⟨rfl, hb1⟩
    go_wp2_with fail
    go_ret
    exact ⟨by simp [Hd.out], hb1⟩

end Go.Proofs.YtmeaemjdmjhmdaaDoor
