/- The copy of a list of ints. -/
import Derived.Test.YtegibkjopkakhaaDoorKz
import Derived.Laws.AppendOwnNone
import Derived.LaidEql
import Derived.Stop.Asserts
import Derived.RowKitTokens
namespace Go.Proofs.YtegibkjopkakhaaDoor
open Go.RowKit

end Go.Proofs.YtegibkjopkakhaaDoor

/- errors.As and errors.Is at the errors of package api: errors of errors.New's make. Go's own text of both is walked. -/
namespace Go.Proofs.YtegibkjopkakhaaDoor
open Go.RowKit Go.Extern.Stop Go.Stop Go.Extern

theorem Tryd.isTypeOf (v : Value) (w : World) : (Extern.ReflectliteType.typeOf #[.iface 103 v]).run Tryd.prog w = .ok (.iface 89 (.agg #[.pointer (some ⟨9, 103, none⟩)])) w := by kernel_rfl
theorem Tryd.isComparable (w : World) : ((Extern.ReflectliteType.method fun t => do Rtype.noPackHeld "Comparable" t; (fun a => Value.bool a.comparable) <$> typeInfo t) #[.agg #[.pointer (some ⟨9, 103, none⟩)]]).run Tryd.prog w = .ok (.bool true) w := by kernel_rfl
theorem Tryd.isMethodComparable (v : Value) (w : World) : (Go.method 237 89 v "Comparable").run Tryd.prog w = .ok (90, v) w := by kernel_rfl
theorem Tryd.isComp : (Tryd.prog.info? 103).map (·.comparable) = some true := by kernel_rfl
theorem Tryd.isSize : (Tryd.prog.info? 125).map (·.size) = some 1 := by kernel_rfl
theorem Tryd.noIsE (v : Value) (xT : TypeId) (w : World) : (Instr.typeAssert (.iface 103 v) xT 100 true).run Tryd.prog w = .ok (.tuple #[.nilIface, .bool false]) w := run_typeAssert_lacksB Tryd.underlying100 (by kernel_rfl) (by kernel_rfl) v xT w
theorem Tryd.noUnwrapE (v : Value) (xT : TypeId) (w : World) : (Instr.typeAssert (.iface 103 v) xT 96 true).run Tryd.prog w = .ok (.tuple #[.nilIface, .bool false]) w := run_typeAssert_lacksB Tryd.underlying96 (by kernel_rfl) (by kernel_rfl) v xT w
theorem Tryd.noUnwrapsE (v : Value) (xT : TypeId) (w : World) : (Instr.typeAssert (.iface 103 v) xT 98 true).run Tryd.prog w = .ok (.tuple #[.nilIface, .bool false]) w := run_typeAssert_lacksB Tryd.underlying98 (by kernel_rfl) (by kernel_rfl) v xT w
theorem Tryd.noAsE (v : Value) (xT : TypeId) (w : World) : (Instr.typeAssert (.iface 103 v) xT 93 true).run Tryd.prog w = .ok (.tuple #[.nilIface, .bool false]) w := run_typeAssert_lacksB Tryd.underlying93 (by kernel_rfl) (by kernel_rfl) v xT w

/-- errors.Is(x, x). -/
theorem is_same (a : Addr) (w : World) :
    Calls Tryd.prog 57 #[.iface 103 (.pointer (some a)), .iface 103 (.pointer (some a))] w fun e w' => e = .returned (.bool true) ∧ w' = w := by
  obtain ⟨i, hi, hcmp⟩ := Option.map_eq_some_iff.1 Tryd.isComp
  obtain ⟨j, hj, hjs⟩ := Option.map_eq_some_iff.1 Tryd.isSize
  have h8 := @run_callFunc_extern Tryd.prog 62 _ Extern.ReflectliteType.typeOf Tryd.func62 (by kernel_rfl) (by kernel_rfl) (by kernel_rfl) (by kernel_rfl)
  have h32 := @run_callFunc_extern Tryd.prog 90 _ (Extern.ReflectliteType.method fun t => do Rtype.noPackHeld "Comparable" t; pure (.bool (← typeInfo t).comparable)) Tryd.func90 (by kernel_rfl) (by kernel_rfl) (by kernel_rfl) (by kernel_rfl)
  have tT := Tryd.isTypeOf
  have cT := Tryd.isComparable
  have mR := Tryd.isMethodComparable
  have heq := run_eql_iface_ptr_same (P := Tryd.prog) w a Tryd.underlying27 Tryd.underlying103 hi hcmp hj
  go_enter Tryd.func57, Tryd.ntmps57
  go_wp2
  refine wp_loop_rounds 1 ?_
  rw [rounds_succ]
  go_wp2
  go_ret
  exact ⟨rfl, rfl⟩

/-- errors.Is(x, y), two different errors of errors.New's make. -/
theorem is_other (a b : Addr) (ca cb : Array Value) (ta tb : TypeId) (w : World) (hne : a ≠ b) (ha : w.heap[a.block]? = some (.cells ca ta (0, 0))) (hb : w.heap[b.block]? = some (.cells cb tb (0, 0))) :
    Calls Tryd.prog 57 #[.iface 103 (.pointer (some a)), .iface 103 (.pointer (some b))] w fun e w' => e = .returned (.bool false) ∧ w' = w := by
  obtain ⟨i, hi, hcmp⟩ := Option.map_eq_some_iff.1 Tryd.isComp
  obtain ⟨j, hj, hjs⟩ := Option.map_eq_some_iff.1 Tryd.isSize
  have h8 := @run_callFunc_extern Tryd.prog 62 _ Extern.ReflectliteType.typeOf Tryd.func62 (by kernel_rfl) (by kernel_rfl) (by kernel_rfl) (by kernel_rfl)
  have h32 := @run_callFunc_extern Tryd.prog 90 _ (Extern.ReflectliteType.method fun t => do Rtype.noPackHeld "Comparable" t; pure (.bool (← typeInfo t).comparable)) Tryd.func90 (by kernel_rfl) (by kernel_rfl) (by kernel_rfl) (by kernel_rfl)
  have tT := Tryd.isTypeOf
  have cT := Tryd.isComparable
  have mR := Tryd.isMethodComparable
  have nE := Tryd.noIsE
  have uE := Tryd.noUnwrapE
  have vE := Tryd.noUnwrapsE
  have heq := run_eql_iface_ptr_other (P := Tryd.prog) w Tryd.underlying27 Tryd.underlying103 hi hcmp hj (by rw [hjs]; decide) hne ha hb
  go_enter Tryd.func57, Tryd.ntmps57
  go_wp2
  refine wp_loop_rounds 1 ?_
  rw [rounds_succ]
  go_wp2
  go_ret
  exact ⟨rfl, rfl⟩

end Go.Proofs.YtegibkjopkakhaaDoor

/- errors.As at an error of errors.New's make, the target a *api.Fault variable: false. Go's own text is walked. -/
namespace Go.Proofs.YtegibkjopkakhaaDoor
open Go.RowKit Go.Extern.Stop Go.Stop Go.Extern

/-- errors.As(nil, target). -/
theorem as_nil (t : Value) (w : World) :
    Calls Tryd.prog 56 #[.nilIface, t] w fun e w' => e = .returned (.bool false) ∧ w' = w := by
  go_enter Tryd.func56, Tryd.ntmps56
  go_wp2
  go_ret
  exact ⟨rfl, rfl⟩

theorem Tryd.valueOfPP (t : Addr) (w : World) : (ReflectliteValue.unpack (.iface 69 (.pointer (some t)))).run Tryd.prog w
    = .ok (.agg #[.pointer (some ⟨9, 69, none⟩), .pointer (some ⟨w.heap.size, 0, none⟩), .int .u64 150]) (w.alloc (.cells #[.pointer (some t)] 69)) := by kernel_rfl
theorem Tryd.typePP (a : Addr) (w : World) : (ReflectliteValue.methodAny (ReflectliteValue.valueError "reflectlite.Value.Type" 0) (fun t _ _ _ => ReflectliteType.toType t) #[.agg #[.pointer (some ⟨9, 69, none⟩), .pointer (some a), .int .u64 150]]).run Tryd.prog w
    = .ok (.iface 89 (.agg #[.pointer (some ⟨9, 69, none⟩)])) w := by kernel_rfl
theorem Tryd.methodKind (h : Value) (w : World) : (Go.method 237 89 (.agg #[h]) "Kind").run Tryd.prog w = .ok (80, h) w := by kernel_rfl
theorem Tryd.kindPP (w : World) : ((ReflectliteType.abiMethod fun t => (fun a : Nat => Value.int IntKind.u8 (a : Int)) <$> Rtype.kind t) #[.pointer (some ⟨9, 69, none⟩)]).run Tryd.prog w = .ok (.int .u8 22) w := by kernel_rfl
theorem Tryd.kindP (w : World) : ((ReflectliteType.abiMethod fun t => (fun a : Nat => Value.int IntKind.u8 (a : Int)) <$> Rtype.kind t) #[.pointer (some ⟨9, 67, none⟩)]).run Tryd.prog w = .ok (.int .u8 22) w := by kernel_rfl
theorem rlm (z : Sem Value) (f : TypeId → Addr → Nat → Nat → Sem Value) (v : Value) :
    ReflectliteValue.method z f #[v] = (do match ← ReflectliteValue.parts v with | none => z | some (t, a, fl) => f t a fl (fl % 32)) := rfl
theorem Tryd.partsPP (a : Addr) (w : World) : (ReflectliteValue.parts (.agg #[.pointer (some ⟨9, 69, none⟩), .pointer (some a), .int .u64 150])).run Tryd.prog w = .ok (some (69, a, 150)) w := by kernel_rfl
theorem Tryd.isNilPP (a p : Addr) (W : World) (ha : W.cell? a = some (.pointer (some p))) :
    (ReflectliteValue.method (ReflectliteValue.valueError "reflectlite.Value.IsNil" 0) ReflectliteValue.isNil #[.agg #[.pointer (some ⟨9, 69, none⟩), .pointer (some a), .int .u64 150]]).run Tryd.prog W = .ok (.bool false) W := by
  rw [rlm]
  simp only [Sem.run_bind, Tryd.partsPP, Result.andThen]
  simp [ReflectliteValue.isNil, loadVar, isAgg, underlying, Tryd.underlying69, ha, Result.andThen]
theorem Tryd.methodElem (h : Value) (w : World) : (Go.method 237 89 (.agg #[h]) "Elem").run Tryd.prog w = .ok (91, .agg #[h]) w := by kernel_rfl
theorem Tryd.methodImplements (h : Value) (w : World) : (Go.method 237 89 (.agg #[h]) "Implements").run Tryd.prog w = .ok (92, .agg #[h]) w := by kernel_rfl
theorem Tryd.methodAssignableTo (h : Value) (w : World) : (Go.method 237 89 (.agg #[h]) "AssignableTo").run Tryd.prog w = .ok (89, .agg #[h]) w := by kernel_rfl
theorem Tryd.elemPP (w : World) : (ReflectliteType.method ReflectliteType.elem #[.agg #[.pointer (some ⟨9, 69, none⟩)]]).run Tryd.prog w = .ok (.iface 89 (.agg #[.pointer (some ⟨9, 67, none⟩)])) w := by kernel_rfl
theorem Tryd.implementsP (w : World) : (ReflectliteType.relation "Implements" ReflectliteType.implements_ #[.agg #[.pointer (some ⟨9, 67, none⟩)], .iface 89 (.agg #[.pointer (some ⟨9, 27, none⟩)])]).run Tryd.prog w = .ok (.bool true) w := by kernel_rfl
theorem Tryd.assignableE (w : World) : (ReflectliteType.relation "AssignableTo" ReflectliteType.assignableTo #[.agg #[.pointer (some ⟨9, 103, none⟩)], .iface 89 (.agg #[.pointer (some ⟨9, 67, none⟩)])]).run Tryd.prog w = .ok (.bool false) w := by kernel_rfl

set_option maxHeartbeats 4000000 in
/-- An error of errors.New's make is no *api.Fault. -/
theorem as_miss (e t : Addr) (w : World) (hg : w.cell? ⟨8, 0, none⟩ = some (.iface 89 (.agg #[.pointer (some ⟨9, 27, none⟩)]))) :
    Calls Tryd.prog 56 #[.iface 103 (.pointer (some e)), .iface 69 (.pointer (some t))] w fun ev w' => ev = .returned (.bool false) ∧ Below w.heap.size w w' := by
  have h6 := @run_callFunc_extern Tryd.prog 58 _ (fun args => ReflectliteValue.unpack (args.getD 0 (.tuple #[]))) Tryd.func58 (by kernel_rfl) (by kernel_rfl) (by kernel_rfl) (by kernel_rfl)
  have h7 := @run_callFunc_extern Tryd.prog 59 _ (ReflectliteValue.methodAny (ReflectliteValue.valueError "reflectlite.Value.Type" 0) (fun t _ _ _ => ReflectliteType.toType t)) Tryd.func59 (by kernel_rfl) (by kernel_rfl) (by kernel_rfl) (by kernel_rfl)
  have h8 := @run_callFunc_extern Tryd.prog 60 _ (ReflectliteValue.method (ReflectliteValue.valueError "reflectlite.Value.IsNil" 0) ReflectliteValue.isNil) Tryd.func60 (by kernel_rfl) (by kernel_rfl) (by kernel_rfl) (by kernel_rfl)
  have h27 := @run_callFunc_extern Tryd.prog 80 _ (ReflectliteType.abiMethod fun t => do pure (.int .u8 (← Rtype.kind t))) Tryd.func80 (by kernel_rfl) (by kernel_rfl) (by kernel_rfl) (by kernel_rfl)
  have h37 := @run_callFunc_extern Tryd.prog 91 _ (ReflectliteType.method ReflectliteType.elem) Tryd.func91 (by kernel_rfl) (by kernel_rfl) (by kernel_rfl) (by kernel_rfl)
  have h38 := @run_callFunc_extern Tryd.prog 92 _ (ReflectliteType.relation "Implements" ReflectliteType.implements_) Tryd.func92 (by kernel_rfl) (by kernel_rfl) (by kernel_rfl) (by kernel_rfl)
  have h10 := @run_callFunc_extern Tryd.prog 62 _ ReflectliteType.typeOf Tryd.func62 (by kernel_rfl) (by kernel_rfl) (by kernel_rfl) (by kernel_rfl)
  have h35 := @run_callFunc_extern Tryd.prog 89 _ (ReflectliteType.relation "AssignableTo" ReflectliteType.assignableTo) Tryd.func89 (by kernel_rfl) (by kernel_rfl) (by kernel_rfl) (by kernel_rfl)
  have tO := Tryd.isTypeOf
  have mA := Tryd.methodAssignableTo
  have a25 := Tryd.assignableE
  have f6 := Tryd.valueOfPP
  have f7 := Tryd.typePP
  have mK := Tryd.methodKind
  have mE := Tryd.methodElem
  have mI := Tryd.methodImplements
  have k27 := Tryd.kindPP
  have k25 := Tryd.kindP
  have e27 := Tryd.elemPP
  have i25 := Tryd.implementsP
  have nA := Tryd.noAsE
  have uE := Tryd.noUnwrapE
  have vE := Tryd.noUnwrapsE
  have n8 := Tryd.isNilPP ⟨w.heap.size, 0, none⟩ t ((w.alloc (.cells #[.pointer (some t)] 69)).alloc (.cells #[.pointer (some ⟨9, 69, none⟩), .pointer (some ⟨w.heap.size, 0, none⟩), .int .u64 150] 77)) (by simp)
  have hlt : 8 < w.heap.size := World.block_lt_of_cell? w _ hg
  have hg2 : ((w.alloc (.cells #[.pointer (some t)] 69)).alloc (.cells #[.pointer (some ⟨9, 69, none⟩), .pointer (some ⟨w.heap.size, 0, none⟩), .int .u64 150] 77)).cell? ⟨8, 0, none⟩ = some (.iface 89 (.agg #[.pointer (some ⟨9, 27, none⟩)])) := by
    rw [World.cell?_alloc_lt _ _ ⟨8, 0, none⟩ (by simp; omega), World.cell?_alloc_lt _ _ ⟨8, 0, none⟩ hlt]; exact hg
  go_enter Tryd.func56, Tryd.ntmps56
  go_wp2
  refine wp_loop_rounds 1 ?_
  rw [rounds_succ]
  go_wp2
  go_ret
  exact ⟨rfl, (((Below.refl _ _).alloc (Nat.le_refl _) _).alloc (by simp) _).alloc (by simp; omega) _⟩

end Go.Proofs.YtegibkjopkakhaaDoor

/- plain.Code at nil and at the bare errors of package api. -/
namespace Go.Proofs.YtegibkjopkakhaaDoor
open Go.RowKit Go.Extern.Stop Go.Stop Go.Extern

/-- The k-th error of plain.Code's list: its package-level variable. -/
def gvar : Nat → Nat
  | 0 => 2
  | 1 => 1
  | 2 => 0
  | 3 => 3
  | 4 => 4
  | 5 => 5
  | 6 => 6
  | _ => 7

/-- The errors of package api as their initialisers lay them: eight different pointers. -/
structure Sents (w : World) (a : Nat → Addr) : Prop where
  cell : ∀ k, k < 8 → w.cell? ⟨gvar k, 0, none⟩ = some (.iface 103 (.pointer (some (a k))))
  row : ∀ k, k < 8 → ∃ c t, w.heap[(a k).block]? = some (.cells c t (0, 0))
  ne : ∀ i j, i < 8 → j < 8 → i ≠ j → a i ≠ a j
  errType : w.cell? ⟨8, 0, none⟩ = some (.iface 89 (.agg #[.pointer (some ⟨9, 27, none⟩)]))

theorem Sents.below {w w' : World} {a : Nat → Addr} (h : Sents w a) (hb : Below w.heap.size w w') : Sents w' a where
  cell k hk := (hb.cell (World.block_lt_of_cell? w _ (h.cell k hk))).trans (h.cell k hk)
  row k hk := by
    obtain ⟨c, t, e⟩ := h.row k hk
    exact ⟨c, t, (hb.block _ (lt_of_block e)).trans e⟩
  ne := h.ne
  errType := (hb.cell (World.block_lt_of_cell? w _ h.errType)).trans h.errType

set_option maxHeartbeats 400000 in
theorem code_nil (w : World) :
    Calls Tryd.prog 50 #[.nilIface] w fun e w' => e = .returned (.tuple #[.int .i64 0, .int .i64 (-1)]) ∧ Below w.heap.size w w' := by
  go_enter Tryd.func50, Tryd.ntmps50
  go_wp2
  go_ret2
  exact ⟨rfl, Below.refl _ _⟩

set_option maxHeartbeats 1000000 in
theorem code_sent (k : Nat) (hk : k < 8) (a : Nat → Addr) (w : World) (hS : Sents w a) :
    Calls Tryd.prog 50 #[.iface 103 (.pointer (some (a k)))] w fun e w' => e = .returned (.tuple #[.int .i64 (k + 1), .int .i64 (-1)]) ∧ Below w.heap.size w w' := by
  obtain ⟨x, hx⟩ : ∃ x, x = a k := ⟨_, rfl⟩
  rw [← hx]
  have Hx := hide hx
  clear hx
  go_enter Tryd.func50, Tryd.ntmps50
  go_wp2_with fail
  refine (as_miss x _ _ ?_).mono ?_
  · exact (hS.below ((Below.refl _ _).alloc (Nat.le_refl _) _)).errType
  rintro e w1 ⟨rfl, hb1⟩
  have hb2 : Below w.heap.size w w1 := ((Below.refl _ _).alloc (Nat.le_refl _) _).trans (hb1.mono (by simp))
  have hS1 := hS.below hb2
  have e0 : w1.cell? ⟨2, 0, none⟩ = some (.iface 103 (.pointer (some (a 0)))) := hS1.cell 0 (by omega)
  have e1 : w1.cell? ⟨1, 0, none⟩ = some (.iface 103 (.pointer (some (a 1)))) := hS1.cell 1 (by omega)
  have e2 : w1.cell? ⟨0, 0, none⟩ = some (.iface 103 (.pointer (some (a 2)))) := hS1.cell 2 (by omega)
  have e3 : w1.cell? ⟨3, 0, none⟩ = some (.iface 103 (.pointer (some (a 3)))) := hS1.cell 3 (by omega)
  have e4 : w1.cell? ⟨4, 0, none⟩ = some (.iface 103 (.pointer (some (a 4)))) := hS1.cell 4 (by omega)
  have e5 : w1.cell? ⟨5, 0, none⟩ = some (.iface 103 (.pointer (some (a 5)))) := hS1.cell 5 (by omega)
  have e6 : w1.cell? ⟨6, 0, none⟩ = some (.iface 103 (.pointer (some (a 6)))) := hS1.cell 6 (by omega)
  have e7 : w1.cell? ⟨7, 0, none⟩ = some (.iface 103 (.pointer (some (a 7)))) := hS1.cell 7 (by omega)
  have hcell : ∀ j, j < 8 → (w1.alloc (.cells #[.iface 103 (.pointer (some (a 0))), .iface 103 (.pointer (some (a 1))), .iface 103 (.pointer (some (a 2))), .iface 103 (.pointer (some (a 3))), .iface 103 (.pointer (some (a 4))), .iface 103 (.pointer (some (a 5))), .iface 103 (.pointer (some (a 6))), .iface 103 (.pointer (some (a 7)))] 27)).cell? ⟨w1.heap.size, j, none⟩ = some (.iface 103 (.pointer (some (a j)))) := by
    intro j hj
    rw [World.cell?_alloc_at _ _ _ _ rfl]
    match j, hj with
    | 0, _ => rfl
    | 1, _ => rfl
    | 2, _ => rfl
    | 3, _ => rfl
    | 4, _ => rfl
    | 5, _ => rfl
    | 6, _ => rfl
    | 7, _ => rfl
  have hb3 : Below w.heap.size w (w1.alloc (.cells #[.iface 103 (.pointer (some (a 0))), .iface 103 (.pointer (some (a 1))), .iface 103 (.pointer (some (a 2))), .iface 103 (.pointer (some (a 3))), .iface 103 (.pointer (some (a 4))), .iface 103 (.pointer (some (a 5))), .iface 103 (.pointer (some (a 6))), .iface 103 (.pointer (some (a 7)))] 27)) := hb2.alloc hb2.size _
  have hS3 : Sents (w1.alloc (.cells #[.iface 103 (.pointer (some (a 0))), .iface 103 (.pointer (some (a 1))), .iface 103 (.pointer (some (a 2))), .iface 103 (.pointer (some (a 3))), .iface 103 (.pointer (some (a 4))), .iface 103 (.pointer (some (a 5))), .iface 103 (.pointer (some (a 6))), .iface 103 (.pointer (some (a 7)))] 27)) a := hS1.below ((Below.refl _ _).alloc (Nat.le_refl _) _)
  go_wp2_with fail
  obtain ⟨W, hW⟩ : ∃ W, W = w1.alloc (.cells #[.iface 103 (.pointer (some (a 0))), .iface 103 (.pointer (some (a 1))), .iface 103 (.pointer (some (a 2))), .iface 103 (.pointer (some (a 3))), .iface 103 (.pointer (some (a 4))), .iface 103 (.pointer (some (a 5))), .iface 103 (.pointer (some (a 6))), .iface 103 (.pointer (some (a 7)))] 27) := ⟨_, rfl⟩
  rw [← hW] at hcell hb3 hS3 ⊢
  clear hW e0 e1 e2 e3 e4 e5 e6 e7 hS1
  go_loop [3, 26] (fun at' i => ∃ j : Nat, j ≤ k ∧ i = .int .i64 j ∧ at' = .int .i64 (-1)) (fun _ i => 8 - (intOf i).toNat)
  case atStart => exact ⟨0, Nat.zero_le _, rfl, rfl⟩
  case round =>
    obtain ⟨j, hj, rfl, rfl⟩ := hrel
    have hj8 : j < 8 := by omega
    obtain ⟨y, hy⟩ : ∃ y, y = a j := ⟨_, rfl⟩
    have hcj := hcell j hj8
    rw [← hy] at hcj
    have Hy := hide hy
    have Hcell := hide hcell
    clear hy hcell
    by_cases hjk : j = k
    · have Hjk := hide hjk
      have hxy : x = y := by rw [Hx.out, Hy.out, hjk]
      clear hjk
      rw [hxy]
      go_wp2_with fail
      refine (is_same y _).mono ?_
      rintro e w2 ⟨rfl, rfl⟩
      go_wp2_with fail
      go_ret2
      exact ⟨by rw [← Hjk.out]; simp, hb3⟩
    · have hne : x ≠ y := by rw [Hx.out, Hy.out]; exact hS3.ne k j hk hj8 (fun h => hjk h.symm)
      obtain ⟨c1, t1, r1⟩ := hS3.row k hk
      obtain ⟨c2, t2, r2⟩ := hS3.row j hj8
      rw [← Hx.out] at r1
      rw [← Hy.out] at r2
      have R1 := hide r1
      have R2 := hide r2
      clear r1 r2
      go_wp2_with fail
      refine (is_other x y c1 c2 t1 t2 _ hne R1.out R2.out).mono ?_
      rintro e w2 ⟨rfl, rfl⟩
      go_wp2_with fail
      go_round
      case rel => exact ⟨j + 1, by omega, by go_num, rfl⟩
      case measure => simp [intOf]; omega

/-- coded at nil. -/
theorem coded_nil (c : Int) (w : World) :
    Calls Tryd.prog 33 #[.nilIface, .int .i64 c] w fun e w' => e = .returned (.bool (decide (0 = c))) ∧ Below w.heap.size w w' := by
  by_cases h : 0 = c
  · subst h
    go_enter Tryd.func33, Tryd.ntmps33
    go_wp2_with (go_at_call 50; refine (code_nil _).mono ?_; rintro e w1 ⟨rfl, hb1⟩)
    go_ret
    exact ⟨rfl, hb1⟩
  · have hd : (0 == c) = false := by simp [h]
    have Hd := hide h
    clear h
    go_enter Tryd.func33, Tryd.ntmps33
    go_wp2_with (go_at_call 50; refine (code_nil _).mono ?_; rintro e w1 ⟨rfl, hb1⟩)
    go_ret
    exact ⟨by simp [Hd.out], hb1⟩

/-- coded at the k-th bare error. -/
theorem coded_sent (k : Nat) (hk : k < 8) (c : Int) (a : Nat → Addr) (x : Addr) (Hx : Hid (x = a k)) (w : World) (hS : Sents w a) :
    Calls Tryd.prog 33 #[.iface 103 (.pointer (some x)), .int .i64 c] w fun e w' => e = .returned (.bool (decide ((k : Int) + 1 = c))) ∧ Below w.heap.size w w' := by
  by_cases h : (k : Int) + 1 = c
  · have hd : ((k : Int) + 1 == c) = true := by simp [h]
    have Hd := hide h
    clear h
    go_enter Tryd.func33, Tryd.ntmps33
    go_wp2_with fail
    rw [Hx.out]
    refine (code_sent k hk a _ hS).mono ?_
    rintro e w1 ⟨rfl, hb1⟩
    go_wp2_with fail
    go_ret
    exact ⟨by simp [Hd.out], hb1⟩
  · have hd : ((k : Int) + 1 == c) = false := by simp [h]
    have Hd := hide h
    clear h
    go_enter Tryd.func33, Tryd.ntmps33
    go_wp2_with fail
    rw [Hx.out]
    refine (code_sent k hk a _ hS).mono ?_
    rintro e w1 ⟨rfl, hb1⟩
    go_wp2_with fail
    go_ret
    exact ⟨by simp [Hd.out], hb1⟩

end Go.Proofs.YtegibkjopkakhaaDoor
