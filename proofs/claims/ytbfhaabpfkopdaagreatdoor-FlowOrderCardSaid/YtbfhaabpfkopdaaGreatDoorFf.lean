/- Graphs: points, as they are come to: flow.Order's closure walked. -/
import Derived.Test.YtbfhaabpfkopdaaGreatDoorFd
import Derived.Test.YtbfhaabpfkopdaaGreatDoorNz
import Derived.Laws.EntriesVeiled
namespace Go.Proofs.YtbfhaabpfkopdaaGreatDoor
open Go.RowKit
set_option linter.unusedVariables false

section
variable (w0 : World) (gb mb vb tb rb M0 n : Nat) (xv xa xe xh : Option Addr) (nv cv na ca ne ce nh ch : Nat) (P : Int) (E : List Eg)
/-- What a visit does. -/
def VisC (k : Nat) : Prop := ∀ (W : World) (p : Nat) (seen : List Bool) (told : List Int) (tv : Value), Vs w0 gb mb vb tb rb M0 n [.slice xv nv cv, .slice xa na ca, .int .i64 P, .slice xe ne ce, .slice xh nh ch] W seen told tv → p < n → seen.length = n → seen[p]? = some false → uns seen ≤ k → told.length + uns seen ≤ n →
  Calls Tryz.prog 61 #[.int .i64 p, .pointer (some ⟨mb, 0, none⟩), .pointer (some ⟨gb, 0, none⟩), .pointer (some ⟨vb, 0, none⟩), .pointer (some ⟨tb, 0, none⟩)] W fun e W' => e = .returned (.tuple #[]) ∧ ∃ tv', Vs w0 gb mb vb tb rb M0 n [.slice xv nv cv, .slice xa na ca, .int .i64 P, .slice xe ne ce, .slice xh nh ch] W' (dfs E k p seen).1 (told ++ (dfs E k p seen).2) tv'
end
theorem enters_ord1 : Enters 61 := enters_of Tryz.func61 (by kernel_rfl) rfl
set_option maxRecDepth 20000 in
set_option maxHeartbeats 8000000 in
theorem visit_step (w0 : World) (gb mb vb tb rb M0 n : Nat) (xv xa xe xh : Option Addr) (nv cv na ca ne ce nh ch : Nat) (P : Int) (E : List Eg) (k : Nat) (L : Hid (Vl w0 gb mb vb tb rb M0)) (hE : Hid (RowAt egVals 6 w0 Any xe E)) (hne : Hid (ne = E.length)) (hne4 : ne ≤ 400) (hn : n ≤ 120)
    (hin : Hid (∀ e ∈ E, 0 ≤ e.tt ∧ e.tt < (n : Int))) (IH : Hid (VisC w0 gb mb vb tb rb M0 n xv xa xe xh nv cv na ca ne ce nh ch P E k)) : VisC w0 gb mb vb tb rb M0 n xv xa xe xh nv cv na ca ne ce nh ch P E (k + 1) := by
  intro w p seen told tv hV hp hsl hsp hun htl
  have hEn := enters_ord1
  unfold Enters at hEn
  obtain ⟨i0, hi0, hz0, hz1, hz2⟩ := info_parts Tryz.info3
  have c0 := hV.Mb.cell 0 _ rfl
  have r0 : w.cell? ⟨rb, p, none⟩ = some (.bool false) := hV.R.cell p _ (by rw [List.getElem?_map, hsp]; rfl)
  have f0 := hV.R.fr p
  have hV1 := hV.setR L.out (i := p) (by omega)
  have hu := hide (uns_set (i := p) (by omega) hsp)
  have hgo := hide (fun i => fold_go hin.out k p i (seen.set p true, []) (by simpa using hsl) (by have := hu.out; show uns (seen.set p true) ≤ k; omega))
  obtain ⟨S, hS⟩ : ∃ S : Nat → List Bool × List Int, Hid (S = fun i => (E.take i).foldl (stepE (dfs E k) p) (seen.set p true, [])) := ⟨_, rfl⟩
  have hgo : Hid (∀ i, Go' n (seen.set p true, []) (S i)) := fun i => by rw [hS.out]; exact hgo.out i
  have hfin : Hid (dfs E (k + 1) p seen = ((S ne).1, (S ne).2 ++ [(p : Int)])) := by
    show _ = _
    have es : S ne = E.foldl (stepE (dfs E k) p) (seen.set p true, []) := by rw [hS.out, hne.out]; simp only [List.take_length]
    rw [es]
    unfold dfs
    rw [Int.toNat_natCast]
  have hS0 : Hid (S 0 = (seen.set p true, [])) := by show _ = _; rw [hS.out]; rfl
  have hSs : Hid (∀ i e, E[i]? = some e → S (i + 1) = stepE (dfs E k) p (S i) e) := fun i e he => by rw [hS.out]; exact fold_more he
  rw [hfin.out]
  clear hsp hV hfin
  go_enter Tryz.func61, Tryz.ntmps61
  go_upto_region 1 with fail
  obtain ⟨W1, hW1⟩ : ∃ X, X = w.setCell ⟨rb, p, none⟩ (.bool true) := ⟨_, rfl⟩
  rw [← hW1] at hV1 ⊢
  clear hW1 c0 r0 f0
  have g3 := hV1.G.cell 3 _ rfl
  go_wp2_with fail
  go_loopg [14] ne (fun gh iv wx => ∃ (i : Nat) (tv' : Value), i + gh = ne ∧ iv = .int .i64 i ∧ Vs w0 gb mb vb tb rb M0 n [.slice xv nv cv, .slice xa na ca, .int .i64 P, .slice xe ne ce, .slice xh nh ch] wx (S i).1 (told ++ (S i).2) tv')
  case atStart => exact ⟨0, tv, by omega, rfl, by rw [hS0.out]; simpa using hV1⟩
  case round =>
    clear hV1 g3
    obtain ⟨i, tv', hig, rfl, hV⟩ := hrel
    have hGi := hgo.out i
    obtain ⟨q1, o1, q2, q3, q4⟩ := hGi
    have q1 : (S i).1.length = (seen.set p true).length := q1
    have q2 : (S i).2 = [] ++ o1 := q2
    have q3 : o1.length + uns (S i).1 ≤ uns (seen.set p true) := q3
    have hlen : (S i).1.length = n := by rw [q1]; simpa using hsl
    have hol : (S i).2.length + uns (S i).1 ≤ uns (seen.set p true) := by rw [q2]; simpa using q3
    have Hlen := hide hlen
    have Hol := hide hol
    clear q1 q2 q3 q4 hlen hol
    by_cases hi : i < ne
    · have hi' : (i : Int) < (ne : Int) := by omega
      obtain ⟨e, he⟩ : ∃ e, E[i]? = some e := ⟨_, List.getElem?_eq_getElem (by rw [← hne.out]; exact hi)⟩
      have hSe := hide (hSs.out i e he)
      have het := hin.out e (List.mem_of_getElem? he)
      obtain ⟨b, off, rfl, hlt, vs, hvl, vk, ya, da, yt, dt, rfl, _, _⟩ := hE.out.elem he
      have hb := hV.bel
      have k0 := (hb.cell (p := ⟨b, off + i * 6 + 0, none⟩) hlt).trans (vk 0 _ rfl)
      have k1 := (hb.cell (p := ⟨b, off + i * 6 + 1, none⟩) hlt).trans (vk 1 _ rfl)
      have k2 := (hb.cell (p := ⟨b, off + i * 6 + 2, none⟩) hlt).trans (vk 2 _ rfl)
      have k3 := (hb.cell (p := ⟨b, off + i * 6 + 3, none⟩) hlt).trans (vk 3 _ rfl)
      have k4 := (hb.cell (p := ⟨b, off + i * 6 + 4, none⟩) hlt).trans (vk 4 _ rfl)
      have k5 := (hb.cell (p := ⟨b, off + i * 6 + 5, none⟩) hlt).trans (vk 5 _ rfl)
      simp only [Nat.add_zero] at k0
      clear vk he hb
      have hbA := (Below.refl wr.heap.size wr).alloc (Nat.le_refl _) (.cells #[.int .i64 e.fr, .int .i64 e.tt, .string (bs e.kind), .string (bs e.name), .slice ya e.args.length da, .slice yt e.tests.length dt] 69)
      have EB := BoxN.new wr 69 [.int .i64 e.fr, .int .i64 e.tt, .string (bs e.kind), .string (bs e.name), .slice ya e.args.length da, .slice yt e.tests.length dt]
      obtain ⟨W2, hW2⟩ : ∃ X, X = wr.alloc (.cells #[.int .i64 e.fr, .int .i64 e.tt, .string (bs e.kind), .string (bs e.name), .slice ya e.args.length da, .slice yt e.tests.length dt] 69) := ⟨_, rfl⟩
      have EB : BoxN W2 wr.heap.size [.int .i64 e.fr, .int .i64 e.tt, .string (bs e.kind), .string (bs e.name), .slice ya e.args.length da, .slice yt e.tests.length dt] := by rw [hW2]; exact EB
      have hbA : Below wr.heap.size wr W2 := by rw [hW2]; exact hbA
      go_upto_region 4 with fail
      change Code.wp _ _ _ _ (wr.alloc (.cells #[.int .i64 e.fr, .int .i64 e.tt, .string (bs e.kind), .string (bs e.name), .slice ya e.args.length da, .slice yt e.tests.length dt] 69))
      rw [← hW2]
      clear hW2
      obtain ⟨q, hq⟩ : ∃ g, g = wr.heap.size := ⟨_, rfl⟩
      rw [← hq] at EB ⊢
      clear hq k0 k1 k2 k3 k4 k5
      have hV2 := hV.below hbA
      clear hbA hV
      have d0 := EB.cell 0 _ rfl
      have d1 := EB.cell 1 _ rfl
      obtain ⟨t, ht⟩ : ∃ t : Nat, e.tt = (t : Int) := ⟨e.tt.toNat, by omega⟩
      rw [ht] at d1
      have htn : t < n := by omega
      have m0 := hV2.Mb.cell 0 _ rfl
      obtain ⟨u, hu2⟩ : ∃ u, (S i).1[t]? = some u := ⟨_, List.getElem?_eq_getElem (by rw [Hlen.out]; exact htn)⟩
      have r1 : W2.cell? ⟨rb, t, none⟩ = some (.bool u) := hV2.R.cell t _ (by rw [List.getElem?_map, hu2]; rfl)
      have hget : Hid ((S i).1.getD e.tt.toNat true = u) := by
        show _ = _
        rw [ht, Int.toNat_natCast, List.getD_eq_getElem?_getD, hu2]
        rfl
      have Hu2 := hide hu2
      have Ht := hide ht
      have htI : (t : Int) < (n : Int) := by omega
      clear hu2 ht het
      by_cases hfr : e.fr = (p : Int)
      · cases u
        · have v0 := hV2.V.cell 0 _ rfl
          have hst : Hid (S (i + 1) = ((dfs E k t (S i).1).1, (S i).2 ++ (dfs E k t (S i).1).2)) := by
            show _ = _
            rw [hSe.out]
            unfold stepE
            rw [if_pos ⟨hfr, hget.out⟩, Ht.out]
          have HI := hide (IH.out W2 t (S i).1 (told ++ (S i).2) tv' hV2 htn Hlen.out Hu2.out (by have := Hol.out; have := hu.out; omega) (by have := Hol.out; have := hu.out; simp only [List.length_append]; omega))
          rw [hfr] at d0
          clear hfr
          go_wp2_with fail
          refine HI.out.mono ?_
          rintro e' w3 ⟨rfl, tv3, hV3⟩
          go_wp2_with fail
          go_roundg (ne - (i + 1))
          case measure => omega
          case rel => exact ⟨i + 1, tv3, by omega, by go_num, by rw [hst.out]; simpa [List.append_assoc] using hV3⟩
        · have hst : Hid (S (i + 1) = S i) := by
            show _ = _
            rw [hSe.out]
            unfold stepE
            rw [if_neg (by rw [hget.out]; simp)]
          rw [hfr] at d0
          clear hfr
          go_wp2_with fail
          go_roundg (ne - (i + 1))
          case measure => omega
          case rel => exact ⟨i + 1, tv', by omega, by go_num, by rw [hst.out]; exact hV2⟩
      · have hst : Hid (S (i + 1) = S i) := by
          show _ = _
          rw [hSe.out]
          unfold stepE
          rw [if_neg (fun h => hfr h.1)]
        obtain ⟨f, hf⟩ : ∃ f, f = e.fr := ⟨_, rfl⟩
        rw [← hf] at d0 hfr
        clear hf
        go_wp2_with fail
        go_roundg (ne - (i + 1))
        case measure => omega
        case rel => exact ⟨i + 1, tv', by omega, by go_num, by rw [hst.out]; exact hV2⟩
    · have hi' : ¬ (i : Int) < (ne : Int) := by omega
      obtain rfl : i = ne := by omega
      have t0 := hV.T.cell 0 _ rfl
      have hmM := hV.mM
      have hbN := (Below.refl wr.heap.size wr).alloc (Nat.le_refl _) (.cells #[.int .i64 p] 3)
      have hV2 := hV.below hbN
      have hnews : ∀ (j : Nat) u, ([.int .i64 p] : List Value)[j]? = some u → (wr.alloc (.cells #[.int .i64 p] 3)).cell? ((⟨wr.heap.size, 0, none⟩ : Addr).add j) = some u := by
        intro j u hj
        cases j with
        | zero => cases hj; simp [Addr.add]
        | succ j => simp at hj
      obtain ⟨T, hT⟩ : ∃ T, T = told ++ (S i).2 := ⟨_, rfl⟩
      rw [← hT] at hV hV2
      have hTl : T.length ≤ n := by rw [hT]; have := Hol.out; have := hu.out; simp only [List.length_append]; omega
      have HT := hide hT
      clear hT
      go_wp2_with (at_builtin; refine wpList_append_own _ rfl _ _ 32 rfl M0 3 i0 (.int .i64 0) 1 8 Tryz.underlying32 hi0 hz0 hz1 hz2 rfl (by decide) tv' T.length (T.map (Value.int .i64)) rfl hV2.own ⟨wr.heap.size, 0, none⟩ 1 1 [.int .i64 p] rfl (by simp) hnews (fun u hu => by simp at hu; subst hu; rfl) (by unfold maxLen; omega) (by omega) (by simp; omega) ?_)
      intro v' w3 own3 hg3 _
      obtain ⟨g', cap', rfl⟩ : ∃ g cap, v' = .slice (some ⟨g, 0, none⟩) (T.length + 1) cap := by
        rcases own3.2 with ⟨_, h0⟩ | ⟨g, cap, cur, h1, _⟩
        · omega
        · exact ⟨g, cap, h1⟩
      have hV3 := hV2.tell L.out hg3 own3
      have t3 := (hV2.T.far hg3 (fun e => by
        rcases hV2.own.2 with ⟨h1, _⟩ | ⟨g', cap, cur, h1, h2, _⟩
        · rw [h1] at e; cases e
        · rw [h1] at e
          have e : g' = tb := by simpa [Value.ownBlock] using e
          have := L.out.lt
          omega))
      have t4 := t3.cell 0 _ rfl
      have t5 := t3.fr 0
      go_wp2_with fail
      go_end0
      rw [show T ++ [(p : Int)] = told ++ ((S i).2 ++ [(p : Int)]) by rw [HT.out, List.append_assoc]] at hV3
      exact ⟨rfl, _, hV3⟩
end Go.Proofs.YtbfhaabpfkopdaaGreatDoor

/- Graphs: points, as they are come to: flow.Order walked. -/
namespace Go.Proofs.YtbfhaabpfkopdaaGreatDoor
open Go.RowKit
set_option linter.unusedVariables false

theorem egVals_keeps : KeepsV egVals := by
  rintro W W' ok ok' vs e ⟨xa, ca, xt, ct, rfl, h1, h2⟩ hs hb hk
  exact ⟨xa, ca, xt, ct, rfl, h1.keep hs hb hk, h2.keep teVals_keeps hs hb hk⟩
theorem visit_all (w0 : World) (gb mb vb tb rb M0 n : Nat) (xv xa xe xh : Option Addr) (nv cv na ca ne ce nh ch : Nat) (P : Int) (E : List Eg) (L : Hid (Vl w0 gb mb vb tb rb M0)) (hE : Hid (RowAt egVals 6 w0 Any xe E)) (hne : Hid (ne = E.length)) (hne4 : ne ≤ 400) (hn : n ≤ 120)
    (hin : Hid (∀ e ∈ E, 0 ≤ e.tt ∧ e.tt < (n : Int))) : ∀ k, VisC w0 gb mb vb tb rb M0 n xv xa xe xh nv cv na ca ne ce nh ch P E k
  | 0 => fun W p seen told tv hV hp hl hs hu ht => by
    have := uns_set (i := p) (by omega) hs
    omega
  | k + 1 => visit_step w0 gb mb vb tb rb M0 n xv xa xe xh nv cv na ca ne ce nh ch P E k L hE hne hne4 hn hin (hide (visit_all w0 gb mb vb tb rb M0 n xv xa xe xh nv cv na ca ne ce nh ch P E L hE hne hne4 hn hin k))
theorem uns_new (n : Nat) : uns (List.replicate n false) = n := by
  unfold uns
  rw [List.countP_replicate]
  simp
/-- Points, as they are come to. -/
def ordL (n : Nat) (E : List Eg) : List Int := (dfs E n 0 (List.replicate n false)).2.reverse
theorem made_bools (w : World) (n : Nat) (hn : n ≤ 1000) : BoxN (w.alloc (Obj.cells (madeCells #[Value.bool false] (n * 1)) 4)) w.heap.size ((List.replicate n false).map Value.bool) := by
  refine ⟨by simp, fun j v h => ?_, fun j => by simp⟩
  have hj : j < n := by simpa using some_lt h
  have hv : v = .bool false := by
    rw [List.getElem?_map, List.getElem?_replicate, if_pos hj] at h
    cases h
    rfl
  subst hv
  have : (madeCells #[Value.bool false] n)[j]? = some (.bool false) := by simp [madeCells, hj, Nat.mod_one]
  simp [this]
theorem Tryz.infoBool : (Tryz.prog.info? 4).map (fun i => (i.zero, i.size, i.bytes)) = some (some (.bool false), 1, 1) := by kernel_rfl
theorem make_bools (n : Nat) (hn : n ≤ 1000) (w : World) : (Instr.makeSlice 154 (.int .i64 (n : Int)) (.int .i64 (n : Int))).run Tryz.prog w = .ok (.slice (some ⟨w.heap.size, 0, none⟩) n n) (w.alloc (Obj.cells (madeCells #[Value.bool false] (n * 1)) 4)) := by
  obtain ⟨i0, hi, hz0, hz1, hz2⟩ := info_parts Tryz.infoBool
  have := run_make (P := Tryz.prog) w 154 4 i0 _ Tryz.underlying154 hi hz0 .i64 .i64 (n : Int) (n : Int) (by omega) (Int.le_refl _) (by rw [hz2]; omega) (by omega)
  simp only [Int.toNat_natCast, hz1] at this
  exact this
/-- What Order answers. -/
def OrdP (a : Nat → Addr) (P : Int) (E : List Eg) (H : List Int) (w : World) (e : Ending) (w' : World) : Prop :=
  Below w.heap.size w w' ∧ ((laidB P E H = false ∧ e = .returned (.tuple #[.slice none 0 0, errV a 3])) ∨ (laidB P E H = true ∧ ∃ x cap, e = .returned (.tuple #[.slice x (ordL P.toNat E).length cap, .nilIface]) ∧ IntsAt w' x (ordL P.toNat E)))
set_option maxRecDepth 20000 in
set_option maxHeartbeats 8000000 in
theorem order_any (xv xa xe xh : Option Addr) (nv cv na ca ne ce nh ch : Nat) (P : Int) (E : List Eg) (H : List Int) (a : Nat → Addr) (w : World) (hS : Sents w a) (hE : RowAt egVals 6 w Any xe E) (hH : IntsAt w xh H) (hne : Hid (ne = E.length)) (hnh : Hid (nh = H.length)) (hn1 : ne ≤ 1000000000000000) (hn2 : nh ≤ 1000000000000) :
    Calls Tryz.prog 26 #[.agg #[.slice xv nv cv, .slice xa na ca, .int .i64 P, .slice xe ne ce, .slice xh nh ch]] w fun e w' => OrdP a P E H w e w' := by
  have hb0 := (Below.refl w.heap.size w).alloc (Nat.le_refl _) (.cells #[.slice xv nv cv, .slice xa na ca, .int .i64 P, .slice xe ne ce, .slice xh nh ch] 34)
  have B0 := BoxN.new w 34 [.slice xv nv cv, .slice xa na ca, .int .i64 P, .slice xe ne ce, .slice xh nh ch]
  obtain ⟨W0, hW0⟩ : ∃ X, X = w.alloc (.cells #[.slice xv nv cv, .slice xa na ca, .int .i64 P, .slice xe ne ce, .slice xh nh ch] 34) := ⟨_, rfl⟩
  have B0 : BoxN W0 w.heap.size [.slice xv nv cv, .slice xa na ca, .int .i64 P, .slice xe ne ce, .slice xh nh ch] := by rw [hW0]; exact B0
  have hbW : Below w.heap.size w W0 := by rw [hW0]; exact hb0
  clear hb0
  have hb0 := hbW
  clear hbW
  go_enter Tryz.func26, Tryz.ntmps26
  go_upto_region 1 with fail
  change Code.wp _ _ _ _ (w.alloc (.cells #[.slice xv nv cv, .slice xa na ca, .int .i64 P, .slice xe ne ce, .slice xh nh ch] 34))
  rw [← hW0]
  clear hW0
  obtain ⟨gb, hgb⟩ : ∃ g, g = w.heap.size := ⟨_, rfl⟩
  rw [← hgb] at B0 ⊢
  have Hgb := hide hgb
  clear hgb
  have c0 := B0.cell 0 _ rfl
  have c1 := B0.cell 1 _ rfl
  have c2 := B0.cell 2 _ rfl
  have c3 := B0.cell 3 _ rfl
  have c4 := B0.cell 4 _ rfl
  have HL := hide (isLaid_any xv xa xe xh nv cv na ca ne ce nh ch P E H W0 (hE.belM egVals_keeps hb0) (hH.below hb0) hne hnh hn1 hn2)
  cases hl : laidB P E H with
  | false =>
    rw [hl] at HL
    have e2 : W0.cell? ⟨1, 0, none⟩ = some (.iface 421 (.pointer (some (a 2)))) := (hS.below hb0).cell 2 (by omega)
    go_wp2_with fail
    refine HL.out.mono ?_
    rintro e' w1 ⟨rfl, hb1⟩
    have e3 := (hb1.cell (World.block_lt_of_cell? W0 _ e2)).trans e2
    have hbx := hb0.trans (hb1.mono hb0.size)
    clear c0 c1 c2 c3 c4 e2 HL
    go_upto_region 2 with fail
    go_region
    have hbd := hbx.trans ((Below.refl w1.heap.size w1).drew.mono hbx.size)
    go_wp2_with fail
    refine bodyPost_ret (v := .tuple #[.slice none 0 0, errV a 3]) (by simp [results, Tryz.results26, go_sem, errV]) rfl ?_
    exact ⟨hbd, .inl ⟨hl, rfl⟩⟩
  | true =>
    rw [hl] at HL
    have hl2 := hl
    unfold laidB at hl2
    rw [← hne.out] at hl2
    simp only [Bool.and_eq_true, decide_eq_true_eq] at hl2
    obtain ⟨p0, p1, p2, p3, _⟩ := hl2
    obtain ⟨n, hPn⟩ : ∃ n : Nat, P = (n : Int) := ⟨P.toNat, by omega⟩
    have hn : n ≤ 120 := by omega
    have hin : Hid (∀ e ∈ E, 0 ≤ e.tt ∧ e.tt < (n : Int)) := fun e he => by
      have := List.all_eq_true.1 p3 e he
      unfold egIn inP at this
      simp only [Bool.and_eq_true, decide_eq_true_eq] at this
      rw [← hPn]
      exact this.2
    have Hl := hide hl
    subst hPn
    clear p3 hl p0 p1
    go_wp2_with fail
    refine HL.out.mono ?_
    rintro e' w1 ⟨rfl, hb1⟩
    have hbx := hb0.trans (hb1.mono hb0.size)
    have B1 := B0.bel hb1
    clear c0 c1 c2 c3 c4 HL B0 hb1 hb0
    have c2 := B1.cell 2 _ rfl
    by_cases hz : n = 0
    · subst hz
      go_wp2_with fail
      go_ret2
      refine ⟨hbx, .inr ⟨Hl.out, none, 0, ?_, .inl rfl⟩⟩
      rfl
    have hzi : ¬ ((n : Int) = 0) := by omega
    have hmk := make_bools n (by omega)
    have HM := hide (fun W : World => made_bools W n (by omega))
    obtain ⟨M, hM⟩ : ∃ M, M = (Obj.cells (madeCells #[Value.bool false] (n * 1)) 4) := ⟨_, rfl⟩
    rw [← hM] at hmk HM
    clear hM
    have hA2 := (Below.refl w1.heap.size w1).alloc (Nat.le_refl _) (.cells #[.slice none 0 0] 32)
    have T2 := BoxN.new w1 32 [.slice none 0 0]
    have z2 : (w1.alloc (.cells #[.slice none 0 0] 32)).heap.size = w1.heap.size + 1 := by simp
    obtain ⟨W2, hW2⟩ : ∃ X, X = w1.alloc (.cells #[.slice none 0 0] 32) := ⟨_, rfl⟩
    have T2 : BoxN W2 w1.heap.size [.slice none 0 0] := by rw [hW2]; exact T2
    go_upto_region 6 with fail
    change Code.wp _ _ _ _ (w1.alloc (.cells #[.slice none 0 0] 32))
    rw [← hW2] at hA2 z2 ⊢
    clear hW2
    have hlg : gb < w1.heap.size := B1.lt
    have B2 := B1.bel hA2
    have hb2 := hbx.trans (hA2.mono hbx.size)
    have Hlw := hide hbx.size
    obtain ⟨tb, htb⟩ : ∃ g, g = w1.heap.size := ⟨_, rfl⟩
    rw [← htb] at T2 z2 hlg ⊢
    have Hlw2 : Hid (w.heap.size ≤ tb) := by rw [htb]; exact Hlw.out
    clear htb hA2 B1 hbx c2 Hlw
    have c2 := B2.cell 2 _ rfl
    have hM2 := HM.out W2
    have hA3 := (Below.refl W2.heap.size W2).alloc (Nat.le_refl _) M
    have Hz2 := hide z2
    clear z2
    obtain ⟨W3, hW3⟩ : ∃ X, X = W2.alloc M := ⟨_, rfl⟩
    rw [← hW3] at hM2 hA3
    have z3 : Hid (W3.heap.size = W2.heap.size + 1) := by rw [hW3]; show _ = _; simp
    have hA4 := (Below.refl W3.heap.size W3).alloc (Nat.le_refl _) (.cells #[.slice (some ⟨W2.heap.size, 0, none⟩) n n] 154)
    have M4 := BoxN.new W3 154 [.slice (some ⟨W2.heap.size, 0, none⟩) n n]
    have z4 : Hid ((W3.alloc (.cells #[.slice (some ⟨W2.heap.size, 0, none⟩) n n] 154)).heap.size = W3.heap.size + 1) := by show _ = _; simp
    obtain ⟨W4, hW4⟩ : ∃ X, X = W3.alloc (.cells #[.slice (some ⟨W2.heap.size, 0, none⟩) n n] 154) := ⟨_, rfl⟩
    rw [← hW4] at hA4 z4
    have M4 : BoxN W4 W3.heap.size [.slice (some ⟨W2.heap.size, 0, none⟩) n n] := by rw [hW4]; exact M4
    go_upto_region 7 with fail
    change Code.wp _ _ _ _ ((W2.alloc M).alloc (.cells #[.slice (some ⟨W2.heap.size, 0, none⟩) n n] 154))
    rw [← hW3, ← hW4]
    clear hW3 hW4 c2
    have e3 : W2.heap.size + 1 = W3.heap.size := z3.out.symm
    rw [e3]
    clear e3
    have B4 := (B2.bel hA3).bel hA4
    have T4 := (T2.bel hA3).bel hA4
    have R4 := hM2.bel hA4
    have hb3 := hb2.trans (hA3.mono hb2.size)
    have hb4 := hb3.trans (hA4.mono hb3.size)
    obtain ⟨rb, hrb⟩ : ∃ g, g = W2.heap.size := ⟨_, rfl⟩
    obtain ⟨mb, hmb⟩ : ∃ g, g = W3.heap.size := ⟨_, rfl⟩
    rw [← hrb] at R4 M4 Hz2 z3 ⊢
    rw [← hmb] at M4 z3 z4 ⊢
    clear hrb hmb B2 T2 hM2 hA3 hA4 hb2 hb3
    have hA5 := (Below.refl W4.heap.size W4).alloc (Nat.le_refl _) (.cells #[.nilFunc] 155)
    have V5 := BoxN.new W4 155 [.nilFunc]
    have z5 : (W4.alloc (.cells #[.nilFunc] 155)).heap.size = W4.heap.size + 1 := by simp
    obtain ⟨W5, hW5⟩ : ∃ X, X = W4.alloc (.cells #[.nilFunc] 155) := ⟨_, rfl⟩
    rw [← hW5] at hA5 z5
    have V5 : BoxN W5 W4.heap.size [.nilFunc] := by rw [hW5]; exact V5
    go_upto_region 8 with fail
    change Code.wp _ _ _ _ (W4.alloc (.cells #[.nilFunc] 155))
    rw [← hW5]
    clear hW5
    have B5 := B4.bel hA5
    have T5 := T4.bel hA5
    have R5 := R4.bel hA5
    have M5 := M4.bel hA5
    have hb5 := hb4.trans (hA5.mono hb4.size)
    obtain ⟨vb, hvb⟩ : ∃ g, g = W4.heap.size := ⟨_, rfl⟩
    rw [← hvb] at V5 z4 z5 ⊢
    have Hz5 := hide z5
    clear hvb B4 T4 R4 M4 hA5 hb4 z5
    have v0 := V5.cell 0 _ rfl
    have fv := V5.fr 0
    have ord : gb < tb ∧ tb < rb ∧ rb < mb ∧ mb < vb := by
      have := Hz2.out
      have := z3.out
      have := z4.out
      omega
    have L : Hid (Vl w gb mb vb tb rb (vb + 1)) := by
      have := Hlw2.out
      exact ⟨by omega, by omega, by omega, by omega, by omega, by omega, by omega, by omega, by omega, by omega, by omega, by omega, by omega, by omega, by omega⟩
    have hV : Vs w gb mb vb tb rb (vb + 1) n [.slice xv nv cv, .slice xa na ca, .int .i64 (n : Int), .slice xe ne ce, .slice xh nh ch] (W5.setCell ⟨vb, 0, none⟩ (.func (.func 61) #[] #[.pointer (some ⟨mb, 0, none⟩), .pointer (some ⟨gb, 0, none⟩), .pointer (some ⟨vb, 0, none⟩), .pointer (some ⟨tb, 0, none⟩)])) (List.replicate n false) [] (.slice none 0 0) := by
      have hLw := Hlw2.out
      have hz := Hz5.out
      exact ⟨hb5.setCell (p := ⟨vb, 0, none⟩) (by show w.heap.size ≤ vb; omega) _, B5.other (q := ⟨vb, 0, none⟩) (by show vb ≠ gb; omega) _, M5.other (q := ⟨vb, 0, none⟩) (by show vb ≠ mb; omega) _, V5.put 0 (by simp) _, T5.other (q := ⟨vb, 0, none⟩) (by show vb ≠ tb; omega) _, R5.other (q := ⟨vb, 0, none⟩) (by show vb ≠ rb; omega) _, World.ownsRow_nil _ _ _ _, by simp [World.setCell]; omega⟩
    go_upto_region 9 with fail
    obtain ⟨W6, hW6⟩ : ∃ X, X = W5.setCell ⟨vb, 0, none⟩ (.func (.func 61) #[] #[.pointer (some ⟨mb, 0, none⟩), .pointer (some ⟨gb, 0, none⟩), .pointer (some ⟨vb, 0, none⟩), .pointer (some ⟨tb, 0, none⟩)]) := ⟨_, rfl⟩
    rw [← hW6] at hV ⊢
    clear hW6 v0 fv B5 T5 R5 M5 V5 hb5
    have v6 := hV.V.cell 0 _ rfl
    have hEn := enters_ord1
    unfold Enters at hEn
    have HV := hide (visit_all w gb mb vb tb rb (vb + 1) n xv xa xe xh nv cv na ca ne ce nh ch (n : Int) E L (hide hE) hne p2 hn hin n W6 0 (List.replicate n false) [] (.slice none 0 0) hV (by omega) (by simp) (by rw [List.getElem?_replicate, if_pos (by omega)]) (by rw [uns_new]; exact Nat.le_refl _) (by rw [uns_new]; simp))
    have hdg := dfs_go hin.out n 0 (List.replicate n false) (by simp) (by omega) (by omega) (by rw [List.getElem?_replicate, if_pos (by simpa using Nat.pos_of_ne_zero hz)]) (by rw [uns_new]; exact Nat.le_refl _)
    obtain ⟨D, hD⟩ : ∃ D, D = dfs E n 0 (List.replicate n false) := ⟨_, rfl⟩
    have hDn : Hid (∃ x l, D.2 = l ++ [x]) := by
      rw [hD]
      obtain ⟨m, rfl⟩ : ∃ m, n = m + 1 := ⟨n - 1, by omega⟩
      exact ⟨_, _, rfl⟩
    have HD := hide hD
    have HV : Hid (Calls Tryz.prog 61 #[.int .i64 0, .pointer (some ⟨mb, 0, none⟩), .pointer (some ⟨gb, 0, none⟩), .pointer (some ⟨vb, 0, none⟩), .pointer (some ⟨tb, 0, none⟩)] W6 fun e W' => e = .returned (.tuple #[]) ∧ ∃ tv', Vs w gb mb vb tb rb (vb + 1) n [.slice xv nv cv, .slice xa na ca, .int .i64 (n : Int), .slice xe ne ce, .slice xh nh ch] W' D.1 D.2 tv') := by
      have := HV.out
      simp only [Int.natCast_zero, List.nil_append, ← hD] at this
      exact this
    have hDl : D.2.length ≤ n := by
      rw [← hD] at hdg
      obtain ⟨_, o, q2, q3, _⟩ := hdg
      have q2 : D.2 = [] ++ o := q2
      have q3 : o.length + uns D.1 ≤ uns (List.replicate n false) := q3
      rw [uns_new] at q3
      rw [q2]
      simp
      omega
    clear hD hdg
    go_wp2_with fail
    refine HV.out.mono ?_
    rintro e' w7 ⟨rfl, tv, hV7⟩
    clear hV v6 HV
    obtain ⟨g, cap, cur, rfl, hg, hcur, hcap1, hcap2, hcs, htk⟩ : ∃ g cap cur, tv = .slice (some ⟨g, 0, none⟩) D.2.length cap ∧ vb + 1 ≤ g ∧ w7.heap[g]? = some (.cells cur 3 (0, 0)) ∧ D.2.length ≤ cap ∧ cap ≤ maxLen ∧ cur.size = cap * 1 ∧ cur.toList.take (D.2.length * 1) = D.2.map (Value.int .i64) := by
      rcases hV7.own.2 with ⟨_, h0⟩ | h
      · obtain ⟨x, l, e⟩ := hDn.out
        rw [e] at h0
        simp at h0
      · exact h
    have NA : NumAt w7 g D.2.length (fun i => D.2.getD i 0) := by
      refine ⟨(Array.getElem?_eq_some_iff.1 hcur).1, fun i hi => ?_, fun j => by simp [World.frozen?, hcur]⟩
      have hc : cur[i]? = some (.int .i64 (D.2.getD i 0)) := by
        have h1 : (cur.toList.take (D.2.length * 1))[i]? = (D.2.map (Value.int .i64))[i]? := by rw [htk]
        rw [List.getElem?_take, if_pos (by omega)] at h1
        rw [← Array.getElem?_toList, h1, List.getElem?_map, List.getElem?_eq_getElem hi]
        simp [hi]
      simp [World.cell?, hcur, hc]
    have t7 := hV7.T.cell 0 _ rfl
    have HR := hide (reverse_any g cap D.2.length _ w7 NA (by omega))
    obtain ⟨m, hm⟩ : ∃ m, m = D.2.length := ⟨_, rfl⟩
    rw [← hm] at t7 HR
    have Hm := hide hm
    clear hm htk hcs hcap1 hcap2 hcur NA
    go_wp2_with fail
    refine HR.out.mono ?_
    rintro e' w8 ⟨rfl, hG8, N8⟩
    have t8 := (hV7.T.gr hG8 (by omega)).cell 0 _ rfl
    rw [← Hm.out] at t8
    have hb8 := hV7.bel.grown hG8 hV7.bel.size (fun k e => by cases e; have := Hlw2.out; omega)
    go_wp2_with fail
    go_ret2
    have eo : ordL n E = D.2.reverse := by unfold ordL; rw [HD.out]
    refine ⟨hb8, .inr ⟨Hl.out, some ⟨g, 0, none⟩, cap, ?_, ?_⟩⟩
    · rw [Int.toNat_natCast, eo, List.length_reverse, ← Hm.out]
      rfl
    · rw [Int.toNat_natCast, eo]
      refine .inr ⟨g, 0, rfl, N8.lt, fun i hi => ?_⟩
      rw [List.length_reverse] at hi
      rw [Nat.zero_add, N8.cell i (by rw [Hm.out]; exact hi)]
      congr 2
      simp only [List.getD_eq_getElem?_getD, List.getElem?_reverse hi, ← Hm.out]
end Go.Proofs.YtbfhaabpfkopdaaGreatDoor
