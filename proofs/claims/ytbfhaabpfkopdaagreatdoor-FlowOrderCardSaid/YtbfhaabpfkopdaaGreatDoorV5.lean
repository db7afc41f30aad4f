/- The language: a writer: rows of tests, conditions; the closures of between. -/
import Derived.Test.YtbfhaabpfkopdaaGreatDoorV4
namespace Go.Proofs.YtbfhaabpfkopdaaGreatDoor
open Go.RowKit
set_option linter.unusedVariables false

structure TeSm (t : Te) : Prop where
  a : ExSm t.a
  b : ExSm t.b
/-- An element of a row. -/
theorem RowAt.elem {α : Type} {V : Rds α} {size : Nat} {W : World} {ok : Nat → Prop} {x : Option Addr} {l : List α} (h : RowAt V size W ok x l) {i : Nat} {e : α} (hi : l[i]? = some e) : ∃ b off, x = some ⟨b, off, none⟩ ∧ b < W.heap.size ∧ ∃ vs : List Value, vs.length = size ∧ (∀ j u, vs[j]? = some u → W.cell? ⟨b, off + i * size + j, none⟩ = some u) ∧ V W ok vs e := by
  rcases h with rfl | ⟨b, off, rfl, _, hlt, hc⟩
  · cases hi
  · exact ⟨b, off, rfl, hlt, hc i e hi⟩
theorem some_lt {α : Type} {l : List α} {i : Nat} {e : α} (h : l[i]? = some e) : i < l.length := by
  rcases Nat.lt_or_ge i l.length with k | k
  · exact k
  · rw [List.getElem?_eq_none k] at h; cases h
/-- What a closure of between reads: the writer's pointer, the thing's box. -/
def Cap (q c1 c2 : Nat) (T : TypeId) (vs : List Value) (W : World) : Prop := BoxT W c1 237 [.pointer (some ⟨q, 0, none⟩)] ∧ BoxT W c2 T vs
theorem Cap.fr {q c1 c2 : Nat} {T : TypeId} {vs : List Value} {W W' : World} (h : Cap q c1 c2 T vs W) (hF : Fr q W W') (h1 : c1 ≠ q) (h2 : c2 ≠ q) (hT : T ≠ 5) : Cap q c1 c2 T vs W' := ⟨h.1.fr hF h1 (by decide), h.2.fr hF h2 hT⟩
theorem Cap.bel {q c1 c2 : Nat} {T : TypeId} {vs : List Value} {W W' : World} (h : Cap q c1 c2 T vs W) (hb : Below W.heap.size W W') : Cap q c1 c2 T vs W' := ⟨h.1.bel hb, h.2.bel hb⟩
theorem enters_row1 : Enters 296 := enters_of Tryz.func296 (by kernel_rfl) rfl
set_option maxRecDepth 20000 in
set_option maxHeartbeats 4000000 in
theorem row1_any (w0 : World) (q r c1 c2 : Nat) (x : Option Addr) (cap : Nat) (l : List Te) (h1 : c1 ≠ q) (h2 : c2 ≠ q) (hx : RowAt teVals 9 w0 Any x l) (hs : ∀ (i : Nat) (t : Te), l[i]? = some t → TeSm t) : OneW w0 q r 296 l.length c1 c2 (Cap q c1 c2 65 [.slice x l.length cap]) (fun i st => match l[i]? with | some t => teW t st | none => none) := by
  intro w st i hi h hC
  obtain ⟨t, ht⟩ : ∃ t, l[i]? = some t := ⟨_, List.getElem?_eq_getElem hi⟩
  show Calls _ _ _ _ (fun e W' => WPost w0 q r (match l[i]? with | some t => teW t st | none => none) w e W')
  rw [ht]
  obtain ⟨res, hres⟩ : ∃ res, res = teW t st := ⟨_, rfl⟩
  have He := hide hres
  show Calls _ _ _ _ (fun e W' => WPost w0 q r (teW t st) w e W')
  rw [← hres]
  clear hres
  have hii : (i : Int) < (l.length : Int) := by omega
  have F0 := Fr.refl q w
  have hsm := hs i t ht
  obtain ⟨b, off, rfl, hlt, vs, hvl, hv, xa, ca, xb, cb, rfl, hxa, hxb⟩ := hx.elem ht
  have k0 := hv 0 _ rfl
  have k1 := hv 1 _ rfl
  have k2 := hv 2 _ rfl
  have k3 := hv 3 _ rfl
  have k4 := hv 4 _ rfl
  have k5 := hv 5 _ rfl
  have k6 := hv 6 _ rfl
  have k7 := hv 7 _ rfl
  have k8 := hv 8 _ rfl
  simp only [Nat.add_zero] at k0
  clear hv ht hs
  go_enter Tryz.func296, Tryz.ntmps296
  have He : Hid (res = (tmW t.a st).bind fun st => (putW [[32], t.rel, [32]] st).bind fun st => tmW t.b st) := He.out
  have hbd1 : Below w.heap.size w w.drew := (Below.refl _ _).drew
  have cd1 := hC.bel hbd1
  have wd1 := h.below hbd1
  have Fd1 := F0.trans (Fr.of hbd1)
  have be1 := wd1.bel
  have H1 := hide (tm_any w0 q r w.drew t.a xa ca st wd1 hsm.a hxa)
  go_upto_region 0 with fail
  refine wp_region_held (S := fun w' => w'.cell? ⟨c1, 0, none⟩ = some (.pointer (some ⟨q, 0, none⟩)) ∧ w'.cell? ⟨c2, 0, none⟩ = some (.slice (some ⟨b, off, none⟩) l.length cap) ∧ w'.cell? ⟨b, off + i * 9, none⟩ = some (.string (bs t.a.op)) ∧ w'.cell? ⟨b, off + i * 9 + 1, none⟩ = some (.int .i64 t.a.n) ∧ w'.cell? ⟨b, off + i * 9 + 2, none⟩ = some (.string (bs t.a.name)) ∧ w'.cell? ⟨b, off + i * 9 + 3, none⟩ = some (.slice xa t.a.l.length ca)) (by kernel_rfl) ?_
  have hS9 : w.drew.cell? ⟨c1, 0, none⟩ = some (.pointer (some ⟨q, 0, none⟩)) ∧ w.drew.cell? ⟨c2, 0, none⟩ = some (.slice (some ⟨b, off, none⟩) l.length cap) ∧ w.drew.cell? ⟨b, off + i * 9, none⟩ = some (.string (bs t.a.op)) ∧ w.drew.cell? ⟨b, off + i * 9 + 1, none⟩ = some (.int .i64 t.a.n) ∧ w.drew.cell? ⟨b, off + i * 9 + 2, none⟩ = some (.string (bs t.a.name)) ∧ w.drew.cell? ⟨b, off + i * 9 + 3, none⟩ = some (.slice xa t.a.l.length ca) := ⟨cd1.1.cell 0 _ rfl, cd1.2.cell 0 _ rfl, (be1.cell hlt).trans k0, (be1.cell hlt).trans k1, (be1.cell hlt).trans k2, (be1.cell hlt).trans k3⟩
  (refine wpAnyH_take (i := 0) (v := ?_) rfl (by kernel_rfl) (by kernel_rfl) (by kernel_rfl) (fun _ _ _ h => h) (Or.inl ⟨by rfl, ?_⟩) hS9 ?_; rotate_left 1; (intro w' hSw; (try dsimp only at hSw); go_simp; (try rw [if_pos (by omega)])); (try rfl); (try dsimp only [Act.put]))
  (refine wpAnyH_take (i := 1) (v := ?_) rfl (by kernel_rfl) (by kernel_rfl) (by kernel_rfl) (fun _ _ _ h => h) (Or.inl ⟨by rfl, ?_⟩) hS9 ?_; rotate_left 1; (intro w' hSw; (try dsimp only at hSw); go_simp; (try rw [if_pos (by omega)])); (try rfl); (try dsimp only [Act.put]))
  (refine wpAnyH_take (i := 2) (v := ?_) rfl (by kernel_rfl) (by kernel_rfl) (by kernel_rfl) (fun _ _ _ h => h) (Or.inl ⟨by rfl, ?_⟩) hS9 ?_; rotate_left 1; (intro w' hSw; (try dsimp only at hSw); go_simp; (try rw [if_pos (by omega)])); (try rfl); (try dsimp only [Act.put]))
  (refine wpAnyH_take (i := 3) (v := ?_) rfl (by kernel_rfl) (by kernel_rfl) (by kernel_rfl) (fun _ _ _ h => h) (Or.inl ⟨by rfl, ?_⟩) hS9 ?_; rotate_left 1; (intro w' hSw; (try dsimp only at hSw); go_simp; (try rw [if_pos (by omega)])); (try rfl); (try dsimp only [Act.put]))
  (refine wpAnyH_take (i := 4) (v := ?_) rfl (by kernel_rfl) (by kernel_rfl) (by kernel_rfl) (fun _ _ _ h => h) (Or.inl ⟨by rfl, ?_⟩) hS9 ?_; rotate_left 1; (intro w' hSw; (try dsimp only at hSw); go_simp; (try rw [if_pos (by omega)])); (try rfl); (try dsimp only [Act.put]))
  (refine wpAnyH_take (i := 5) (v := ?_) rfl (by kernel_rfl) (by kernel_rfl) (by kernel_rfl) (fun _ _ _ h => h) (Or.inl ⟨by rfl, ?_⟩) hS9 ?_; rotate_left 1; (intro w' hSw; (try dsimp only at hSw); go_simp; (try rw [if_pos (by omega)])); (try rfl); (try dsimp only [Act.put]))
  refine wpAnyH_all (rs := [6]) (by kernel_rfl) (by simp) ?_
  intro i9 hi9
  obtain rfl : i9 = 6 := by simpa using hi9
  unfold wpOp
  go_simp
  refine Or.inl (H1.out.mono ?_)
  intro e' w1 hP
  cases e1 : tmW t.a st with
  | none =>
    rw [e1] at hP He
    obtain ⟨hFx, rfl, hbx⟩ := hP
    refine ⟨rfl, ?_⟩
    show WPost _ _ _ _ _ _ _
    rw [He.out]
    exact ⟨Fd1.trans hFx, rfl, hbx⟩
  | some s1 =>
    rw [e1] at hP He
    obtain ⟨hFx, rfl, hW1⟩ := hP
    have He : Hid (res = (putW [[32], t.rel, [32]] s1).bind fun st => tmW t.b st) := He.out
    have C1 := cd1.fr hFx h1 h2 (by decide)
    have F1 := Fd1.trans hFx
    have b9 := hW1.bel
    refine ⟨⟨C1.1.cell 0 _ rfl, C1.2.cell 0 _ rfl, (b9.cell hlt).trans k0, (b9.cell hlt).trans k1, (b9.cell hlt).trans k2, (b9.cell hlt).trans k3⟩, by kernel_rfl, ?_⟩
    clear hS9 H1 cd1 wd1 be1
    have hbd2 : Below w1.heap.size w1 w1.drew := (Below.refl _ _).drew
    have cd2 := C1.bel hbd2
    have wd2 := hW1.below hbd2
    have Fd2 := F1.trans (Fr.of hbd2)
    have be2 := wd2.bel
    have H2 := hide (put3 w0 q r s1 [32] t.rel [32] w1.drew wd2)
    go_upto_region 1 with fail
    refine wp_region_held (S := fun w' => w'.cell? ⟨c1, 0, none⟩ = some (.pointer (some ⟨q, 0, none⟩)) ∧ w'.cell? ⟨c2, 0, none⟩ = some (.slice (some ⟨b, off, none⟩) l.length cap) ∧ w'.cell? ⟨b, off + i * 9 + 4, none⟩ = some (.string (bs t.rel))) (by kernel_rfl) ?_
    have hS9 : w1.drew.cell? ⟨c1, 0, none⟩ = some (.pointer (some ⟨q, 0, none⟩)) ∧ w1.drew.cell? ⟨c2, 0, none⟩ = some (.slice (some ⟨b, off, none⟩) l.length cap) ∧ w1.drew.cell? ⟨b, off + i * 9 + 4, none⟩ = some (.string (bs t.rel)) := ⟨cd2.1.cell 0 _ rfl, cd2.2.cell 0 _ rfl, (be2.cell hlt).trans k4⟩
    (refine wpAnyH_take (i := 0) (v := ?_) rfl (by kernel_rfl) (by kernel_rfl) (by kernel_rfl) (fun _ _ _ h => h) (Or.inl ⟨by rfl, ?_⟩) hS9 ?_; rotate_left 1; (intro w' hSw; (try dsimp only at hSw); go_simp; (try rw [if_pos (by omega)])); (try rfl); (try dsimp only [Act.put]))
    (refine wpAnyH_take (i := 1) (v := ?_) rfl (by kernel_rfl) (by kernel_rfl) (by kernel_rfl) (fun _ _ _ h => h) (Or.inl ⟨by rfl, ?_⟩) hS9 ?_; rotate_left 1; (intro w' hSw; (try dsimp only at hSw); go_simp; (try rw [if_pos (by omega)])); (try rfl); (try dsimp only [Act.put]))
    (refine wpAnyH_take (i := 2) (v := ?_) rfl (by kernel_rfl) (by kernel_rfl) (by kernel_rfl) (fun _ _ _ h => h) (Or.inl ⟨by rfl, ?_⟩) hS9 ?_; rotate_left 1; (intro w' hSw; (try dsimp only at hSw); go_simp; (try rw [if_pos (by omega)])); (try rfl); (try dsimp only [Act.put]))
    (refine wpAnyH_take (i := 3) (v := ?_) rfl (by kernel_rfl) (by kernel_rfl) (by kernel_rfl) (fun _ _ _ h => h) (Or.inl ⟨by rfl, ?_⟩) hS9 ?_; rotate_left 1; (intro w' hSw; (try dsimp only at hSw); go_simp; (try rw [if_pos (by omega)])); (try rfl); (try dsimp only [Act.put]))
    (refine wpAnyH_take (i := 4) (v := ?_) rfl (by kernel_rfl) (by kernel_rfl) (by kernel_rfl) (fun _ _ _ h => h) (Or.inl ⟨by rfl, ?_⟩) hS9 ?_; rotate_left 1; (intro w' hSw; (try dsimp only at hSw); go_simp; (try rw [if_pos (by omega)])); (try rfl); (try dsimp only [Act.put]))
    (refine wpAnyH_take (i := 5) (v := ?_) rfl (by kernel_rfl) (by kernel_rfl) (by kernel_rfl) (fun _ _ _ h => h) (Or.inl ⟨by rfl, ?_⟩) hS9 ?_; rotate_left 1; (intro w' hSw; (try dsimp only at hSw); go_simp; (try rw [if_pos (by omega)])); (try rfl); (try dsimp only [Act.put]))
    refine wpAnyH_all (rs := [6]) (by kernel_rfl) (by simp) ?_
    intro i9 hi9
    obtain rfl : i9 = 6 := by simpa using hi9
    unfold wpOp
    go_simp
    have hbA := (Below.refl w1.drew.heap.size w1.drew).alloc (Nat.le_refl _) (.cells #[.string (bs [32]), .string (bs t.rel), .string (bs [32])] 9)
    have beA := be2.trans (hbA.mono be2.size)
    refine Or.inl ⟨⟨(cd2.bel hbA).1.cell 0 _ rfl, (cd2.bel hbA).2.cell 0 _ rfl, (beA.cell hlt).trans k4⟩, ?_⟩
    refine wpAnyH_all (rs := [7]) (by kernel_rfl) (by simp) ?_
    intro i9 hi9
    obtain rfl : i9 = 7 := by simpa using hi9
    unfold wpOp
    go_simp
    refine Or.inl (H2.out.mono ?_)
    intro e' w2 hP
    cases e2 : putW [[32], t.rel, [32]] s1 with
    | none =>
      rw [e2] at hP He
      obtain ⟨hFx, rfl, hbx⟩ := hP
      refine ⟨rfl, ?_⟩
      show WPost _ _ _ _ _ _ _
      rw [He.out]
      exact ⟨Fd2.trans hFx, rfl, hbx⟩
    | some s2 =>
      rw [e2] at hP He
      obtain ⟨hFx, rfl, hW2⟩ := hP
      have He : Hid (res = tmW t.b s2) := He.out
      have C2 := cd2.fr hFx h1 h2 (by decide)
      have F2 := Fd2.trans hFx
      have b9 := hW2.bel
      refine ⟨⟨C2.1.cell 0 _ rfl, C2.2.cell 0 _ rfl, (b9.cell hlt).trans k4⟩, by kernel_rfl, ?_⟩
      clear hS9 H2 cd2 wd2 be2
      have hbd3 : Below w2.heap.size w2 w2.drew := (Below.refl _ _).drew
      have cd3 := C2.bel hbd3
      have wd3 := hW2.below hbd3
      have Fd3 := F2.trans (Fr.of hbd3)
      have be3 := wd3.bel
      have H3 := hide (tm_any w0 q r w2.drew t.b xb cb s2 wd3 hsm.b hxb)
      go_upto_region 2 with fail
      refine wp_region_held (S := fun w' => w'.cell? ⟨c1, 0, none⟩ = some (.pointer (some ⟨q, 0, none⟩)) ∧ w'.cell? ⟨c2, 0, none⟩ = some (.slice (some ⟨b, off, none⟩) l.length cap) ∧ w'.cell? ⟨b, off + i * 9 + 5, none⟩ = some (.string (bs t.b.op)) ∧ w'.cell? ⟨b, off + i * 9 + 6, none⟩ = some (.int .i64 t.b.n) ∧ w'.cell? ⟨b, off + i * 9 + 7, none⟩ = some (.string (bs t.b.name)) ∧ w'.cell? ⟨b, off + i * 9 + 8, none⟩ = some (.slice xb t.b.l.length cb)) (by kernel_rfl) ?_
      have hS9 : w2.drew.cell? ⟨c1, 0, none⟩ = some (.pointer (some ⟨q, 0, none⟩)) ∧ w2.drew.cell? ⟨c2, 0, none⟩ = some (.slice (some ⟨b, off, none⟩) l.length cap) ∧ w2.drew.cell? ⟨b, off + i * 9 + 5, none⟩ = some (.string (bs t.b.op)) ∧ w2.drew.cell? ⟨b, off + i * 9 + 6, none⟩ = some (.int .i64 t.b.n) ∧ w2.drew.cell? ⟨b, off + i * 9 + 7, none⟩ = some (.string (bs t.b.name)) ∧ w2.drew.cell? ⟨b, off + i * 9 + 8, none⟩ = some (.slice xb t.b.l.length cb) := ⟨cd3.1.cell 0 _ rfl, cd3.2.cell 0 _ rfl, (be3.cell hlt).trans k5, (be3.cell hlt).trans k6, (be3.cell hlt).trans k7, (be3.cell hlt).trans k8⟩
      (refine wpAnyH_take (i := 0) (v := ?_) rfl (by kernel_rfl) (by kernel_rfl) (by kernel_rfl) (fun _ _ _ h => h) (Or.inl ⟨by rfl, ?_⟩) hS9 ?_; rotate_left 1; (intro w' hSw; (try dsimp only at hSw); go_simp; (try rw [if_pos (by omega)])); (try rfl); (try dsimp only [Act.put]))
      (refine wpAnyH_take (i := 1) (v := ?_) rfl (by kernel_rfl) (by kernel_rfl) (by kernel_rfl) (fun _ _ _ h => h) (Or.inl ⟨by rfl, ?_⟩) hS9 ?_; rotate_left 1; (intro w' hSw; (try dsimp only at hSw); go_simp; (try rw [if_pos (by omega)])); (try rfl); (try dsimp only [Act.put]))
      (refine wpAnyH_take (i := 2) (v := ?_) rfl (by kernel_rfl) (by kernel_rfl) (by kernel_rfl) (fun _ _ _ h => h) (Or.inl ⟨by rfl, ?_⟩) hS9 ?_; rotate_left 1; (intro w' hSw; (try dsimp only at hSw); go_simp; (try rw [if_pos (by omega)])); (try rfl); (try dsimp only [Act.put]))
      (refine wpAnyH_take (i := 3) (v := ?_) rfl (by kernel_rfl) (by kernel_rfl) (by kernel_rfl) (fun _ _ _ h => h) (Or.inl ⟨by rfl, ?_⟩) hS9 ?_; rotate_left 1; (intro w' hSw; (try dsimp only at hSw); go_simp; (try rw [if_pos (by omega)])); (try rfl); (try dsimp only [Act.put]))
      (refine wpAnyH_take (i := 4) (v := ?_) rfl (by kernel_rfl) (by kernel_rfl) (by kernel_rfl) (fun _ _ _ h => h) (Or.inl ⟨by rfl, ?_⟩) hS9 ?_; rotate_left 1; (intro w' hSw; (try dsimp only at hSw); go_simp; (try rw [if_pos (by omega)])); (try rfl); (try dsimp only [Act.put]))
      (refine wpAnyH_take (i := 5) (v := ?_) rfl (by kernel_rfl) (by kernel_rfl) (by kernel_rfl) (fun _ _ _ h => h) (Or.inl ⟨by rfl, ?_⟩) hS9 ?_; rotate_left 1; (intro w' hSw; (try dsimp only at hSw); go_simp; (try rw [if_pos (by omega)])); (try rfl); (try dsimp only [Act.put]))
      refine wpAnyH_all (rs := [6]) (by kernel_rfl) (by simp) ?_
      intro i9 hi9
      obtain rfl : i9 = 6 := by simpa using hi9
      unfold wpOp
      go_simp
      refine Or.inl (H3.out.mono ?_)
      intro e' w3 hP
      cases e3 : tmW t.b s2 with
      | none =>
        rw [e3] at hP He
        obtain ⟨hFx, rfl, hbx⟩ := hP
        refine ⟨rfl, ?_⟩
        show WPost _ _ _ _ _ _ _
        rw [He.out]
        exact ⟨Fd3.trans hFx, rfl, hbx⟩
      | some s3 =>
        rw [e3] at hP He
        obtain ⟨hFx, rfl, hW3⟩ := hP
        have He : Hid (res = some s3) := He.out
        have C3 := cd3.fr hFx h1 h2 (by decide)
        have F3 := Fd3.trans hFx
        have b9 := hW3.bel
        refine ⟨⟨C3.1.cell 0 _ rfl, C3.2.cell 0 _ rfl, (b9.cell hlt).trans k5, (b9.cell hlt).trans k6, (b9.cell hlt).trans k7, (b9.cell hlt).trans k8⟩, by kernel_rfl, ?_⟩
        clear hS9 H3 cd3 wd3 be3
        go_wp2_with fail
        go_end0
        show WPost _ _ _ _ _ _ _
        rw [He.out]
        exact ⟨F3, rfl, hW3⟩
set_option maxRecDepth 20000 in
set_option maxHeartbeats 4000000 in
theorem roww_any (w0 : World) (q r : Nat) (x : Option Addr) (cap : Nat) (l : List Te) (st : Wst) (w : World) (h : Wr w0 w q r st) (hx : RowAt teVals 9 w0 Any x l) (hs : ∀ (i : Nat) (t : Te), l[i]? = some t → TeSm t) (hlen : l.length ≤ maxLen) :
    Calls Tryz.prog 281 #[.pointer (some ⟨q, 0, none⟩), .slice x l.length cap] w fun e w' => WPost w0 q r (rowW l st) w e w' := by
  obtain ⟨res, hres⟩ : ∃ res, res = rowW l st := ⟨_, rfl⟩
  have He := hide hres
  rw [← hres]
  clear hres
  have hl63 := hlen
  unfold maxLen at hl63
  have hC : Cap q w.heap.size (w.heap.size + 1) 65 [.slice x l.length cap] ((w.alloc (.cells #[.pointer (some ⟨q, 0, none⟩)] 237)).alloc (.cells #[.slice x l.length cap] 65)) := by
    have B1 := BoxT.new w 237 [.pointer (some ⟨q, 0, none⟩)]
    have B2 := BoxT.new (w.alloc (.cells #[.pointer (some ⟨q, 0, none⟩)] 237)) 65 [.slice x l.length cap]
    rw [World.size_alloc] at B2
    exact ⟨B1.bel ((Below.refl _ _).alloc (Nat.le_refl _) _), B2⟩
  have hW := (h.alloc (.cells #[.pointer (some ⟨q, 0, none⟩)] 237)).alloc (.cells #[.slice x l.length cap] 65)
  have F0 : Fr q w ((w.alloc (.cells #[.pointer (some ⟨q, 0, none⟩)] 237)).alloc (.cells #[.slice x l.length cap] 65)) := ((Fr.refl _ _).alloc _).alloc _
  have h1 : w.heap.size ≠ q := by have := h.lt; omega
  have h2 : w.heap.size + 1 ≠ q := by have := h.lt; omega
  obtain ⟨W0, hW0⟩ : ∃ W, W = (w.alloc (.cells #[.pointer (some ⟨q, 0, none⟩)] 237)).alloc (.cells #[.slice x l.length cap] 65) := ⟨_, rfl⟩
  rw [← hW0] at hC hW F0
  go_enter Tryz.func281, Tryz.ntmps281
  go_upto_region 1 with fail
  change Code.wp _ _ _ _ ((w.alloc (.cells #[.pointer (some ⟨q, 0, none⟩)] 237)).alloc (.cells #[.slice x l.length cap] 65))
  rw [← hW0]
  clear hW0 h
  obtain ⟨c1, hc1⟩ : ∃ g, g = w.heap.size := ⟨_, rfl⟩
  obtain ⟨c2, hc2⟩ : ∃ g, g = w.heap.size + 1 := ⟨_, rfl⟩
  rw [← hc2, ← hc1] at hC
  rw [← hc1] at h1
  rw [← hc2] at h2
  rw [← hc2, ← hc1]
  clear hc1 hc2
  have k1 := hC.1.cell 0 _ rfl
  have k2 := hC.2.cell 0 _ rfl
  unfold rowW at He
  have HO := hide (row1_any w0 q r c1 c2 x cap l h1 h2 hx hs)
  by_cases h0 : l.length = 0
  · rw [if_pos h0] at He
    have h0' : ((l.length : Int) == 0) = true := by simp [h0]
    clear h0
    have H1 := hide (put1 w0 q r st [116, 114, 117, 101] W0 hW)
    go_wp2_with fail
    refine H1.out.mono ?_
    intro e' w1 hP
    cases e1 : putW [[116, 114, 117, 101]] st with
    | none =>
      rw [e1] at hP He
      obtain ⟨hFx, rfl, hbx⟩ := hP
      go_wp2_with fail
      refine ⟨rfl, ?_⟩
      show WPost _ _ _ _ _ _ _
      rw [He.out]
      exact ⟨F0.trans hFx, rfl, hbx⟩
    | some s1 =>
      rw [e1] at hP He
      obtain ⟨hFx, rfl, hW1⟩ := hP
      have He2 : Hid (res = betW [32, 97, 110, 100, 32] (fun i st => match l[i]? with | some t => teW t st | none => none) l.length 0 s1) := He.out
      have hC1 := hC.fr hFx h1 h2 (by decide)
      have m1 := hC1.1.cell 0 _ rfl
      have m2 := hC1.2.cell 0 _ rfl
      have F1 := F0.trans hFx
      have H2 := hide (between_any w0 q r 296 l.length c1 c2 [32, 97, 110, 100, 32] (Cap q c1 c2 65 [.slice x l.length cap]) (fun i st => match l[i]? with | some t => teW t st | none => none) s1 w1 (hide enters_row1) HO (hide (fun W W' hc hf => hc.fr hf h1 h2 (by decide))) hW1 (hide hC1) hlen)
      clear He H1 e1
      go_wp2_with fail
      refine H2.out.mono ?_
      intro e' w2 hP
      cases e2 : betW [32, 97, 110, 100, 32] (fun i st => match l[i]? with | some t => teW t st | none => none) l.length 0 s1 with
      | none =>
        rw [e2] at hP He2
        obtain ⟨hFx, rfl, hbx⟩ := hP
        go_wp2_with fail
        refine ⟨rfl, ?_⟩
        show WPost _ _ _ _ _ _ _
        rw [He2.out]
        exact ⟨F1.trans hFx, rfl, hbx⟩
      | some s2 =>
        rw [e2] at hP He2
        obtain ⟨hFx, rfl, hW2⟩ := hP
        go_wp2_with fail
        go_end0
        show WPost _ _ _ _ _ _ _
        rw [He2.out]
        exact ⟨F1.trans hFx, rfl, hW2⟩
  · rw [if_neg h0] at He
    have h0' : ((l.length : Int) == 0) = false := by simp; exact fun e => h0 (by rw [e]; rfl)
    have He2 : Hid (res = betW [32, 97, 110, 100, 32] (fun i st => match l[i]? with | some t => teW t st | none => none) l.length 0 st) := He.out
    have H2 := hide (between_any w0 q r 296 l.length c1 c2 [32, 97, 110, 100, 32] (Cap q c1 c2 65 [.slice x l.length cap]) (fun i st => match l[i]? with | some t => teW t st | none => none) st W0 (hide enters_row1) HO (hide (fun W W' hc hf => hc.fr hf h1 h2 (by decide))) hW (hide hC) hlen)
    clear He h0
    go_wp2_with fail
    refine H2.out.mono ?_
    intro e' w2 hP
    cases e2 : betW [32, 97, 110, 100, 32] (fun i st => match l[i]? with | some t => teW t st | none => none) l.length 0 st with
    | none =>
      rw [e2] at hP He2
      obtain ⟨hFx, rfl, hbx⟩ := hP
      go_wp2_with fail
      refine ⟨rfl, ?_⟩
      show WPost _ _ _ _ _ _ _
      rw [He2.out]
      exact ⟨F0.trans hFx, rfl, hbx⟩
    | some s2 =>
      rw [e2] at hP He2
      obtain ⟨hFx, rfl, hW2⟩ := hP
      go_wp2_with fail
      go_end0
      show WPost _ _ _ _ _ _ _
      rw [He2.out]
      exact ⟨F0.trans hFx, rfl, hW2⟩
structure RwSm (t : List Te) : Prop where
  len : t.length ≤ maxLen
  el : ∀ (i : Nat) (e : Te), t[i]? = some e → TeSm e
theorem enters_cond1 : Enters 280 := enters_of Tryz.func280 (by kernel_rfl) rfl
set_option maxRecDepth 20000 in
set_option maxHeartbeats 4000000 in
theorem cond1_any (w0 : World) (q r c1 c2 : Nat) (x : Option Addr) (cap : Nat) (l : List (List Te)) (h1 : c1 ≠ q) (h2 : c2 ≠ q) (hx : RowAt coVals 1 w0 Any x l) (hs : ∀ (i : Nat) (t : List Te), l[i]? = some t → RwSm t) : OneW w0 q r 280 l.length c1 c2 (Cap q c1 c2 183 [.slice x l.length cap]) (fun i st => match l[i]? with | some t => rowW t st | none => none) := by
  intro w st i hi h hC
  obtain ⟨t, ht⟩ : ∃ t, l[i]? = some t := ⟨_, List.getElem?_eq_getElem hi⟩
  show Calls _ _ _ _ (fun e W' => WPost w0 q r (match l[i]? with | some t => rowW t st | none => none) w e W')
  rw [ht]
  obtain ⟨res, hres⟩ : ∃ res, res = rowW t st := ⟨_, rfl⟩
  have He := hide hres
  show Calls _ _ _ _ (fun e W' => WPost w0 q r (rowW t st) w e W')
  rw [← hres]
  clear hres
  have hii : (i : Int) < (l.length : Int) := by omega
  have F0 := Fr.refl q w
  have hsm := hs i t ht
  obtain ⟨b, off, rfl, hlt, vs, hvl, hv, xr, cr, rfl, hxr⟩ := hx.elem ht
  have k0 := hv 0 _ rfl
  simp only [Nat.add_zero, Nat.mul_one] at k0
  clear hv ht hs
  go_enter Tryz.func280, Tryz.ntmps280
  have hbd4 : Below w.heap.size w w.drew := (Below.refl _ _).drew
  have cd4 := hC.bel hbd4
  have wd4 := h.below hbd4
  have Fd4 := F0.trans (Fr.of hbd4)
  have be4 := wd4.bel
  have H4 := hide (roww_any w0 q r xr cr t st w.drew wd4 hxr hsm.el hsm.len)
  skip
  refine wp_region_held (S := fun w' => w'.cell? ⟨c1, 0, none⟩ = some (.pointer (some ⟨q, 0, none⟩)) ∧ w'.cell? ⟨c2, 0, none⟩ = some (.slice (some ⟨b, off, none⟩) l.length cap) ∧ w'.cell? ⟨b, off + i, none⟩ = some (.slice xr t.length cr)) (by kernel_rfl) ?_
  have hS9 : w.drew.cell? ⟨c1, 0, none⟩ = some (.pointer (some ⟨q, 0, none⟩)) ∧ w.drew.cell? ⟨c2, 0, none⟩ = some (.slice (some ⟨b, off, none⟩) l.length cap) ∧ w.drew.cell? ⟨b, off + i, none⟩ = some (.slice xr t.length cr) := ⟨cd4.1.cell 0 _ rfl, cd4.2.cell 0 _ rfl, (be4.cell hlt).trans k0⟩
  (refine wpAnyH_take (i := 0) (v := ?_) rfl (by kernel_rfl) (by kernel_rfl) (by kernel_rfl) (fun _ _ _ h => h) (Or.inl ⟨by rfl, ?_⟩) hS9 ?_; rotate_left 1; (intro w' hSw; (try dsimp only at hSw); go_simp; (try rw [if_pos (by omega)])); (try rfl); (try dsimp only [Act.put]))
  (refine wpAnyH_take (i := 1) (v := ?_) rfl (by kernel_rfl) (by kernel_rfl) (by kernel_rfl) (fun _ _ _ h => h) (Or.inl ⟨by rfl, ?_⟩) hS9 ?_; rotate_left 1; (intro w' hSw; (try dsimp only at hSw); go_simp; (try rw [if_pos (by omega)])); (try rfl); (try dsimp only [Act.put]))
  (refine wpAnyH_take (i := 2) (v := ?_) rfl (by kernel_rfl) (by kernel_rfl) (by kernel_rfl) (fun _ _ _ h => h) (Or.inl ⟨by rfl, ?_⟩) hS9 ?_; rotate_left 1; (intro w' hSw; (try dsimp only at hSw); go_simp; (try rw [if_pos (by omega)])); (try rfl); (try dsimp only [Act.put]))
  (refine wpAnyH_take (i := 3) (v := ?_) rfl (by kernel_rfl) (by kernel_rfl) (by kernel_rfl) (fun _ _ _ h => h) (Or.inl ⟨by rfl, ?_⟩) hS9 ?_; rotate_left 1; (intro w' hSw; (try dsimp only at hSw); go_simp; (try rw [if_pos (by omega)])); (try rfl); (try dsimp only [Act.put]))
  (refine wpAnyH_take (i := 4) (v := ?_) rfl (by kernel_rfl) (by kernel_rfl) (by kernel_rfl) (fun _ _ _ h => h) (Or.inl ⟨by rfl, ?_⟩) hS9 ?_; rotate_left 1; (intro w' hSw; (try dsimp only at hSw); go_simp; (try rw [if_pos (by omega)])); (try rfl); (try dsimp only [Act.put]))
  refine wpAnyH_all (rs := [5]) (by kernel_rfl) (by simp) ?_
  intro i9 hi9
  obtain rfl : i9 = 5 := by simpa using hi9
  unfold wpOp
  go_simp
  refine Or.inl (H4.out.mono ?_)
  intro e' w4 hP
  cases e4 : rowW t st with
  | none =>
    rw [e4] at hP He
    obtain ⟨hFx, rfl, hbx⟩ := hP
    refine ⟨rfl, ?_⟩
    show WPost _ _ _ _ _ _ _
    rw [He.out]
    exact ⟨Fd4.trans hFx, rfl, hbx⟩
  | some s4 =>
    rw [e4] at hP He
    obtain ⟨hFx, rfl, hW4⟩ := hP
    have He : Hid (res = some s4) := He.out
    have C4 := cd4.fr hFx h1 h2 (by decide)
    have F4 := Fd4.trans hFx
    have b9 := hW4.bel
    refine ⟨⟨C4.1.cell 0 _ rfl, C4.2.cell 0 _ rfl, (b9.cell hlt).trans k0⟩, by kernel_rfl, ?_⟩
    clear hS9 H4 cd4 wd4 be4
    go_end0
    show WPost _ _ _ _ _ _ _
    rw [He.out]
    exact ⟨F4, rfl, hW4⟩
set_option maxRecDepth 20000 in
set_option maxHeartbeats 4000000 in
theorem condw_any (w0 : World) (q r : Nat) (x : Option Addr) (cap : Nat) (l : List (List Te)) (st : Wst) (w : World) (h : Wr w0 w q r st) (hx : RowAt coVals 1 w0 Any x l) (hs : ∀ (i : Nat) (t : List Te), l[i]? = some t → RwSm t) (hlen : l.length ≤ maxLen) :
    Calls Tryz.prog 253 #[.pointer (some ⟨q, 0, none⟩), .slice x l.length cap] w fun e w' => WPost w0 q r (condW l st) w e w' := by
  obtain ⟨res, hres⟩ : ∃ res, res = condW l st := ⟨_, rfl⟩
  have He := hide hres
  rw [← hres]
  clear hres
  have hl63 := hlen
  unfold maxLen at hl63
  have hC : Cap q w.heap.size (w.heap.size + 1) 183 [.slice x l.length cap] ((w.alloc (.cells #[.pointer (some ⟨q, 0, none⟩)] 237)).alloc (.cells #[.slice x l.length cap] 183)) := by
    have B1 := BoxT.new w 237 [.pointer (some ⟨q, 0, none⟩)]
    have B2 := BoxT.new (w.alloc (.cells #[.pointer (some ⟨q, 0, none⟩)] 237)) 183 [.slice x l.length cap]
    rw [World.size_alloc] at B2
    exact ⟨B1.bel ((Below.refl _ _).alloc (Nat.le_refl _) _), B2⟩
  have hW := (h.alloc (.cells #[.pointer (some ⟨q, 0, none⟩)] 237)).alloc (.cells #[.slice x l.length cap] 183)
  have F0 : Fr q w ((w.alloc (.cells #[.pointer (some ⟨q, 0, none⟩)] 237)).alloc (.cells #[.slice x l.length cap] 183)) := ((Fr.refl _ _).alloc _).alloc _
  have h1 : w.heap.size ≠ q := by have := h.lt; omega
  have h2 : w.heap.size + 1 ≠ q := by have := h.lt; omega
  obtain ⟨W0, hW0⟩ : ∃ W, W = (w.alloc (.cells #[.pointer (some ⟨q, 0, none⟩)] 237)).alloc (.cells #[.slice x l.length cap] 183) := ⟨_, rfl⟩
  rw [← hW0] at hC hW F0
  go_enter Tryz.func253, Tryz.ntmps253
  go_upto_region 1 with fail
  change Code.wp _ _ _ _ ((w.alloc (.cells #[.pointer (some ⟨q, 0, none⟩)] 237)).alloc (.cells #[.slice x l.length cap] 183))
  rw [← hW0]
  clear hW0 h
  obtain ⟨c1, hc1⟩ : ∃ g, g = w.heap.size := ⟨_, rfl⟩
  obtain ⟨c2, hc2⟩ : ∃ g, g = w.heap.size + 1 := ⟨_, rfl⟩
  rw [← hc2, ← hc1] at hC
  rw [← hc1] at h1
  rw [← hc2] at h2
  rw [← hc2, ← hc1]
  clear hc1 hc2
  have k1 := hC.1.cell 0 _ rfl
  have k2 := hC.2.cell 0 _ rfl
  unfold condW at He
  have HO := hide (cond1_any w0 q r c1 c2 x cap l h1 h2 hx hs)
  by_cases h0 : l.length = 0
  · rw [if_pos h0] at He
    have h0' : ((l.length : Int) == 0) = true := by simp [h0]
    clear h0
    have H1 := hide (put1 w0 q r st [102, 97, 108, 115, 101] W0 hW)
    go_wp2_with fail
    refine H1.out.mono ?_
    intro e' w1 hP
    cases e1 : putW [[102, 97, 108, 115, 101]] st with
    | none =>
      rw [e1] at hP He
      obtain ⟨hFx, rfl, hbx⟩ := hP
      go_wp2_with fail
      refine ⟨rfl, ?_⟩
      show WPost _ _ _ _ _ _ _
      rw [He.out]
      exact ⟨F0.trans hFx, rfl, hbx⟩
    | some s1 =>
      rw [e1] at hP He
      obtain ⟨hFx, rfl, hW1⟩ := hP
      have He2 : Hid (res = betW [32, 111, 114, 32] (fun i st => match l[i]? with | some t => rowW t st | none => none) l.length 0 s1) := He.out
      have hC1 := hC.fr hFx h1 h2 (by decide)
      have m1 := hC1.1.cell 0 _ rfl
      have m2 := hC1.2.cell 0 _ rfl
      have F1 := F0.trans hFx
      have H2 := hide (between_any w0 q r 280 l.length c1 c2 [32, 111, 114, 32] (Cap q c1 c2 183 [.slice x l.length cap]) (fun i st => match l[i]? with | some t => rowW t st | none => none) s1 w1 (hide enters_cond1) HO (hide (fun W W' hc hf => hc.fr hf h1 h2 (by decide))) hW1 (hide hC1) hlen)
      clear He H1 e1
      go_wp2_with fail
      refine H2.out.mono ?_
      intro e' w2 hP
      cases e2 : betW [32, 111, 114, 32] (fun i st => match l[i]? with | some t => rowW t st | none => none) l.length 0 s1 with
      | none =>
        rw [e2] at hP He2
        obtain ⟨hFx, rfl, hbx⟩ := hP
        go_wp2_with fail
        refine ⟨rfl, ?_⟩
        show WPost _ _ _ _ _ _ _
        rw [He2.out]
        exact ⟨F1.trans hFx, rfl, hbx⟩
      | some s2 =>
        rw [e2] at hP He2
        obtain ⟨hFx, rfl, hW2⟩ := hP
        go_wp2_with fail
        go_end0
        show WPost _ _ _ _ _ _ _
        rw [He2.out]
        exact ⟨F1.trans hFx, rfl, hW2⟩
  · rw [if_neg h0] at He
    have h0' : ((l.length : Int) == 0) = false := by simp; exact fun e => h0 (by rw [e]; rfl)
    have He2 : Hid (res = betW [32, 111, 114, 32] (fun i st => match l[i]? with | some t => rowW t st | none => none) l.length 0 st) := He.out
    have H2 := hide (between_any w0 q r 280 l.length c1 c2 [32, 111, 114, 32] (Cap q c1 c2 183 [.slice x l.length cap]) (fun i st => match l[i]? with | some t => rowW t st | none => none) st W0 (hide enters_cond1) HO (hide (fun W W' hc hf => hc.fr hf h1 h2 (by decide))) hW (hide hC) hlen)
    clear He h0
    go_wp2_with fail
    refine H2.out.mono ?_
    intro e' w2 hP
    cases e2 : betW [32, 111, 114, 32] (fun i st => match l[i]? with | some t => rowW t st | none => none) l.length 0 st with
    | none =>
      rw [e2] at hP He2
      obtain ⟨hFx, rfl, hbx⟩ := hP
      go_wp2_with fail
      refine ⟨rfl, ?_⟩
      show WPost _ _ _ _ _ _ _
      rw [He2.out]
      exact ⟨F0.trans hFx, rfl, hbx⟩
    | some s2 =>
      rw [e2] at hP He2
      obtain ⟨hFx, rfl, hW2⟩ := hP
      go_wp2_with fail
      go_end0
      show WPost _ _ _ _ _ _ _
      rw [He2.out]
      exact ⟨F0.trans hFx, rfl, hW2⟩
theorem enters_statement1 : Enters 252 := enters_of Tryz.func252 (by kernel_rfl) rfl
set_option maxRecDepth 20000 in
set_option maxHeartbeats 4000000 in
theorem statement1_any (w0 : World) (q r c1 c2 : Nat) (x : Option Addr) (cap : Nat) (l : List Ex) (v0 v1 v2 v4 v5 v6 : Value) (h1 : c1 ≠ q) (h2 : c2 ≠ q) (hx : ExsAt w0 Any x l) (hs : ∀ (i : Nat) (t : Ex), l[i]? = some t → ExSm t) : OneW w0 q r 252 l.length c1 c2 (Cap q c1 c2 185 [v0, v1, v2, .slice x l.length cap, v4, v5, v6]) (fun i st => match l[i]? with | some t => tmW t st | none => none) := by
  intro w st i hi h hC
  obtain ⟨t, ht⟩ : ∃ t, l[i]? = some t := ⟨_, List.getElem?_eq_getElem hi⟩
  show Calls _ _ _ _ (fun e W' => WPost w0 q r (match l[i]? with | some t => tmW t st | none => none) w e W')
  rw [ht]
  obtain ⟨res, hres⟩ : ∃ res, res = tmW t st := ⟨_, rfl⟩
  have He := hide hres
  show Calls _ _ _ _ (fun e W' => WPost w0 q r (tmW t st) w e W')
  rw [← hres]
  clear hres
  have hii : (i : Int) < (l.length : Int) := by omega
  have F0 := Fr.refl q w
  have hsm := hs i t ht
  obtain ⟨b, off, xa, ca, rfl, hlt, k0, k1, k2, k3, hxa⟩ := hx.elem ht
  clear ht hs
  go_enter Tryz.func252, Tryz.ntmps252
  have hbd5 : Below w.heap.size w w.drew := (Below.refl _ _).drew
  have cd5 := hC.bel hbd5
  have wd5 := h.below hbd5
  have Fd5 := F0.trans (Fr.of hbd5)
  have be5 := wd5.bel
  have H5 := hide (tm_any w0 q r w.drew t xa ca st wd5 hsm hxa)
  skip
  refine wp_region_held (S := fun w' => w'.cell? ⟨c1, 0, none⟩ = some (.pointer (some ⟨q, 0, none⟩)) ∧ w'.cell? ⟨c2, 3, none⟩ = some (.slice (some ⟨b, off, none⟩) l.length cap) ∧ w'.cell? ⟨b, off + i * 4, none⟩ = some (.string (bs t.op)) ∧ w'.cell? ⟨b, off + i * 4 + 1, none⟩ = some (.int .i64 t.n) ∧ w'.cell? ⟨b, off + i * 4 + 2, none⟩ = some (.string (bs t.name)) ∧ w'.cell? ⟨b, off + i * 4 + 3, none⟩ = some (.slice xa t.l.length ca)) (by kernel_rfl) ?_
  have hS9 : w.drew.cell? ⟨c1, 0, none⟩ = some (.pointer (some ⟨q, 0, none⟩)) ∧ w.drew.cell? ⟨c2, 3, none⟩ = some (.slice (some ⟨b, off, none⟩) l.length cap) ∧ w.drew.cell? ⟨b, off + i * 4, none⟩ = some (.string (bs t.op)) ∧ w.drew.cell? ⟨b, off + i * 4 + 1, none⟩ = some (.int .i64 t.n) ∧ w.drew.cell? ⟨b, off + i * 4 + 2, none⟩ = some (.string (bs t.name)) ∧ w.drew.cell? ⟨b, off + i * 4 + 3, none⟩ = some (.slice xa t.l.length ca) := ⟨cd5.1.cell 0 _ rfl, cd5.2.cell 3 _ rfl, (be5.cell hlt).trans k0, (be5.cell hlt).trans k1, (be5.cell hlt).trans k2, (be5.cell hlt).trans k3⟩
  (refine wpAnyH_take (i := 0) (v := ?_) rfl (by kernel_rfl) (by kernel_rfl) (by kernel_rfl) (fun _ _ _ h => h) (Or.inl ⟨by rfl, ?_⟩) hS9 ?_; rotate_left 1; (intro w' hSw; (try dsimp only at hSw); go_simp; (try rw [if_pos (by omega)])); (try rfl); (try dsimp only [Act.put]))
  (refine wpAnyH_take (i := 1) (v := ?_) rfl (by kernel_rfl) (by kernel_rfl) (by kernel_rfl) (fun _ _ _ h => h) (Or.inl ⟨by rfl, ?_⟩) hS9 ?_; rotate_left 1; (intro w' hSw; (try dsimp only at hSw); go_simp; (try rw [if_pos (by omega)])); (try rfl); (try dsimp only [Act.put]))
  (refine wpAnyH_take (i := 2) (v := ?_) rfl (by kernel_rfl) (by kernel_rfl) (by kernel_rfl) (fun _ _ _ h => h) (Or.inl ⟨by rfl, ?_⟩) hS9 ?_; rotate_left 1; (intro w' hSw; (try dsimp only at hSw); go_simp; (try rw [if_pos (by omega)])); (try rfl); (try dsimp only [Act.put]))
  (refine wpAnyH_take (i := 3) (v := ?_) rfl (by kernel_rfl) (by kernel_rfl) (by kernel_rfl) (fun _ _ _ h => h) (Or.inl ⟨by rfl, ?_⟩) hS9 ?_; rotate_left 1; (intro w' hSw; (try dsimp only at hSw); go_simp; (try rw [if_pos (by omega)])); (try rfl); (try dsimp only [Act.put]))
  (refine wpAnyH_take (i := 4) (v := ?_) rfl (by kernel_rfl) (by kernel_rfl) (by kernel_rfl) (fun _ _ _ h => h) (Or.inl ⟨by rfl, ?_⟩) hS9 ?_; rotate_left 1; (intro w' hSw; (try dsimp only at hSw); go_simp; (try rw [if_pos (by omega)])); (try rfl); (try dsimp only [Act.put]))
  (refine wpAnyH_take (i := 5) (v := ?_) rfl (by kernel_rfl) (by kernel_rfl) (by kernel_rfl) (fun _ _ _ h => h) (Or.inl ⟨by rfl, ?_⟩) hS9 ?_; rotate_left 1; (intro w' hSw; (try dsimp only at hSw); go_simp; (try rw [if_pos (by omega)])); (try rfl); (try dsimp only [Act.put]))
  refine wpAnyH_all (rs := [6]) (by kernel_rfl) (by simp) ?_
  intro i9 hi9
  obtain rfl : i9 = 6 := by simpa using hi9
  unfold wpOp
  go_simp
  refine Or.inl (H5.out.mono ?_)
  intro e' w5 hP
  cases e5 : tmW t st with
  | none =>
    rw [e5] at hP He
    obtain ⟨hFx, rfl, hbx⟩ := hP
    refine ⟨rfl, ?_⟩
    show WPost _ _ _ _ _ _ _
    rw [He.out]
    exact ⟨Fd5.trans hFx, rfl, hbx⟩
  | some s5 =>
    rw [e5] at hP He
    obtain ⟨hFx, rfl, hW5⟩ := hP
    have He : Hid (res = some s5) := He.out
    have C5 := cd5.fr hFx h1 h2 (by decide)
    have F5 := Fd5.trans hFx
    have b9 := hW5.bel
    refine ⟨⟨C5.1.cell 0 _ rfl, C5.2.cell 3 _ rfl, (b9.cell hlt).trans k0, (b9.cell hlt).trans k1, (b9.cell hlt).trans k2, (b9.cell hlt).trans k3⟩, by kernel_rfl, ?_⟩
    clear hS9 H5 cd5 wd5 be5
    go_end0
    show WPost _ _ _ _ _ _ _
    rw [He.out]
    exact ⟨F5, rfl, hW5⟩
theorem enters_procw1 : Enters 211 := enters_of Tryz.func211 (by kernel_rfl) rfl
set_option maxRecDepth 20000 in
set_option maxHeartbeats 4000000 in
theorem procw1_any (w0 : World) (q r c1 c2 : Nat) (x : Option Addr) (cap : Nat) (l : List Bs) (v0 v2 v3 v4 v5 v6 : Value) (h1 : c1 ≠ q) (h2 : c2 ≠ q) (hx : RowAt strVals 1 w0 Any x l) : OneW w0 q r 211 l.length c1 c2 (Cap q c1 c2 124 [v0, .slice x l.length cap, v2, v3, v4, v5, v6]) (fun i st => match l[i]? with | some t => putW [t] st | none => none) := by
  intro w st i hi h hC
  obtain ⟨t, ht⟩ : ∃ t, l[i]? = some t := ⟨_, List.getElem?_eq_getElem hi⟩
  show Calls _ _ _ _ (fun e W' => WPost w0 q r (match l[i]? with | some t => putW [t] st | none => none) w e W')
  rw [ht]
  obtain ⟨res, hres⟩ : ∃ res, res = putW [t] st := ⟨_, rfl⟩
  have He := hide hres
  show Calls _ _ _ _ (fun e W' => WPost w0 q r (putW [t] st) w e W')
  rw [← hres]
  clear hres
  have hii : (i : Int) < (l.length : Int) := by omega
  have F0 := Fr.refl q w
  obtain ⟨b, off, rfl, hlt, vs, hvl, hv, rfl⟩ := hx.elem ht
  have k0 := hv 0 _ rfl
  simp only [Nat.add_zero, Nat.mul_one] at k0
  clear hv ht
  go_enter Tryz.func211, Tryz.ntmps211
  have hbd6 : Below w.heap.size w w.drew := (Below.refl _ _).drew
  have cd6 := hC.bel hbd6
  have wd6 := h.below hbd6
  have Fd6 := F0.trans (Fr.of hbd6)
  have be6 := wd6.bel
  have H6 := hide (put1 w0 q r st t w.drew wd6)
  skip
  refine wp_region_held (S := fun w' => w'.cell? ⟨c1, 0, none⟩ = some (.pointer (some ⟨q, 0, none⟩)) ∧ w'.cell? ⟨c2, 1, none⟩ = some (.slice (some ⟨b, off, none⟩) l.length cap) ∧ w'.cell? ⟨b, off + i, none⟩ = some (.string (bs t))) (by kernel_rfl) ?_
  have hS9 : w.drew.cell? ⟨c1, 0, none⟩ = some (.pointer (some ⟨q, 0, none⟩)) ∧ w.drew.cell? ⟨c2, 1, none⟩ = some (.slice (some ⟨b, off, none⟩) l.length cap) ∧ w.drew.cell? ⟨b, off + i, none⟩ = some (.string (bs t)) := ⟨cd6.1.cell 0 _ rfl, cd6.2.cell 1 _ rfl, (be6.cell hlt).trans k0⟩
  (refine wpAnyH_take (i := 0) (v := ?_) rfl (by kernel_rfl) (by kernel_rfl) (by kernel_rfl) (fun _ _ _ h => h) (Or.inl ⟨by rfl, ?_⟩) hS9 ?_; rotate_left 1; (intro w' hSw; (try dsimp only at hSw); go_simp; (try rw [if_pos (by omega)])); (try rfl); (try dsimp only [Act.put]))
  (refine wpAnyH_take (i := 1) (v := ?_) rfl (by kernel_rfl) (by kernel_rfl) (by kernel_rfl) (fun _ _ _ h => h) (Or.inl ⟨by rfl, ?_⟩) hS9 ?_; rotate_left 1; (intro w' hSw; (try dsimp only at hSw); go_simp; (try rw [if_pos (by omega)])); (try rfl); (try dsimp only [Act.put]))
  (refine wpAnyH_take (i := 2) (v := ?_) rfl (by kernel_rfl) (by kernel_rfl) (by kernel_rfl) (fun _ _ _ h => h) (Or.inl ⟨by rfl, ?_⟩) hS9 ?_; rotate_left 1; (intro w' hSw; (try dsimp only at hSw); go_simp; (try rw [if_pos (by omega)])); (try rfl); (try dsimp only [Act.put]))
  (refine wpAnyH_take (i := 3) (v := ?_) rfl (by kernel_rfl) (by kernel_rfl) (by kernel_rfl) (fun _ _ _ h => h) (Or.inl ⟨by rfl, ?_⟩) hS9 ?_; rotate_left 1; (intro w' hSw; (try dsimp only at hSw); go_simp; (try rw [if_pos (by omega)])); (try rfl); (try dsimp only [Act.put]))
  (refine wpAnyH_take (i := 4) (v := ?_) rfl (by kernel_rfl) (by kernel_rfl) (by kernel_rfl) (fun _ _ _ h => h) (Or.inl ⟨by rfl, ?_⟩) hS9 ?_; rotate_left 1; (intro w' hSw; (try dsimp only at hSw); go_simp; (try rw [if_pos (by omega)])); (try rfl); (try dsimp only [Act.put]))
  (refine wpAnyH_take (i := 5) (v := ?_) rfl (by kernel_rfl) (by kernel_rfl) (by kernel_rfl) (fun _ _ _ h => h) (Or.inl ⟨by rfl, ?_⟩) hS9 ?_; rotate_left 1; (intro w' hSw; (try dsimp only at hSw); go_simp; (try rw [if_pos (by omega)])); (try rfl); (try dsimp only [Act.put]))
  refine wpAnyH_all (rs := [6]) (by kernel_rfl) (by simp) ?_
  intro i9 hi9
  obtain rfl : i9 = 6 := by simpa using hi9
  unfold wpOp
  go_simp
  have hbA := (Below.refl w.drew.heap.size w.drew).alloc (Nat.le_refl _) (.cells #[.string (bs t)] 9)
  have beA := be6.trans (hbA.mono be6.size)
  refine Or.inl ⟨⟨(cd6.bel hbA).1.cell 0 _ rfl, (cd6.bel hbA).2.cell 1 _ rfl, (beA.cell hlt).trans k0⟩, ?_⟩
  refine wpAnyH_all (rs := [7]) (by kernel_rfl) (by simp) ?_
  intro i9 hi9
  obtain rfl : i9 = 7 := by simpa using hi9
  unfold wpOp
  go_simp
  refine Or.inl (H6.out.mono ?_)
  intro e' w6 hP
  cases e6 : putW [t] st with
  | none =>
    rw [e6] at hP He
    obtain ⟨hFx, rfl, hbx⟩ := hP
    refine ⟨rfl, ?_⟩
    show WPost _ _ _ _ _ _ _
    rw [He.out]
    exact ⟨Fd6.trans hFx, rfl, hbx⟩
  | some s6 =>
    rw [e6] at hP He
    obtain ⟨hFx, rfl, hW6⟩ := hP
    have He : Hid (res = some s6) := He.out
    have C6 := cd6.fr hFx h1 h2 (by decide)
    have F6 := Fd6.trans hFx
    have b9 := hW6.bel
    refine ⟨⟨C6.1.cell 0 _ rfl, C6.2.cell 1 _ rfl, (b9.cell hlt).trans k0⟩, by kernel_rfl, ?_⟩
    clear hS9 H6 cd6 wd6 be6
    go_end0
    show WPost _ _ _ _ _ _ _
    rw [He.out]
    exact ⟨F6, rfl, hW6⟩
end Go.Proofs.YtbfhaabpfkopdaaGreatDoor
