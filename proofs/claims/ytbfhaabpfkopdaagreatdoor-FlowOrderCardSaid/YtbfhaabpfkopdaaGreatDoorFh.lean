/- Graphs: points, as they are come to: the document's answer walked (visit). -/
import Derived.Test.YtbfhaabpfkopdaaGreatDoorFf
namespace Go.Proofs.YtbfhaabpfkopdaaGreatDoor
open Go.RowKit
set_option linter.unusedVariables false

section
variable (w0 : World) (rb n : Nat) (xv xa xe xh : Option Addr) (nv cv na ca ne ce nh ch : Nat) (P : Int) (E : List Eg)
/-- What a visit answers, and what is seen then. -/
def RefC (k : Nat) : Prop := ∀ (W : World) (p : Nat) (seen : List Bool), Below w0.heap.size w0 W → BoxN W rb (seen.map Value.bool) → p < n → seen.length = n → seen[p]? = some false → uns seen ≤ k →
  Calls Tryz.prog 63 #[.agg #[.slice xv nv cv, .slice xa na ca, .int .i64 P, .slice xe ne ce, .slice xh nh ch], .int .i64 p, (.slice (some ⟨rb, 0, none⟩) n n)] W fun e W' => ∃ v, e = .returned v ∧ W'.ownsRow W.heap.size 3 1 v (dfs E k p seen).2.length ((dfs E k p seen).2.map (Value.int .i64)) ∧ BoxN W' rb ((dfs E k p seen).1.map Value.bool) ∧ Gr rb W W'
end
theorem owns_mono {W : World} {base base' e size n : Nat} {v : Value} {xs : List Value} (h : W.ownsRow base e size v n xs) (hb : base' ≤ base) : W.ownsRow base' e size v n xs := by
  refine ⟨h.1, ?_⟩
  rcases h.2 with h | ⟨g, cap, cur, h1, h2, h3⟩
  · exact .inl h
  · exact .inr ⟨g, cap, cur, h1, by omega, h3⟩
/-- A row that is owned: where it lies, and its cells. -/
theorem owns_at {W : World} {base e n : Nat} {v : Value} {xs : List Value} (h : W.ownsRow base e 1 v n xs) (hn : 0 < n) : ∃ g cap, v = .slice (some ⟨g, 0, none⟩) n cap ∧ base ≤ g ∧ ∀ j u, xs[j]? = some u → W.cell? ((⟨g, 0, none⟩ : Addr).add j) = some u := by
  rcases h.2 with ⟨_, h0⟩ | ⟨g, cap, cur, h1, h2, h3, h4, h5, h6, h7⟩
  · omega
  · refine ⟨g, cap, h1, h2, fun j u hj => ?_⟩
    have hjn : j < n * 1 := by have := some_lt hj; rw [h.1] at this; exact this
    have e : (⟨g, 0, none⟩ : Addr).add j = ⟨g, j, none⟩ := by
      unfold Addr.add; split
      · rename_i h0; subst h0; rfl
      · simp
    rw [e]
    rw [← h7, List.getElem?_take, if_pos hjn] at hj
    rw [Array.getElem?_toList] at hj
    simp [World.cell?, h3, hj]
theorem dfs_ne (E : List Eg) (k : Nat) (p : Int) (seen : List Bool) : 0 < (dfs E (k + 1) p seen).2.length := by
  unfold dfs
  simp
set_option maxRecDepth 20000 in
set_option maxHeartbeats 8000000 in
theorem refVisit_step (w0 : World) (rb n : Nat) (xv xa xe xh : Option Addr) (nv cv na ca ne ce nh ch : Nat) (P : Int) (E : List Eg) (k : Nat) (hrb : w0.heap.size ≤ rb) (hP0 : P ≠ 0) (hE : Hid (RowAt egVals 6 w0 Any xe E)) (hne : Hid (ne = E.length)) (hne4 : ne ≤ 400) (hn : n ≤ 120)
    (hin : Hid (∀ e ∈ E, 0 ≤ e.tt ∧ e.tt < (n : Int))) (IH : Hid (RefC w0 rb n xv xa xe xh nv cv na ca ne ce nh ch P E k)) (IL : Hid (∀ p seen, 0 < k → 0 < (dfs E k p seen).2.length)) : RefC w0 rb n xv xa xe xh nv cv na ca ne ce nh ch P E (k + 1) := by
  intro w p seen hb hR hp hsl hsp hun
  obtain ⟨i0, hi0, hz0, hz1, hz2⟩ := info_parts Tryz.info3
  have hu := hide (uns_set (i := p) (by omega) hsp)
  have hgo := hide (fun i => fold_go hin.out k p i (seen.set p true, []) (by simpa using hsl) (by have := hu.out; show uns (seen.set p true) ≤ k; omega))
  obtain ⟨S, hS⟩ : ∃ S : Nat → List Bool × List Int, Hid (S = fun i => (E.take i).foldl (stepE (dfs E k) p) (seen.set p true, [])) := ⟨_, rfl⟩
  have hgo : Hid (∀ i, Go' n (seen.set p true, []) (S i)) := fun i => by rw [hS.out]; exact hgo.out i
  have hfin : Hid (dfs E (k + 1) p seen = ((S ne).1, (S ne).2 ++ [(p : Int)])) := by
    show _ = _
    have es : S ne = E.foldl (stepE (dfs E k) p) (seen.set p true, []) := by rw [hS.out, hne.out]; simp only [List.take_length]
    rw [es]
    unfold dfs
    rw [Int.toNat_natCast]
  have hS0 : Hid (S 0 = (seen.set p true, [])) := by show _ = _; rw [hS.out]; rfl
  have hSs : Hid (∀ i e, E[i]? = some e → S (i + 1) = stepE (dfs E k) p (S i) e) := fun i e he => by rw [hS.out]; exact fold_more he
  rw [hfin.out]
  have hA0 := (Below.refl w.heap.size w).alloc (Nat.le_refl _) (.cells #[.slice xv nv cv, .slice xa na ca, .int .i64 P, .slice xe ne ce, .slice xh nh ch] 46)
  have B0 := BoxN.new w 46 [.slice xv nv cv, .slice xa na ca, .int .i64 P, .slice xe ne ce, .slice xh nh ch]
  obtain ⟨W0, hW0⟩ : ∃ X, X = w.alloc (.cells #[.slice xv nv cv, .slice xa na ca, .int .i64 P, .slice xe ne ce, .slice xh nh ch] 46) := ⟨_, rfl⟩
  rw [← hW0] at hA0
  have B0 : BoxN W0 w.heap.size [.slice xv nv cv, .slice xa na ca, .int .i64 P, .slice xe ne ce, .slice xh nh ch] := by rw [hW0]; exact B0
  have hrl : rb < w.heap.size := hR.lt
  have z0 : Hid (W0.heap.size = w.heap.size + 1) := by rw [hW0]; show _ = _; simp
  go_enter Tryz.func63, Tryz.ntmps63
  go_upto_region 1 with fail
  change Code.wp _ _ _ _ (w.alloc (.cells #[.slice xv nv cv, .slice xa na ca, .int .i64 P, .slice xe ne ce, .slice xh nh ch] 46))
  rw [← hW0]
  clear hW0
  obtain ⟨q, hq⟩ : ∃ g, g = w.heap.size := ⟨_, rfl⟩
  have hrq : rb < q := by omega
  have Hq := hide hq
  rw [← hq] at B0 z0 ⊢
  clear hq
  have R0 := hR.bel hA0
  have c2 := B0.cell 2 _ rfl
  have r0 : W0.cell? ⟨rb, p, none⟩ = some (.bool false) := R0.cell p _ (by rw [List.getElem?_map, hsp]; rfl)
  have f0 := R0.fr p
  have G1 : Gr rb w (W0.setCell ⟨rb, p, none⟩ (.bool true)) := (Gr.of hA0).set p _
  have B1 := B0.other (q := ⟨rb, p, none⟩) (by show rb ≠ q; omega) (.bool true)
  have R1 := R0.put p (by simp; omega) (.bool true)
  rw [← List.map_set] at R1
  have z1 : Hid ((W0.setCell ⟨rb, p, none⟩ (.bool true)).heap.size = q + 1) := by show _ = _; rw [← z0.out]; simp [World.setCell]
  go_upto_region 4 with fail
  obtain ⟨W1, hW1⟩ : ∃ X, X = W0.setCell ⟨rb, p, none⟩ (.bool true) := ⟨_, rfl⟩
  rw [← hW1] at G1 B1 R1 z1 ⊢
  have eP : (P == 0) = false := by simpa using hP0
  rw [eP]
  clear hW1 c2 r0 f0 R0 B0 hA0 hsp z0 eP hP0
  go_wp2_with fail
  go_loopg [7, 8] ne (fun gh ov iv wx => ∃ (i : Nat), i + gh = ne ∧ iv = .int .i64 i ∧ wx.ownsRow (q + 1) 3 1 ov (S i).2.length ((S i).2.map (Value.int .i64)) ∧ BoxN wx q [.slice xv nv cv, .slice xa na ca, .int .i64 P, .slice xe ne ce, .slice xh nh ch] ∧ BoxN wx rb ((S i).1.map Value.bool) ∧ Gr rb w wx ∧ q + 1 ≤ wx.heap.size)
  case atStart => exact ⟨0, by omega, rfl, by rw [hS0.out]; exact World.ownsRow_nil _ _ _ _, B1, by rw [hS0.out]; exact R1, G1, by rw [z1.out]; omega⟩
  case round =>
    clear B1 R1 G1 z1
    obtain ⟨i, hig, rfl, ho, B, R, G, hsz⟩ := hrel
    have hGi := hgo.out i
    obtain ⟨q1, o1, q2, q3, q4⟩ := hGi
    replace q1 : (S i).1.length = (seen.set p true).length := q1
    replace q2 : (S i).2 = [] ++ o1 := q2
    replace q3 : o1.length + uns (S i).1 ≤ uns (seen.set p true) := q3
    have hlen : (S i).1.length = n := by rw [q1]; simpa using hsl
    have hol : (S i).2.length + uns (S i).1 ≤ uns (seen.set p true) := by rw [q2]; simpa using q3
    have hun2 := uns_le (seen.set p true)
    have hol2 : (S i).2.length ≤ n := by have : (seen.set p true).length = n := by simpa using hsl
                                         omega
    have Hlen := hide hlen
    have Hol := hide hol
    clear q1 q2 q3 q4 hlen hol hun2
    have hbW : Below w0.heap.size w0 wr := hb.grown G hb.size (fun k e => by cases e; exact hrb)
    have g3 := B.cell 3 _ rfl
    obtain ⟨ol, hol3⟩ : ∃ ol, ol = (S i).2.length := ⟨_, rfl⟩
    by_cases hi : i < ne
    · have hi' : (i : Int) < (ne : Int) := by omega
      obtain ⟨e, he⟩ : ∃ e, E[i]? = some e := ⟨_, List.getElem?_eq_getElem (by rw [← hne.out]; exact hi)⟩
      have hSe := hide (hSs.out i e he)
      have het := hin.out e (List.mem_of_getElem? he)
      obtain ⟨b, off, rfl, hlt, vs, hvl, vk, ya, da, yt, dt, rfl, _, _⟩ := hE.out.elem he
      have k0 := (hbW.cell (p := ⟨b, off + i * 6 + 0, none⟩) hlt).trans (vk 0 _ rfl)
      have k1 := (hbW.cell (p := ⟨b, off + i * 6 + 1, none⟩) hlt).trans (vk 1 _ rfl)
      have K1 := hide (vk 1 _ rfl)
      simp only [Nat.add_zero] at k0
      clear vk he
      obtain ⟨t, ht⟩ : ∃ t : Nat, e.tt = (t : Int) := ⟨e.tt.toNat, by omega⟩
      rw [ht] at k1 K1
      have htn : t < n := by omega
      obtain ⟨u, hu2⟩ : ∃ u, (S i).1[t]? = some u := ⟨_, List.getElem?_eq_getElem (by rw [Hlen.out]; exact htn)⟩
      have r1 : wr.cell? ⟨rb, t, none⟩ = some (.bool u) := R.cell t _ (by rw [List.getElem?_map, hu2]; rfl)
      have hget : Hid ((S i).1.getD e.tt.toNat true = u) := by
        show _ = _
        rw [ht, Int.toNat_natCast, List.getD_eq_getElem?_getD, hu2]
        rfl
      have Hu2 := hide hu2
      have Ht := hide ht
      have htI : (t : Int) < (n : Int) := by omega
      clear hu2 ht het
      by_cases hfr : e.fr = (p : Int)
      · cases u
        · have hst : Hid (S (i + 1) = ((dfs E k t (S i).1).1, (S i).2 ++ (dfs E k t (S i).1).2)) := by
            show _ = _
            rw [hSe.out]
            unfold stepE
            rw [if_pos ⟨hfr, hget.out⟩, Ht.out]
          rw [hfr] at k0
          clear hfr
          have hk0 : 0 < k := by
            have h1 := uns_set (l := (S i).1) (i := t) (by rw [Hlen.out]; exact htn) Hu2.out
            have := Hol.out
            have := hu.out
            omega
          go_upto_region 9 with fail
          have hbd := (Below.refl wr.heap.size wr).drew
          have Bd := B.bel hbd
          have Rd' := R.bel hbd
          have od := owns_below ho hbd
          have Gd := G.below hbd
          have hbWd := hbW.trans (hbd.mono hbW.size)
          have kd := (hbWd.cell (p := ⟨b, off + i * 6 + 1, none⟩) hlt).trans K1.out
          have szd : q + 1 ≤ wr.drew.heap.size := hsz
          refine wp_region_any (by kernel_rfl) (wpTill_any (S := fun w' => w'.cell? ⟨q, 0, none⟩ = some (.slice xv nv cv) ∧ w'.cell? ⟨q, 1, none⟩ = some (.slice xa na ca) ∧ w'.cell? ⟨q, 2, none⟩ = some (.int .i64 P) ∧ w'.cell? ⟨q, 3, none⟩ = some (.slice (some ⟨b, off, none⟩) ne ce) ∧ w'.cell? ⟨q, 4, none⟩ = some (.slice xh nh ch) ∧ w'.cell? ⟨b, off + i * 6 + 1, none⟩ = some (.int .i64 t)) (E := 11) _ _ _ _ ?_)
          obtain ⟨wd, hwd⟩ : ∃ X, X = wr.drew := ⟨_, rfl⟩
          change wpTill _ _ _ _ _ _ _ _ _ wr.drew
          rw [← hwd] at Bd Rd' od Gd hbWd kd szd ⊢
          clear hwd hbd B R ho G hbW g3 k0 k1 r1 hsz
          have hS9 : wd.cell? ⟨q, 0, none⟩ = some (.slice xv nv cv) ∧ wd.cell? ⟨q, 1, none⟩ = some (.slice xa na ca) ∧ wd.cell? ⟨q, 2, none⟩ = some (.int .i64 P) ∧ wd.cell? ⟨q, 3, none⟩ = some (.slice (some ⟨b, off, none⟩) ne ce) ∧ wd.cell? ⟨q, 4, none⟩ = some (.slice xh nh ch) ∧ wd.cell? ⟨b, off + i * 6 + 1, none⟩ = some (.int .i64 t) := ⟨Bd.cell 0 _ rfl, Bd.cell 1 _ rfl, Bd.cell 2 _ rfl, Bd.cell 3 _ rfl, Bd.cell 4 _ rfl, kd⟩
          (refine tkT 0 (v := ?_) ?_ hS9 ?_; rotate_left 1; (intro w' hSw; (try dsimp only at hSw); go_simp; (try rw [if_pos (by omega)])); (try rfl); (try dsimp only [Act.put]))
          (refine tkT 1 (v := ?_) ?_ hS9 ?_; rotate_left 1; (intro w' hSw; (try dsimp only at hSw); go_simp; (try rw [if_pos (by omega)])); (try rfl); (try dsimp only [Act.put]))
          (refine tkT 2 (v := ?_) ?_ hS9 ?_; rotate_left 1; (intro w' hSw; (try dsimp only at hSw); go_simp; (try rw [if_pos (by omega)])); (try rfl); (try dsimp only [Act.put]))
          (refine tkT 3 (v := ?_) ?_ hS9 ?_; rotate_left 1; (intro w' hSw; (try dsimp only at hSw); go_simp; (try rw [if_pos (by omega)])); (try rfl); (try dsimp only [Act.put]))
          (refine tkT 4 (v := ?_) ?_ hS9 ?_; rotate_left 1; (intro w' hSw; (try dsimp only at hSw); go_simp; (try rw [if_pos (by omega)])); (try rfl); (try dsimp only [Act.put]))
          (refine tkT 5 (v := ?_) ?_ hS9 ?_; rotate_left 1; (intro w' hSw; (try dsimp only at hSw); go_simp; (try rw [if_pos (by omega)])); (try rfl); (try dsimp only [Act.put]))
          (refine tkT 6 (v := ?_) ?_ hS9 ?_; rotate_left 1; (intro w' hSw; (try dsimp only at hSw); go_simp; (try rw [if_pos (by omega)])); (try rfl); (try dsimp only [Act.put]))
          (refine tkT 7 (v := ?_) ?_ hS9 ?_; rotate_left 1; (intro w' hSw; (try dsimp only at hSw); go_simp; (try rw [if_pos (by omega)])); (try rfl); (try dsimp only [Act.put]))
          (refine tkT 8 (v := ?_) ?_ hS9 ?_; rotate_left 1; (intro w' hSw; (try dsimp only at hSw); go_simp; (try rw [if_pos (by omega)])); (try rfl); (try dsimp only [Act.put]))
          have HI := hide (IH.out wd t (S i).1 hbWd Rd' htn Hlen.out Hu2.out (by have := Hol.out; have := hu.out; omega))
          refine wpTill_one (k := 9) (by kernel_rfl) ?_
          unfold wpOp
          go_simp
          refine Or.inl (HI.out.mono ?_)
          rintro e' w3 ⟨v3, rfl, o3, R3, G3⟩
          have G4 := Gd.trans G3
          have hbW3 : Below w0.heap.size w0 w3 := hbWd.grown G3 hbWd.size (fun k e => by cases e; exact hrb)
          have B3 := Bd.gr G3 (by omega)
          have od3 := owns_blk od (fun g h1 h2 => G3.block g h2 (fun e => by cases e; omega))
          have kd3 := (hbW3.cell (p := ⟨b, off + i * 6 + 1, none⟩) hlt).trans K1.out
          have sz3 := G3.size
          have hS9 : w3.cell? ⟨q, 0, none⟩ = some (.slice xv nv cv) ∧ w3.cell? ⟨q, 1, none⟩ = some (.slice xa na ca) ∧ w3.cell? ⟨q, 2, none⟩ = some (.int .i64 P) ∧ w3.cell? ⟨q, 3, none⟩ = some (.slice (some ⟨b, off, none⟩) ne ce) ∧ w3.cell? ⟨q, 4, none⟩ = some (.slice xh nh ch) ∧ w3.cell? ⟨b, off + i * 6 + 1, none⟩ = some (.int .i64 t) := ⟨B3.cell 0 _ rfl, B3.cell 1 _ rfl, B3.cell 2 _ rfl, B3.cell 3 _ rfl, B3.cell 4 _ rfl, kd3⟩
          refine ⟨hS9, ?_⟩
          have hDl := IL.out (t : Int) (S i).1 hk0
          obtain ⟨D, hD⟩ : ∃ D, D = dfs E k t (S i).1 := ⟨_, rfl⟩
          rw [← hD] at o3 R3 hDl
          have hst2 : Hid (S (i + 1) = (D.1, (S i).2 ++ D.2)) := by show _ = _; rw [hD]; exact hst.out
          have hDn : D.2.length ≤ n := by
            have h1 := hgo.out (i + 1)
            obtain ⟨_, o1, q2, q3, _⟩ := h1
            have q2 : (S (i + 1)).2 = [] ++ o1 := q2
            have q3 : o1.length + uns (S (i + 1)).1 ≤ uns (seen.set p true) := q3
            rw [hst2.out] at q2
            have q2 : (S i).2 ++ D.2 = o1 := by simpa using q2
            have q4 : (S i).2.length + D.2.length = o1.length := by rw [← q2]; simp
            have := uns_le (seen.set p true)
            have : (seen.set p true).length = n := by simpa using hsl
            omega
          clear hD hst
          obtain ⟨g3, cap3, rfl, hg3, hnew3⟩ := owns_at o3 hDl
          have hov : ∀ g, u7.ownBlock = some g → q + 1 ≤ g := by
            intro g e
            rcases od.2 with ⟨h1, _⟩ | ⟨g', cap, cur, h1, h2, _⟩
            · rw [h1] at e; cases e
            · rw [h1] at e; cases e; exact h2
          refine wpTill_one (k := 10) (by kernel_rfl) ?_
          refine wpOp_step rfl (fun K' hK => ?_)
          refine step_append_own (by rfl) _ _ 32 (by rfl) (q + 1) 3 i0 _ 1 8 Tryz.underlying32 hi0 hz0 hz1 hz2 rfl (by decide) u7 (S i).2.length ((S i).2.map (Value.int .i64)) (by simp [Act.eval]) od3 ⟨g3, 0, none⟩ D.2.length cap3 (D.2.map (Value.int .i64)) (by simp [Act.eval]) (by simp) hnew3 (ints_oneCell _ _) (by unfold maxLen; omega) (by omega) (by omega) ?_
          intro v4 w4 own4 hg4
          have hovn : ∀ c, c < q + 1 → u7.ownBlock ≠ some c := fun c hc e => by have := hov c e; omega
          have B4 := B3.far hg4 (hovn _ (by omega))
          have R4 := R3.far hg4 (hovn _ (by omega))
          have G5 : Gr rb w w4 := G4.grownN hg4 (fun g e => by have := hov g e; have := Hq.out; omega)
          have hbW4 : Below w0.heap.size w0 w4 := hb.grown G5 hb.size (fun k e => by cases e; exact hrb)
          have kd4 := (hbW4.cell (p := ⟨b, off + i * 6 + 1, none⟩) hlt).trans K1.out
          have sz4 := hg4.size
          have hS9 : w4.cell? ⟨q, 0, none⟩ = some (.slice xv nv cv) ∧ w4.cell? ⟨q, 1, none⟩ = some (.slice xa na ca) ∧ w4.cell? ⟨q, 2, none⟩ = some (.int .i64 P) ∧ w4.cell? ⟨q, 3, none⟩ = some (.slice (some ⟨b, off, none⟩) ne ce) ∧ w4.cell? ⟨q, 4, none⟩ = some (.slice xh nh ch) ∧ w4.cell? ⟨b, off + i * 6 + 1, none⟩ = some (.int .i64 t) := ⟨B4.cell 0 _ rfl, B4.cell 1 _ rfl, B4.cell 2 _ rfl, B4.cell 3 _ rfl, B4.cell 4 _ rfl, kd4⟩
          have own5 : w4.ownsRow (q + 1) 3 1 v4 (S (i + 1)).2.length ((S (i + 1)).2.map (Value.int .i64)) := by
            rw [hst2.out]
            simpa using own4
          refine hK _ _ ⟨fun _ => hS9, ?_⟩
          change wpTill _ _ _ _ _ _ _ _ (Act.put _ (some 52) _) _
          dsimp only [Act.put]
          refine wpTill_one (k := 11) (by kernel_rfl) ?_
          unfold wpOp
          go_simp
          refine Or.inl ⟨by kernel_rfl, ?_⟩
          clear hS9 hK HI own4 od3 od
          go_wp2_with fail
          go_roundg (ne - (i + 1))
          case measure => omega
          case rel => exact ⟨i + 1, by omega, by go_num, own5, B4, by rw [hst2.out]; exact R4, G5, by omega⟩
        · have hst : Hid (S (i + 1) = S i) := by
            show _ = _
            rw [hSe.out]
            unfold stepE
            rw [if_neg (by rw [hget.out]; simp)]
          rw [hfr] at k0
          clear hfr
          go_wp2_with fail
          go_roundg (ne - (i + 1))
          case measure => omega
          case rel => exact ⟨i + 1, by omega, by go_num, by rw [hst.out]; exact ho, B, by rw [hst.out]; exact R, G, hsz⟩
      · have hst : Hid (S (i + 1) = S i) := by
          show _ = _
          rw [hSe.out]
          unfold stepE
          rw [if_neg (fun h => hfr h.1)]
        obtain ⟨f, hf⟩ : ∃ f, f = e.fr := ⟨_, rfl⟩
        rw [← hf] at k0 hfr
        clear hf
        go_wp2_with fail
        go_roundg (ne - (i + 1))
        case measure => omega
        case rel => exact ⟨i + 1, by omega, by go_num, by rw [hst.out]; exact ho, B, by rw [hst.out]; exact R, G, hsz⟩
    · have hi' : ¬ (i : Int) < (ne : Int) := by omega
      obtain rfl : i = ne := by omega
      have hbN := (Below.refl wr.heap.size wr).alloc (Nat.le_refl _) (.cells #[.int .i64 p] 3)
      have ho2 := owns_below ho hbN
      have R2 := R.bel hbN
      have G2 := G.below hbN
      have hnews : ∀ (j : Nat) u, ([.int .i64 p] : List Value)[j]? = some u → (wr.alloc (.cells #[.int .i64 p] 3)).cell? ((⟨wr.heap.size, 0, none⟩ : Addr).add j) = some u := by
        intro j u hj
        cases j with
        | zero => cases hj; simp [Addr.add]
        | succ j => simp at hj
      have hov : ∀ g, u7.ownBlock = some g → q + 1 ≤ g := by
        intro g e
        rcases ho.2 with ⟨h1, _⟩ | ⟨g', cap, cur, h1, h2, _⟩
        · rw [h1] at e; cases e
        · rw [h1] at e; cases e; exact h2
      rw [← hol3] at ho2
      have Hol3 := hide hol3
      rw [← hol3] at hol2
      clear hol3 ho
      go_wp2_with (at_builtin; refine wpList_append_own _ rfl _ _ 32 rfl (q + 1) 3 i0 (.int .i64 0) 1 8 Tryz.underlying32 hi0 hz0 hz1 hz2 rfl (by decide) u7 ol ((S i).2.map (Value.int .i64)) rfl ho2 ⟨wr.heap.size, 0, none⟩ 1 1 [.int .i64 p] rfl (by simp) hnews (fun u hu => by simp at hu; subst hu; rfl) (by unfold maxLen; omega) (by omega) (by simp; omega) ?_)
      intro v' w3 own3 hg3 _
      have R3 := R2.far hg3 (fun e => by have := hov _ e; omega)
      have G3 : Gr rb w w3 := G2.grownN hg3 (fun g e => by have := hov g e; have := Hq.out; omega)
      go_wp2_with fail
      go_ret
      refine ⟨v', rfl, ?_, R3, G3⟩
      have := owns_mono own3 (show w.heap.size ≤ q + 1 by have := Hq.out; omega)
      rw [Hol3.out] at this
      simpa using this
end Go.Proofs.YtbfhaabpfkopdaaGreatDoor

/- Graphs: points, as they are come to: the document's answer walked (OrderOf). -/
namespace Go.Proofs.YtbfhaabpfkopdaaGreatDoor
open Go.RowKit
set_option linter.unusedVariables false

theorem refVisit_all (w0 : World) (rb n : Nat) (xv xa xe xh : Option Addr) (nv cv na ca ne ce nh ch : Nat) (P : Int) (E : List Eg) (hrb : w0.heap.size ≤ rb) (hP0 : P ≠ 0) (hE : Hid (RowAt egVals 6 w0 Any xe E)) (hne : Hid (ne = E.length)) (hne4 : ne ≤ 400) (hn : n ≤ 120)
    (hin : Hid (∀ e ∈ E, 0 ≤ e.tt ∧ e.tt < (n : Int))) : ∀ k, RefC w0 rb n xv xa xe xh nv cv na ca ne ce nh ch P E k
  | 0 => fun W p seen hb hR hp hl hs hu => by
    have := uns_set (i := p) (by omega) hs
    omega
  | k + 1 => refVisit_step w0 rb n xv xa xe xh nv cv na ca ne ce nh ch P E k hrb hP0 hE hne hne4 hn hin (hide (refVisit_all w0 rb n xv xa xe xh nv cv na ca ne ce nh ch P E hrb hP0 hE hne hne4 hn hin k)) (hide fun p seen hk => by
    obtain ⟨m, rfl⟩ : ∃ m, k = m + 1 := ⟨k - 1, by omega⟩
    exact dfs_ne E m p seen)
set_option maxRecDepth 20000 in
set_option maxHeartbeats 2000000 in
/-- A graph of no points. -/
theorem refVisit_zero (xv xa xe xh : Option Addr) (nv cv na ca ne ce nh ch : Nat) (rs : Option Addr) (a1 a2 : Nat) (w : World) : Calls Tryz.prog 63 #[.agg #[.slice xv nv cv, .slice xa na ca, .int .i64 0, .slice xe ne ce, .slice xh nh ch], .int .i64 0, .slice rs a1 a2] w fun e w' => e = .returned (.slice none 0 0) ∧ Below w.heap.size w w' := by
  have hb := (Below.refl w.heap.size w).alloc (Nat.le_refl _) (.cells #[.slice xv nv cv, .slice xa na ca, .int .i64 0, .slice xe ne ce, .slice xh nh ch] 46)
  go_enter Tryz.func63, Tryz.ntmps63
  go_wp2_with fail
  go_ret
  exact ⟨rfl, hb⟩
theorem rev_take {D : List Int} {m : Nat} (h : m < D.length) : D.reverse.take (m + 1) = D.reverse.take m ++ [D.getD (D.length - 1 - m) 0] := by
  rw [List.take_add_one, List.getElem?_reverse h]
  have : D.length - 1 - m < D.length := by omega
  rw [List.getElem?_eq_getElem this]
  simp [this]
/-- What OrderOf answers. -/
def OofP (n : Nat) (E : List Eg) (w' : World) (e : Ending) : Prop := ∃ x cap, e = .returned (.slice x (ordL n E).length cap) ∧ IntsAt w' x (ordL n E)
set_option maxRecDepth 20000 in
set_option maxHeartbeats 8000000 in
theorem orderOf_any (n : Nat) (xv xa xe xh : Option Addr) (nv cv na ca ne ce nh ch : Nat) (E : List Eg) (w : World) (hE : Hid (RowAt egVals 6 w Any xe E)) (hne : Hid (ne = E.length)) (hne4 : ne ≤ 400) (hn : n ≤ 120) (hin : Hid (∀ e ∈ E, 0 ≤ e.tt ∧ e.tt < (n : Int))) :
    Calls Tryz.prog 27 #[.agg #[.slice xv nv cv, .slice xa na ca, .int .i64 (n : Int), .slice xe ne ce, .slice xh nh ch]] w fun e w' => OofP n E w' e ∧ Below w.heap.size w w' := by
  obtain ⟨i0, hi0, hz0, hz1, hz2⟩ := info_parts Tryz.info3
  have hA0 := (Below.refl w.heap.size w).alloc (Nat.le_refl _) (.cells #[.slice xv nv cv, .slice xa na ca, .int .i64 (n : Int), .slice xe ne ce, .slice xh nh ch] 46)
  have B0 := BoxN.new w 46 [.slice xv nv cv, .slice xa na ca, .int .i64 (n : Int), .slice xe ne ce, .slice xh nh ch]
  obtain ⟨W0, hW0⟩ : ∃ X, X = w.alloc (.cells #[.slice xv nv cv, .slice xa na ca, .int .i64 (n : Int), .slice xe ne ce, .slice xh nh ch] 46) := ⟨_, rfl⟩
  rw [← hW0] at hA0
  have B0 : BoxN W0 w.heap.size [.slice xv nv cv, .slice xa na ca, .int .i64 (n : Int), .slice xe ne ce, .slice xh nh ch] := by rw [hW0]; exact B0
  have hmk := make_bools n (by omega)
  have HM := hide (fun W : World => made_bools W n (by omega))
  obtain ⟨M, hM⟩ : ∃ M, M = (Obj.cells (madeCells #[Value.bool false] (n * 1)) 4) := ⟨_, rfl⟩
  rw [← hM] at hmk HM
  clear hM
  go_enter Tryz.func27, Tryz.ntmps27
  go_upto_region 1 with fail
  change Code.wp _ _ _ _ (w.alloc (.cells #[.slice xv nv cv, .slice xa na ca, .int .i64 (n : Int), .slice xe ne ce, .slice xh nh ch] 46))
  rw [← hW0]
  clear hW0
  obtain ⟨q, hq⟩ : ∃ g, g = w.heap.size := ⟨_, rfl⟩
  have Hq := hide hq
  rw [← hq] at B0 ⊢
  clear hq
  have c2 := B0.cell 2 _ rfl
  have hR := HM.out W0
  have hA1 := (Below.refl W0.heap.size W0).alloc (Nat.le_refl _) M
  have hb1 := hA0.trans (hA1.mono hA0.size)
  have B1 := B0.bel hA1
  have sz0 := hA0.size
  go_upto_region 2 with fail
  obtain ⟨W1, hW1⟩ : ∃ X, X = W0.alloc M := ⟨_, rfl⟩
  rw [← hW1] at hR hA1 hb1 B1 ⊢
  clear hW1 c2 hmk HM B0
  obtain ⟨rb, hrb⟩ : ∃ g, g = W0.heap.size := ⟨_, rfl⟩
  rw [← hrb] at hR ⊢
  have hrw : w.heap.size ≤ rb := by omega
  clear hrb hA0 hA1 sz0
  have c0 := B1.cell 0 _ rfl
  have c1 := B1.cell 1 _ rfl
  have c2 := B1.cell 2 _ rfl
  have c3 := B1.cell 3 _ rfl
  have c4 := B1.cell 4 _ rfl
  have key : Calls Tryz.prog 63 #[.agg #[.slice xv nv cv, .slice xa na ca, .int .i64 (n : Int), .slice xe ne ce, .slice xh nh ch], .int .i64 0, (.slice (some ⟨rb, 0, none⟩) n n)] W1 fun e W' => ∃ x cap, e = .returned (.slice x (ordL n E).length cap) ∧ IntsAt W' x (ordL n E).reverse ∧ Below w.heap.size w W' := by
    by_cases hz : n = 0
    · subst hz
      refine (refVisit_zero xv xa xe xh nv cv na ca ne ce nh ch (some ⟨rb, 0, none⟩) 0 0 W1).mono ?_
      rintro e W' ⟨rfl, hb⟩
      exact ⟨none, 0, rfl, .inl rfl, hb1.trans (hb.mono hb1.size)⟩
    · refine (refVisit_all w rb n xv xa xe xh nv cv na ca ne ce nh ch (n : Int) E hrw (by omega) hE hne hne4 hn hin n W1 0 (List.replicate n false) hb1 hR (by omega) (by simp) (by rw [List.getElem?_replicate, if_pos (by omega)]) (by rw [uns_new]; exact Nat.le_refl _)).mono ?_
      rintro e W' ⟨v, rfl, ho, _, hG⟩
      obtain ⟨x, cap, rfl, hI⟩ := IntsAt_of_own ho
      refine ⟨x, cap, ?_, ?_, hb1.grown hG hb1.size (fun k e => by cases e; exact hrw)⟩
      · unfold ordL
        rw [List.length_reverse]
        rfl
      · unfold ordL
        rw [List.reverse_reverse]
        exact hI
  have hol : (ordL n E).length ≤ n := by
    by_cases hz : n = 0
    · subst hz; exact Nat.le_refl _
    · have hdg := dfs_go hin.out n 0 (List.replicate n false) (by simp) (by omega) (by omega) (by rw [List.getElem?_replicate, if_pos (by simpa using Nat.pos_of_ne_zero hz)]) (by rw [uns_new]; exact Nat.le_refl _)
      obtain ⟨_, o, q2, q3, _⟩ := hdg
      have q2 : (dfs E n 0 (List.replicate n false)).2 = [] ++ o := q2
      have q3 : o.length + uns (dfs E n 0 (List.replicate n false)).1 ≤ uns (List.replicate n false) := q3
      rw [uns_new] at q3
      unfold ordL
      rw [List.length_reverse, q2]
      simp
      omega
  have HK := hide key
  obtain ⟨D, hD⟩ : ∃ D, D = (ordL n E).reverse := ⟨_, rfl⟩
  have hDo : ordL n E = D.reverse := by rw [hD, List.reverse_reverse]
  obtain ⟨m, hm⟩ : ∃ m, m = D.length := ⟨_, rfl⟩
  have hmo : (ordL n E).length = m := by rw [hDo, List.length_reverse, hm]
  rw [hmo, hDo, List.reverse_reverse] at HK
  rw [hmo] at hol
  have Hm := hide hm
  have Hmo := hide hmo
  have HDo := hide hDo
  clear key hD hDo hmo hm
  go_wp2_with fail
  refine HK.out.mono ?_
  rintro e' w2 ⟨x, cap, rfl, hI, hb2⟩
  clear c0 c1 c2 c3 c4 B1 HK hR hb1
  go_wp2_with fail
  go_loopg [5, 6] m (fun gh ov iv wx => ∃ (j : Nat), j + gh = m ∧ iv = .int .i64 ((m : Int) - 1 - j) ∧ wx.ownsRow w2.heap.size 3 1 ov j ((D.reverse.take j).map (Value.int .i64)) ∧ Below w2.heap.size w2 wx)
  case atStart => exact ⟨0, by omega, by simp, World.ownsRow_nil _ _ _ _, Below.refl _ _⟩
  case round =>
    obtain ⟨j, hjg, rfl, ho, hb⟩ := hrel
    by_cases hj : j < m
    · have hj' : (0 : Int) ≤ (m : Int) - 1 - j := by omega
      rcases hI with hnil | ⟨b, off, rfl, hlt, hcell⟩
      · have := Hm.out
        rw [hnil] at this
        simp at this
        omega
      obtain ⟨t, ht⟩ : ∃ t : Nat, (m : Int) - 1 - j = (t : Int) := ⟨m - 1 - j, by omega⟩
      have htm : t < m := by omega
      obtain ⟨z, hz⟩ : ∃ z, z = D.getD t 0 := ⟨_, rfl⟩
      have k0 := (hb.cell (p := ⟨b, off + t, none⟩) hlt).trans (hcell t (by rw [← Hm.out]; exact htm))
      rw [← hz] at k0
      have htk : Hid (D.reverse.take (j + 1) = D.reverse.take j ++ [z]) := by
        show _ = _
        rw [rev_take (by rw [← Hm.out]; exact hj), hz]
        congr 3
        have := Hm.out
        omega
      have htI : (t : Int) < (m : Int) := by omega
      rw [ht] at hj' ⊢
      have Ht := hide ht
      clear ht hz
      have hbN := (Below.refl wr.heap.size wr).alloc (Nat.le_refl _) (.cells #[.int .i64 z] 3)
      have ho2 := owns_below ho hbN
      have sz := hb.size
      have hnews : ∀ (i : Nat) u, ([.int .i64 z] : List Value)[i]? = some u → (wr.alloc (.cells #[.int .i64 z] 3)).cell? ((⟨wr.heap.size, 0, none⟩ : Addr).add i) = some u := by
        intro i u hi
        cases i with
        | zero => cases hi; simp [Addr.add]
        | succ i => simp at hi
      go_wp2_with (at_builtin; refine wpList_append_own _ rfl _ _ 32 rfl w2.heap.size 3 i0 (.int .i64 0) 1 8 Tryz.underlying32 hi0 hz0 hz1 hz2 rfl (by decide) u5 j ((D.reverse.take j).map (Value.int .i64)) rfl ho2 ⟨wr.heap.size, 0, none⟩ 1 1 [.int .i64 z] rfl (by simp) hnews (fun u hu => by simp at hu; subst hu; rfl) (by unfold maxLen; omega) (by omega) (by simp; omega) ?_)
      intro v' w3 own3 hg3 _
      have hb3 : Below w2.heap.size w2 w3 := (hb.trans (hbN.mono hb.size)).grown hg3 (by simp; omega) (fun g e => by
        rcases ho.2 with ⟨h1, _⟩ | ⟨g', cap, cur, h1, h2, _⟩
        · rw [h1] at e; cases e
        · rw [h1] at e; cases e; exact h2)
      go_wp2_with fail
      go_roundg (m - (j + 1))
      case measure => omega
      case rel => exact ⟨j + 1, by omega, by have := Ht.out; congr 1; omega, by rw [htk.out]; simpa using own3, hb3⟩
    · have hj' : ¬ (0 : Int) ≤ (m : Int) - 1 - j := by omega
      obtain rfl : j = m := by omega
      obtain ⟨x2, cap2, rfl, hI2⟩ := IntsAt_of_own ho
      have hlen : (D.reverse.take j).length = j := by rw [List.length_take, List.length_reverse, ← Hm.out, Nat.min_self]
      have hall : D.reverse.take j = D.reverse := List.take_of_length_le (by rw [List.length_reverse, ← Hm.out]; exact Nat.le_refl _)
      rw [hall] at hI2
      rw [hlen]
      go_wp2_with fail
      go_ret
      exact ⟨⟨x2, cap2, by rw [Hmo.out]; rfl, by rw [HDo.out]; exact hI2⟩, hb2.trans (hb.mono hb2.size)⟩
end Go.Proofs.YtbfhaabpfkopdaaGreatDoor
