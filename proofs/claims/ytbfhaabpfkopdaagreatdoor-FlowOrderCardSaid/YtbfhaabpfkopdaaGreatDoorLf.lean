/- The language: words of a text, and their roles: the scanner's walks. -/
import Derived.Test.YtbfhaabpfkopdaaGreatDoorLc
import Derived.Test.YtbfhaabpfkopdaaGreatDoorLs
namespace Go.Proofs.YtbfhaabpfkopdaaGreatDoor
open Go.RowKit
set_option linter.unusedVariables false

def isNum (t : Bs) : Bool := match Lib.atoiAll t with
  | .ok v => decide (0 ≤ v) && (decide (v ≤ 1099511627776) && decide (Lib.itoa v = t))
  | _ => false
def roleW (t : Bs) : Int :=
  if roleTab t ≠ 0 then roleTab t
  else if t = [] then 1
  else if t.length ≤ 8 ∧ runL isLet t = t.length then 2
  else if isNum t = true then 3
  else 0
def lenW (l : Bs) : Nat :=
  if 0 < max (runL isLet l) (runL isDig l) then max (runL isLet l) (runL isDig l)
  else if 2 ≤ l.length ∧ roleTab (l.take 2) ≠ 0 then 2
  else min l.length 1
theorem lenW_le (l : Bs) : lenW l ≤ l.length := by
  unfold lenW
  have h1 := runL_le isLet l
  have h2 := runL_le isDig l
  split
  · omega
  · split <;> omega
structure Wd where
  role : Int
  text : Bs
  pos : Nat
def wordAt (s : Bs) (i : Nat) : Wd :=
  let rest := (s.drop i).dropWhile isBl
  ⟨roleW (rest.take (lenW rest)), rest.take (lenW rest), s.length - rest.length⟩

set_option maxRecDepth 20000 in
set_option maxHeartbeats 2000000 in
theorem isNumber_any (t : Bs) (w : World) (hw : LgW w) (ht : t.length ≤ 1000000) :
    Calls Tryz.prog 202 #[.string (bs t)] w fun e w' => e = .returned (.bool (isNum t)) ∧ Below w.heap.size w w' := by
  cases hh : Lib.atoiAll t with
  | ok v =>
    have HA := hide (atoi_ok t ht v hh w)
    have hb := Lib.atoiAll_bounds hh
    obtain ⟨u, hu⟩ : ∃ u, u = Lib.itoa v := ⟨_, rfl⟩
    have hr : isNum t = (decide (0 ≤ v) && (decide (v ≤ 1099511627776) && decide (u = t))) := by unfold isNum; rw [hh, hu]
    rw [hr]
    have HI : Hid (∀ W : World, LgW W → Calls Tryz.prog 168 #[.int .i64 v] W fun e w' => e = .returned (.string (bs u)) ∧ Below W.heap.size W w') := fun W h => by rw [hu]; exact itoa_any v (by omega) W h
    clear hu hr hh hb
    by_cases h0 : 0 ≤ v
    · rw [decide_eq_true h0]
      by_cases h1 : v ≤ 1099511627776
      · rw [decide_eq_true h1]
        go_enter Tryz.func202, Tryz.ntmps202
        go_wp2_with fail
        refine HA.out.mono ?_
        rintro e w1 ⟨rfl, hb1⟩
        go_wp2_with fail
        refine (HI.out _ (hw.below hb1)).mono ?_
        rintro e w2 ⟨rfl, hb2⟩
        go_wp2_with fail
        go_ret
        refine ⟨?_, hb1.trans (hb2.mono hb1.size)⟩
        exact ret_bool (by by_cases e : u = t <;> simp [e])
      · rw [decide_eq_false h1]
        go_enter Tryz.func202, Tryz.ntmps202
        go_wp2_with fail
        refine HA.out.mono ?_
        rintro e w1 ⟨rfl, hb1⟩
        go_wp2_with fail
        go_ret
        exact ⟨by simp, hb1⟩
    · rw [decide_eq_false h0]
      go_enter Tryz.func202, Tryz.ntmps202
      go_wp2_with fail
      refine HA.out.mono ?_
      rintro e w1 ⟨rfl, hb1⟩
      go_wp2_with fail
      go_ret
      exact ⟨by simp, hb1⟩
  | «syntax» =>
    have HA := hide (atoi_no t ht (fun v => by rw [hh]; simp) w hw)
    have hr : isNum t = false := by unfold isNum; rw [hh]
    rw [hr]
    go_enter Tryz.func202, Tryz.ntmps202
    go_wp2_with fail
    refine HA.out.mono ?_
    rintro e w1 ⟨⟨z, N, rfl⟩, hb1⟩
    go_wp2_with fail
    go_ret
    exact ⟨rfl, hb1⟩
  | range =>
    have HA := hide (atoi_no t ht (fun v => by rw [hh]; simp) w hw)
    have hr : isNum t = false := by unfold isNum; rw [hh]
    rw [hr]
    go_enter Tryz.func202, Tryz.ntmps202
    go_wp2_with fail
    refine HA.out.mono ?_
    rintro e w1 ⟨⟨z, N, rfl⟩, hb1⟩
    go_wp2_with fail
    go_ret
    exact ⟨rfl, hb1⟩
end Go.Proofs.YtbfhaabpfkopdaaGreatDoor

/- The language: the length of a word, its role, the next word. -/
namespace Go.Proofs.YtbfhaabpfkopdaaGreatDoor
open Go.RowKit
set_option linter.unusedVariables false

theorem enters_let : Enters 200 := enters_of Tryz.func200 (by kernel_rfl) rfl
theorem enters_dig : Enters 201 := enters_of Tryz.func201 (by kernel_rfl) rfl

set_option maxRecDepth 20000 in
set_option maxHeartbeats 2000000 in
theorem lengthOf_any (r : Nat) (l : Bs) (w : World) (hr : RolesAt w r) (hl : l.length ≤ 1000000) :
    Calls Tryz.prog 158 #[.map (some r), .string (bs l)] w fun e w' => e = .returned (.int .i64 (lenW l)) ∧ w' = w := by
  obtain ⟨a, ha⟩ : ∃ a, a = runL isLet l := ⟨_, rfl⟩
  obtain ⟨b, hb⟩ : ∃ b, b = runL isDig l := ⟨_, rfl⟩
  have hal : a ≤ l.length := by rw [ha]; exact runL_le _ _
  have hbl : b ≤ l.length := by rw [hb]; exact runL_le _ _
  have H1 : Hid (∀ W : World, Calls Tryz.prog 199 #[.string (bs l), .func (.func 200) #[] #[]] W fun e w' => e = .returned (.int .i64 a) ∧ w' = W) := fun W => by rw [ha]; exact runOf_any _ isLet l W enters_let isLetter_any (by omega)
  have H2 : Hid (∀ W : World, Calls Tryz.prog 199 #[.string (bs l), .func (.func 201) #[] #[]] W fun e w' => e = .returned (.int .i64 b) ∧ w' = W) := fun W => by rw [hb]; exact runOf_any _ isDig l W enters_dig isDigit_any (by omega)
  have hs : ((bs l).size : Int) = (l.length : Int) := by rw [bs_size]
  obtain ⟨z, hz⟩ : ∃ z, z = lenW l := ⟨_, rfl⟩
  rw [← hz]
  have Hz : Hid (z = if 0 < max a b then max a b else if 2 ≤ l.length ∧ roleTab (l.take 2) ≠ 0 then 2 else min l.length 1) := by show _ = _; rw [hz, ha, hb]; rfl
  clear ha hb hz
  by_cases hm : 0 < max a b
  · go_enter Tryz.func158, Tryz.ntmps158
    go_wp2_with fail
    refine (H1.out _).mono ?_
    rintro e w1 ⟨rfl, hw1⟩
    rw [hw1]
    clear hw1 w1
    go_wp2_with fail
    refine (H2.out _).mono ?_
    rintro e w1 ⟨rfl, hw1⟩
    rw [hw1]
    clear hw1 w1
    go_wp2_with fail
    go_ret
    refine ⟨ret_int ?_, rfl⟩
    rw [Hz.out, if_pos hm]
    omega
  · have hm' : ¬ (0 : Int) < max (a : Int) (b : Int) := by omega
    by_cases h2 : 2 ≤ l.length
    · have h2' : (2 : Int) ≤ (l.length : Int) := by omega
      have hlk := hr.look (l.take 2) (by simp; omega)
      obtain ⟨t, ht⟩ : ∃ t, t = roleTab (l.take 2) := ⟨_, rfl⟩
      rw [← ht] at hlk Hz
      clear ht
      by_cases ht : t = 0
      · have Ht := hide ht
        subst ht
        (go_enter Tryz.func158, Tryz.ntmps158; go_wp2_with fail; refine (H1.out _).mono ?_; rintro e w1 ⟨rfl, hw1⟩; rw [hw1]; clear hw1 w1; go_wp2_with fail; refine (H2.out _).mono ?_; rintro e w1 ⟨rfl, hw1⟩; rw [hw1]; clear hw1 w1; go_wp2_with fail)
        go_ret
        refine ⟨ret_int ?_, rfl⟩
        rw [Hz.out, if_neg hm, if_neg (fun h => h.2 rfl)]
        omega
      · have ht' : (t == 0) = false := by simp [ht]
        (go_enter Tryz.func158, Tryz.ntmps158; go_wp2_with fail; refine (H1.out _).mono ?_; rintro e w1 ⟨rfl, hw1⟩; rw [hw1]; clear hw1 w1; go_wp2_with fail; refine (H2.out _).mono ?_; rintro e w1 ⟨rfl, hw1⟩; rw [hw1]; clear hw1 w1; go_wp2_with fail)
        go_ret
        refine ⟨ret_int ?_, rfl⟩
        rw [Hz.out, if_neg hm, if_pos ⟨h2, ht⟩]
        rfl
    · have h2' : ¬ (2 : Int) ≤ (l.length : Int) := by omega
      (go_enter Tryz.func158, Tryz.ntmps158; go_wp2_with fail; refine (H1.out _).mono ?_; rintro e w1 ⟨rfl, hw1⟩; rw [hw1]; clear hw1 w1; go_wp2_with fail; refine (H2.out _).mono ?_; rintro e w1 ⟨rfl, hw1⟩; rw [hw1]; clear hw1 w1; go_wp2_with fail)
      go_ret
      refine ⟨ret_int ?_, rfl⟩
      rw [Hz.out, if_neg hm, if_neg (fun h => h2 h.1)]
      omega

set_option maxRecDepth 20000 in
set_option maxHeartbeats 2000000 in
theorem roleOf_any (r : Nat) (t : Bs) (w : World) (hr : RolesAt w r) (hw : LgW w) (hl : t.length ≤ 1000000) :
    Calls Tryz.prog 159 #[.map (some r), .string (bs t)] w fun e w' => e = .returned (.int .i64 (roleW t)) ∧ Below w.heap.size w w' := by
  obtain ⟨a, ha⟩ : ∃ a, a = runL isLet t := ⟨_, rfl⟩
  have hal : a ≤ t.length := by rw [ha]; exact runL_le _ _
  have H1 : Hid (∀ W : World, Calls Tryz.prog 199 #[.string (bs t), .func (.func 200) #[] #[]] W fun e w' => e = .returned (.int .i64 a) ∧ w' = W) := fun W => by rw [ha]; exact runOf_any _ isLet t W enters_let isLetter_any (by omega)
  have hs : ((bs t).size : Int) = (t.length : Int) := by rw [bs_size]
  have hlk := hr.look t (by omega)
  have HN : Hid (∀ W : World, LgW W → Calls Tryz.prog 202 #[.string (bs t)] W fun e w' => e = .returned (.bool (isNum t)) ∧ Below W.heap.size W w') := fun W h => isNumber_any t W h hl
  obtain ⟨q, hq⟩ : ∃ q, q = roleTab t := ⟨_, rfl⟩
  obtain ⟨nb, hnb⟩ : ∃ q, q = isNum t := ⟨_, rfl⟩
  obtain ⟨z, hz⟩ : ∃ z, z = roleW t := ⟨_, rfl⟩
  rw [← hz]
  rw [← hq] at hlk
  rw [← hnb] at HN
  have Hz : Hid (z = if q ≠ 0 then q else if t = [] then 1 else if t.length ≤ 8 ∧ a = t.length then 2 else if nb = true then 3 else 0) := by show _ = _; rw [hz, ha, hq, hnb]; rfl
  clear ha hq hz hnb hr
  by_cases h0 : q = 0
  rotate_left
  · have hz := Hz.out
    rw [if_pos h0] at hz
    have h0' : (q == 0) = false := by simp [h0]
    go_enter Tryz.func159, Tryz.ntmps159
    go_wp2_with fail
    go_ret
    exact ⟨ret_int hz.symm, Below.refl _ _⟩
  subst h0
  by_cases h1 : t = []
  · have hz := Hz.out
    rw [if_neg (fun h => h rfl), if_pos h1] at hz
    have Hzz := hide hz
    clear hz Hz
    subst h1
    go_enter Tryz.func159, Tryz.ntmps159
    go_wp2_with fail
    go_ret
    exact ⟨ret_int Hzz.out.symm, Below.refl _ _⟩
  have h1' : (t == []) = false := by simp [h1]
  by_cases h2 : t.length ≤ 8 ∧ a = t.length
  · have hz := Hz.out
    rw [if_neg (fun h => h rfl), if_neg h1, if_pos h2] at hz
    have Hzz := hide hz
    have h3 : (t.length : Int) ≤ 8 := by omega
    have h4 : a = t.length := h2.2
    subst h4
    clear hz Hz h2
    go_enter Tryz.func159, Tryz.ntmps159
    go_wp2_with fail
    refine (H1.out _).mono ?_
    rintro e w1 ⟨rfl, hw1⟩
    rw [hw1]
    clear hw1 w1
    go_wp2_with fail
    go_ret
    exact ⟨ret_int Hzz.out.symm, Below.refl _ _⟩
  · have hz := Hz.out
    rw [if_neg (fun h => h rfl), if_neg h1, if_neg h2] at hz
    have Hzz := hide hz
    have H2 := hide h2
    clear hz Hz h2
    by_cases h3 : t.length ≤ 8
    · have h3' : (t.length : Int) ≤ 8 := by omega
      have h4 : ¬ (a : Int) = (t.length : Int) := fun h => H2.out ⟨h3, by omega⟩
      cases nb
      all_goals
        go_enter Tryz.func159, Tryz.ntmps159
        go_wp2_with fail
        refine (H1.out _).mono ?_
        rintro e w1 ⟨rfl, hw1⟩
        rw [hw1]
        clear hw1 w1
        go_wp2_with fail
        refine (HN.out _ hw).mono ?_
        rintro e w1 ⟨rfl, hb1⟩
        go_wp2_with fail
        go_ret
        exact ⟨ret_int (by rw [Hzz.out]; rfl), hb1⟩
    · have h3' : ¬ (t.length : Int) ≤ 8 := by omega
      cases nb
      all_goals
        go_enter Tryz.func159, Tryz.ntmps159
        go_wp2_with fail
        refine (HN.out _ hw).mono ?_
        rintro e w1 ⟨rfl, hb1⟩
        go_wp2_with fail
        go_ret
        exact ⟨ret_int (by rw [Hzz.out]; rfl), hb1⟩

/-- A word as the program has it. -/
def wdV (d : Wd) : Value := .agg #[.int .i64 d.role, .string (bs d.text), .int .i64 d.pos]
set_option maxRecDepth 20000 in
set_option maxHeartbeats 2000000 in
theorem wordFrom_any (r i : Nat) (s : Bs) (w : World) (hr : RolesAt w r) (hw : LgW w) (hs : s.length ≤ 1000000) (hi : i ≤ s.length) :
    Calls Tryz.prog 103 #[.map (some r), .string (bs s), .int .i64 i] w fun e w' => e = .returned (wdV (wordAt s i)) ∧ Below w.heap.size w w' := by
  obtain ⟨rest, hrest⟩ : ∃ x, x = (s.drop i).dropWhile isBl := ⟨_, rfl⟩
  obtain ⟨n, hn⟩ : ∃ x, x = lenW rest := ⟨_, rfl⟩
  obtain ⟨t, ht⟩ : ∃ x, x = rest.take n := ⟨_, rfl⟩
  obtain ⟨q, hq⟩ : ∃ x, x = roleW t := ⟨_, rfl⟩
  have hrl : rest.length ≤ s.length := by
    have h1 : rest.length ≤ (s.drop i).length := by rw [hrest]; exact List.Sublist.length_le (List.dropWhile_sublist _)
    have h2 : (s.drop i).length ≤ s.length := by simp
    omega
  have hnl : n ≤ rest.length := by rw [hn]; exact lenW_le rest
  have hd : wordAt s i = ⟨q, t, s.length - rest.length⟩ := by unfold wordAt; simp only; rw [← hrest, ← hn, ← ht, ← hq]
  rw [hd]
  have H1 : Hid (∀ W : World, Calls Tryz.prog 157 #[.string (bs (s.drop i)), .string ⟨#[32, 10]⟩] W fun e w' => e = .returned (.string (bs rest)) ∧ Below W.heap.size W w') := fun W => by rw [hrest]; exact trimLeft_any _ W
  have H2 : Hid (∀ W : World, RolesAt W r → Calls Tryz.prog 158 #[.map (some r), .string (bs rest)] W fun e w' => e = .returned (.int .i64 n) ∧ w' = W) := fun W h => by rw [hn]; exact lengthOf_any r rest W h (by omega)
  have H3 : Hid (∀ W : World, RolesAt W r → LgW W → Calls Tryz.prog 159 #[.map (some r), .string (bs t)] W fun e w' => e = .returned (.int .i64 q) ∧ Below W.heap.size W w') := fun W h h' => by rw [hq]; exact roleOf_any r t W h h' (by rw [ht]; simp; omega)
  have e1 : (s.drop i).take (s.length - i) = s.drop i := by rw [List.take_of_length_le]; simp
  have e2 : ((bs s).size : Int) = (s.length : Int) := by rw [bs_size]
  have e3 : ((bs rest).size : Int) = (rest.length : Int) := by rw [bs_size]
  have e4 : (bs s).size = s.length := bs_size s
  have e5 : (bs rest).size = rest.length := bs_size rest
  have hi' : (i : Int) ≤ (s.length : Int) := by omega
  have hn' : (n : Int) ≤ (rest.length : Int) := by omega
  have hrl' : (rest.length : Int) ≤ (s.length : Int) := by omega
  have Ht := hide ht
  clear hrest hn ht hq hd
  go_enter Tryz.func103, Tryz.ntmps103
  go_wp2_with fail
  refine (H1.out _).mono ?_
  rintro e w1 ⟨rfl, hb1⟩
  have hb1' : Below w.heap.size w w1 := ((Below.refl _ _).alloc (Nat.le_refl _) _).trans (hb1.mono (by simp))
  have hr1 := hr.below hb1'
  have hw1 := hw.below hb1'
  go_wp2_with fail
  refine (H2.out _ hr1).mono ?_
  rintro e w2 ⟨rfl, hw2⟩
  rw [hw2]
  clear hw2 w2
  go_wp2_with fail
  rw [← Ht.out]
  refine (H3.out _ hr1 hw1).mono ?_
  rintro e w3 ⟨rfl, hb3⟩
  have sz1 : w.heap.size < w1.heap.size := by have := hb1.size; simp at this; omega
  have sz3 := hb3.size
  have c0 : w3.cell? ⟨w.heap.size, 0, none⟩ = some (.int .i64 0) := by rw [hb3.cell (by show w.heap.size < _; omega), hb1.cell (by simp)]; simp
  have c1 : w3.cell? ⟨w.heap.size, 1, none⟩ = some (.string ⟨#[]⟩) := by rw [hb3.cell (by show w.heap.size < _; omega), hb1.cell (by simp)]; simp
  have c2 : w3.cell? ⟨w.heap.size, 2, none⟩ = some (.int .i64 0) := by rw [hb3.cell (by show w.heap.size < _; omega), hb1.cell (by simp)]; simp
  have f0 : ∀ o, w3.frozen? ⟨w.heap.size, o, none⟩ = false := fun o => by rw [hb3.frozen (by show w.heap.size < _; omega), hb1.frozen (by simp)]; simp
  have hbw : Below w.heap.size w w3 := hb1'.trans (hb3.mono (by omega))
  have f00 := f0 0
  have f01 := f0 1
  have f02 := f0 2
  clear hb1 hb3 f0
  go_wp2_with fail
  refine bodyPost_ret (v := wdV ⟨q, t, s.length - rest.length⟩) (by simp [results, Tryz.results103, go_sem, c0, c1, c2, wdV]; omega) rfl ⟨rfl, ?_⟩
  repeat' (first | exact hbw | refine Below.setCell ?_ (by first | (simp; done) | (simp; omega)) _)
end Go.Proofs.YtbfhaabpfkopdaaGreatDoor

/- The language: what is read: terms (plain: no program in it). -/
namespace Go.Proofs.YtbfhaabpfkopdaaGreatDoor
set_option linter.unusedVariables false

/-- A term. -/
structure Ex where
  op : Bs
  n : Int
  name : Bs
  l : List Ex
/-- What comes of reading: something and the word ahead; an error's number, and where; or the count ran out. -/
inductive Res (α : Type) where
  | ok (a : α) (d : Wd)
  | err (c : Int) (pos : Nat)
  | out
def Res.bind {α β : Type} (x : Res α) (f : α → Wd → Res β) : Res β := match x with
  | .ok a d => f a d
  | .err c p => .err c p
  | .out => .out
/-- The word behind this one. -/
def nextW (s : Bs) (d : Wd) : Wd := wordAt s (d.pos + d.text.length)
def wantW (s t : Bs) (d : Wd) : Res Unit := if d.text = t then .ok () (nextW s d) else .err 1 d.pos
def wantR (s : Bs) (r : Int) (d : Wd) : Res Bs := if d.role = r then .ok d.text (nextW s d) else .err 1 d.pos
def numOf (t : Bs) : Int := match Lib.atoiAll t with | .ok v => v | _ => 0
/-- A sign that leads deeper. -/
def deepW (s t : Bs) (deep : Nat) (d : Wd) : Res Bool :=
  if d.text = t then (if 12 ≤ deep then .err 2 d.pos else .ok true (nextW s d)) else .ok false d
/-- Parts with signs of a role between. -/
def grpF (s : Bs) (sign : Int) (f : Wd → Res Ex) : Nat → Ex → Wd → Res Ex
  | 0, _, _ => .out
  | k + 1, e, d => if d.role = sign then (f (nextW s d)).bind fun e2 d2 => grpF s sign f k ⟨d.text, 0, [], [e, e2]⟩ d2 else .ok e d
def partF (s : Bs) (f g : Nat → Wd → Res Ex) (deep : Nat) (d : Wd) : Res Ex :=
  (deepW s [45] deep d).bind fun b d => if b = true then (f (deep + 1) d).bind fun e d => .ok ⟨[110, 101, 103], 0, [], [e]⟩ d else
  (deepW s [40] deep d).bind fun b d => if b = true then (g (deep + 1) d).bind fun e d => (wantW s [41] d).bind fun _ d => .ok e d else
  if d.role = 3 then .ok ⟨[110, 117, 109], numOf d.text, [], []⟩ (nextW s d) else
  (wantR s 2 d).bind fun nm d => (deepW s [91] deep d).bind fun b d =>
    if b = true then (g (deep + 1) d).bind fun e d => (wantW s [93] d).bind fun _ d => .ok ⟨[97, 116], 0, nm, [e]⟩ d
    else .ok ⟨[118, 97, 114], 0, nm, []⟩ d
/-- Parts (0), products (1), sums (2). -/
def exF (s : Bs) : Nat → Nat → Nat → Wd → Res Ex
  | 0, _, _, _ => .out
  | k + 1, 0, deep, d => partF s (exF s k 0) (exF s k 2) deep d
  | k + 1, lev + 1, deep, d => (exF s k lev deep d).bind fun e d => grpF s (8 - lev) (exF s k lev deep) k e d

/-- A word that stands in a text. -/
structure InS (s : Bs) (d : Wd) : Prop where
  le : d.pos + d.text.length ≤ s.length
  wd : ∃ i, d = wordAt s i
theorem wordAt_in (s : Bs) (i : Nat) : InS s (wordAt s i) := by
  refine ⟨?_, i, rfl⟩
  unfold wordAt
  simp only
  generalize hr : (s.drop i).dropWhile isBl = rest
  have h1 : rest.length ≤ s.length := by
    have h1 : rest.length ≤ (s.drop i).length := by rw [← hr]; exact List.Sublist.length_le (List.dropWhile_sublist _)
    have h2 : (s.drop i).length ≤ s.length := by simp
    omega
  have h2 := lenW_le rest
  simp
  omega
theorem nextW_in (s : Bs) (d : Wd) : InS s (nextW s d) := wordAt_in s _
theorem wordAt_pos (s : Bs) (i : Nat) (hi : i ≤ s.length) : i ≤ (wordAt s i).pos := by
  unfold wordAt
  simp only
  have h1 : ((s.drop i).dropWhile isBl).length ≤ (s.drop i).length := List.Sublist.length_le (List.dropWhile_sublist _)
  simp at h1
  omega
theorem nextW_pos {s : Bs} {d : Wd} (h : InS s d) : d.pos + d.text.length ≤ (nextW s d).pos := wordAt_pos s _ h.le
end Go.Proofs.YtbfhaabpfkopdaaGreatDoor
