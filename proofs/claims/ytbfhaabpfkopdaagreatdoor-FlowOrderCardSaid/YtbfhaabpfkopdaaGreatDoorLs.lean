/- The language: bytes, words and their roles: plain facts, no program in them. -/
import Derived.Test.YtbfhaabpfkopdaaGreatDoorKz
import Derived.Ground.NamesProg
import Derived.Shelf.LaysM
import Derived.Shelf.LaysC
import Derived.Shelf.Strings.SlTrimAscii
import Derived.Shelf.Strings.BuilderK
import Derived.Shelf.Strconv.AtoiAll
import Derived.Shelf.Strconv.Itoa4
import Derived.Shelf.Strconv.Clone
import Derived.Shelf.Unicode.PredsPay
namespace Go.Proofs.YtbfhaabpfkopdaaGreatDoor
set_option linter.unusedVariables false

abbrev Bs := List UInt8
/-- A string of these bytes. -/
def bs (l : Bs) : ByteArray := ⟨l.toArray⟩
theorem bs_size (l : Bs) : (bs l).size = l.length := by simp [bs, ByteArray.size]
theorem bs_at (l : Bs) (i : Nat) (h : i < (bs l).size) : l[i]? = some ((bs l)[i]) := by
  have h' : i < l.length := by rw [← bs_size]; exact h
  rw [List.getElem?_eq_getElem h']
  rfl
theorem bs_list (l : Bs) : (bs l).data.toList = l := by simp [bs]
theorem bs_of (s : ByteArray) : bs s.data.toList = s := by cases s; simp [bs]
@[simp] theorem bs_toList (l : Bs) : (bs l).toList = l := by rw [ByteArray.toList_eq, bs_list]

@[simp] theorem bs_extract (l : Bs) (i j : Nat) : (bs l).extract i j = bs ((l.drop i).take (j - i)) := by
  have h : ((bs l).extract i j).data = (bs ((l.drop i).take (j - i))).data := by
    rw [ByteArray.data_extract]
    simp [bs]
  cases hh : (bs l).extract i j with
  | mk d => rw [hh] at h; simp only at h; rw [h]

def isLet (c : UInt8) : Bool := decide (97 ≤ c.toNat) && decide (c.toNat ≤ 122)
def isDig (c : UInt8) : Bool := decide (48 ≤ c.toNat) && decide (c.toNat ≤ 57)
def isBl (c : UInt8) : Bool := c == 32 || c == 10
/-- How many bytes of a kind a text begins with. -/
def runL (p : UInt8 → Bool) (l : Bs) : Nat := (l.takeWhile p).length
theorem runL_le (p : UInt8 → Bool) (l : Bs) : runL p l ≤ l.length := by unfold runL; exact List.IsPrefix.length_le (List.takeWhile_prefix p)
theorem runL_in {p : UInt8 → Bool} {l : Bs} {i : Nat} (h : i < l.length) (hall : ∀ j, j < i → ∀ c, l[j]? = some c → p c = true) (hi : ∀ c, l[i]? = some c → p c = false) : runL p l = i := by
  induction l generalizing i with
  | nil => simp at h
  | cons a l ih =>
    unfold runL
    cases i with
    | zero => have := hi a rfl; simp [this]
    | succ i =>
      have h0 := hall 0 (by omega) a rfl
      simp only [List.takeWhile_cons, h0, if_true, List.length_cons]
      have := ih (i := i) (by simpa using h) (fun j hj c hc => hall (j + 1) (by omega) c (by simpa using hc)) (fun c hc => hi c (by simpa using hc))
      unfold runL at this
      rw [this]
theorem runL_all {p : UInt8 → Bool} {l : Bs} (hall : ∀ j, j < l.length → ∀ c, l[j]? = some c → p c = true) : runL p l = l.length := by
  induction l with
  | nil => rfl
  | cons a l ih =>
    unfold runL
    have h0 := hall 0 (by simp) a rfl
    simp only [List.takeWhile_cons, h0, if_true, List.length_cons]
    have := ih (fun j hj c hc => hall (j + 1) (by simp; omega) c (by simpa using hc))
    unfold runL at this
    rw [this]
end Go.Proofs.YtbfhaabpfkopdaaGreatDoor

/- The language: contracts of the library, laid at this dump. -/
namespace Go.Proofs
open Go.Shelf
def Tryz.lays161_ren : Go.Shelf.Ren := ⟨fun | 161 => 157 | 231 => 195 | 227 => 196 | 233 => 197 | 235 => 198 | 228 => 239 | 197 => 240 | 151 => 241 | 260 => 265 | 152 => 266 | 137 => 284 | 119 => 285 | 224 => 286 | 225 => 287 | 217 => 297 | 266 => 302 | n => n, fun | 9 => 9 | 4 => 4 | 3 => 3 | 5 => 5 | 117 => 334 | 116 => 333 | 0 => 0 | 124 => 337 | 105 => 365 | 21 => 21 | 119 => 401 | 46 => 402 | 139 => 405 | 138 => 404 | n => n, fun | 3 => 9 | 4 => 10 | n => n⟩
theorem Tryz.lays161 : Go.Proofs.Lays.n161 Tryz.prog Tryz.lays161_ren := {
  mixed := by kernel_rfl
  f119 := Tryz.func285.trans (congrArg some (by kernel_rfl))
  f137 := Tryz.func284.trans (congrArg some (by kernel_rfl))
  f151 := Tryz.func241.trans (congrArg some (by kernel_rfl))
  f152 := Tryz.func266.trans (congrArg some (by kernel_rfl))
  f161 := Tryz.func157.trans (congrArg some (by kernel_rfl))
  f197 := Tryz.func240.trans (congrArg some (by kernel_rfl))
  f217 := Tryz.func297.trans (congrArg some (by kernel_rfl))
  f224 := Tryz.func286.trans (congrArg some (by kernel_rfl))
  f225 := Tryz.func287.trans (congrArg some (by kernel_rfl))
  f227 := Tryz.func196.trans (congrArg some (by kernel_rfl))
  f228 := Tryz.func239.trans (congrArg some (by kernel_rfl))
  f231 := Tryz.func195.trans (congrArg some (by kernel_rfl))
  f233 := Tryz.func197.trans (congrArg some (by kernel_rfl))
  f235 := Tryz.func198.trans (congrArg some (by kernel_rfl))
  f260 := Tryz.func265.trans (congrArg some (by kernel_rfl))
  f266 := Tryz.func302.trans (congrArg some (by kernel_rfl))
  t0 := Tryz.underlying0
  a0 := Tryz.isAgg0
  z0 := Tryz.sizeOf0
  v0 := Tryz.zeroValue0
  t3 := Tryz.underlying3
  a3 := Tryz.isAgg3
  z3 := Tryz.sizeOf3
  v3 := Tryz.zeroValue3
  t4 := Tryz.underlying4
  a4 := Tryz.isAgg4
  z4 := Tryz.sizeOf4
  v4 := Tryz.zeroValue4
  t5 := Tryz.underlying5
  a5 := Tryz.isAgg5
  z5 := Tryz.sizeOf5
  v5 := Tryz.zeroValue5
  t9 := Tryz.underlying9
  a9 := Tryz.isAgg9
  z9 := Tryz.sizeOf9
  v9 := Tryz.zeroValue9
  t21 := Tryz.underlying21
  a21 := Tryz.isAgg21
  z21 := Tryz.sizeOf21
  v21 := Tryz.zeroValue21
  t46 := Tryz.underlying402
  a46 := Tryz.isAgg402
  z46 := Tryz.sizeOf402
  v46 := Tryz.zeroValue402
  t105 := Tryz.underlying365
  a105 := Tryz.isAgg365
  z105 := Tryz.sizeOf365
  v105 := Tryz.zeroValue365
  t116 := Tryz.underlying333
  a116 := Tryz.isAgg333
  z116 := Tryz.sizeOf333
  t117 := Tryz.underlying334
  a117 := Tryz.isAgg334
  z117 := Tryz.sizeOf334
  v117 := Tryz.zeroValue334
  t119 := Tryz.underlying401
  a119 := Tryz.isAgg401
  z119 := Tryz.sizeOf401
  t124 := Tryz.underlying337
  a124 := Tryz.isAgg337
  z124 := Tryz.sizeOf337
  v124 := Tryz.zeroValue337
  t138 := Tryz.underlying404
  a138 := Tryz.isAgg404
  z138 := Tryz.sizeOf404
  v138 := Tryz.zeroValue404
  t139 := Tryz.underlying405
  a139 := Tryz.isAgg405
  z139 := Tryz.sizeOf405
  v139 := Tryz.zeroValue405
  g3 := by kernel_rfl
  g4 := by kernel_rfl }
def Tryz.laysC172_ren : Go.Shelf.Ren := ⟨fun | 172 => 203 | 244 => 242 | 245 => 243 | 247 => 267 | 279 => 268 | 280 => 269 | 281 => 270 | 282 => 271 | 287 => 288 | 316 => 104 | 171 => 168 | 205 => 289 | 321 => 298 | 322 => 299 | 243 => 209 | 246 => 248 | 283 => 276 | 284 => 277 | 285 => 278 | 286 => 279 | 129 => 292 | 317 => 291 | 318 => 293 | 319 => 294 | 320 => 295 | 337 => 300 | 338 => 301 | n => n, fun | 9 => 9 | 3 => 3 | 75 => 36 | 76 => 340 | 4 => 4 | 5 => 5 | 167 => 384 | 37 => 239 | 0 => 0 | 85 => 385 | 2 => 2 | 168 => 387 | 53 => 394 | 175 => 409 | 46 => 402 | 210 => 412 | 127 => 292 | 145 => 423 | 143 => 421 | 21 => 21 | 171 => 393 | 173 => 397 | 212 => 416 | 51 => 417 | 20 => 20 | 213 => 418 | 232 => 425 | 233 => 426 | 80 => 228 | n => n, fun | 15 => 11 | 16 => 12 | 17 => 13 | 18 => 15 | 19 => 16 | n => n⟩
theorem Tryz.laysC172 : Go.Proofs.LaysC.n172 Tryz.prog Tryz.laysC172_ren := {
  mixed := by kernel_rfl
  f129 := Tryz.func292.trans (congrArg some (by kernel_rfl))
  f171 := Tryz.func168.trans (congrArg some (by kernel_rfl))
  f172 := Tryz.func203.trans (congrArg some (by kernel_rfl))
  f205 := Tryz.func289.trans (congrArg some (by kernel_rfl))
  f243 := Tryz.func209.trans (congrArg some (by kernel_rfl))
  f244 := Tryz.func242.trans (congrArg some (by kernel_rfl))
  f245 := Tryz.func243.trans (congrArg some (by kernel_rfl))
  f246 := Tryz.func248.trans (congrArg some (by kernel_rfl))
  f247 := Tryz.func267.trans (congrArg some (by kernel_rfl))
  f279 := Tryz.func268.trans (congrArg some (by kernel_rfl))
  f280 := Tryz.func269.trans (congrArg some (by kernel_rfl))
  f281 := Tryz.func270.trans (congrArg some (by kernel_rfl))
  f282 := Tryz.func271.trans (congrArg some (by kernel_rfl))
  f283 := Tryz.func276.trans (congrArg some (by kernel_rfl))
  f284 := Tryz.func277.trans (congrArg some (by kernel_rfl))
  f285 := Tryz.func278.trans (congrArg some (by kernel_rfl))
  f286 := Tryz.func279.trans (congrArg some (by kernel_rfl))
  f287 := Tryz.func288.trans (congrArg some (by kernel_rfl))
  f316 := Tryz.func104.trans (congrArg some (by kernel_rfl))
  f317 := Tryz.func291.trans (congrArg some (by kernel_rfl))
  f318 := Tryz.func293.trans (congrArg some (by kernel_rfl))
  f319 := Tryz.func294.trans (congrArg some (by kernel_rfl))
  f320 := Tryz.func295.trans (congrArg some (by kernel_rfl))
  f321 := Tryz.func298.trans (congrArg some (by kernel_rfl))
  f322 := Tryz.func299.trans (congrArg some (by kernel_rfl))
  f337 := Tryz.func300.trans (congrArg some (by kernel_rfl))
  f338 := Tryz.func301.trans (congrArg some (by kernel_rfl))
  t0 := Tryz.underlying0
  a0 := Tryz.isAgg0
  z0 := Tryz.sizeOf0
  v0 := Tryz.zeroValue0
  t2 := Tryz.underlying2
  a2 := Tryz.isAgg2
  z2 := Tryz.sizeOf2
  v2 := Tryz.zeroValue2
  t3 := Tryz.underlying3
  a3 := Tryz.isAgg3
  z3 := Tryz.sizeOf3
  v3 := Tryz.zeroValue3
  t4 := Tryz.underlying4
  a4 := Tryz.isAgg4
  z4 := Tryz.sizeOf4
  v4 := Tryz.zeroValue4
  t5 := Tryz.underlying5
  a5 := Tryz.isAgg5
  z5 := Tryz.sizeOf5
  v5 := Tryz.zeroValue5
  t9 := Tryz.underlying9
  a9 := Tryz.isAgg9
  z9 := Tryz.sizeOf9
  v9 := Tryz.zeroValue9
  t20 := Tryz.underlying20
  a20 := Tryz.isAgg20
  z20 := Tryz.sizeOf20
  v20 := Tryz.zeroValue20
  t21 := Tryz.underlying21
  a21 := Tryz.isAgg21
  z21 := Tryz.sizeOf21
  v21 := Tryz.zeroValue21
  t37 := Tryz.underlying239
  a37 := Tryz.isAgg239
  z37 := Tryz.sizeOf239
  v37 := Tryz.zeroValue239
  t46 := Tryz.underlying402
  a46 := Tryz.isAgg402
  z46 := Tryz.sizeOf402
  v46 := Tryz.zeroValue402
  t51 := Tryz.underlying417
  a51 := Tryz.isAgg417
  z51 := Tryz.sizeOf417
  v51 := Tryz.zeroValue417
  t53 := Tryz.underlying394
  a53 := Tryz.isAgg394
  z53 := Tryz.sizeOf394
  v53 := Tryz.zeroValue394
  t75 := Tryz.underlying36
  a75 := Tryz.isAgg36
  z75 := Tryz.sizeOf36
  v75 := Tryz.zeroValue36
  t76 := Tryz.underlying340
  a76 := Tryz.isAgg340
  z76 := Tryz.sizeOf340
  v76 := Tryz.zeroValue340
  t85 := Tryz.underlying385
  a85 := Tryz.isAgg385
  z85 := Tryz.sizeOf385
  v85 := Tryz.zeroValue385
  t127 := Tryz.underlying292
  a127 := Tryz.isAgg292
  z127 := Tryz.sizeOf292
  v127 := Tryz.zeroValue292
  t143 := Tryz.underlying421
  a143 := Tryz.isAgg421
  z143 := Tryz.sizeOf421
  v143 := Tryz.zeroValue421
  t145 := Tryz.underlying423
  a145 := Tryz.isAgg423
  z145 := Tryz.sizeOf423
  v145 := Tryz.zeroValue423
  t167 := Tryz.underlying384
  a167 := Tryz.isAgg384
  z167 := Tryz.sizeOf384
  v167 := Tryz.zeroValue384
  t168 := Tryz.underlying387
  a168 := Tryz.isAgg387
  z168 := Tryz.sizeOf387
  v168 := Tryz.zeroValue387
  t171 := Tryz.underlying393
  a171 := Tryz.isAgg393
  z171 := Tryz.sizeOf393
  v171 := Tryz.zeroValue393
  t173 := Tryz.underlying397
  a173 := Tryz.isAgg397
  z173 := Tryz.sizeOf397
  v173 := Tryz.zeroValue397
  t175 := Tryz.underlying409
  a175 := Tryz.isAgg409
  z175 := Tryz.sizeOf409
  v175 := Tryz.zeroValue409
  t210 := Tryz.underlying412
  a210 := Tryz.isAgg412
  z210 := Tryz.sizeOf412
  v210 := Tryz.zeroValue412
  t212 := Tryz.underlying416
  a212 := Tryz.isAgg416
  z212 := Tryz.sizeOf416
  v212 := Tryz.zeroValue416
  t213 := Tryz.underlying418
  a213 := Tryz.isAgg418
  z213 := Tryz.sizeOf418
  t232 := Tryz.underlying425
  a232 := Tryz.isAgg425
  z232 := Tryz.sizeOf425
  v232 := Tryz.zeroValue425
  t233 := Tryz.underlying426
  a233 := Tryz.isAgg426
  z233 := Tryz.sizeOf426
  v233 := Tryz.zeroValue426
  g15 := by kernel_rfl
  g16 := by kernel_rfl
  g17 := by kernel_rfl
  g18 := by kernel_rfl
  g19 := by kernel_rfl
  t80 := Tryz.underlying228
  a80 := Tryz.isAgg228
  z80 := Tryz.sizeOf228
  v80 := Tryz.zeroValue228
  i0 := by kernel_rfl
  i2 := by kernel_rfl
  i3 := by kernel_rfl
  i4 := by kernel_rfl
  i5 := by kernel_rfl
  i9 := by kernel_rfl
  i20 := by kernel_rfl
  i21 := by kernel_rfl
  i37 := by kernel_rfl
  i46 := by kernel_rfl
  i51 := by kernel_rfl
  i53 := by kernel_rfl
  i75 := by kernel_rfl
  i76 := by kernel_rfl
  i80 := by kernel_rfl
  i85 := by kernel_rfl
  i127 := by kernel_rfl
  i143 := by kernel_rfl
  i145 := by kernel_rfl
  i167 := by kernel_rfl
  i168 := by kernel_rfl
  i171 := by kernel_rfl
  i173 := by kernel_rfl
  i175 := by kernel_rfl
  i210 := by kernel_rfl
  i212 := by kernel_rfl
  i232 := by kernel_rfl
  i233 := by kernel_rfl
  m15 := by kernel_rfl
  m16 := by kernel_rfl
  m17 := by kernel_rfl
  m18 := by kernel_rfl
  m19 := by kernel_rfl
  c0 := by kernel_rfl
  c2 := by kernel_rfl
  c3 := by kernel_rfl
  c4 := by kernel_rfl
  c5 := by kernel_rfl
  c9 := by kernel_rfl
  c20 := by kernel_rfl
  c21 := by kernel_rfl
  c37 := by kernel_rfl
  c46 := by kernel_rfl
  c51 := by kernel_rfl
  c53 := by kernel_rfl
  c75 := by kernel_rfl
  c76 := by kernel_rfl
  c80 := by kernel_rfl
  c85 := by kernel_rfl
  c127 := by kernel_rfl
  c143 := by kernel_rfl
  c145 := by kernel_rfl
  c167 := by kernel_rfl
  c168 := by kernel_rfl
  c171 := by kernel_rfl
  c173 := by kernel_rfl
  c175 := by kernel_rfl
  c210 := by kernel_rfl
  c212 := by kernel_rfl
  c213 := by kernel_rfl
  c232 := by kernel_rfl
  c233 := by kernel_rfl }
def Tryz.laysM171_ren : Go.Shelf.Ren := ⟨fun | 171 => 168 | 243 => 209 | 246 => 248 | 283 => 276 | 284 => 277 | 285 => 278 | 286 => 279 | 129 => 292 | 317 => 291 | 318 => 293 | 319 => 294 | 320 => 295 | 337 => 300 | 338 => 301 | n => n, fun | 3 => 3 | 9 => 9 | 2 => 2 | 4 => 4 | 171 => 393 | 0 => 0 | 53 => 394 | 37 => 239 | 5 => 5 | 173 => 397 | 212 => 416 | 51 => 417 | 20 => 20 | 213 => 418 | 46 => 402 | 232 => 425 | 233 => 426 | n => n, fun | 17 => 13 | 18 => 15 | 19 => 16 | n => n⟩
theorem Tryz.laysM171 : Go.Proofs.LaysM.n171 Tryz.prog Tryz.laysM171_ren := {
  mixed := by kernel_rfl
  f129 := Tryz.func292.trans (congrArg some (by kernel_rfl))
  f171 := Tryz.func168.trans (congrArg some (by kernel_rfl))
  f243 := Tryz.func209.trans (congrArg some (by kernel_rfl))
  f246 := Tryz.func248.trans (congrArg some (by kernel_rfl))
  f283 := Tryz.func276.trans (congrArg some (by kernel_rfl))
  f284 := Tryz.func277.trans (congrArg some (by kernel_rfl))
  f285 := Tryz.func278.trans (congrArg some (by kernel_rfl))
  f286 := Tryz.func279.trans (congrArg some (by kernel_rfl))
  f317 := Tryz.func291.trans (congrArg some (by kernel_rfl))
  f318 := Tryz.func293.trans (congrArg some (by kernel_rfl))
  f319 := Tryz.func294.trans (congrArg some (by kernel_rfl))
  f320 := Tryz.func295.trans (congrArg some (by kernel_rfl))
  f337 := Tryz.func300.trans (congrArg some (by kernel_rfl))
  f338 := Tryz.func301.trans (congrArg some (by kernel_rfl))
  t0 := Tryz.underlying0
  a0 := Tryz.isAgg0
  z0 := Tryz.sizeOf0
  v0 := Tryz.zeroValue0
  t2 := Tryz.underlying2
  a2 := Tryz.isAgg2
  z2 := Tryz.sizeOf2
  v2 := Tryz.zeroValue2
  t3 := Tryz.underlying3
  a3 := Tryz.isAgg3
  z3 := Tryz.sizeOf3
  v3 := Tryz.zeroValue3
  t4 := Tryz.underlying4
  a4 := Tryz.isAgg4
  z4 := Tryz.sizeOf4
  v4 := Tryz.zeroValue4
  t5 := Tryz.underlying5
  a5 := Tryz.isAgg5
  z5 := Tryz.sizeOf5
  v5 := Tryz.zeroValue5
  t9 := Tryz.underlying9
  a9 := Tryz.isAgg9
  z9 := Tryz.sizeOf9
  v9 := Tryz.zeroValue9
  t20 := Tryz.underlying20
  a20 := Tryz.isAgg20
  z20 := Tryz.sizeOf20
  v20 := Tryz.zeroValue20
  t37 := Tryz.underlying239
  a37 := Tryz.isAgg239
  z37 := Tryz.sizeOf239
  v37 := Tryz.zeroValue239
  t46 := Tryz.underlying402
  a46 := Tryz.isAgg402
  z46 := Tryz.sizeOf402
  v46 := Tryz.zeroValue402
  t51 := Tryz.underlying417
  a51 := Tryz.isAgg417
  z51 := Tryz.sizeOf417
  v51 := Tryz.zeroValue417
  t53 := Tryz.underlying394
  a53 := Tryz.isAgg394
  z53 := Tryz.sizeOf394
  v53 := Tryz.zeroValue394
  t171 := Tryz.underlying393
  a171 := Tryz.isAgg393
  z171 := Tryz.sizeOf393
  v171 := Tryz.zeroValue393
  t173 := Tryz.underlying397
  a173 := Tryz.isAgg397
  z173 := Tryz.sizeOf397
  v173 := Tryz.zeroValue397
  t212 := Tryz.underlying416
  a212 := Tryz.isAgg416
  z212 := Tryz.sizeOf416
  v212 := Tryz.zeroValue416
  t213 := Tryz.underlying418
  a213 := Tryz.isAgg418
  z213 := Tryz.sizeOf418
  t232 := Tryz.underlying425
  a232 := Tryz.isAgg425
  z232 := Tryz.sizeOf425
  v232 := Tryz.zeroValue425
  t233 := Tryz.underlying426
  a233 := Tryz.isAgg426
  z233 := Tryz.sizeOf426
  v233 := Tryz.zeroValue426
  g17 := by kernel_rfl
  g18 := by kernel_rfl
  g19 := by kernel_rfl
  i0 := by kernel_rfl
  i2 := by kernel_rfl
  i3 := by kernel_rfl
  i4 := by kernel_rfl
  i5 := by kernel_rfl
  i9 := by kernel_rfl
  i20 := by kernel_rfl
  i37 := by kernel_rfl
  i46 := by kernel_rfl
  i51 := by kernel_rfl
  i53 := by kernel_rfl
  i171 := by kernel_rfl
  i173 := by kernel_rfl
  i212 := by kernel_rfl
  i232 := by kernel_rfl
  i233 := by kernel_rfl
  m17 := by kernel_rfl
  m18 := by kernel_rfl
  m19 := by kernel_rfl }
def Tryz.laysM316_ren : Go.Shelf.Ren := ⟨fun | 316 => 104 | n => n, fun | 9 => 9 | 3 => 3 | 4 => 4 | 37 => 239 | 0 => 0 | 127 => 292 | 5 => 5 | n => n, fun | n => n⟩
theorem Tryz.laysM316 : Go.Proofs.LaysM.n316 Tryz.prog Tryz.laysM316_ren := {
  mixed := by kernel_rfl
  f316 := Tryz.func104.trans (congrArg some (by kernel_rfl))
  t0 := Tryz.underlying0
  a0 := Tryz.isAgg0
  z0 := Tryz.sizeOf0
  v0 := Tryz.zeroValue0
  t3 := Tryz.underlying3
  a3 := Tryz.isAgg3
  z3 := Tryz.sizeOf3
  v3 := Tryz.zeroValue3
  t4 := Tryz.underlying4
  a4 := Tryz.isAgg4
  z4 := Tryz.sizeOf4
  v4 := Tryz.zeroValue4
  t9 := Tryz.underlying9
  a9 := Tryz.isAgg9
  z9 := Tryz.sizeOf9
  v9 := Tryz.zeroValue9
  t37 := Tryz.underlying239
  a37 := Tryz.isAgg239
  z37 := Tryz.sizeOf239
  v37 := Tryz.zeroValue239
  t127 := Tryz.underlying292
  a127 := Tryz.isAgg292
  z127 := Tryz.sizeOf292
  v127 := Tryz.zeroValue292
  t5 := Tryz.underlying5
  a5 := Tryz.isAgg5
  z5 := Tryz.sizeOf5
  v5 := Tryz.zeroValue5
  i0 := by kernel_rfl
  i3 := by kernel_rfl
  i4 := by kernel_rfl
  i5 := by kernel_rfl
  i9 := by kernel_rfl
  i37 := by kernel_rfl
  i127 := by kernel_rfl }
end Go.Proofs
namespace Go.Proofs.YtbfhaabpfkopdaaGreatDoor
open Go.RowKit Go.Shelf
set_option linter.unusedVariables false

theorem trimLeft_any (l : Bs) (w : World) : Calls Tryz.prog 157 #[.string (bs l), .string ⟨#[32, 10]⟩] w fun e w' => e = .returned (.string (bs (l.dropWhile isBl))) ∧ Below w.heap.size w w' := by
  refine (Any.strings_TrimLeft_laid Tryz.lays161 (by kernel_rfl) (bs l) ⟨#[32, 10]⟩ w (by decide) (ascii_of_all (by decide))).mono ?_
  rintro e w' ⟨rfl, hb⟩
  refine ⟨?_, hb⟩
  rw [bs_list]
  have : Lib.trimLeftS l [32, 10] = l.dropWhile isBl := by
    unfold Lib.trimLeftS
    congr 1
    funext c
    simp [isBl]
    rfl
  show Ending.returned (.string ⟨(Lib.trimLeftS l [32, 10]).toArray⟩) = _
  rw [this]
  rfl
theorem atoi_ok (l : Bs) (hl : l.length ≤ 1000000) (v : Int) (h : Lib.atoiAll l = .ok v) (w : World) : Calls Tryz.prog 203 #[.string (bs l)] w fun e w' => e = .returned (.tuple #[.int .i64 v, .nilIface]) ∧ Below w.heap.size w w' := by
  refine (Any.strconv_Atoi_ok Tryz.laysC172 (bs l) (by rw [bs_size]; omega) v (by rw [bs_list]; exact h) w).mono ?_
  rintro e w' ⟨rfl, hw⟩
  refine ⟨rfl, ?_⟩
  rcases hw with rfl | ⟨t, rfl⟩
  · exact Below.refl _ _
  · exact Lib.bytesWorld_below _ _ _
/-- The library's variables that the language's functions read: two errors, a table. -/
structure LgW (W : World) : Prop where
  syn : ∃ ev, W.cell? ⟨11, 0, none⟩ = some ev ∧ (ev = .nilIface ∨ ∃ te pe, ev = .iface te pe)
  rng : ∃ ev, W.cell? ⟨12, 0, none⟩ = some ev ∧ (ev = .nilIface ∨ ∃ te pe, ev = .iface te pe)
  tab : Lib.TabIs Tryz.prog W "internal/strconv.uint64pow10" .u64 Lib.pow10Tab
theorem LgW.below {W W' : World} (h : LgW W) (hb : Below W.heap.size W W') : LgW W' := by
  obtain ⟨⟨e1, h1, k1⟩, ⟨e2, h2, k2⟩, h3⟩ := h
  refine ⟨⟨e1, ?_, k1⟩, ⟨e2, ?_, k2⟩, TabIs_below (g := 13) (by kernel_rfl) h3 hb⟩
  · rw [hb.cell (World.block_lt_of_cell? W _ h1)]; exact h1
  · rw [hb.cell (World.block_lt_of_cell? W _ h2)]; exact h2
theorem atoi_no (l : Bs) (hl : l.length ≤ 1000000) (h : ∀ v, Lib.atoiAll l ≠ .ok v) (w : World) (hw : LgW w) : Calls Tryz.prog 203 #[.string (bs l)] w fun e w' => (∃ (z : Int) (N : Nat), e = .returned (.tuple #[.int .i64 z, .iface 387 (.pointer (some ⟨N, 0, none⟩))])) ∧ Below w.heap.size w w' := by
  obtain ⟨⟨e1, h1, k1⟩, ⟨e2, h2, k2⟩, h3⟩ := hw
  cases hh : Lib.atoiAll l with
  | ok v => exact absurd hh (h v)
  | «syntax» =>
    refine (Any.strconv_Atoi_syntax Tryz.laysC172 (bs l) (by rw [bs_size]; omega) (by rw [bs_list]; exact hh) e1 w h1 k1).mono ?_
    rintro e w' ⟨N, rfl, _, _, hb⟩
    exact ⟨⟨0, N, rfl⟩, hb⟩
  | range =>
    refine (Any.strconv_Atoi_range Tryz.laysC172 (bs l) (by rw [bs_size]; omega) (by rw [bs_list]; exact hh) e2 w h2 k2).mono ?_
    rintro e w' ⟨N, rfl, _, _, hb⟩
    exact ⟨⟨_, N, rfl⟩, hb⟩
theorem grow_below (w : World) (k : Nat) (os : Array Obj) : Below w.heap.size w (Go.Sort.grow (w.drewN k) os) := by
  refine ⟨rfl, rfl, rfl, ?_, fun i hi => ?_⟩
  · show w.heap.size ≤ (w.heap ++ os).size
    simp
  · show (w.heap ++ os)[i]? = w.heap[i]?
    rw [Array.getElem?_append_left hi]
theorem itoa_any (n : Int) (h : -9223372036854775808 ≤ n ∧ n ≤ 9223372036854775807) (w : World) (hw : LgW w) : Calls Tryz.prog 168 #[.int .i64 n] w fun e w' => e = .returned (.string (bs (Lib.itoa n))) ∧ Below w.heap.size w w' := by
  refine (Any.strconv_Itoa Tryz.laysM171 n h.1 h.2 w hw.tab).mono ?_
  rintro e w' ⟨rfl, k, os, rfl⟩
  exact ⟨rfl, grow_below w k os⟩
theorem clone_lite (l : Bs) (hl : l.length ≤ 1000000) (w : World) : Calls Tryz.prog 104 #[.string (bs l)] w fun e w' => e = .returned (.string (bs l)) ∧ Below w.heap.size w w' :=
  Any.stringslite_Clone Tryz.laysM316 (bs l) w (by rw [bs_size]; omega)
end Go.Proofs.YtbfhaabpfkopdaaGreatDoor
