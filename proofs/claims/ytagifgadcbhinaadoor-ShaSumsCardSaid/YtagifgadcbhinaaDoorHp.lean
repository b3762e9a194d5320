/- The constants, purely: the first eighty primes; the words that stand first behind the point of their roots; the program's Newton steps come to them, and the document's search does. No dump is imported. -/
namespace Go.Proofs.YtagifgadcbhinaaDoor
set_option linter.unusedVariables false
set_option linter.unusedSimpArgs false

/-- The first eighty primes; the start; the constants. -/
def PR : List Nat := [2, 3, 5, 7, 11, 13, 17, 19, 23, 29, 31, 37, 41, 43, 47, 53, 59, 61, 67, 71,
  73, 79, 83, 89, 97, 101, 103, 107, 109, 113, 127, 131, 137, 139, 149, 151, 157, 163, 167, 173,
  179, 181, 191, 193, 197, 199, 211, 223, 227, 229, 233, 239, 241, 251, 257, 263, 269, 271, 277, 281,
  283, 293, 307, 311, 313, 317, 331, 337, 347, 349, 353, 359, 367, 373, 379, 383, 389, 397, 401, 409]
def HS : List Nat := [7640891576956012808, 13503953896175478587, 4354685564936845355, 11912009170470909681, 5840696475078001361, 11170449401992604703,
  2270897969802886507, 6620516959819538809]
def HK : List Nat := [4794697086780616226, 8158064640168781261, 13096744586834688815, 16840607885511220156, 4131703408338449720, 6480981068601479193,
  10538285296894168987, 12329834152419229976, 15566598209576043074, 1334009975649890238, 2608012711638119052, 6128411473006802146,
  8268148722764581231, 9286055187155687089, 11230858885718282805, 13951009754708518548, 16472876342353939154, 17275323862435702243,
  1135362057144423861, 2597628984639134821, 3308224258029322869, 5365058923640841347, 6679025012923562964, 8573033837759648693,
  10970295158949994411, 12119686244451234320, 12683024718118986047, 13788192230050041572, 14330467153632333762, 15395433587784984357,
  489312712824947311, 1452737877330783856, 2861767655752347644, 3322285676063803686, 5560940570517711597, 5996557281743188959,
  7280758554555802590, 8532644243296465576, 9350256976987008742, 10552545826968843579, 11727347734174303076, 12113106623233404929,
  14000437183269869457, 14369950271660146224, 15101387698204529176, 15463397548674623760, 17586052441742319658, 1182934255886127544,
  1847814050463011016, 2177327727835720531, 2830643537854262169, 3796741975233480872, 4115178125766777443, 5681478168544905931,
  6601373596472566643, 7507060721942968483, 8399075790359081724, 8693463985226723168, 9568029438360202098, 10144078919501101548,
  10430055236837252648, 11840083180663258601, 13761210420658862357, 14299343276471374635, 14566680578165727644, 15097957966210449927,
  16922976911328602910, 17689382322260857208, 500013540394364858, 748580250866718886, 1242879168328830382, 1977374033974150939,
  2944078676154940804, 3659926193048069267, 4368137639120453308, 4836135668995329356, 5532061633213252278, 6448918945643986474,
  6902733635092675308, 7801388544844847127]
theorem PR_len : PR.length = 80 := rfl
theorem HS_len : HS.length = 8 := rfl
theorem HK_len : HK.length = 80 := rfl

/-- Four words, the first of them whole, three behind the point. -/
structure Q4 where
  a : Nat
  b : Nat
  c : Nat
  d : Nat
def Q4.same (x y : Q4) : Bool := Nat.beq x.a y.a && (Nat.beq x.b y.b && (Nat.beq x.c y.c && Nat.beq x.d y.d))
theorem Q4.same_iff (x y : Q4) : x.same y = true ↔ x = y := by
  obtain ⟨a, b, c, d⟩ := x
  obtain ⟨e, f, g, h⟩ := y
  simp [Q4.same]
/-- The program's product. -/
def tmsN (x y : Q4) : Q4 :=
  let p1 := x.c * y.b
  let p2 := x.b * y.b + p1 / 18446744073709551616 + 0
  let p3 := x.a * y.b + p2 / 18446744073709551616 + 0
  let p4 := x.d * y.a + p1 % 18446744073709551616 + 0
  let p5 := x.c * y.a + p2 % 18446744073709551616 + p4 / 18446744073709551616
  let p6 := x.b * y.a + p3 % 18446744073709551616 + p5 / 18446744073709551616
  ⟨(x.a * y.a + p3 / 18446744073709551616 + p6 / 18446744073709551616) % 18446744073709551616, p6 % 18446744073709551616, p5 % 18446744073709551616, p4 % 18446744073709551616⟩
/-- How many bits a byte has, and a word. -/
def len8 (x : Nat) : Nat := if x = 0 then 0 else Nat.log2 x + 1
def lenN (x : Nat) : Nat :=
  let n1 := if 4294967296 ≤ x then 32 else 0
  let x1 := if 4294967296 ≤ x then x / 4294967296 else x
  let n2 := if 65536 ≤ x1 then n1 + 16 else n1
  let x2 := if 65536 ≤ x1 then x1 / 65536 else x1
  let n3 := if 256 ≤ x2 then n2 + 8 else n2
  let x3 := if 256 ≤ x2 then x2 / 256 else x2
  n3 + len8 x3
/-- math/bits.Div64's correction. -/
def corr (y1 y0 u : Nat) : Nat → Nat → Nat → Option Nat
  | 0, _, _ => none
  | k + 1, q, r =>
    if 4294967296 ≤ q ∨ (4294967296 * r % 18446744073709551616 + u) % 18446744073709551616 < q * y0 % 18446744073709551616 then
      (if 4294967296 ≤ (r + y1) % 18446744073709551616 then some (q - 1) else corr y1 y0 u k (q - 1) ((r + y1) % 18446744073709551616))
    else some q
def subW (a b : Nat) : Nat := (a + (18446744073709551616 - b)) % 18446744073709551616
/-- Div64's quotient, where its corrections end soon and nothing is divided by 0. -/
def divC (k y2 y1 y0 un32 un1 un0 : Nat) : Option Nat :=
  if y1 = 0 then none else
    match corr y1 y0 un1 k (un32 / y1) (subW un32 (un32 / y1 * y1 % 18446744073709551616)) with
    | none => none
    | some q1 =>
      match corr y1 y0 un0 k (subW ((un32 * 4294967296 % 18446744073709551616 + un1) % 18446744073709551616) (q1 * y2 % 18446744073709551616) / y1) (subW (subW ((un32 * 4294967296 % 18446744073709551616 + un1) % 18446744073709551616) (q1 * y2 % 18446744073709551616)) (subW ((un32 * 4294967296 % 18446744073709551616 + un1) % 18446744073709551616) (q1 * y2 % 18446744073709551616) / y1 * y1 % 18446744073709551616)) with
      | none => none
      | some q0 => some ((q1 * 4294967296 % 18446744073709551616 + q0) % 18446744073709551616)
def divS (s hi lo y : Nat) : Option Nat :=
  divC 9 (y * 2 ^ s % 18446744073709551616) (y * 2 ^ s % 18446744073709551616 / 4294967296) (y * 2 ^ s % 18446744073709551616 % 4294967296) (hi * 2 ^ s % 18446744073709551616 ||| lo / 2 ^ (64 - s)) (lo * 2 ^ s % 18446744073709551616 / 4294967296) (lo * 2 ^ s % 18446744073709551616 % 4294967296)
def divN (hi lo y : Nat) : Option Nat :=
  if y ≤ hi then none else if hi = 0 then some (lo / y) else divS (64 - lenN y) hi lo y
/-- The power ahead of the last one. -/
def belowN (p : Nat) (x : Q4) : Q4 := if p = 3 then tmsN x x else x
/-- The step's parts; the program's step. -/
def slopeN (p : Nat) (x : Q4) : Q4 := tmsN (belowN p x) ⟨p, 0, 0, 0⟩
def allN (p : Nat) (x : Q4) : Q4 := tmsN (belowN p x) x
def lowN (n p : Nat) (x : Q4) : Option Q4 :=
  let all := allN p x
  if all.a < n then some x else
    let sl := slopeN p x
    match divN (subW all.a n * 72057594037927936 % 18446744073709551616 ||| all.b / 256) (all.b * 72057594037927936 % 18446744073709551616) (((sl.a * 72057594037927936 % 18446744073709551616 ||| sl.b / 256) + 1) % 18446744073709551616) with
    | none => none
    | some q => some ⟨x.a, subW x.b (max q 1), x.c, x.d⟩
/-- The steps end in x. -/
def chainB (n p : Nat) : Nat → Q4 → Q4 → Bool
  | 0, _, _ => false
  | k + 1, x, z => match lowN n p x with
    | none => false
    | some y => if y.same x then x.same z else chainB n p k y z
/-- The whole part of the root. -/
def wholeB (n p v : Nat) : Bool := (List.range v).all (fun j => j == 0 || Nat.ble (j ^ p) n) && (Nat.ble 1 v && (Nat.ble (v ^ p) n && Nat.blt n ((v + 1) ^ p)))
def fracB (n p v c : Nat) : Bool := wholeB n p v && chainB n p 20 ⟨v, 18446744073709551615, 0, 0⟩ ⟨v, c, 0, 0⟩
/-- The document's search: the greatest x below 2^i more whose power is small enough. -/
def seek (n p : Nat) : Nat → Nat → Nat
  | 0, x => x
  | i + 1, x => seek n p i (if (x + 2 ^ i) ^ p ≤ n * 2 ^ (64 * p) then x + 2 ^ i else x)
def rootN (n p : Nat) : Nat := seek n p 70 0 % 18446744073709551616
/-- No d from 2 up to k has its square at most n, and divides n. -/
def primeB (n : Nat) : Nat → Bool
  | 0 => true
  | k + 1 => primeB n k && (Nat.blt k 2 || (Nat.blt n (k * k) || !(n % k == 0)))
def rt2 (n : Nat) : Nat := (List.range 22).foldl (fun a j => if j * j ≤ n then j else a) 0
def rt3 (n : Nat) : Nat := (List.range 9).foldl (fun a j => if j * j * j ≤ n then j else a) 0
theorem start_ok : ((List.range 8).all fun i => fracB (PR.getD i 0) 2 (rt2 (PR.getD i 0)) (HS.getD i 0)) = true := by decide +kernel
theorem const_ok : ((List.range 80).all fun i => fracB (PR.getD i 0) 3 (rt3 (PR.getD i 0)) (HK.getD i 0)) = true := by decide +kernel
theorem root_ok : ((List.range 80).all fun i => Nat.beq (rootN (PR.getD i 0) 3) (HK.getD i 0) && (Nat.ble 8 i || Nat.beq (rootN (PR.getD i 0) 2) (HS.getD i 0))) = true := by decide +kernel
end Go.Proofs.YtagifgadcbhinaaDoor
