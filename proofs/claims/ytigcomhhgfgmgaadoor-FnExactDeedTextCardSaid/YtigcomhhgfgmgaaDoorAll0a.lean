/- Contracts and laws that the statement's proof stands on, one text behind the other. -/
import Derived.KernelRfl
import Derived.Test.YtigcomhhgfgmgaaDoorProg
import Derived.WalkKit
import Derived.Lib.Hide
import Derived.WalkSpells
import Derived.WalkLawsBesides
import Derived.Lib.Split
import Derived.Lib.AtoiAll
import Derived.Lib.SlicesS
import Derived.Lib.ItoaNum
import Derived.Test.YtigcomhhgfgmgaaDoorShelf
import Derived.Shelf.Strings.SplitCore
import Derived.Lib.LaidTab
import Derived.Lib.AppendIntMem
import Derived.Lib.AtoiErrMem
import Derived.Test.YtigcomhhgfgmgaaDoorRows
import Derived.LaidLaws
import Derived.Stop.LaidErr
import Derived.Lib.LaidU8
import Derived.Deep.DeepLaidRun
import Derived.ChangeSame
import Derived.ChangeVars
import Derived.JoinedOf
import Derived.Orders
import Derived.Great.Frames
import Derived.Deep.QuietTactic
import Derived.BigQuiet
import Derived.IntWalk
import Derived.Laws.IdiomStrings
import Derived.Shelf.Abstract
import Derived.Deep.Cut
import Derived.Deep.DeepCutAuto
import Derived.Deep.AppendLies
import Derived.Deep.RegionLawGrows
import Derived.Deep.RegionHeld3

namespace Go.Proofs.YtigcomhhgfgmgaaDoor
/-- A number of a pair. -/
def numB (n : Int) : Bool := decide (-4 ≤ n ∧ n ≤ 4)
/-- Both numbers of a pair. -/
def pairB (p q : Int) : Bool := numB p && numB q
/-- A place of a row. -/
def placeB (k : Int) : Bool := decide (0 ≤ k ∧ k ≤ 20)
theorem numB_true {n : Int} (h : numB n = true) : -4 ≤ n ∧ n ≤ 4 := by simpa [numB] using h
theorem numB_false {n : Int} (h : numB n = false) : n < -4 ∨ 4 < n := by
  have h' : ¬ (-4 ≤ n ∧ n ≤ 4) := by simpa [numB] using h
  omega
theorem numB_mk {n : Int} (h1 : -4 ≤ n) (h2 : n ≤ 4) : numB n = true := by simp [numB, h1, h2]
theorem numB_no {n : Int} (h : n < -4 ∨ 4 < n) : numB n = false := by
  have h' : ¬ (-4 ≤ n ∧ n ≤ 4) := by omega
  simp only [numB, h', decide_false]
theorem placeB_true {n : Int} (h : placeB n = true) : 0 ≤ n ∧ n ≤ 20 := by simpa [placeB] using h
theorem placeB_false {n : Int} (h : placeB n = false) : n < 0 ∨ 20 < n := by
  have h' : ¬ (0 ≤ n ∧ n ≤ 20) := by simpa [placeB] using h
  omega
theorem placeB_mk {n : Int} (h1 : 0 ≤ n) (h2 : n ≤ 20) : placeB n = true := by simp [placeB, h1, h2]
theorem placeB_no {n : Int} (h : n < 0 ∨ 20 < n) : placeB n = false := by
  have h' : ¬ (0 ≤ n ∧ n ≤ 20) := by omega
  simp only [placeB, h', decide_false]
theorem pairB_true {p q : Int} (h : pairB p q = true) : (-4 ≤ p ∧ p ≤ 4) ∧ (-4 ≤ q ∧ q ≤ 4) := by
  have h' : numB p = true ∧ numB q = true := by simpa [pairB] using h
  exact ⟨numB_true h'.1, numB_true h'.2⟩
theorem pairB_mk {p q : Int} (h1 : -4 ≤ p) (h2 : p ≤ 4) (h3 : -4 ≤ q) (h4 : q ≤ 4) : pairB p q = true := by simp [pairB, numB_mk, h1, h2, h3, h4]
/-- The numbers of a row that begins with a and b. -/
def row (p q a b : Int) : Nat → Int
  | 0 => a
  | 1 => b
  | n + 2 => p * row p q a b (n + 1) - q * row p q a b n
theorem row_step (p q a b : Int) (n : Nat) : row p q a b (n + 2) = p * row p q a b (n + 1) - q * row p q a b n := rfl
/-- The product of two bounded numbers. -/
theorem mul_bd {a b x y : Int} (h1 : -a ≤ x) (h2 : x ≤ a) (h3 : -b ≤ y) (h4 : y ≤ b) : -(a * b) ≤ x * y ∧ x * y ≤ a * b := by
  have ha : 0 ≤ a := by omega
  have hb : 0 ≤ b := by omega
  have hx : x.natAbs ≤ a.natAbs := by omega
  have hy : y.natAbs ≤ b.natAbs := by omega
  have h : (x * y).natAbs ≤ (a * b).natAbs := by rw [Int.natAbs_mul, Int.natAbs_mul]; exact Nat.mul_le_mul hx hy
  have hab : 0 ≤ a * b := Int.mul_nonneg ha hb
  omega
/-- How great the numbers of a row may be. -/
def cap (c : Int) : Nat → Int
  | 0 => c
  | n + 1 => 5 * cap c n
theorem cap_nonneg {c : Int} (h : 0 ≤ c) : ∀ n, 0 ≤ cap c n
  | 0 => h
  | n + 1 => by have := cap_nonneg h n; simp only [cap]; omega
theorem row_bd {p q a b : Int} (hp : -4 ≤ p) (hp' : p ≤ 4) (hq : -4 ≤ q) (hq' : q ≤ 4) {c : Int} (hc : 0 ≤ c) (ha : -c ≤ a) (ha' : a ≤ c) (hb : -(5 * c) ≤ b) (hb' : b ≤ 5 * c) :
    ∀ n, (-(cap c n) ≤ row p q a b n ∧ row p q a b n ≤ cap c n) ∧ (-(cap c (n + 1)) ≤ row p q a b (n + 1) ∧ row p q a b (n + 1) ≤ cap c (n + 1))
  | 0 => ⟨⟨ha, ha'⟩, hb, hb'⟩
  | n + 1 => by
    obtain ⟨⟨h1, h2⟩, h3, h4⟩ := row_bd hp hp' hq hq' hc ha ha' hb hb' n
    refine ⟨⟨h3, h4⟩, ?_⟩
    have e := row_step p q a b n
    have m1 := mul_bd (a := 4) hp hp' h3 h4
    have m2 := mul_bd (a := 4) hq hq' h1 h2
    have hn := cap_nonneg hc n
    have e2 : cap c (n + 1 + 1) = 5 * cap c (n + 1) := rfl
    have e1 : cap c (n + 1) = 5 * cap c n := rfl
    rw [e]
    omega
end Go.Proofs.YtigcomhhgfgmgaaDoor
namespace Go.Proofs.YtigcomhhgfgmgaaDoor
/-- A deed; a desk: its pair, and those of before. -/
structure DeedN where
  kind : Int
  a : Int
  b : Int
  deriving DecidableEq
structure DeskN where
  now : Int × Int
  past : List (Int × Int)
  deriving DecidableEq
def pairN (p : Int × Int) : Bool := pairB p.1 p.2
def deskN (d : DeskN) : Bool := pairN d.now && decide (d.past.length ≤ 8) && d.past.all pairN
/-- What a deed makes of a pair. -/
def madeN (p : Int × Int) (x : DeedN) : Option (Int × Int) :=
  if x.kind = 0 then some (x.a, x.b) else
  if x.a = 0 ∧ x.b = 0 then
    if x.kind = 1 then some (-p.1, p.2) else
    if x.kind = 2 then some (p.1 + 1, p.2 + 1) else
    if x.kind = 3 then some (p.1 - 1, p.2 - 1) else none
  else none
def takenN (p : Int × Int) (x : DeedN) : Option (Int × Int) := (madeN p x).filter fun q => pairN q && decide (q ≠ p)
def backN : DeedN := ⟨4, 0, 0⟩
/-- A desk after a deed. -/
def doN (d : DeskN) (x : DeedN) : DeskN × Bool :=
  if x = backN then (if d.past = [] then (d, false) else (⟨d.past.getLastD d.now, d.past.dropLast⟩, true)) else
  match takenN d.now x with
  | some q => (⟨q, (d.past ++ [d.now]).drop (d.past.length + 1 - 8)⟩, true)
  | none => (d, false)
theorem deskN_of {d : DeskN} (h : deskN d = true) : pairN d.now = true ∧ d.past.length ≤ 8 ∧ ∀ p ∈ d.past, pairN p = true := by
  simp only [deskN, Bool.and_eq_true, decide_eq_true_eq, List.all_eq_true] at h
  exact ⟨h.1.1, h.1.2, h.2⟩
theorem deskN_mk {d : DeskN} (h1 : pairN d.now = true) (h2 : d.past.length ≤ 8) (h3 : ∀ p ∈ d.past, pairN p = true) : deskN d = true := by
  simp only [deskN, Bool.and_eq_true, decide_eq_true_eq, List.all_eq_true]
  exact ⟨⟨h1, h2⟩, h3⟩
theorem takenN_some {p q : Int × Int} {x : DeedN} (h : takenN p x = some q) : madeN p x = some q ∧ pairN q = true ∧ q ≠ p := by
  unfold takenN at h
  rw [Option.filter_eq_some_iff] at h
  simp only [Bool.and_eq_true, decide_eq_true_eq] at h
  exact ⟨h.1, h.2.1, h.2.2⟩
theorem backN_made (p : Int × Int) : madeN p backN = none := by simp [madeN, backN]
/-- Whatever is done, it is a desk. -/
theorem doN_desk {d : DeskN} (x : DeedN) (h : deskN d = true) : deskN (doN d x).1 = true := by
  obtain ⟨h1, h2, h3⟩ := deskN_of h
  unfold doN
  split
  · split
    · exact h
    · rename_i hne
      refine deskN_mk ?_ (by simp; omega) (fun p hp => h3 p (List.dropLast_subset _ hp))
      show pairN (d.past.getLastD d.now) = true
      rw [List.getLastD_eq_getLast?, List.getLast?_eq_some_getLast hne]
      exact h3 _ (List.getLast_mem hne)
  · split
    · rename_i q hq
      obtain ⟨-, hp, -⟩ := takenN_some hq
      refine deskN_mk hp (by simp; omega) (fun p hp => ?_)
      rcases List.mem_append.1 (List.mem_of_mem_drop hp) with hp | hp
      · exact h3 p hp
      · rw [List.mem_singleton.1 hp]; exact h1
    · exact h
theorem doN_no {d : DeskN} {x : DeedN} (h : (doN d x).2 = false) : (doN d x).1 = d := by
  revert h
  unfold doN
  split
  · split <;> simp
  · split <;> simp
/-- What was done can be undone. -/
theorem doN_back {d : DeskN} {x : DeedN} (hx : x ≠ backN) (hd : (doN d x).2 = true) (hl : d.past.length < 8) : doN (doN d x).1 backN = (d, true) := by
  revert hd
  unfold doN
  rw [if_neg hx, if_pos rfl]
  cases hq : takenN d.now x with
  | none => simp
  | some q =>
    intro _
    have h0 : d.past.length + 1 - 8 = 0 := by omega
    simp [h0]
theorem doN_turn {d : DeskN} (hd : (doN d ⟨1, 0, 0⟩).2 = true) : (doN d ⟨1, 0, 0⟩).1.now = (-d.now.1, d.now.2) := by
  revert hd
  unfold doN
  rw [if_neg (by decide)]
  cases hq : takenN d.now ⟨1, 0, 0⟩ with
  | none => simp
  | some q =>
    intro _
    obtain ⟨h, -, -⟩ := takenN_some hq
    have h' : some (-d.now.1, d.now.2) = some q := h
    rw [← Option.some.inj h']
/-- Only a turn has the kind 1: what is done with another A or B is nothing. -/
theorem doN_turn_is {d : DeskN} {x : DeedN} (hk : x.kind = 1) (hd : (doN d x).2 = true) : x = ⟨1, 0, 0⟩ := by
  obtain ⟨k, a, b⟩ := x
  replace hk : k = 1 := hk
  subst hk
  revert hd
  unfold doN takenN madeN
  rw [if_neg (by simp [backN])]
  by_cases h : a = 0 ∧ b = 0
  · obtain ⟨rfl, rfl⟩ := h
    intro _; rfl
  · simp [h]
/-- Deeds, one after the other, and how many were done. -/
def runN (d : DeskN) : List DeedN → DeskN × Nat
  | [] => (d, 0)
  | x :: xs => let r := doN d x; let s := runN r.1 xs; (s.1, s.2 + if r.2 then 1 else 0)
theorem runN_append (d : DeskN) (xs ys : List DeedN) : runN d (xs ++ ys) = ((runN (runN d xs).1 ys).1, (runN d xs).2 + (runN (runN d xs).1 ys).2) := by
  induction xs generalizing d with
  | nil => simp [runN]
  | cons x xs ih => simp only [List.cons_append, runN, ih]; congr 1; omega
theorem runN_desk {d : DeskN} (xs : List DeedN) (h : deskN d = true) : deskN (runN d xs).1 = true := by
  induction xs generalizing d with
  | nil => exact h
  | cons x xs ih => exact ih (doN_desk x h)
theorem runN_count (d : DeskN) (xs : List DeedN) : (runN d xs).2 ≤ xs.length := by
  induction xs generalizing d with
  | nil => simp [runN]
  | cons x xs ih => simp only [runN, List.length_cons]; have := ih (doN d x).1; split <;> omega
/-- The text of a number in -9..9, and of a deed. -/
def digN (n : Int) : List UInt8 := if n < 0 then [45, UInt8.ofNat (48 + (-n).toNat)] else [UInt8.ofNat (48 + n.toNat)]
def deedT (x : DeedN) : List UInt8 :=
  if x.kind = 0 then (if -9 ≤ x.a ∧ x.a ≤ 9 ∧ -9 ≤ x.b ∧ x.b ≤ 9 then [116, 97, 107, 101, 32] ++ digN x.a ++ [32] ++ digN x.b else []) else
  if x.a = 0 ∧ x.b = 0 then
    if x.kind = 1 then [116, 117, 114, 110] else
    if x.kind = 2 then [117, 112] else
    if x.kind = 3 then [100, 111, 119, 110] else
    if x.kind = 4 then [98, 97, 99, 107] else []
  else []
def nines : List Int := (List.range 19).map fun (i : Nat) => (i : Int) - 9
def allDeeds : List DeedN := [⟨1, 0, 0⟩, ⟨2, 0, 0⟩, ⟨3, 0, 0⟩, ⟨4, 0, 0⟩] ++ nines.flatMap fun a => nines.map fun b => ⟨0, a, b⟩
theorem mem_nines {a : Int} (h1 : -9 ≤ a) (h2 : a ≤ 9) : a ∈ nines := by
  refine List.mem_map.2 ⟨(a + 9).toNat, List.mem_range.2 (by omega), by omega⟩
theorem mem_deeds {x : DeedN} (h : deedT x ≠ []) : x ∈ allDeeds := by
  obtain ⟨k, a, b⟩ := x
  unfold deedT at h
  simp only at h
  by_cases h0 : k = 0
  · subst h0
    rw [if_pos rfl] at h
    by_cases hr : -9 ≤ a ∧ a ≤ 9 ∧ -9 ≤ b ∧ b ≤ 9
    · refine List.mem_append.2 (.inr (List.mem_flatMap.2 ⟨a, mem_nines hr.1 hr.2.1, List.mem_map.2 ⟨b, mem_nines hr.2.2.1 hr.2.2.2, rfl⟩⟩))
    · rw [if_neg hr] at h; exact absurd rfl h
  · rw [if_neg h0] at h
    by_cases hr : a = 0 ∧ b = 0
    · obtain ⟨rfl, rfl⟩ := hr
      rw [if_pos ⟨rfl, rfl⟩] at h
      by_cases h1 : k = 1
      · subst h1; simp [allDeeds]
      · rw [if_neg h1] at h
        by_cases h2 : k = 2
        · subst h2; simp [allDeeds]
        · rw [if_neg h2] at h
          by_cases h3 : k = 3
          · subst h3; simp [allDeeds]
          · rw [if_neg h3] at h
            by_cases h4 : k = 4
            · subst h4; simp [allDeeds]
            · rw [if_neg h4] at h; exact absurd rfl h
    · rw [if_neg hr] at h; exact absurd rfl h
/-- A number of a text of a sign, perhaps, and a digit; a deed of a text: what can be told of its bytes. -/
def numT (s : List UInt8) : Int := match s with
  | [45, d] => -((d.toNat : Int) - 48)
  | [d] => (d.toNat : Int) - 48
  | _ => 0
def candT (s : List UInt8) : DeedN := match s with
  | 116 :: 117 :: _ => ⟨1, 0, 0⟩
  | 117 :: _ => ⟨2, 0, 0⟩
  | 100 :: _ => ⟨3, 0, 0⟩
  | 98 :: _ => ⟨4, 0, 0⟩
  | 116 :: 97 :: _ :: _ :: _ :: r => ⟨0, numT (r.takeWhile (· != 32)), numT ((r.dropWhile (· != 32)).tail)⟩
  | _ => ⟨9, 0, 0⟩
theorem deeds_told : allDeeds.all (fun x => decide (candT (deedT x) = x ∧ deedT x ≠ [] ∧ (10 : UInt8) ∉ deedT x ∧ (deedT x).getLast? ≠ some 32)) = true := by decide +kernel
theorem deed_told {x : DeedN} (h : deedT x ≠ []) : candT (deedT x) = x ∧ (10 : UInt8) ∉ deedT x ∧ (deedT x).getLast? ≠ some 32 := by
  have := of_decide_eq_true (List.all_eq_true.1 deeds_told x (mem_deeds h))
  exact ⟨this.1, this.2.2.1, this.2.2.2⟩
theorem deedT_inj {x y : DeedN} (h : deedT x = deedT y) (hx : deedT x ≠ []) : x = y := by
  rw [← (deed_told hx).1, h, (deed_told (h ▸ hx)).1]
/-- The deed whose text a text is. -/
def readN (s : List UInt8) : Option DeedN := if s ≠ [] ∧ deedT (candT s) = s then some (candT s) else none
theorem readN_text {x : DeedN} (h : deedT x ≠ []) : readN (deedT x) = some x := by
  have e := (deed_told h).1
  rw [readN, e, if_pos ⟨h, rfl⟩]
theorem readN_some {s : List UInt8} {x : DeedN} (h : readN s = some x) : deedT x = s ∧ s ≠ [] := by
  unfold readN at h
  split at h
  · rename_i hs; cases h; exact ⟨hs.2, hs.1⟩
  · cases h
theorem readN_none {s : List UInt8} (h : readN s = none) (x : DeedN) (hx : deedT x = s) : s = [] := by
  by_cases h0 : s = []
  · exact h0
  · subst hx
    rw [readN_text h0] at h; cases h
theorem readN_space (s : List UInt8) : readN (s ++ [32]) = none := by
  cases h : readN (s ++ [32]) with
  | none => rfl
  | some x =>
    obtain ⟨h1, h2⟩ := readN_some h
    exact absurd (by rw [h1]; simp) (deed_told (h1 ▸ h2)).2.2
theorem readN_line {s : List UInt8} (h : (10 : UInt8) ∈ s) : readN s = none := by
  cases h' : readN s with
  | none => rfl
  | some x =>
    obtain ⟨h1, h2⟩ := readN_some h'
    exact absurd (h1 ▸ h) (deed_told (h1 ▸ h2)).2.1
/-- The text of a journal. -/
def journalN : List DeedN → List UInt8
  | [] => []
  | x :: xs => deedT x ++ [10] ++ journalN xs
def notedN (l : List DeedN) : Bool := l.all fun x => decide (deedT x ≠ [])
/-- What is read of a text: its lines so far stand in front, one begun is kept. -/
def readJ (line : List UInt8) : List UInt8 → List DeedN × Nat
  | [] => ([], 0)
  | c :: cs => if c = 10 then (match readN line with
      | some x => ((x :: (readJ [] cs).1), (readJ [] cs).2 + line.length + 1)
      | none => ([], 0)) else readJ (line ++ [c]) cs
/-- The journal of the deeds that are read is what was read. -/
theorem readJ_text (line s : List UInt8) : journalN (readJ line s).1 = (line ++ s).take (readJ line s).2 := by
  induction s generalizing line with
  | nil => simp [readJ, journalN]
  | cons c cs ih =>
    unfold readJ
    split
    · rename_i hc
      subst hc
      cases h : readN line with
      | none => simp [journalN]
      | some x =>
        obtain ⟨h1, -⟩ := readN_some h
        simp only [journalN, h1, ih []]
        rw [show (readJ [] cs).2 + line.length + 1 = line.length + ((readJ [] cs).2 + 1) by omega, List.take_length_add_append]
        simp
    · rw [ih]; simp
theorem readJ_le (line s : List UInt8) : (readJ line s).2 ≤ line.length + s.length := by
  induction s generalizing line with
  | nil => simp [readJ]
  | cons c cs ih =>
    unfold readJ
    split
    · cases h : readN line with
      | none => simp
      | some x => have := ih []; simp at this ⊢; omega
    · have := ih (line ++ [c]); simp at this ⊢; omega
theorem readJ_noted (line s : List UInt8) : ∀ x ∈ (readJ line s).1, deedT x ≠ [] := by
  induction s generalizing line with
  | nil => simp [readJ]
  | cons c cs ih =>
    unfold readJ
    split
    · cases h : readN line with
      | none => simp
      | some x =>
        obtain ⟨h1, h2⟩ := readN_some h
        intro y hy
        rcases List.mem_cons.1 hy with rfl | hy
        · rw [h1]; exact h2
        · exact ih [] y hy
    · exact ih _
/-- Of a beginning of a text the first ones of the deeds are read. -/
theorem readJ_prefix (line s : List UInt8) (k : Nat) : (readJ line (s.take k)).1 <+: (readJ line s).1 ∧ (readJ line (s.take k)).2 ≤ (readJ line s).2 := by
  induction s generalizing line k with
  | nil => simp
  | cons c cs ih =>
    cases k with
    | zero => simp [readJ]
    | succ k =>
      rw [List.take_succ_cons]
      unfold readJ
      split
      · cases h : readN line with
        | none => simp
        | some x => obtain ⟨h1, h2⟩ := ih [] k; exact ⟨List.cons_prefix_cons.2 ⟨rfl, h1⟩, by show _ + _ + 1 ≤ _ + _ + 1; omega⟩
      · exact ih _ k
theorem readJ_skip (line t s : List UInt8) (h : (10 : UInt8) ∉ t) : readJ line (t ++ s) = readJ (line ++ t) s := by
  induction t generalizing line with
  | nil => simp
  | cons c cs ih =>
    have hc : c ≠ 10 := fun e => h (by simp [e])
    rw [List.cons_append, readJ, if_neg hc, ih _ (fun e => h (List.mem_cons_of_mem _ e))]
    simp
/-- Journals are read. -/
theorem readJ_journal (l : List DeedN) (h : ∀ x ∈ l, deedT x ≠ []) : readJ [] (journalN l) = (l, (journalN l).length) := by
  induction l with
  | nil => simp [journalN, readJ]
  | cons x xs ih =>
    have hx := h x List.mem_cons_self
    have hy := ih fun y hy => h y (List.mem_cons_of_mem _ hy)
    rw [journalN, List.append_assoc, readJ_skip _ _ _ (deed_told hx).2.1]
    simp only [List.nil_append, List.singleton_append]
    rw [readJ, if_pos rfl, readN_text hx]
    simp only [hy, Prod.mk.injEq, List.length_append, List.length_cons, true_and]
    omega
end Go.Proofs.YtigcomhhgfgmgaaDoor
namespace Go.Proofs.YtigcomhhgfgmgaaDoor
def okT : List UInt8 := [111, 107]
def notT : List UInt8 := [110, 111, 116]
/-- A desk after a line, and the answer: ask answers what is no deed. -/
def lineN (ask : Int × Int → List UInt8 → List UInt8) (d : DeskN) (s : List UInt8) : DeskN × List UInt8 :=
  match readN s with
  | some x => ((doN d x).1, if (doN d x).2 then okT else notT)
  | none => (d, ask d.now s)
def sayN (ask : Int × Int → List UInt8 → List UInt8) (d : DeskN) : List (List UInt8) → DeskN × List (List UInt8)
  | [] => (d, [])
  | s :: ss => let r := lineN ask d s; let t := sayN ask r.1 ss; (t.1, r.2 :: t.2)
section
variable {ask : Int × Int → List UInt8 → List UInt8}
theorem lineN_desk {d : DeskN} (s : List UInt8) (h : deskN d = true) : deskN (lineN ask d s).1 = true := by
  unfold lineN
  split
  · exact doN_desk _ h
  · exact h
/-- Questions change nothing. -/
theorem lineN_same {d : DeskN} {s : List UInt8} (h : (lineN ask d s).2 ≠ okT) : (lineN ask d s).1 = d := by
  unfold lineN at *
  split at h
  · rename_i x hx
    refine doN_no ?_
    cases hd : (doN d x).2 with
    | false => rfl
    | true => exact absurd (by simp [hd]) h
  · rfl
theorem lineN_ne (hask : ∀ p s, ask p s ≠ []) (d : DeskN) (s : List UInt8) : (lineN ask d s).2 ≠ [] := by
  unfold lineN
  split
  · show (if _ then okT else notT) ≠ []
    split <;> simp [okT, notT]
  · exact hask _ _
theorem readN_empty : readN [] = none := by simp [readN]
theorem lineN_deed (d : DeskN) {x : DeedN} (h : deedT x ≠ []) : lineN ask d (deedT x) = ((doN d x).1, if (doN d x).2 then okT else notT) := by
  unfold lineN
  rw [readN_text h]
theorem lineN_ask (d : DeskN) {s : List UInt8} (h : readN s = none) : lineN ask d s = (d, ask d.now s) := by
  unfold lineN
  rw [h]
theorem sayN_append (d : DeskN) (xs ys : List (List UInt8)) : sayN ask d (xs ++ ys) = ((sayN ask (sayN ask d xs).1 ys).1, (sayN ask d xs).2 ++ (sayN ask (sayN ask d xs).1 ys).2) := by
  induction xs generalizing d with
  | nil => simp [sayN]
  | cons x xs ih => simp only [List.cons_append, sayN, ih]
theorem sayN_desk {d : DeskN} (xs : List (List UInt8)) (h : deskN d = true) : deskN (sayN ask d xs).1 = true := by
  induction xs generalizing d with
  | nil => exact h
  | cons x xs ih => exact ih (lineN_desk x h)
theorem sayN_len (d : DeskN) (xs : List (List UInt8)) : (sayN ask d xs).2.length = xs.length := by
  induction xs generalizing d with
  | nil => rfl
  | cons x xs ih => simp only [sayN, List.length_cons, ih]
theorem sayN_ne (hask : ∀ p s, ask p s ≠ []) (d : DeskN) (xs : List (List UInt8)) : ∀ s ∈ (sayN ask d xs).2, s ≠ [] := by
  induction xs generalizing d with
  | nil => simp [sayN]
  | cons x xs ih =>
    intro s hs
    rcases List.mem_cons.1 hs with rfl | hs
    · exact lineN_ne hask d x
    · exact ih _ s hs
/-- A journal that is said line by line leads to the desk to which its deeds lead. -/
theorem said_run (d : DeskN) (l : List DeedN) (h : ∀ x ∈ l, deedT x ≠ []) : (sayN ask d (l.map deedT)).1 = (runN d l).1 := by
  induction l generalizing d with
  | nil => rfl
  | cons x xs ih =>
    simp only [List.map_cons, sayN, runN]
    rw [ih _ fun y hy => h y (List.mem_cons_of_mem _ hy), lineN_deed _ (h x List.mem_cons_self)]
end
/-- The words between spaces. -/
def wordsN (w : List UInt8) : List UInt8 → List (List UInt8)
  | [] => [w]
  | c :: cs => if c = 32 then w :: wordsN [] cs else wordsN (w ++ [c]) cs
theorem wordsN_skip (w t s : List UInt8) (h : (32 : UInt8) ∉ t) : wordsN w (t ++ s) = wordsN (w ++ t) s := by
  induction t generalizing w with
  | nil => simp
  | cons c cs ih =>
    have hc : c ≠ 32 := fun e => h (by simp [e])
    rw [List.cons_append, wordsN, if_neg hc, ih _ (fun e => h (List.mem_cons_of_mem _ e))]
    simp
theorem wordsN_ne (w s : List UInt8) : wordsN w s ≠ [] := by
  induction s generalizing w with
  | nil => simp [wordsN]
  | cons c cs ih => unfold wordsN; split <;> simp [ih]
/-- Digits, and the number of one to nine of them without leading zeros. -/
def isDig (c : UInt8) : Bool := decide (48 ≤ c.toNat ∧ c.toNat ≤ 57)
def valN (s : List UInt8) : Nat := s.foldl (fun n c => 10 * n + (c.toNat - 48)) 0
def digitsN (s : List UInt8) : Option Nat :=
  if 1 ≤ s.length ∧ s.length ≤ 9 ∧ (s.length = 1 ∨ s.head? ≠ some 48) ∧ s.all isDig = true then some (valN s) else none
theorem valN_snoc (s : List UInt8) (c : UInt8) : valN (s ++ [c]) = 10 * valN s + (c.toNat - 48) := by simp [valN]
theorem valN_fold (s : List UInt8) : ∀ (n k : Nat), n < 10 ^ k → s.all isDig = true → s.foldl (fun n c => 10 * n + (c.toNat - 48)) n < 10 ^ (k + s.length) := by
  induction s with
  | nil => intro n k h _; simpa using h
  | cons c cs ih =>
    intro n k h hd
    simp only [List.all_cons, Bool.and_eq_true, isDig, decide_eq_true_eq] at hd
    have := ih (10 * n + (c.toNat - 48)) (k + 1) (by rw [Nat.pow_succ]; omega) hd.2
    rw [List.foldl_cons, List.length_cons, show k + (cs.length + 1) = k + 1 + cs.length by omega]
    exact this
theorem valN_lt (s : List UInt8) (h : s.all isDig = true) : valN s < 10 ^ s.length := by
  have := valN_fold s 0 0 (by omega) h
  rwa [Nat.zero_add] at this
theorem digitsN_lt {s : List UInt8} {n : Nat} (h : digitsN s = some n) : n < 1000000000 := by
  unfold digitsN at h
  split at h
  · rename_i hs
    cases h
    exact Nat.lt_of_lt_of_le (valN_lt s hs.2.2.2) (Nat.le_trans (Nat.pow_le_pow_right (by omega) hs.2.1) (by omega))
  · cases h
/-- The numbers behind the word, if they are all told. -/
def numsN : List (List UInt8) → Option (List Nat)
  | [] => some []
  | s :: ss => match digitsN s, numsN ss with
    | some n, some ns => some (n :: ns)
    | _, _ => none
theorem numsN_none {s : List UInt8} {ss : List (List UInt8)} (hm : s ∈ ss) (h : digitsN s = none) : numsN ss = none := by
  induction ss with
  | nil => cases hm
  | cons t ts ih =>
    unfold numsN
    rcases List.mem_cons.1 hm with rfl | hm
    · rw [h]
    · rw [ih hm]; cases digitsN t <;> rfl
theorem numsN_snoc (ss : List (List UInt8)) (s : List UInt8) : numsN (ss ++ [s]) = (numsN ss).bind fun ns => (digitsN s).map fun n => ns ++ [n] := by
  induction ss with
  | nil => simp only [List.nil_append, numsN]; cases digitsN s <;> rfl
  | cons t ts ih =>
    simp only [List.cons_append, numsN, ih]
    cases digitsN t <;> cases numsN ts <;> cases digitsN s <;> rfl
/-- A number in digits. -/
def decN : Nat → Nat → List UInt8
  | 0, _ => []
  | f + 1, n => if n < 10 then [UInt8.ofNat (48 + n)] else decN f (n / 10) ++ [UInt8.ofNat (48 + n % 10)]
def numberT (n : Int) : List UInt8 := if n < 0 then 45 :: decN 20 n.natAbs else decN 20 n.natAbs
theorem decN_ne {f n : Nat} : decN (f + 1) n ≠ [] := by unfold decN; split <;> simp
theorem numberT_ne (n : Int) : numberT n ≠ [] := by unfold numberT; split <;> simp [decN_ne]
theorem decN_fuel : ∀ (f g n : Nat), n < 10 ^ f → n < 10 ^ g → 0 < f → 0 < g → decN f n = decN g n
  | f + 1, g + 1, n, hf, hg, _, _ => by
    unfold decN
    split
    · rfl
    · rename_i h
      rw [Nat.pow_succ] at hf hg
      cases f with
      | zero => simp at hf; omega
      | succ f => cases g with
        | zero => simp at hg; omega
        | succ g => rw [decN_fuel (f + 1) (g + 1) (n / 10) (by omega) (by omega) (by omega) (by omega)]
/-- The texts of take's numbers are told by their words. -/
theorem takes_told : (nines.all fun a => nines.all fun b => decide (wordsN [] (deedT ⟨0, a, b⟩) = [[116, 97, 107, 101], digN a, digN b])) = true := by decide +kernel
theorem take_words {a b : Int} (h : deedT ⟨0, a, b⟩ ≠ []) : wordsN [] (deedT ⟨0, a, b⟩) = [[116, 97, 107, 101], digN a, digN b] := by
  have hr : -9 ≤ a ∧ a ≤ 9 ∧ -9 ≤ b ∧ b ≤ 9 := by
    by_cases hr : -9 ≤ a ∧ a ≤ 9 ∧ -9 ≤ b ∧ b ≤ 9
    · exact hr
    · unfold deedT at h; rw [if_pos rfl, if_neg hr] at h; exact absurd rfl h
  have := List.all_eq_true.1 (List.all_eq_true.1 takes_told a (mem_nines hr.1 hr.2.1)) b (mem_nines hr.2.2.1 hr.2.2.2)
  exact of_decide_eq_true this
end Go.Proofs.YtigcomhhgfgmgaaDoor
namespace Go.Proofs.YtigcomhhgfgmgaaDoor
open Go.RowKit
theorem ret_bool {a b : Bool} (h : a = b) : Ending.returned (.bool a) = .returned (.bool b) := by rw [h]
theorem ret_int {k : IntKind} {a b : Int} (h : a = b) : Ending.returned (.int k a) = .returned (.int k b) := by rw [h]
/-- A pair as a value. -/
abbrev pr (p q : Int) : Value := .agg #[.int .i64 p, .int .i64 q]
set_option maxHeartbeats 400000 in
theorem numberOk_any (n : Int) (w : World) :
    Calls Tryd.prog 53 #[.int .i64 n] w fun e w' => e = .returned (.bool (numB n)) ∧ w = w' := by
  by_cases h1 : -4 ≤ n
  · by_cases h2 : n ≤ 4
    · have H := Lib.hid (numB_mk h1 h2)
      go_enter Tryd.func53, Tryd.ntmps53
      go_wp2
      go_ret
      exact ⟨ret_bool H.out.symm, rfl⟩
    · have H := Lib.hid (numB_no (n := n) (by omega))
      have h2' : 4 < n := by omega
      go_enter Tryd.func53, Tryd.ntmps53
      go_wp2
      go_ret
      exact ⟨ret_bool H.out.symm, rfl⟩
  · have H := Lib.hid (numB_no (n := n) (by omega))
    have h1' : n < -4 := by omega
    go_enter Tryd.func53, Tryd.ntmps53
    go_wp2
    go_ret
    exact ⟨ret_bool H.out.symm, rfl⟩
/-- Whether a number is within two others. -/
def inB (n a b : Int) : Bool := decide (a ≤ n ∧ n ≤ b)
theorem inB_mk {n a b : Int} (h1 : a ≤ n) (h2 : n ≤ b) : inB n a b = true := by simp [inB, h1, h2]
theorem inB_no {n a b : Int} (h : n < a ∨ b < n) : inB n a b = false := by
  have h' : ¬ (a ≤ n ∧ n ≤ b) := by omega
  simp only [inB, h', decide_false]
theorem inB_true {n a b : Int} (h : inB n a b = true) : a ≤ n ∧ n ≤ b := by simpa [inB] using h
theorem inB_false {n a b : Int} (h : inB n a b = false) : n < a ∨ b < n := by
  have h' : ¬ (a ≤ n ∧ n ≤ b) := by simpa [inB] using h
  omega
theorem inB_num (n : Int) : inB n (-4) 4 = numB n := rfl
theorem inB_place (n : Int) : inB n 0 20 = placeB n := rfl
set_option maxHeartbeats 400000 in
theorem l1In_any (n a b : Int) (w : World) :
    Calls Tryd.prog 36 #[.int .i64 n, .int .i64 a, .int .i64 b] w fun e w' => e = .returned (.bool (inB n a b)) ∧ w = w' := by
  by_cases h1 : a ≤ n
  · by_cases h2 : n ≤ b
    · have H := Lib.hid (inB_mk h1 h2)
      go_enter Tryd.func36, Tryd.ntmps36
      go_wp2
      go_ret
      exact ⟨ret_bool H.out.symm, rfl⟩
    · have H := Lib.hid (inB_no (n := n) (a := a) (b := b) (by omega))
      have h2' : b < n := by omega
      go_enter Tryd.func36, Tryd.ntmps36
      go_wp2
      go_ret
      exact ⟨ret_bool H.out.symm, rfl⟩
  · have H := Lib.hid (inB_no (n := n) (a := a) (b := b) (by omega))
    have h1' : n < a := by omega
    go_enter Tryd.func36, Tryd.ntmps36
    go_wp2
    go_ret
    exact ⟨ret_bool H.out.symm, rfl⟩
set_option maxHeartbeats 400000 in
theorem implPairOk_any (p q : Int) (w : World) :
    Calls Tryd.prog 38 #[pr p q] w fun e w' => e = .returned (.bool (pairB p q)) ∧ Below w.heap.size w w' := by
  by_cases h1 : numB p = true
  · by_cases h2 : numB q = true
    · have H := Lib.hid (show pairB p q = true by simp [pairB, h1, h2])
      go_enter Tryd.func38, Tryd.ntmps38
      go_wp2_with (go_at_call 53; refine (numberOk_any _ _).mono ?_; rintro e w' ⟨rfl, rfl⟩)
      go_ret
      exact ⟨ret_bool H.out.symm, (Below.refl _ _).alloc (Nat.le_refl _) _⟩
    · have h2' : numB q = false := by simpa using h2
      have H := Lib.hid (show pairB p q = false by simp [pairB, h2'])
      clear h2
      go_enter Tryd.func38, Tryd.ntmps38
      go_wp2_with (go_at_call 53; refine (numberOk_any _ _).mono ?_; rintro e w' ⟨rfl, rfl⟩)
      go_ret
      exact ⟨ret_bool H.out.symm, (Below.refl _ _).alloc (Nat.le_refl _) _⟩
  · have h1' : numB p = false := by simpa using h1
    have H := Lib.hid (show pairB p q = false by simp [pairB, h1'])
    clear h1
    go_enter Tryd.func38, Tryd.ntmps38
    go_wp2_with (go_at_call 53; refine (numberOk_any _ _).mono ?_; rintro e w' ⟨rfl, rfl⟩)
    go_ret
    exact ⟨ret_bool H.out.symm, (Below.refl _ _).alloc (Nat.le_refl _) _⟩
set_option maxHeartbeats 400000 in
theorem l1In_num (n : Int) (w : World) : Calls Tryd.prog 36 #[.int .i64 n, .int .i64 (-4), .int .i64 4] w fun e w' => e = .returned (.bool (numB n)) ∧ w = w' := l1In_any n (-4) 4 w
set_option maxHeartbeats 400000 in
theorem l1In_place (n : Int) (w : World) : Calls Tryd.prog 36 #[.int .i64 n, .int .i64 0, .int .i64 20] w fun e w' => e = .returned (.bool (placeB n)) ∧ w = w' := l1In_any n 0 20 w
end Go.Proofs.YtigcomhhgfgmgaaDoor
namespace Go.Proofs.YtigcomhhgfgmgaaDoor
open Go.RowKit
theorem bcell {W w1 : World} (hb : Below W.heap.size W w1) : (∀ b o, b < W.heap.size → w1.cell? ⟨b, o, none⟩ = W.cell? ⟨b, o, none⟩) ∧ (∀ b o, b < W.heap.size → w1.frozen? ⟨b, o, none⟩ = W.frozen? ⟨b, o, none⟩) :=
  ⟨fun b o h => hb.cell (p := ⟨b, o, none⟩) h, fun b o h => hb.frozen (p := ⟨b, o, none⟩) h⟩
theorem implPairOk_yes (p q : Int) (w : World) (h : pairB p q = true) : Calls Tryd.prog 38 #[pr p q] w fun e w' => e = .returned (.bool true) ∧ Below w.heap.size w w' := by rw [← h]; exact implPairOk_any p q w
theorem implPairOk_no (p q : Int) (w : World) (h : pairB p q = false) : Calls Tryd.prog 38 #[pr p q] w fun e w' => e = .returned (.bool false) ∧ Below w.heap.size w w' := by rw [← h]; exact implPairOk_any p q w
/-- The weight of a pair, 0 for others. -/
def weightV (p q : Int) : Int := if pairB p q = true then p * p - 4 * q else 0
/-- P of the turned pair, 0 for others; and Q. -/
def turnP (p q : Int) : Int := if pairB p q = true then -p else 0
def turnQ (p q : Int) : Int := if pairB p q = true then q else 0
theorem ret_int_bool {k : IntKind} {a b : Int} {c d : Bool} (h : a = b) (h' : c = d) : Ending.returned (.tuple #[.int k a, .bool c]) = .returned (.tuple #[.int k b, .bool d]) := by rw [h, h']
theorem ret_pr {a b c d : Int} (h : a = c) (h' : b = d) : Ending.returned (pr a b) = .returned (pr c d) := by rw [h, h']
end Go.Proofs.YtigcomhhgfgmgaaDoor
namespace Go.Proofs.YtigcomhhgfgmgaaDoor
open Go.RowKit
theorem bl_size (a : ByteArray) : a.data.toList.length = a.size := by rw [Array.length_toList]; rfl
theorem bl_loop (a : ByteArray) : ∀ (n i : Nat) (r : List UInt8), a.size - i = n → ByteArray.toList.loop a i r = r.reverse ++ a.data.toList.drop i := by
  intro n
  induction n with
  | zero =>
    intro i r h
    rw [ByteArray.toList.loop]
    have h1 : ¬ i < a.size := by omega
    have h2 : a.data.toList.length ≤ i := by rw [bl_size]; omega
    rw [if_neg h1, List.drop_eq_nil_of_le h2, List.append_nil]
  | succ n ih =>
    intro i r h
    rw [ByteArray.toList.loop]
    have h1 : i < a.size := by omega
    rw [if_pos h1, ih (i + 1) _ (by omega)]
    have h2 : i < a.data.toList.length := by rw [bl_size]; exact h1
    have h3 : i < a.data.size := h1
    have e : a.get! i = a.data.toList[i] := by
      rw [Array.getElem_toList]
      exact getElem!_pos a.data i h3
    rw [List.drop_eq_getElem_cons h2, e, List.reverse_cons, List.append_assoc]
    rfl
theorem bl_toList (a : ByteArray) : a.toList = a.data.toList := by
  rw [ByteArray.toList, bl_loop a a.size 0 [] (by omega)]; rfl
theorem bl_eq (a b : ByteArray) : (a.toList == b.toList) = (a.data.toList == b.data.toList) := by rw [bl_toList, bl_toList]
end Go.Proofs.YtigcomhhgfgmgaaDoor
namespace Go.Proofs.YtigcomhhgfgmgaaDoor
open Go
def txt (l : List UInt8) : ByteArray := ⟨l.toArray⟩
theorem txt_list (l : List UInt8) : (txt l).data.toList = l := rfl
theorem txt_of (s : ByteArray) : txt s.data.toList = s := rfl
theorem txt_eq {s t : ByteArray} (h : s.data.toList = t.data.toList) : s = t := by rw [← txt_of s, ← txt_of t, h]
/-- The words of deeds, by their kinds. -/
def deedWs : List ByteArray := [txt [116, 97, 107, 101], txt [116, 117, 114, 110], txt [117, 112], txt [100, 111, 119, 110], txt [98, 97, 99, 107]]
/-- The number that is taken of a piece, whether it is one or not. -/
def atoiV (l : List UInt8) : Int := match Lib.atoiAll l with
  | .ok v => v
  | .range => Lib.atoiSat l
  | _ => 0
/-- The pieces of a text at spaces, at most n. -/
def piecesB (n : Nat) (s : ByteArray) : List ByteArray := Lib.splitB (txt [32]) 0 (min n (s.size + 1) - 1) s
/-- The deed that the program holds against a text. -/
def candI (s : ByteArray) : DeedN :=
  if Lib.idxOfS deedWs ((piecesB 3 s).getD 0 ByteArray.empty) = 0 ∧ (piecesB 3 s).length = 3 then ⟨0, atoiV ((piecesB 3 s).getD 1 ByteArray.empty).data.toList, atoiV ((piecesB 3 s).getD 2 ByteArray.empty).data.toList⟩
  else ⟨Lib.idxOfS deedWs ((piecesB 3 s).getD 0 ByteArray.empty), 0, 0⟩
theorem candI_deeds : allDeeds.all (fun x => decide (candI (txt (deedT x)) = x)) = true := by decide +kernel
theorem candI_text {x : DeedN} (h : deedT x ≠ []) : candI (txt (deedT x)) = x := of_decide_eq_true (List.all_eq_true.1 candI_deeds x (mem_deeds h))
/-- What ReadDeed returns. -/
def deedV (s : List UInt8) : DeedN × Bool := match readN s with
  | some x => (x, true)
  | none => (⟨0, 0, 0⟩, false)
theorem deedV_cand (s : ByteArray) : deedV s.data.toList = if deedT (candI s) ≠ [] ∧ deedT (candI s) = s.data.toList then (candI s, true) else (⟨0, 0, 0⟩, false) := by
  by_cases h : deedT (candI s) ≠ [] ∧ deedT (candI s) = s.data.toList
  · rw [if_pos h, ← h.2, deedV, readN_text h.1]
  · rw [if_neg h]
    unfold deedV
    cases hr : readN s.data.toList with
    | none => rfl
    | some x =>
      obtain ⟨h1, h2⟩ := readN_some hr
      have hx : deedT x ≠ [] := h1 ▸ h2
      have e : candI s = x := by
        have := candI_text hx
        rwa [h1, txt_of] at this
      exact absurd ⟨e ▸ hx, e ▸ h1⟩ h
/-- What the model's digits are, with a sign ahead of them or without. -/
def digZ : List UInt8 → Int × Bool
  | [] => (0, false)
  | c :: t => if c = 45 ∧ t ≠ [] then (-(digZ t).1, (digZ t).2 && decide (0 < (digZ t).1)) else
    match digitsN (c :: t) with
    | some n => ((n : Int), true)
    | none => (0, false)
theorem digZ_nine : (nines.all fun a => decide ((digZ (digN a)).1 = a)) = true := by decide +kernel
/-- The deeds that the model holds against a text. -/
def candsS (s : List UInt8) : List DeedN := [⟨1, 0, 0⟩, ⟨2, 0, 0⟩, ⟨3, 0, 0⟩, ⟨4, 0, 0⟩] ++ (if (wordsN [] s).length = 3 then [⟨0, (digZ ((wordsN [] s).getD 1 [])).1, (digZ ((wordsN [] s).getD 2 [])).1⟩] else [])
theorem cands_has {s : List UInt8} {x : DeedN} (h : readN s = some x) : x ∈ candsS s := by
  obtain ⟨h1, h2⟩ := readN_some h
  subst h1
  obtain ⟨k, a, b⟩ := x
  have hm := mem_deeds h2
  unfold allDeeds at hm
  rcases List.mem_append.1 hm with hm | hm
  · exact List.mem_append.2 (.inl hm)
  · obtain ⟨a', ha, hm⟩ := List.mem_flatMap.1 hm
    obtain ⟨b', hb, e⟩ := List.mem_map.1 hm
    cases e
    refine List.mem_append.2 (.inr ?_)
    rw [take_words h2, if_pos (show List.length _ = 3 from rfl)]
    have ea := of_decide_eq_true (List.all_eq_true.1 digZ_nine a ha)
    have eb := of_decide_eq_true (List.all_eq_true.1 digZ_nine b hb)
    simp [ea, eb]
/-- The first of these deeds whose text it is, is the one that is read. -/
theorem cands_hit {s : List UInt8} {x : DeedN} (hs : s ≠ []) (h : deedT x = s) : deedV s = (x, true) := by
  subst h
  rw [deedV, readN_text hs]
theorem cands_miss {s : List UInt8} (h : ∀ x ∈ candsS s, ¬ (s ≠ [] ∧ deedT x = s)) : deedV s = (⟨0, 0, 0⟩, false) := by
  unfold deedV
  cases hr : readN s with
  | none => rfl
  | some x =>
    obtain ⟨h1, h2⟩ := readN_some hr
    exact absurd ⟨h2, h1⟩ (h x (cands_has hr))
/-- Numbers are written in one way. -/
theorem decN_digits : ∀ (f n : Nat), n < 10 ^ f → 0 < f → decN f n = Lib.decDigits n
  | f + 1, n, h, _ => by
    rw [decN, Lib.decDigits]
    by_cases h9 : n < 10
    · rw [if_pos h9, dif_pos h9]
    · rw [if_neg h9, dif_neg h9]
      rw [Nat.pow_succ] at h
      cases f with
      | zero => simp at h; omega
      | succ f => rw [decN_digits (f + 1) (n / 10) (by omega) (by omega)]
theorem numberT_itoa (n : Int) (h0 : -9223372036854775808 ≤ n) (h1 : n ≤ 9223372036854775807) : numberT n = Lib.itoa n := by
  unfold numberT Lib.itoa
  have hb : n.natAbs < 10 ^ 20 := by omega
  rw [decN_digits 20 _ hb (by omega)]
  split
  · rfl
  · rw [show n.natAbs = n.toNat by omega]
theorem digN_is (n : Int) (h1 : -9 ≤ n) (h2 : n ≤ 9) : numberT n = digN n := by
  have : (nines.all fun a => decide (numberT a = digN a)) = true := by decide +kernel
  exact of_decide_eq_true (List.all_eq_true.1 this n (mem_nines h1 h2))
end Go.Proofs.YtigcomhhgfgmgaaDoor
namespace Go.Proofs.YtigcomhhgfgmgaaDoor
open Go.RowKit Go.Shelf
/-- The table of the library's that numbers are written by. -/
def PowTab (w : World) : Prop := Lib.TabIs Tryd.prog w "internal/strconv.uint64pow10" .u64 Lib.pow10Tab
/-- The library's two errors of numbers. -/
def Errs (w : World) : Prop := (∃ t p, w.var? Tryd.prog "strconv.ErrSyntax" = some #[.iface t p]) ∧ ∃ t p, w.var? Tryd.prog "strconv.ErrRange" = some #[.iface t p]
theorem var_stays {w w' : World} {D : Nat} {n : String} {cs : Array Value} (h : w.var? Tryd.prog n = some cs) (hb : Below D w w') (hD : w.heap.size ≤ D) : w'.var? Tryd.prog n = some cs := by
  unfold World.var? at *
  obtain ⟨g, hg, h2⟩ := Option.bind_eq_some_iff.1 h
  rw [hg]
  show (match w'.heap[g]? with | some (.cells cs _ _) => some cs | _ => none) = _
  have hlt : g < w.heap.size := by
    rcases Nat.lt_or_ge g w.heap.size with h3 | h3
    · exact h3
    · rw [Array.getElem?_eq_none h3] at h2; cases h2
  rw [hb.block g (by omega)]
  exact h2
theorem PowTab.below {w w' : World} {D : Nat} (h : PowTab w) (hb : Below D w w') (hD : w.heap.size ≤ D) : PowTab w' := var_stays h hb hD
theorem Errs.below {w w' : World} {D : Nat} (h : Errs w) (hb : Below D w w') (hD : w.heap.size ≤ D) : Errs w' := by
  obtain ⟨⟨t, p, h1⟩, t', p', h2⟩ := h
  exact ⟨⟨t, p, var_stays h1 hb hD⟩, t', p', var_stays h2 hb hD⟩
/-- A number is written. -/
theorem itoa_any (n : Int) (h0 : -9223372036854775808 ≤ n) (h1 : n ≤ 9223372036854775807) (w : World) (h : PowTab w) :
    Calls Tryd.prog 34 #[.int .i64 n] w fun e w' => e = .returned (.string (txt (numberT n))) ∧ Below w.heap.size w w' := by
  refine (Tryd.strconv_Itoa n h0 h1 w h).mono ?_
  rintro e w' ⟨rfl, k, os, rfl⟩
  refine ⟨?_, Lib.below_grow _ _ (Nat.le_refl _) _ _⟩
  rw [numberT_itoa n h0 h1]
  rfl
/-- A number is read, or not; the error is nil exactly if it is. -/
theorem atoi_any (s : ByteArray) (hs : s.size ≤ 2097152) (w : World) (h : Errs w) :
    Calls Tryd.prog 41 #[.string s] w fun e w' => ∃ x, e = .returned (.tuple #[.int .i64 (atoiV s.data.toList), x]) ∧ ((∀ v, Lib.atoiAll s.data.toList = .ok v → x = .nilIface) ∧ ((∀ v, Lib.atoiAll s.data.toList ≠ .ok v) → ∃ t p, x = .iface t p)) ∧ Below w.heap.size w w' := by
  obtain ⟨⟨t, p, h1⟩, t', p', h2⟩ := h
  cases ha : Lib.atoiAll s.data.toList with
  | ok v =>
    refine (Tryd.strconv_Atoi_ok s (by omega) v ha w).mono ?_
    rintro e w' ⟨rfl, hw⟩
    refine ⟨.nilIface, by rw [atoiV, ha], ⟨fun _ _ => rfl, fun h => absurd rfl (h v)⟩, ?_⟩
    rcases hw with rfl | ⟨u, rfl⟩
    · exact Below.refl _ _
    · exact Lib.bytesWorld_below _ _ _
  | range =>
    refine (Tryd.strconv_Atoi_range_var s (by omega) ha t' p' w h2).mono ?_
    rintro e w' ⟨N, rfl, _, _, hb⟩
    exact ⟨_, by rw [atoiV, ha], ⟨fun v h => (by cases h), fun _ => ⟨_, _, rfl⟩⟩, hb⟩
  | _ =>
    refine (Tryd.strconv_Atoi_syntax_var s (by omega) ha t p w h1).mono ?_
    rintro e w' ⟨N, rfl, _, _, hb⟩
    exact ⟨_, by rw [atoiV, ha], ⟨fun v h => (by cases h), fun _ => ⟨_, _, rfl⟩⟩, hb⟩
/-- A text parted at spaces. -/
theorem genSplit_at (s : ByteArray) (n : Nat) (w : World) (hs : s.size ≤ 2097152) (hn : 1 ≤ n) (hn2 : n ≤ 1000) :
    Calls Tryd.prog 54 #[.string s, .string (txt [32]), .int .i64 0, .int .i64 n] w fun e w' => e = .returned (.slice (some ⟨w.heap.size, 0, none⟩) (piecesB n s).length (min n (s.size + 1))) ∧ w' = w.alloc (.cells (Lib.cellsOf (piecesB n s) (min n (s.size + 1))) 9) := by
  refine Any.strings_genSplit_core Tryd.lays221 (by kernel_rfl) s (txt [32]) 0 n (min n (s.size + 1)) w (by omega) (by decide) (by decide) (fun x c hx => ?_) ?_ (by omega) (by omega) ?_
  · refine (Tryd.strings_Index_one x 32 _).mono ?_
    rintro e w' ⟨rfl, rfl⟩
    refine ⟨?_, rfl⟩
    show _ = Ending.returned (Value.int .i64 (Lib.index x.data.toList [32]))
    rw [Lib.index_one]
  · refine (Tryd.strings_Count_one s 32 _).mono ?_
    rintro e w' ⟨rfl, rfl⟩
    refine ⟨?_, rfl⟩
    show _ = Ending.returned (Value.int .i64 ((Lib.count s.data.toList [32] : Nat) : Int))
    rw [Lib.count_one]
    rfl
  · rw [if_neg (by omega)]; omega
theorem pieces_len (n : Nat) (s : ByteArray) (hn : 1 ≤ n) : 1 ≤ (piecesB n s).length ∧ (piecesB n s).length ≤ min n (s.size + 1) := by
  have h : ∀ (k : Nat) (x : ByteArray), 1 ≤ (Lib.splitB (txt [32]) 0 k x).length ∧ (Lib.splitB (txt [32]) 0 k x).length ≤ k + 1 := by
    intro k
    induction k with
    | zero => intro x; simp [Lib.splitB]
    | succ k ih =>
      intro x
      unfold Lib.splitB
      split
      · simp
      · have := ih (x.extract ((Lib.indexB x (txt [32])).toNat + (txt [32]).size) x.size)
        simp only [List.length_cons]; omega
  have := h (min n (s.size + 1) - 1) s
  unfold piecesB
  omega
theorem cellsOf_get {L : List ByteArray} {N i : Nat} (h : i < L.length) : (Lib.cellsOf L N)[i]? = some (.string (L.getD i ByteArray.empty)) := by
  unfold Lib.cellsOf
  rw [List.getElem?_toArray, List.getElem?_append_left (by simpa using h)]
  simp [h]
set_option maxHeartbeats 1000000 in
/-- strings.SplitN, at spaces. -/
theorem splitN_at (s : ByteArray) (n : Nat) (w : World) (hs : s.size ≤ 2097152) (hn : 1 ≤ n) (hn2 : n ≤ 1000) :
    Calls Tryd.prog 39 #[.string s, .string (txt [32]), .int .i64 n] w fun e w' => ∃ c, e = .returned (.slice (some ⟨w.heap.size, 0, none⟩) (piecesB n s).length c) ∧ ((piecesB n s).length ≤ c ∧ w.heap.size < w'.heap.size) ∧ (∀ i, i < (piecesB n s).length → w'.cell? ⟨w.heap.size, i, none⟩ = some (.string ((piecesB n s).getD i ByteArray.empty))) ∧ Below w.heap.size w w' := by
  go_enter Tryd.func39, Tryd.ntmps39
  go_wp2_with (go_at_call 54; refine (genSplit_at s n _ hs hn hn2).mono ?_; rintro e w1 ⟨rfl, hw1⟩)
  go_ret
  subst hw1
  refine ⟨_, rfl, ⟨(pieces_len n s hn).2, by simp⟩, fun i hi => ?_, (Below.refl _ _).alloc (Nat.le_refl _) _⟩
  exact (World.cell?_alloc_mark _ _ _ _ _).trans (cellsOf_get hi)
/-- The words of deeds. -/
theorem deedWords_at (w : World) : Calls Tryd.prog 32 #[] w fun e w' => e = .returned (.slice (some ⟨w.heap.size, 0, none⟩) 5 5) ∧ w' = w.alloc (.cells #[.string ⟨#[116, 97, 107, 101]⟩, .string ⟨#[116, 117, 114, 110]⟩, .string ⟨#[117, 112]⟩, .string ⟨#[100, 111, 119, 110]⟩, .string ⟨#[98, 97, 99, 107]⟩] 9) := by
  go_enter Tryd.func32, Tryd.ntmps32
  go_wp2
  go_ret
  exact ⟨rfl, rfl⟩
/-- Which kind a word is of. -/
theorem kindOf_at (g : Nat) (x : ByteArray) (w : World) (h : ∀ j, j < 5 → w.cell? ⟨g, j, none⟩ = some (.string (deedWs.getD j ByteArray.empty))) :
    Calls Tryd.prog 40 #[.slice (some ⟨g, 0, none⟩) 5 5, .string x] w fun e w' => e = .returned (.int .i64 (Lib.idxOfS deedWs x)) ∧ w' = w := by
  have := Tryd.slices_Index_string g 0 5 5 deedWs x w (by decide) (by decide) (fun j hj => by rw [Nat.zero_add]; exact h j hj)
  rwa [show deedWs.take 5 = deedWs from rfl] at this
theorem takenOk_at (n : Int) (w : World) : Calls Tryd.prog 33 #[.int .i64 n] w fun e w' => e = .returned (.bool (decide (-9 ≤ n ∧ n ≤ 9))) ∧ Below w.heap.size w w' := by
  rcases (show n < -9 ∨ 9 < n ∨ (-9 ≤ n ∧ n ≤ 9) by omega) with h | h | ⟨h, h'⟩
  · have h1 : ¬ (-9 ≤ n) := by omega
    rw [decide_eq_false (by omega)]
    go_enter Tryd.func33, Tryd.ntmps33
    go_wp2
    go_ret
    exact ⟨rfl, Below.refl _ _⟩
  · have h1 : (-9 ≤ n) := by omega
    have h2 : ¬ (n ≤ 9) := by omega
    rw [decide_eq_false (by omega)]
    go_enter Tryd.func33, Tryd.ntmps33
    go_wp2
    go_ret
    exact ⟨rfl, Below.refl _ _⟩
  · rw [decide_eq_true ⟨h, h'⟩]
    go_enter Tryd.func33, Tryd.ntmps33
    go_wp2
    go_ret
    exact ⟨rfl, Below.refl _ _⟩
end Go.Proofs.YtigcomhhgfgmgaaDoor
namespace Go.Proofs.YtigcomhhgfgmgaaDoor
open Go.RowKit Go.Shelf
theorem gPow : Tryd.prog.globalNamed "internal/strconv.uint64pow10" = some 3 := by kernel_rfl
theorem gSyn : Tryd.prog.globalNamed "strconv.ErrSyntax" = some 0 := by kernel_rfl
theorem gRng : Tryd.prog.globalNamed "strconv.ErrRange" = some 1 := by kernel_rfl
theorem starErr : "*" ++ "errors.errorString" = "*errors.errorString" := by decide
theorem rowErr (u : TypeId) (h : Tryd.prog.typeName? 3 u = some "*errors.errorString") : u = 119 :=
  typeName_ptr_named (nm := "errors.errorString") (by rw [starErr]; kernel_rfl) (by kernel_rfl) (by decide) u (by rw [starErr]; exact h)
theorem tab_of {r : List (String × DataW Unit)} {W : World} (h : laidMet Tryd.prog (("internal/strconv.uint64pow10", Lib.tabData .u64 Lib.pow10Tab) :: r) W) : PowTab W :=
  Lib.tabIs_of_head (n := 20) (t := 114) gPow (by kernel_rfl) (by kernel_rfl) Tryd.underlying97 (by kernel_rfl) (by kernel_rfl) h
theorem pow_is {H : Type} : (Rows.laid_internal_strconv_uint64pow10 : DataW H) = Lib.tabData .u64 Lib.pow10Tab := rfl
theorem syn_of {r : List (String × DataW Unit)} {W : World} (h : laidMet Tryd.prog (("strconv.ErrSyntax", Rows.laid_strconv_ErrSyntax) :: r) W) : ∃ t p, W.var? Tryd.prog "strconv.ErrSyntax" = some #[.iface t p] := by
  obtain ⟨a0, s0, hv0, -, -, -⟩ := laid_sentinel h gSyn (by kernel_rfl) Tryd.underlying63 rowErr Tryd.underlying119 Tryd.underlying121 rfl rfl Tryd.underlying9 (by kernel_rfl) (by kernel_rfl)
  exact ⟨_, _, hv0⟩
theorem rng_of {r : List (String × DataW Unit)} {W : World} (h : laidMet Tryd.prog (("strconv.ErrRange", Rows.laid_strconv_ErrRange) :: r) W) : ∃ t p, W.var? Tryd.prog "strconv.ErrRange" = some #[.iface t p] := by
  obtain ⟨a0, s0, hv0, -, -, -⟩ := laid_sentinel h gRng (by kernel_rfl) Tryd.underlying63 rowErr Tryd.underlying119 Tryd.underlying121 rfl rfl Tryd.underlying9 (by kernel_rfl) (by kernel_rfl)
  exact ⟨_, _, hv0⟩
/-- What the seven tables give. -/
theorem tabs_of {W : World} (h : laidMet Tryd.prog Rows.fnDeedTextRow.laid W) : PowTab W ∧ Errs W :=
  ⟨tab_of h.tail.tail, syn_of h.tail.tail.tail.tail.tail, rng_of h.tail.tail.tail.tail⟩
/-- What the three tables give. -/
theorem tab3_of {W : World} (h : laidMet Tryd.prog Rows.fnExactDeedTextRow.laid W) : PowTab W := tab_of h.tail.tail
/-- The settled world, and two blocks more: the texts of both errors; the tables as their initialisers lay them. -/
noncomputable def laidWorld (os : Os) : World :=
  let N := (World.settled Tryd.prog os).heap.size
  let w0 := World.holding Tryd.prog os ⟨#[.cells #[.string ⟨#[105, 110, 118, 97, 108, 105, 100, 32, 115, 121, 110, 116, 97, 120]⟩] 121, .cells #[.string ⟨#[118, 97, 108, 117, 101, 32, 111, 117, 116, 32, 111, 102, 32, 114, 97, 110, 103, 101]⟩] 121], #[], []⟩
  let put (h : Array Obj) (g : Nat) (cs : Array Value) : Array Obj := h.modify g fun
    | .cells _ t frozen => .cells cs t frozen
    | o => o
  let h1 := put w0.heap 3 (Lib.pow10Tab.map fun z => Value.int .u64 z).toArray
  let h2 := put h1 4 (Lib.firstTab.map fun z => Value.int .u8 z).toArray
  let h3 := put h2 5 ((List.range 16).flatMap fun i => [Value.int .u8 (Lib.accLo i), Value.int .u8 (Lib.accHi i)]).toArray
  let h4 := put h3 0 #[.iface 119 (.pointer (some ⟨N, 0, none⟩))]
  let h5 := put h4 1 #[.iface 119 (.pointer (some ⟨N + 1, 0, none⟩))]
  let h6 := put h5 6 #[.int .u8 0, .int .u8 1, .int .u8 28, .int .u8 2, .int .u8 29, .int .u8 14, .int .u8 24, .int .u8 3, .int .u8 30, .int .u8 22, .int .u8 20, .int .u8 15, .int .u8 25, .int .u8 17, .int .u8 4, .int .u8 8, .int .u8 31, .int .u8 27, .int .u8 13, .int .u8 23, .int .u8 21, .int .u8 19, .int .u8 16, .int .u8 7, .int .u8 26, .int .u8 12, .int .u8 18, .int .u8 6, .int .u8 11, .int .u8 5, .int .u8 10, .int .u8 9]
  let h7 := put h6 7 #[.int .u8 0, .int .u8 1, .int .u8 56, .int .u8 2, .int .u8 57, .int .u8 49, .int .u8 28, .int .u8 3, .int .u8 61, .int .u8 58, .int .u8 42, .int .u8 50, .int .u8 38, .int .u8 29, .int .u8 17, .int .u8 4, .int .u8 62, .int .u8 47, .int .u8 59, .int .u8 36, .int .u8 45, .int .u8 43, .int .u8 51, .int .u8 22, .int .u8 53, .int .u8 39, .int .u8 33, .int .u8 30, .int .u8 24, .int .u8 18, .int .u8 12, .int .u8 5, .int .u8 63, .int .u8 55, .int .u8 48, .int .u8 27, .int .u8 60, .int .u8 41, .int .u8 37, .int .u8 16, .int .u8 46, .int .u8 35, .int .u8 44, .int .u8 21, .int .u8 52, .int .u8 32, .int .u8 23, .int .u8 11, .int .u8 54, .int .u8 26, .int .u8 40, .int .u8 15, .int .u8 34, .int .u8 20, .int .u8 31, .int .u8 10, .int .u8 25, .int .u8 14, .int .u8 19, .int .u8 9, .int .u8 13, .int .u8 8, .int .u8 7, .int .u8 6]
  { w0 with heap := h7 }
theorem laidWorld_met (os : Os) (args : Array Value) : laidMet Tryd.prog Rows.fnDeedTextRow.laid ((laidWorld os).forCall (fun _ _ => 0) ⟨#[], args, []⟩).memory :=
  laidMet_of_run3 10 (by kernel_rfl) (by kernel_rfl) (by kernel_rfl)
theorem laidWorld_met3 (os : Os) (args : Array Value) : laidMet Tryd.prog Rows.fnExactDeedTextRow.laid ((laidWorld os).forCall (fun _ _ => 0) ⟨#[], args, []⟩).memory :=
  laidMet_of_run3 10 (by kernel_rfl) (by kernel_rfl) (by kernel_rfl)
end Go.Proofs.YtigcomhhgfgmgaaDoor
namespace Go.Proofs.YtigcomhhgfgmgaaDoor
open Go.RowKit
theorem cell_alloc_is {w : World} {a : Addr} {v : Value} (o : Obj) (h : w.cell? a = some v) : (w.alloc o).cell? a = some v := (World.cell?_alloc_lt _ _ _ (World.block_lt_of_cell? w a h)).trans h
theorem cell_set_is {w : World} {b o b' o' : Nat} {v x : Value} (h : w.cell? ⟨b, o, none⟩ = some v) (hne : b' ≠ b) : (w.setCell ⟨b', o', none⟩ x).cell? ⟨b, o, none⟩ = some v := (World.cell?_setCell_other _ _ _ _ (fun e => hne (by injection e))).trans h
theorem cell_drew_is {w : World} {a : Addr} {v : Value} (h : w.cell? a = some v) : w.drew.cell? a = some v := h
theorem region_namedD {P : Program} {Q : Exit → Act → World → Prop} {c : Code} {a : Act} {w : World} (h : ∀ W, W = w → c.wp P Q a W) : c.wp P Q a w := h w rfl
theorem calls_namedD {P : Program} {f : FuncId} {args : Array Value} {w : World} {Q : Ending → World → Prop} (h : ∀ W, W = w → Calls P f args W Q) : Calls P f args w Q := h w rfl
end Go.Proofs.YtigcomhhgfgmgaaDoor
namespace Go.Proofs.YtigcomhhgfgmgaaDoor
open Go.RowKit
variable {P : Program} {ops : Array Oper} {Q : Exit → Act → World → Prop} {md : Region.Mode}
/-- What the slots hold: those that no operation writes are as they were; that of each operation that has come up is as it promises. -/
def Slots (ops : Array Oper) (a0 : Act) (PP : Nat → Value → World → Prop) (listed : Array Bool) (a : Act) (w : World) : Prop :=
  a.defers = a0.defers ∧ a.tmps.size = a0.tmps.size ∧ (∀ t, (∀ (i : Nat) (o : Oper), ops[i]? = some o → o.dst ≠ some t) → a.eval (.tmp t) = a0.eval (.tmp t)) ∧
  (∀ (i : Nat) (o : Oper) (d : Nat), ops[i]? = some o → o.dst = some d → listed.getD i false = true → PP i (a.eval (.tmp d)) w)
theorem getD_set_self {l : Array Bool} {i : Nat} (h : l.getD i true = false) : (l.setIfInBounds i true).getD i false = true := by
  rcases Nat.lt_or_ge i l.size with h1 | h1
  · simp [Array.getD_eq_getD_getElem?, h1]
  · simp [Array.getD_eq_getD_getElem?, Array.getElem?_eq_none h1] at h
theorem getD_set_other {l : Array Bool} {i j : Nat} (x : Bool) (h : i ≠ j) : (l.setIfInBounds i true).getD j x = l.getD j x := by
  simp [Array.getD_eq_getD_getElem?, Array.getElem?_setIfInBounds_ne h]
theorem Slots.put {a0 a : Act} {PP : Nat → Value → World → Prop} {listed : Array Bool} {w w' : World} {i : Nat} {o : Oper} {d : Nat} {v : Value}
    (h : Slots ops a0 PP listed a w) (hi : ops[i]? = some o) (hd : o.dst = some d) (hl : listed.getD i true = false) (hb : d < a0.tmps.size)
    (hdis : ∀ (i j : Nat) (oi oj : Oper) (d : Nat), ops[i]? = some oi → ops[j]? = some oj → oi.dst = some d → oj.dst = some d → i = j)
    (hmono : ∀ j u, PP j u w → PP j u w') (hv : PP i v w') : Slots ops a0 PP (listed.setIfInBounds i true) (a.put (some d) v) w' := by
  obtain ⟨h1, h2, h3, h4⟩ := h
  refine ⟨h1, by simpa [Act.put] using h2, fun t ht => ?_, fun j oj dj hj hdj hlj => ?_⟩
  · rw [Act.eval_put_ne _ _ _ _ (fun e => ht i o hi (by rw [hd, e]))]; exact h3 t ht
  · by_cases hij : j = i
    · subst hij
      rw [hi] at hj
      cases hj
      rw [hd] at hdj
      cases hdj
      rw [Act.eval_put_same _ _ _ (by rw [h2]; exact hb)]
      exact hv
    · rw [Act.eval_put_ne _ _ _ _ (fun e => hij (hdis j i oj o dj hj hi hdj (by rw [hd, e])))]
      rw [getD_set_other _ (fun e => hij e.symm)] at hlj
      exact hmono _ _ (h4 j oj dj hj hdj hlj)
theorem wpAny_slots {a0 : Act} {PP : Nat → Value → World → Prop} {Grow : World → World → Prop} {G : Array Bool → World → Prop}
    (hdis : ∀ (i j : Nat) (oi oj : Oper) (d : Nat), ops[i]? = some oi → ops[j]? = some oj → oi.dst = some d → oj.dst = some d → i = j)
    (hb : ∀ (i : Nat) (o : Oper) (d : Nat), ops[i]? = some o → o.dst = some d → d < a0.tmps.size)
    (hmono : ∀ j u w w', Grow w w' → PP j u w → PP j u w')
    (hstep : ∀ (i : Nat) (o : Oper), ops[i]? = some o → ∀ listed a w, Slots ops a0 PP listed a w → G listed w → (∀ e ∈ o.after, Region.binds md e = true → listed.getD e.on false = true) → listed.getD i true = false →
      wpOp P ops Q i (fun a' w' => ∃ v d, o.dst = some d ∧ a' = a.put (some d) v ∧ PP i v w' ∧ Grow w w' ∧ G (listed.setIfInBounds i true) w') a w)
    (hend : ∀ listed a w, (∀ i, i < ops.size → listed.getD i false = true) → Slots ops a0 PP listed a w → G listed w → Q .normal a w) :
    ∀ fuel listed a w, listed.size = ops.size → listed.toList.count false ≤ fuel → (Region.ready md ops listed = [] → ∀ i, i < ops.size → listed.getD i false = true) →
      (∀ l : Array Bool, l.size = ops.size → Region.ready md ops l = [] → ∀ i, i < ops.size → l.getD i false = true) →
      Slots ops a0 PP listed a w → G listed w → wpAny P md ops Q fuel listed a w
  | 0, listed, a, w, hs, hc, hr0, hr, hS, hG => by
    have hall : ∀ i, i < ops.size → listed.getD i false = true := fun i hi => by
      have h0 : listed.toList.count false = 0 := by omega
      rw [List.count_eq_zero] at h0
      have hi' : i < listed.size := by omega
      have e : listed.getD i false = listed[i] := by simp [Array.getD_eq_getD_getElem?, hi']
      rw [e]
      cases hx : listed[i] with
      | true => rfl
      | false => exact absurd (by rw [← hx]; simp) h0
    refine ⟨?_, hend _ _ _ hall hS hG⟩
    rw [List.eq_nil_iff_forall_not_mem]
    intro i hi
    obtain ⟨h1, o, ho, _⟩ := mem_ready.1 hi
    have hi' : i < ops.size := (Array.getElem?_eq_some_iff.1 ho).1
    have h2 := hall i hi'
    have hil : i < listed.size := by omega
    simp [Array.getD_eq_getD_getElem?, hil] at h1 h2
    rw [h1] at h2; cases h2
  | fuel + 1, listed, a, w, hs, hc, hr0, hr, hS, hG => by
    refine ⟨fun h => hend _ _ _ (hr0 h) hS hG, fun i hi => ?_⟩
    obtain ⟨h1, o, ho, hall⟩ := mem_ready.1 hi
    refine wpOp_mono ?_ (hstep i o ho listed a w hS hG hall h1)
    rintro a' w' ⟨v, d, hd, rfl, hv, hg, hG'⟩
    have hil : i < listed.size := by rw [hs]; exact (Array.getElem?_eq_some_iff.1 ho).1
    refine wpAny_slots hdis hb hmono hstep hend fuel _ _ _ (by simpa using hs) ?_ (hr _ (by simpa using hs)) hr (hS.put ho hd h1 (hb i o d ho hd) hdis (fun j u => hmono j u w w' hg) hv) hG'
    have e : listed[i] = false := by simpa [Array.getD_eq_getD_getElem?, hil] using h1
    rw [Array.toList_setIfInBounds, List.count_set (by simpa using hil)]
    have : 0 < listed.toList.count false := List.count_pos_iff.2 (by rw [← e]; simp)
    rw [if_pos (by simp [e]), if_neg (by simp)]
    omega
theorem op_value {i : Nat} {o : Oper} {v : Value} {a : Act} {w w' : World} {K : Act → World → Prop} (hi : ops[i]? = some o) (hg : o.guard = none) (hv : ∀ ev : Operand → Value, (∀ t, ev (.tmp t) = a.eval (.tmp t)) → (∀ c, ev (.const c) = c) → (∀ f, ev (.func f) = .func (.func f) #[] #[]) → (execOp ev o).run P w = .ok (.value v) w') (hk : K (a.put o.dst v) w') : wpOp P ops Q i K a w := by
  unfold wpOp
  simp only [hi]
  rw [if_pos (by simp [Region.wanted, hg])]
  left
  unfold Oper.wp
  rw [hv a.eval (fun _ => rfl) (fun _ => rfl) (fun _ => rfl)]; exact hk
theorem op_enter {i : Nat} {o : Oper} {f : FuncId} {args : Array Value} {a : Act} {w w' : World} {K : Act → World → Prop} (hi : ops[i]? = some o) (hg : o.guard = none) (hv : ∀ ev : Operand → Value, (∀ t, ev (.tmp t) = a.eval (.tmp t)) → (∀ c, ev (.const c) = c) → (∀ f, ev (.func f) = .func (.func f) #[] #[]) → (execOp ev o).run P w = .ok (.enter f args) w')
    (hk : Calls P f args w' fun e w'' => ∃ v, e = .returned v ∧ K (a.put o.dst v) w'') : wpOp P ops Q i K a w := by
  unfold wpOp
  simp only [hi]
  rw [if_pos (by simp [Region.wanted, hg])]
  left
  unfold Oper.wp
  rw [hv a.eval (fun _ => rfl) (fun _ => rfl) (fun _ => rfl)]
  refine Calls.mono hk ?_
  rintro e w'' ⟨v, rfl, h⟩
  exact h
/-- Does any order end with all listed? (an edge leads back, never forward) -/
theorem ready_all (h : ∀ (i : Nat) (o : Oper), ops[i]? = some o → ∀ e ∈ o.after, Region.binds md e = true → e.on < i) (l : Array Bool) (hl : l.size = ops.size) (hr : Region.ready md ops l = []) : ∀ i, i < ops.size → l.getD i false = true := by
  intro i
  induction i using Nat.strongRecOn with
  | ind i ih =>
    intro hi
    cases hx : l.getD i false with
    | true => rfl
    | false =>
      exfalso
      have hil : i < l.size := by omega
      have ho : ops[i]? = some ops[i] := by simp [hi]
      have hm : i ∈ Region.ready md ops l := mem_ready.2 ⟨by simpa [Array.getD_eq_getD_getElem?, hil] using hx, ops[i], ho, fun e he hbd => ih e.on (h i _ ho e he hbd) (by have := h i _ ho e he hbd; omega)⟩
      rw [hr] at hm; cases hm
/-- **The region by its slots.** -/
theorem wp_region_slots {id : Nat} {a0 : Act} {w : World} {PP : Nat → Value → World → Prop} {Grow : World → World → Prop} {G : Array Bool → World → Prop} (hm : P.follows .mixedOrders = true)
    (hdis : ∀ (i j : Nat) (oi oj : Oper) (d : Nat), ops[i]? = some oi → ops[j]? = some oj → oi.dst = some d → oj.dst = some d → i = j)
    (hb : ∀ (i : Nat) (o : Oper) (d : Nat), ops[i]? = some o → o.dst = some d → d < a0.tmps.size) (hback : ∀ (i : Nat) (o : Oper), ops[i]? = some o → ∀ e ∈ o.after, Region.binds .any e = true → e.on < i)
    (hmono : ∀ j u w w', Grow w w' → PP j u w → PP j u w') (hG0 : G (Array.replicate ops.size false) { w with drawn := w.drawn + 1 })
    (hstep : ∀ (i : Nat) (o : Oper), ops[i]? = some o → ∀ listed a w, Slots ops a0 PP listed a w → G listed w → (∀ e ∈ o.after, Region.binds .any e = true → listed.getD e.on false = true) → listed.getD i true = false →
      wpOp P ops Q i (fun a' w' => ∃ v d, o.dst = some d ∧ a' = a.put (some d) v ∧ PP i v w' ∧ Grow w w' ∧ G (listed.setIfInBounds i true) w') a w)
    (hend : ∀ listed a w, (∀ i, i < ops.size → listed.getD i false = true) → Slots ops a0 PP listed a w → G listed w → Q .normal a w) : (Code.region id ops true).wp P Q a0 w := by
  have hr := fun l hl => ready_all (md := .any) hback l hl
  refine wp_region_any hm (wpAny_slots (md := .any) hdis hb hmono hstep hend _ _ _ _ (by simp) (by simp) (hr _ (by simp)) hr ⟨rfl, rfl, fun _ _ => rfl, fun i o d _ _ h => ?_⟩ hG0)
  simp [Array.getD_eq_getD_getElem?, Array.getElem?_replicate] at h
  split at h <;> simp at h
def okDis (ops : Array Oper) : Bool := decide ((ops.toList.map fun o => o.dst).Nodup)
def okB (ops : Array Oper) (n : Nat) : Bool := ops.toList.all fun o => match o.dst with | some d => decide (d < n) | none => true
def okBack (ops : Array Oper) : Bool := (List.range ops.size).all fun i => match ops[i]? with | some o => o.after.toList.all fun e => !Region.binds .any e || decide (e.on < i) | none => true
def noDst (ops : Array Oper) (t : Nat) : Bool := ops.toList.all fun o => o.dst != some t
theorem dis_of (h : okDis ops = true) : ∀ (i j : Nat) (oi oj : Oper) (d : Nat), ops[i]? = some oi → ops[j]? = some oj → oi.dst = some d → oj.dst = some d → i = j := by
  intro i j oi oj d hi hj hd hdj
  have hn : (ops.toList.map fun o => o.dst).Nodup := by simpa [okDis] using h
  have e1 : (ops.toList.map fun o => o.dst)[i]? = some (some d) := by simp [hi, hd]
  have e2 : (ops.toList.map fun o => o.dst)[j]? = some (some d) := by simp [hj, hdj]
  obtain ⟨h1, e1⟩ := List.getElem?_eq_some_iff.1 e1
  obtain ⟨h2, e2⟩ := List.getElem?_eq_some_iff.1 e2
  rcases Nat.lt_trichotomy i j with h3 | h3 | h3
  · exact absurd (e1.trans e2.symm) (List.pairwise_iff_getElem.1 hn i j h1 h2 h3)
  · exact h3
  · exact absurd (e2.trans e1.symm) (List.pairwise_iff_getElem.1 hn j i h2 h1 h3)
theorem b_of {n : Nat} (h : okB ops n = true) : ∀ (i : Nat) (o : Oper) (d : Nat), ops[i]? = some o → o.dst = some d → d < n := by
  intro i o d hi hd
  rw [okB, List.all_eq_true] at h
  have := h o (by obtain ⟨h1, e⟩ := Array.getElem?_eq_some_iff.1 hi; rw [← e]; simp)
  rw [hd] at this
  simpa using this
theorem back_of (h : okBack ops = true) : ∀ (i : Nat) (o : Oper), ops[i]? = some o → ∀ e ∈ o.after, Region.binds .any e = true → e.on < i := by
  intro i o hi e he hbd
  rw [okBack, List.all_eq_true] at h
  have h2 := h i (List.mem_range.2 (Array.getElem?_eq_some_iff.1 hi).1)
  rw [hi] at h2
  simp only [List.all_eq_true] at h2
  simpa [hbd] using h2 e (by simpa using he)
theorem noDst_of {t : Nat} (h : noDst ops t = true) : ∀ (i : Nat) (o : Oper), ops[i]? = some o → o.dst ≠ some t := by
  intro i o hi e
  rw [noDst, List.all_eq_true] at h
  have := h o (by obtain ⟨h1, e⟩ := Array.getElem?_eq_some_iff.1 hi; rw [← e]; simp)
  rw [e] at this
  simp at this
end Go.Proofs.YtigcomhhgfgmgaaDoor
namespace Go.Proofs.YtigcomhhgfgmgaaDoor
open Go.RowKit
variable {P : Program} {ops : Array Oper} {Q : Exit → Act → World → Prop} {md : Region.Mode}
theorem Slots.none {a0 a : Act} {PP : Nat → Value → World → Prop} {listed : Array Bool} {w w' : World} {i : Nat} {o : Oper}
    (h : Slots ops a0 PP listed a w) (hi : ops[i]? = some o) (hd : o.dst = none) (hmono : ∀ j u, PP j u w → PP j u w') : Slots ops a0 PP (listed.setIfInBounds i true) a w' := by
  obtain ⟨h1, h2, h3, h4⟩ := h
  refine ⟨h1, h2, h3, fun j oj dj hj hdj hlj => ?_⟩
  by_cases hij : j = i
  · subst hij
    rw [hi] at hj
    cases hj
    rw [hd] at hdj
    cases hdj
  · rw [getD_set_other _ (fun e => hij e.symm)] at hlj
    exact hmono _ _ (h4 j oj dj hj hdj hlj)
theorem wpAny_stores {a0 : Act} {PP : Nat → Value → World → Prop} {Grow : World → World → Prop} {G : Array Bool → World → Prop}
    (hdis : ∀ (i j : Nat) (oi oj : Oper) (d : Nat), ops[i]? = some oi → ops[j]? = some oj → oi.dst = some d → oj.dst = some d → i = j)
    (hb : ∀ (i : Nat) (o : Oper) (d : Nat), ops[i]? = some o → o.dst = some d → d < a0.tmps.size)
    (hmono : ∀ j u w w', Grow w w' → PP j u w → PP j u w')
    (hstep : ∀ (i : Nat) (o : Oper), ops[i]? = some o → ∀ listed a w, Slots ops a0 PP listed a w → G listed w → (∀ e ∈ o.after, Region.binds md e = true → listed.getD e.on false = true) → listed.getD i true = false →
      wpOp P ops Q i (fun a' w' => ((∃ v d, o.dst = some d ∧ a' = a.put (some d) v ∧ PP i v w') ∨ (o.dst = none ∧ a' = a)) ∧ Grow w w' ∧ G (listed.setIfInBounds i true) w') a w)
    (hend : ∀ listed a w, (∀ i, i < ops.size → listed.getD i false = true) → Slots ops a0 PP listed a w → G listed w → Q .normal a w) :
    ∀ fuel listed a w, listed.size = ops.size → listed.toList.count false ≤ fuel → (Region.ready md ops listed = [] → ∀ i, i < ops.size → listed.getD i false = true) →
      (∀ l : Array Bool, l.size = ops.size → Region.ready md ops l = [] → ∀ i, i < ops.size → l.getD i false = true) →
      Slots ops a0 PP listed a w → G listed w → wpAny P md ops Q fuel listed a w
  | 0, listed, a, w, hs, hc, hr0, hr, hS, hG => by
    have hall : ∀ i, i < ops.size → listed.getD i false = true := fun i hi => by
      have h0 : listed.toList.count false = 0 := by omega
      rw [List.count_eq_zero] at h0
      have hi' : i < listed.size := by omega
      have e : listed.getD i false = listed[i] := by simp [Array.getD_eq_getD_getElem?, hi']
      rw [e]
      cases hx : listed[i] with
      | true => rfl
      | false => exact absurd (by rw [← hx]; simp) h0
    refine ⟨?_, hend _ _ _ hall hS hG⟩
    rw [List.eq_nil_iff_forall_not_mem]
    intro i hi
    obtain ⟨h1, o, ho, _⟩ := mem_ready.1 hi
    have hi' : i < ops.size := (Array.getElem?_eq_some_iff.1 ho).1
    have h2 := hall i hi'
    have hil : i < listed.size := by omega
    simp [Array.getD_eq_getD_getElem?, hil] at h1 h2
    rw [h1] at h2; cases h2
  | fuel + 1, listed, a, w, hs, hc, hr0, hr, hS, hG => by
    refine ⟨fun h => hend _ _ _ (hr0 h) hS hG, fun i hi => ?_⟩
    obtain ⟨h1, o, ho, hall⟩ := mem_ready.1 hi
    refine wpOp_mono ?_ (hstep i o ho listed a w hS hG hall h1)
    rintro a' w' ⟨hpu, hg, hG'⟩
    have hS' : Slots ops a0 PP (listed.setIfInBounds i true) a' w' := by
      rcases hpu with ⟨v, d, hd, rfl, hv⟩ | ⟨hd, rfl⟩
      · exact hS.put ho hd h1 (hb i o d ho hd) hdis (fun j u => hmono j u w w' hg) hv
      · exact hS.none ho hd (fun j u => hmono j u w w' hg)
    have hil : i < listed.size := by rw [hs]; exact (Array.getElem?_eq_some_iff.1 ho).1
    refine wpAny_stores hdis hb hmono hstep hend fuel _ _ _ (by simpa using hs) ?_ (hr _ (by simpa using hs)) hr hS' hG'
    have e : listed[i] = false := by simpa [Array.getD_eq_getD_getElem?, hil] using h1
    rw [Array.toList_setIfInBounds, List.count_set (by simpa using hil)]
    have : 0 < listed.toList.count false := List.count_pos_iff.2 (by rw [← e]; simp)
    rw [if_pos (by simp [e]), if_neg (by simp)]
    omega
/-- **The region by its slots.** -/
theorem wp_region_stores {id : Nat} {a0 : Act} {w : World} {PP : Nat → Value → World → Prop} {Grow : World → World → Prop} {G : Array Bool → World → Prop} (hm : P.follows .mixedOrders = true)
    (hdis : ∀ (i j : Nat) (oi oj : Oper) (d : Nat), ops[i]? = some oi → ops[j]? = some oj → oi.dst = some d → oj.dst = some d → i = j)
    (hb : ∀ (i : Nat) (o : Oper) (d : Nat), ops[i]? = some o → o.dst = some d → d < a0.tmps.size) (hback : ∀ (i : Nat) (o : Oper), ops[i]? = some o → ∀ e ∈ o.after, Region.binds .any e = true → e.on < i)
    (hmono : ∀ j u w w', Grow w w' → PP j u w → PP j u w') (hG0 : G (Array.replicate ops.size false) { w with drawn := w.drawn + 1 })
    (hstep : ∀ (i : Nat) (o : Oper), ops[i]? = some o → ∀ listed a w, Slots ops a0 PP listed a w → G listed w → (∀ e ∈ o.after, Region.binds .any e = true → listed.getD e.on false = true) → listed.getD i true = false →
      wpOp P ops Q i (fun a' w' => ((∃ v d, o.dst = some d ∧ a' = a.put (some d) v ∧ PP i v w') ∨ (o.dst = none ∧ a' = a)) ∧ Grow w w' ∧ G (listed.setIfInBounds i true) w') a w)
    (hend : ∀ listed a w, (∀ i, i < ops.size → listed.getD i false = true) → Slots ops a0 PP listed a w → G listed w → Q .normal a w) : (Code.region id ops true).wp P Q a0 w := by
  have hr := fun l hl => ready_all (md := .any) hback l hl
  refine wp_region_any hm (wpAny_stores (md := .any) hdis hb hmono hstep hend _ _ _ _ (by simp) (by simp) (hr _ (by simp)) hr ⟨rfl, rfl, fun _ _ => rfl, fun i o d _ _ h => ?_⟩ hG0)
  simp [Array.getD_eq_getD_getElem?, Array.getElem?_replicate] at h
  split at h <;> simp at h
theorem op_store {i : Nat} {o : Oper} {a : Act} {w w' : World} {K : Act → World → Prop} (hi : ops[i]? = some o) (hg : o.guard = none) (hd : o.dst = none) (hv : ∀ ev : Operand → Value, (∀ t, ev (.tmp t) = a.eval (.tmp t)) → (∀ c, ev (.const c) = c) → (∀ f, ev (.func f) = .func (.func f) #[] #[]) → (execOp ev o).run P w = .ok .skip w') (hk : K a w') : wpOp P ops Q i K a w := by
  unfold wpOp
  simp only [hi]
  rw [if_pos (by simp [Region.wanted, hg])]
  left
  unfold Oper.wp
  rw [hv a.eval (fun _ => rfl) (fun _ => rfl) (fun _ => rfl)]
  show K (a.put o.dst undef) w'
  rw [hd]
  exact hk
/-- No slot twice, stores left out. -/
def okDis2 (ops : Array Oper) : Bool := decide ((ops.toList.filterMap fun o => o.dst).Nodup)
theorem dis_of2 (h : okDis2 ops = true) : ∀ (i j : Nat) (oi oj : Oper) (d : Nat), ops[i]? = some oi → ops[j]? = some oj → oi.dst = some d → oj.dst = some d → i = j := by
  intro i j oi oj d hi hj hd hdj
  have hn : (ops.toList.filterMap fun o => o.dst).Nodup := by simpa [okDis2] using h
  have key : ∀ (l : List Oper) (i j : Nat), (l.filterMap fun o => o.dst).Nodup → l[i]? = some oi → l[j]? = some oj → i = j := by
    intro l
    induction l with
    | nil => intro i j _ h1; simp at h1
    | cons o l ih =>
      intro i j hnd h1 h2
      have mem : ∀ (k : Nat) (ok : Oper), l[k]? = some ok → ok.dst = some d → d ∈ l.filterMap fun o => o.dst := fun k ok hk hk2 => List.mem_filterMap.2 ⟨ok, List.mem_of_getElem? hk, hk2⟩
      cases i with
      | zero =>
        cases j with
        | zero => rfl
        | succ j =>
          simp at h1 h2
          subst h1
          rw [List.filterMap_cons, hd] at hnd
          exact absurd (mem j oj h2 hdj) (List.nodup_cons.1 hnd).1
      | succ i =>
        cases j with
        | zero =>
          simp at h1 h2
          subst h2
          rw [List.filterMap_cons, hdj] at hnd
          exact absurd (mem i oi h1 hd) (List.nodup_cons.1 hnd).1
        | succ j =>
          simp at h1 h2
          have hnd' : (l.filterMap fun o => o.dst).Nodup := by
            rw [List.filterMap_cons] at hnd
            split at hnd
            · exact hnd
            · exact (List.nodup_cons.1 hnd).2
          rw [ih i j hnd' h1 h2]
  exact key ops.toList i j hn (by simpa using hi) (by simpa using hj)
end Go.Proofs.YtigcomhhgfgmgaaDoor
namespace Go.Proofs.YtigcomhhgfgmgaaDoor
open Go.RowKit
theorem cells_of_cell' {W : World} {a : Addr} {v : Value} (h : W.cell? a = some v) : ∃ o : Obj, W.heap[a.block]? = some o ∧ True := by
  unfold World.cell? at h
  cases ho : W.heap[a.block]? with
  | none => simp [ho] at h
  | some o => exact ⟨o, rfl, trivial⟩
/-- Block R is a reader that has been asked at most k times. -/
def Rd (w : World) (R : Nat) (k : Nat) : Prop :=
  ∃ (a : Option Addr) (len cap p : Nat), w.cell? ⟨R, 0, none⟩ = some (.slice a len cap) ∧ w.cell? ⟨R, 1, none⟩ = some (.int .i64 p) ∧ w.frozen? ⟨R, 1, none⟩ = false ∧ p ≤ k ∧ len ≤ 2000 ∧
    (len = 0 ∨ ∃ b off, a = some ⟨b, off, none⟩ ∧ b < R ∧ ∀ i, i < len → ∃ x : Int, 0 ≤ x ∧ x ≤ 255 ∧ w.cell? ⟨b, off + i, none⟩ = some (.int .u8 x))
theorem Rd.mono {w : World} {R k k' : Nat} (h : Rd w R k) (hk : k ≤ k') : Rd w R k' := by
  obtain ⟨a, len, cap, p, h0, h1, hf, hp, hl, hs⟩ := h
  exact ⟨a, len, cap, p, h0, h1, hf, by omega, hl, hs⟩
theorem Rd.lt {w : World} {R k : Nat} (h : Rd w R k) : R < w.heap.size := by
  obtain ⟨a, len, cap, p, h0, _⟩ := h
  obtain ⟨o, ho, _⟩ := cells_of_cell' h0
  exact (Array.getElem?_eq_some_iff.1 ho).1
/-- A reader lies on where its block and the code's block do. -/
theorem Rd.below {w w' : World} {R k B : Nat} (h : Rd w R k) (hb : Below B w w') (hB : w.heap.size ≤ B) : Rd w' R k := by
  have hlt := h.lt
  obtain ⟨a, len, cap, p, h0, h1, hf, hp, hl, hs⟩ := h
  refine ⟨a, len, cap, p, (hb.cell (p := ⟨R, 0, none⟩) (by show R < B; omega)).trans h0, (hb.cell (p := ⟨R, 1, none⟩) (by show R < B; omega)).trans h1, (hb.frozen (p := ⟨R, 1, none⟩) (by show R < B; omega)).trans hf, hp, hl, ?_⟩
  rcases hs with hs | ⟨b, off, ha, hne, hc⟩
  · exact .inl hs
  · refine .inr ⟨b, off, ha, hne, fun i hi => ?_⟩
    obtain ⟨x, hx0, hx1, hx⟩ := hc i hi
    obtain ⟨o, ho, _⟩ := cells_of_cell' hx
    have hbl : b < w.heap.size := (Array.getElem?_eq_some_iff.1 ho).1
    exact ⟨x, hx0, hx1, (hb.cell (p := ⟨b, off + i, none⟩) (by show b < B; omega)).trans hx⟩
/-- A store into a block that lies behind the reader. -/
theorem Rd.set {w : World} {R k : Nat} (h : Rd w R k) {q : Addr} (hq : R < q.block) (u : Value) : Rd (w.setCell q u) R k := by
  obtain ⟨a, len, cap, p, h0, h1, hf, hp, hl, hs⟩ := h
  have other : ∀ b o, b ≤ R → (w.setCell q u).cell? ⟨b, o, none⟩ = w.cell? ⟨b, o, none⟩ := fun b o hb => World.cell?_setCell_other w q ⟨b, o, none⟩ u (fun e => by rw [e] at hq; exact absurd hq (by show ¬ R < b; omega))
  refine ⟨a, len, cap, p, (other R 0 (Nat.le_refl _)).trans h0, (other R 1 (Nat.le_refl _)).trans h1, by rw [World.frozen?_setCell]; exact hf, hp, hl, ?_⟩
  rcases hs with hs | ⟨b, off, ha, hne, hc⟩
  · exact .inl hs
  · refine .inr ⟨b, off, ha, hne, fun i hi => ?_⟩
    obtain ⟨x, hx0, hx1, hx⟩ := hc i hi
    exact ⟨x, hx0, hx1, (other b (off + i) (by omega)).trans hx⟩
theorem Rd.alloc {w : World} {R k : Nat} (h : Rd w R k) (o : Obj) : Rd (w.alloc o) R k := h.below ((Below.refl _ _).alloc (Nat.le_refl _) o) (Nat.le_refl _)
/-- The world behind a pick. -/
theorem Rd.asked {w : World} {R k : Nat} {a : Option Addr} {len cap p : Nat} (nq : Nat) (h0 : w.cell? ⟨R, 0, none⟩ = some (.slice a len cap)) (h1 : w.cell? ⟨R, 1, none⟩ = some (.int .i64 p)) (hf : w.frozen? ⟨R, 1, none⟩ = false) (hp : p ≤ k) (hl : len ≤ 2000)
    (hs : len = 0 ∨ ∃ b off, a = some ⟨b, off, none⟩ ∧ b < R ∧ ∀ i, i < len → ∃ x : Int, 0 ≤ x ∧ x ≤ 255 ∧ w.cell? ⟨b, off + i, none⟩ = some (.int .u8 x)) :
    Rd ((w.setCell ⟨R, 1, none⟩ (.int .i64 (p + 1))).drewN nq) R (k + 1) ∧ w.grownBy ((w.setCell ⟨R, 1, none⟩ (.int .i64 (p + 1))).drewN nq) (some R) := by
  refine ⟨⟨a, len, cap, p + 1, ?_, ?_, ?_, by omega, hl, ?_⟩, ⟨rfl, rfl, rfl, by simp [World.setCell], ?_⟩⟩
  · rw [World.cell?_drewN]; exact (World.cell?_setCell_other w ⟨R, 1, none⟩ ⟨R, 0, none⟩ _ (by simp)).trans h0
  · rw [World.cell?_drewN]; exact World.cell?_setCell_same' _ _ _ (by rw [h1]; rfl)
  · rw [World.frozen?_drewN, World.frozen?_setCell]; exact hf
  · rcases hs with hs | ⟨b, off, ha, hne, hc⟩
    · exact .inl hs
    · refine .inr ⟨b, off, ha, hne, fun i hi => ?_⟩
      obtain ⟨x, hx0, hx1, hx⟩ := hc i hi
      exact ⟨x, hx0, hx1, by rw [World.cell?_drewN]; exact (World.cell?_setCell_other w ⟨R, 1, none⟩ ⟨b, off + i, none⟩ _ (fun e => by injection e; omega)).trans hx⟩
  · intro j _ hj
    rw [World.heap_drewN]
    exact Below.heap_setCell _ _ _ _ (fun e => hj (by rw [e]))
/-- What is known behind a pick of n. -/
def Picked (w : World) (R k : Nat) (n : Int) (e : Ending) (w' : World) : Prop :=
  ∃ v : Int, e = .returned (.int .i64 v) ∧ 0 ≤ v ∧ (v < n ∨ v = 0) ∧ Rd w' R (k + 1) ∧ w.grownBy w' (some R)
theorem xor_i64 (a b : Nat) (ha : a < 4611686018427387904) (hb : b < 4611686018427387904) : bits .xor .i64 (a : Int) (b : Int) = ((a ^^^ b : Nat) : Int) ∧ a ^^^ b < 4611686018427387904 := by
  have hx : a ^^^ b < 2 ^ 62 := Nat.xor_lt_two_pow (by omega) (by omega)
  have h1 : (BitVec.ofInt 64 (a : Int)).toNat = a := by rw [BitVec.ofInt_natCast, BitVec.toNat_ofNat]; exact Nat.mod_eq_of_lt (by omega)
  have h2 : (BitVec.ofInt 64 (b : Int)).toNat = b := by rw [BitVec.ofInt_natCast, BitVec.toNat_ofNat]; exact Nat.mod_eq_of_lt (by omega)
  refine ⟨?_, by omega⟩
  show IntKind.i64.wrap ((BitVec.ofInt 64 (a : Int) ^^^ BitVec.ofInt 64 (b : Int)).toNat : Int) = _
  rw [BitVec.toNat_xor, h1, h2, IntKind.wrap_i64]
  omega
theorem mix_i64 (X : Nat) (hX : X ≤ 10000000000000) : ∃ Z : Nat, Z < 4611686018427387904 ∧ bits .xor .i64 (X : Int) ((X : Int) / 64) = (Z : Int) := by
  have h := xor_i64 X (X / 64) (by omega) (by omega)
  exact ⟨_, h.2, h.1⟩
set_option maxHeartbeats 1000000 in
theorem pick_far (R : Nat) (n : Int) (w : World) (len cap p b off : Nat) (x y : Int) (hn : 1 ≤ n) (hn2 : n ≤ 1000000000)
   (h0 : w.cell? ⟨R, 0, none⟩ = some (.slice (some ⟨b, off, none⟩) len cap)) (h1 : w.cell? ⟨R, 1, none⟩ = some (.int .i64 p)) (hf : w.frozen? ⟨R, 1, none⟩ = false) (hp : p ≤ 1000000000)
   (hlen : 0 < len) (hlen2 : len ≤ 2000) (hge : len ≤ p) (hb : b ≠ R)
   (hx0 : 0 ≤ x) (hx1 : x ≤ 255) (hx : w.cell? ⟨b, off + p % len, none⟩ = some (.int .u8 x))
   (hy0 : 0 ≤ y) (hy1 : y ≤ 255) (hy : w.cell? ⟨b, off + (p * 7 + 3) % len, none⟩ = some (.int .u8 y)) :
    Calls Tryd.prog 42 #[.pointer (some ⟨R, 0, none⟩), .int .i64 n] w fun e w' => ∃ v : Int, e = .returned (.int .i64 v) ∧ 0 ≤ v ∧ (v < n ∨ v = 0) ∧ ∃ nq, w' = (w.setCell ⟨R, 1, none⟩ (.int .i64 (p + 1))).drewN nq := by
  have hlz : ((len : Int) == 0) = false := by simp; omega
  have k0 : (0 : Int) ≤ (p : Int) % (len : Int) := Int.emod_nonneg _ (by omega)
  have k1 : (p : Int) % (len : Int) < (len : Int) := Int.emod_lt_of_pos _ (by omega)
  have k2 : ((p : Int) % (len : Int)).toNat = p % len := by rw [← Int.natCast_emod]; rfl
  have j0 : (0 : Int) ≤ ((p : Int) * 7 + 3) % (len : Int) := Int.emod_nonneg _ (by omega)
  have j1 : ((p : Int) * 7 + 3) % (len : Int) < (len : Int) := Int.emod_lt_of_pos _ (by omega)
  have j2 : (((p : Int) * 7 + 3) % (len : Int)).toNat = (p * 7 + 3) % len := by
    have e : ((p : Int) * 7 + 3) % (len : Int) = (((p * 7 + 3) % len : Nat) : Int) := by rw [Int.natCast_emod]; rfl
    rw [e]; rfl
  have q0 : (0 : Int) ≤ (p : Int) / (len : Int) := Int.ediv_nonneg (by omega) (by omega)
  have q1 : (p : Int) / (len : Int) ≤ 1000000000 := Int.le_trans (Int.ediv_le_self _ (by omega)) (by omega)
  obtain ⟨X, hX⟩ : ∃ X : Nat, x * 131 + y * 1117 + (p : Int) * 29 + (p : Int) / (len : Int) * 53 = (X : Int) := ⟨_, (Int.toNat_of_nonneg (by omega)).symm⟩
  have hX2 : X ≤ 10000000000000 := by omega
  obtain ⟨Z, hZ1, hZ⟩ := mix_i64 X hX2
  have r0 : (0 : Int) ≤ (Z : Int) % n := Int.emod_nonneg _ (by omega)
  have r1 : (Z : Int) % n < n := Int.emod_lt_of_pos _ (by omega)
  have HX := Lib.hid hX
  clear hX
  go_enter Tryd.func42, Tryd.ntmps42
  go_wp2
  go_quiet (fail)
  rw [HX.out]
  go_wp2
  go_ret
  exact ⟨_, rfl, r0, .inl r1, _, rfl⟩
set_option maxHeartbeats 1000000 in
theorem pick_near (R : Nat) (n : Int) (w : World) (len cap p b off : Nat) (x : Int) (hn : 1 ≤ n) (hn2 : n ≤ 1000000000)
   (h0 : w.cell? ⟨R, 0, none⟩ = some (.slice (some ⟨b, off, none⟩) len cap)) (h1 : w.cell? ⟨R, 1, none⟩ = some (.int .i64 p)) (hf : w.frozen? ⟨R, 1, none⟩ = false) (hp : p ≤ 1000000000)
   (hlen : 0 < len) (hlen2 : len ≤ 2000) (hge : p < len) (hb : b ≠ R)
   (hx0 : 0 ≤ x) (hx1 : x ≤ 255) (hx : w.cell? ⟨b, off + p, none⟩ = some (.int .u8 x)) :
    Calls Tryd.prog 42 #[.pointer (some ⟨R, 0, none⟩), .int .i64 n] w fun e w' => ∃ v : Int, e = .returned (.int .i64 v) ∧ 0 ≤ v ∧ (v < n ∨ v = 0) ∧ ∃ nq, w' = (w.setCell ⟨R, 1, none⟩ (.int .i64 (p + 1))).drewN nq := by
  have hlz : ((len : Int) == 0) = false := by simp; omega
  have r0 : (0 : Int) ≤ x % n := Int.emod_nonneg _ (by omega)
  have r1 : x % n < n := Int.emod_lt_of_pos _ (by omega)
  go_enter Tryd.func42, Tryd.ntmps42
  go_wp2
  go_ret
  exact ⟨_, rfl, r0, .inl r1, 0, rfl⟩
set_option maxHeartbeats 1000000 in
theorem pick_none (R : Nat) (n : Int) (w : World) (a : Option Addr) (cap p : Nat) (hn : 1 ≤ n)
   (h0 : w.cell? ⟨R, 0, none⟩ = some (.slice a 0 cap)) (h1 : w.cell? ⟨R, 1, none⟩ = some (.int .i64 p)) (hf : w.frozen? ⟨R, 1, none⟩ = false) (hp : p ≤ 1000000000) :
    Calls Tryd.prog 42 #[.pointer (some ⟨R, 0, none⟩), .int .i64 n] w fun e w' => ∃ v : Int, e = .returned (.int .i64 v) ∧ 0 ≤ v ∧ (v < n ∨ v = 0) ∧ ∃ nq, w' = (w.setCell ⟨R, 1, none⟩ (.int .i64 (p + 1))).drewN nq := by
  go_enter Tryd.func42, Tryd.ntmps42
  go_wp2
  go_ret
  exact ⟨_, rfl, by omega, .inr rfl, 0, rfl⟩
set_option maxHeartbeats 1000000 in
theorem pick_neg (R : Nat) (n : Int) (w : World) (p : Nat) (hn : n < 1) (h1 : w.cell? ⟨R, 1, none⟩ = some (.int .i64 p)) (hf : w.frozen? ⟨R, 1, none⟩ = false) (hp : p ≤ 1000000000) :
    Calls Tryd.prog 42 #[.pointer (some ⟨R, 0, none⟩), .int .i64 n] w fun e w' => ∃ v : Int, e = .returned (.int .i64 v) ∧ 0 ≤ v ∧ (v < n ∨ v = 0) ∧ ∃ nq, w' = (w.setCell ⟨R, 1, none⟩ (.int .i64 (p + 1))).drewN nq := by
  go_enter Tryd.func42, Tryd.ntmps42
  go_wp2
  go_ret
  exact ⟨_, rfl, by omega, .inr rfl, 0, rfl⟩
/-- **A pick, whatever the code is.** -/
theorem pick_any (R k : Nat) (n : Int) (w : World) (h : Rd w R k) (hk : k ≤ 1000000000) (hn : n ≤ 1000000000) :
    Calls Tryd.prog 42 #[.pointer (some ⟨R, 0, none⟩), .int .i64 n] w (Picked w R k n) := by
  obtain ⟨a, len, cap, p, h0, h1, hf, hp, hl, hs⟩ := h
  have fin : ∀ e w', (∃ v : Int, e = .returned (.int .i64 v) ∧ 0 ≤ v ∧ (v < n ∨ v = 0) ∧ ∃ nq, w' = (w.setCell ⟨R, 1, none⟩ (.int .i64 (p + 1))).drewN nq) → Picked w R k n e w' := by
    rintro e w' ⟨v, rfl, hv0, hv1, nq, rfl⟩
    exact ⟨v, rfl, hv0, hv1, Rd.asked nq h0 h1 hf hp hl hs⟩
  by_cases hn1 : n < 1
  · exact (pick_neg R n w p hn1 h1 hf (by omega)).mono fin
  · have hn' : 1 ≤ n := by omega
    rcases hs with rfl | ⟨b, off, rfl, hne, hc⟩
    · exact (pick_none R n w a cap p hn' h0 h1 hf (by omega)).mono fin
    · by_cases hl0 : len = 0
      · subst hl0
        exact (pick_none R n w _ cap p hn' h0 h1 hf (by omega)).mono fin
      · by_cases hlt : p < len
        · obtain ⟨x, hx0, hx1, hx⟩ := hc p hlt
          exact (pick_near R n w len cap p b off x hn' hn h0 h1 hf (by omega) (by omega) hl hlt (by omega) hx0 hx1 hx).mono fin
        · obtain ⟨x, hx0, hx1, hx⟩ := hc (p % len) (Nat.mod_lt _ (by omega))
          obtain ⟨y, hy0, hy1, hy⟩ := hc ((p * 7 + 3) % len) (Nat.mod_lt _ (by omega))
          exact (pick_far R n w len cap p b off x y hn' hn h0 h1 hf (by omega) (by omega) hl (by omega) (by omega) hx0 hx1 hx hy0 hy1 hy).mono fin
end Go.Proofs.YtigcomhhgfgmgaaDoor
namespace Go.Proofs.YtigcomhhgfgmgaaDoor
open Go.RowKit
theorem gcell {W w1 : World} {R : Nat} (hg : W.grownBy w1 (some R)) : (∀ b o, b < W.heap.size → b ≠ R → w1.cell? ⟨b, o, none⟩ = W.cell? ⟨b, o, none⟩) ∧ (∀ b o, b < W.heap.size → b ≠ R → w1.frozen? ⟨b, o, none⟩ = W.frozen? ⟨b, o, none⟩) :=
  ⟨fun b o h hne => World.cell?_of_block (a := ⟨b, o, none⟩) (hg.block b h (by simpa using hne)), fun b o h hne => World.frozen?_of_block (a := ⟨b, o, none⟩) (hg.block b h (by simpa using hne))⟩
/-- A code: it is nil, or it leads to a row of cells that hold bytes. -/
def IsRow (w : World) (a : Option Addr) (len cap : Nat) (zs : List Int) : Prop :=
  (a = none ∧ len = 0 ∧ cap = 0 ∧ zs = []) ∨
  ∃ x, a = some x ∧ len ≤ cap ∧ cap ≤ maxLen ∧ zs.length = cap ∧ (∀ i, i < zs.length → w.cell? (x.add i) = some (.int .u8 (zs.getD i 0))) ∧ ∀ n ∈ zs, (Lit.int .u8 n).wf = true
theorem byte_wf {n : Int} (h : (Lit.int .u8 n).wf = true) : 0 ≤ n ∧ n ≤ 255 := by
  have := h
  simp [Lit.wf, IntKind.min, IntKind.max, IntKind.signed, IntKind.bits] at this
  omega
/-- A code's cells, within its length. -/
theorem IsRow.cells {w : World} {a : Option Addr} {len cap : Nat} {zs : List Int} (h : IsRow w a len cap zs) : len = 0 ∨ ∃ b off, a = some ⟨b, off, none⟩ ∧ b < w.heap.size ∧ len ≤ cap ∧ cap ≤ maxLen ∧ ∀ i, i < len → ∃ x : Int, 0 ≤ x ∧ x ≤ 255 ∧ w.cell? ⟨b, off + i, none⟩ = some (.int .u8 x) := by
  rcases h with ⟨_, h, _, _⟩ | ⟨⟨b, off, spot⟩, rfl, hl, hm, hz, hc, hw⟩
  · exact .inl h
  · by_cases h0 : len = 0
    · exact .inl h0
    · have hc0 := hc 0 (by omega)
      have hs : spot = none := by simpa [Addr.add] using World.cell?_spot hc0
      subst hs
      refine .inr ⟨b, off, rfl, ?_, hl, hm, fun i hi => ?_⟩
      · obtain ⟨o, ho, _⟩ := cells_of_cell' hc0
        exact (Array.getElem?_eq_some_iff.1 ho).1
      · have hz' : zs.getD i 0 ∈ zs := by
          rw [List.getD_eq_getElem?_getD, List.getElem?_eq_getElem (by omega)]; simp
        have := byte_wf (hw _ hz')
        have hci := hc i (by omega)
        refine ⟨_, this.1, this.2, ?_⟩
        by_cases hi0 : i = 0
        · subst hi0; simpa [Addr.add] using hci
        · simpa [Addr.add, hi0] using hci
/-- Behind l20Open: the reader is the one new block. -/
def Opened (w : World) (e : Ending) (w' : World) : Prop :=
  e = .returned (.pointer (some ⟨w.heap.size, 0, none⟩)) ∧ Rd w' w.heap.size 0 ∧ Below w.heap.size w w' ∧ w.heap.size < w'.heap.size
theorem opened (w : World) (a : Option Addr) (len cap : Nat) (hl : len ≤ 2000)
    (hs : len = 0 ∨ ∃ b off, a = some ⟨b, off, none⟩ ∧ b < w.heap.size ∧ ∀ i, i < len → ∃ x : Int, 0 ≤ x ∧ x ≤ 255 ∧ w.cell? ⟨b, off + i, none⟩ = some (.int .u8 x)) :
    Opened w (.returned (.pointer (some ⟨w.heap.size, 0, none⟩))) (w.alloc (.cells #[.slice a len cap, .int .i64 0] 81)) := by
  have hb : Below w.heap.size w (w.alloc (.cells #[.slice a len cap, .int .i64 0] 81)) := (Below.refl _ _).alloc (Nat.le_refl _) _
  refine ⟨rfl, ⟨a, len, cap, 0, by simp [go_sem], by simp [go_sem], by simp [go_sem], Nat.le_refl _, hl, ?_⟩, hb, by simp⟩
  rcases hs with hs | ⟨b, off, ha, hlt, hc⟩
  · exact .inl hs
  · refine .inr ⟨b, off, ha, by omega, fun i hi => ?_⟩
    obtain ⟨x, hx0, hx1, hx⟩ := hc i hi
    exact ⟨x, hx0, hx1, (hb.cell (p := ⟨b, off + i, none⟩) hlt).trans hx⟩
set_option maxHeartbeats 400000 in
theorem open_any (w : World) (a : Option Addr) (len cap : Nat) (zs : List Int) (h : IsRow w a len cap zs) :
    Calls Tryd.prog 31 #[.slice a len cap] w (Opened w) := by
  rcases h.cells with rfl | ⟨b, off, rfl, hlt, hlc, hm, hc⟩
  · have H := Lib.hid (opened w a 0 cap (by omega) (.inl rfl))
    go_enter Tryd.func31, Tryd.ntmps31
    go_wp2
    go_ret
    exact H.out
  · unfold maxLen at hm
    by_cases hbig : 2000 < len
    · have H := Lib.hid (opened w (some ⟨b, off, none⟩) 2000 cap (by omega) (.inr ⟨b, off, rfl, hlt, fun i hi => hc i (by omega)⟩))
      clear hc
      go_enter Tryd.func31, Tryd.ntmps31
      go_wp2
      go_ret
      exact H.out
    · have H := Lib.hid (opened w (some ⟨b, off, none⟩) len cap (by omega) (.inr ⟨b, off, rfl, hlt, hc⟩))
      have hs : len ≤ 2000 := by omega
      clear hc
      go_enter Tryd.func31, Tryd.ntmps31
      go_wp2
      go_ret
      exact H.out
/-- What is known behind a draw of a pair. -/
def PairDrawn (w : World) (R k m : Nat) (e : Ending) (w' : World) : Prop :=
  ∃ p q : Int, e = .returned (pr p q) ∧ -5 ≤ p ∧ p ≤ 100 ∧ -5 ≤ q ∧ q ≤ 100 ∧ Rd w' R (k + m) ∧ w.grownBy w' (some R)
def BoolDrawn (w : World) (R k : Nat) (e : Ending) (w' : World) : Prop :=
  ∃ b : Bool, e = .returned (.bool b) ∧ Rd w' R (k + 1) ∧ w.grownBy w' (some R)
set_option maxHeartbeats 400000 in
theorem odd_any (R k : Nat) (n : Int) (w : World) (h : Rd w R k) (hk : k ≤ 500000000) (hn : n ≤ 1000000) :
    Calls Tryd.prog 47 #[.pointer (some ⟨R, 0, none⟩), .int .i64 n] w (BoolDrawn w R k) := by
  by_cases hn0 : 0 < n
  · go_enter Tryd.func47, Tryd.ntmps47
    go_wp2_with fail
    refine (pick_any R k n _ h (by omega) (by omega)).mono ?_
    rintro e w1 ⟨v1, rfl, va1, vb1, hR1, hh1⟩
    have vc1 : v1 ≤ max (n - 1) 0 := by omega
    clear vb1
    obtain ⟨hc1, hf1⟩ := gcell hh1
    have hz1 := hh1.size
    try simp only [World.size_alloc] at hz1
    go_wp2
    go_ret
    exact ⟨_, rfl, hR1, hh1⟩
  · have hn1 : n ≤ 0 := by omega
    go_enter Tryd.func47, Tryd.ntmps47
    go_wp2
    go_ret
    exact ⟨_, rfl, h.mono (by omega), ⟨rfl, rfl, rfl, Nat.le_refl _, fun _ _ _ => rfl⟩⟩
end Go.Proofs.YtigcomhhgfgmgaaDoor
namespace Go.Proofs.YtigcomhhgfgmgaaDoor
open Go.RowKit
theorem gr_refl (w : World) (R : Nat) : w.grownBy w (some R) := ⟨rfl, rfl, rfl, Nat.le_refl _, fun _ _ _ => rfl⟩
theorem gr_trans {w w1 w2 : World} {R : Nat} (h : w.grownBy w1 (some R)) (k : w1.grownBy w2 (some R)) : w.grownBy w2 (some R) :=
  ⟨k.os.trans h.os, k.tape.trans h.tape, k.output.trans h.output, Nat.le_trans h.size k.size, fun j hj hne => (k.block j (Nat.lt_of_lt_of_le hj h.size) hne).trans (h.block j hj hne)⟩
theorem gr_below {w w1 w2 : World} {R : Nat} (h : w.grownBy w1 (some R)) (k : Below w1.heap.size w1 w2) : w.grownBy w2 (some R) :=
  ⟨k.os.trans h.os, k.tape.trans h.tape, k.output.trans h.output, Nat.le_trans h.size k.size, fun j hj hne => (k.block j (Nat.lt_of_lt_of_le hj h.size)).trans (h.block j hj hne)⟩
theorem gr_alloc {w w1 : World} {R : Nat} (h : w.grownBy w1 (some R)) (o : Obj) : w.grownBy (w1.alloc o) (some R) := gr_below h ((Below.refl _ _).alloc (Nat.le_refl _) o)
theorem gr_set {w w1 : World} {R : Nat} (h : w.grownBy w1 (some R)) {p : Addr} (hp : w.heap.size ≤ p.block) (v : Value) : w.grownBy (w1.setCell p v) (some R) :=
  ⟨h.os, h.tape, h.output, by simpa [World.setCell] using h.size, fun j hj hne => (Below.heap_setCell _ _ _ _ (by omega)).trans (h.block j hj hne)⟩
theorem gr_drew {w w1 : World} {R : Nat} (h : w.grownBy w1 (some R)) : w.grownBy w1.drew (some R) := ⟨h.os, h.tape, h.output, h.size, h.block⟩
theorem seven {v : Int} (h0 : 0 ≤ v) (h1 : v ≤ 6) : v = 0 ∨ v = 1 ∨ v = 2 ∨ v = 3 ∨ v = 4 ∨ v = 5 ∨ v = 6 := by omega
theorem three {v : Int} (h0 : 0 ≤ v) (h1 : v ≤ 2) : v = 0 ∨ v = 1 ∨ v = 2 := by omega
end Go.Proofs.YtigcomhhgfgmgaaDoor
namespace Go.Proofs.YtigcomhhgfgmgaaDoor
open Go.RowKit Go.Shelf
/-- What a draw of a deed returns. -/
def DeedDrawn (w : World) (R k : Nat) (e : Ending) (w' : World) : Prop :=
  ∃ x y z : Int, e = .returned (.agg #[.int .i64 x, .int .i64 y, .int .i64 z]) ∧ Rd w' R (k + 6) ∧ w.grownBy w' (some R)
/-- Numbers in the first cells of a block, which may be written. -/
def NumsIn (w : World) (b : Nat) : Prop :=
  (∃ x y z : Int, w.cell? ⟨b, 0, none⟩ = some (.int .i64 x) ∧ w.cell? ⟨b, 1, none⟩ = some (.int .i64 y) ∧ w.cell? ⟨b, 2, none⟩ = some (.int .i64 z)) ∧ w.frozen? ⟨b, 0, none⟩ = false ∧ w.frozen? ⟨b, 1, none⟩ = false ∧ w.frozen? ⟨b, 2, none⟩ = false
/-- Numbers stay numbers. -/
def GrowI (R : Nat) (w w' : World) : Prop := w.heap.size ≤ w'.heap.size ∧ ∀ b i, b < w.heap.size → b ≠ R → (∀ x : Int, w.cell? ⟨b, i, none⟩ = some (.int .i64 x) → ∃ y : Int, w'.cell? ⟨b, i, none⟩ = some (.int .i64 y)) ∧ w'.frozen? ⟨b, i, none⟩ = w.frozen? ⟨b, i, none⟩
theorem growI_refl (R : Nat) (w : World) : GrowI R w w := ⟨Nat.le_refl _, fun _ _ _ _ => ⟨fun x h => ⟨x, h⟩, rfl⟩⟩
theorem growI_of {R : Nat} {w w' : World} (hg : w.grownBy w' (some R)) : GrowI R w w' :=
  ⟨hg.size, fun b i hb hne => ⟨fun x h => ⟨x, ((gcell hg).1 b i hb hne).trans h⟩, (gcell hg).2 b i hb hne⟩⟩
theorem growI_alloc (R : Nat) (w : World) (o : Obj) : GrowI R w (w.alloc o) := growI_of (gr_alloc (gr_refl w R) o)
theorem growI_store {R b : Nat} {w : World} {x y z n m l : Int} (c0 : w.cell? ⟨b, 0, none⟩ = some (.int .i64 x)) (c1 : w.cell? ⟨b, 1, none⟩ = some (.int .i64 y)) (c2 : w.cell? ⟨b, 2, none⟩ = some (.int .i64 z)) :
    GrowI R w (((w.setCell ⟨b, 0, none⟩ (.int .i64 n)).setCell ⟨b, 1, none⟩ (.int .i64 m)).setCell ⟨b, 2, none⟩ (.int .i64 l)) := by
  have one : ∀ (w : World) (o : Nat) (x n : Int), w.cell? ⟨b, o, none⟩ = some (.int .i64 x) → ∀ (b' i : Nat) (y : Int), w.cell? ⟨b', i, none⟩ = some (.int .i64 y) → ∃ z : Int, (w.setCell ⟨b, o, none⟩ (.int .i64 n)).cell? ⟨b', i, none⟩ = some (.int .i64 z) := fun w o x n hx b' i y hy => by
    by_cases e : b = b' ∧ o = i
    · obtain ⟨rfl, rfl⟩ := e
      exact ⟨n, World.cell?_setCell_same' _ _ _ (by rw [hx]; rfl)⟩
    · exact ⟨y, (World.cell?_setCell_other _ _ _ _ (fun h => e (by injection h with h1 h2; exact ⟨h1, h2⟩))).trans hy⟩
  refine ⟨by simp [World.setCell], fun b' i _ _ => ⟨fun u hu => ?_, by rw [World.frozen?_setCell, World.frozen?_setCell, World.frozen?_setCell]⟩⟩
  obtain ⟨u1, h1⟩ := one w 0 x n c0 b' i u hu
  obtain ⟨d1, g1⟩ := one w 0 x n c0 b 1 y c1
  obtain ⟨d2, g2⟩ := one w 0 x n c0 b 2 z c2
  obtain ⟨u2, h2⟩ := one _ 1 d1 m g1 b' i u1 h1
  obtain ⟨d3, g3⟩ := one _ 1 d1 m g1 b 2 d2 g2
  exact one _ 2 d3 l g3 b' i u2 h2
theorem growI_set {R b o : Nat} {w : World} {x : Int} (n : Int) (c : w.cell? ⟨b, o, none⟩ = some (.int .i64 x)) : GrowI R w (w.setCell ⟨b, o, none⟩ (.int .i64 n)) := by
  refine ⟨by simp [World.setCell], fun b' i _ _ => ⟨fun u hu => ?_, by rw [World.frozen?_setCell]⟩⟩
  by_cases e : b = b' ∧ o = i
  · obtain ⟨rfl, rfl⟩ := e
    exact ⟨n, World.cell?_setCell_same' _ _ _ (by rw [c]; rfl)⟩
  · exact ⟨u, (World.cell?_setCell_other _ _ _ _ (fun h => e (by injection h with h1 h2; exact ⟨h1, h2⟩))).trans hu⟩
theorem NumsIn.grow {R b : Nat} {w w' : World} (h : w.heap.size > b ∧ NumsIn w b) (hg : GrowI R w w') (hb : b ≠ R) : w'.heap.size > b ∧ NumsIn w' b := by
  obtain ⟨hl, ⟨x, y, z, c0, c1, c2⟩, f0, f1, f2⟩ := h
  obtain ⟨hs, hg⟩ := hg
  obtain ⟨x', d0⟩ := (hg b 0 hl hb).1 x c0
  obtain ⟨y', d1⟩ := (hg b 1 hl hb).1 y c1
  obtain ⟨z', d2⟩ := (hg b 2 hl hb).1 z c2
  exact ⟨Nat.lt_of_lt_of_le hl hs, ⟨x', y', z', d0, d1, d2⟩, (hg b 0 hl hb).2.trans f0, (hg b 1 hl hb).2.trans f1, (hg b 2 hl hb).2.trans f2⟩
theorem numsIn_new (w : World) (t : TypeId) : NumsIn (w.alloc (.cells #[.int .i64 0, .int .i64 0, .int .i64 0] t)) w.heap.size := by
  refine ⟨⟨0, 0, 0, ?_, ?_, ?_⟩, ?_, ?_, ?_⟩
  · exact World.cell?_alloc_mark _ _ _ _ _
  · exact World.cell?_alloc_mark _ _ _ _ _
  · exact World.cell?_alloc_mark _ _ _ _ _
  all_goals (unfold World.frozen?; rw [heap_alloc_new]; simp)
theorem seven_is {j : Nat} (h : j < 7) : ∃ x : Int, (#[.int .i64 0, .int .i64 0, .int .i64 0, .int .i64 1, .int .i64 2, .int .i64 3, .int .i64 4] : Array Value)[j]? = some (.int .i64 x) := by
  rcases (show j = 0 ∨ j = 1 ∨ j = 2 ∨ j = 3 ∨ j = 4 ∨ j = 5 ∨ j = 6 by omega) with rfl | rfl | rfl | rfl | rfl | rfl | rfl <;> exact ⟨_, rfl⟩
/-- What each of the operations leaves. -/
def deedP (w0 R j : Nat) (v : Value) (w : World) : Prop :=
  match j with
  | 0 => ∃ b, v = .slice (some ⟨b, 0, none⟩) 7 7 ∧ b ≠ R ∧ b < w.heap.size ∧ ∀ i, i < 7 → ∃ x : Int, w.cell? ⟨b, i, none⟩ = some (.int .i64 x)
  | 1 => v = .pointer (some ⟨R, 0, none⟩)
  | 2 => ∃ n : Int, v = .int .i64 n ∧ 0 ≤ n ∧ n ≤ 6
  | 3 => ∃ b i x, v = .pointer (some ⟨b, i, none⟩) ∧ b ≠ R ∧ b < w.heap.size ∧ w.cell? ⟨b, i, none⟩ = some (.int .i64 x)
  | 5 => v = .pointer (some ⟨R, 0, none⟩)
  | 6 => ∃ n : Int, v = .int .i64 n ∧ 0 ≤ n ∧ n ≤ 59
  | 7 => ∃ n : Int, v = .int .i64 n ∧ 0 ≤ n ∧ n ≤ 1
  | 8 => ∃ n : Int, v = .int .i64 n ∧ 0 ≤ n ∧ n ≤ 5
  | 10 => ∃ n : Int, v = .agg #[.int .i64 n, .int .i64 0, .int .i64 0]
  | 11 => ∃ b, v = .pointer (some ⟨b, 0, none⟩) ∧ b ≠ R ∧ (w0 < b ∧ b < w.heap.size) ∧ NumsIn w b
  | _ => ∃ n : Int, v = .int .i64 n
theorem deedP_mono (w0 R j : Nat) (v : Value) (w w' : World) (hg : GrowI R w w') (h : deedP w0 R j v w) : deedP w0 R j v w' := by
  unfold deedP at *
  split at h
  · obtain ⟨b, e, h1, h2, h3⟩ := h
    refine ⟨b, e, h1, Nat.lt_of_lt_of_le h2 hg.1, fun i hi => ?_⟩
    obtain ⟨x, hx⟩ := h3 i hi
    exact (hg.2 b i h2 h1).1 x hx
  · exact h
  · exact h
  · obtain ⟨b, i, x, e, h1, h2, h3⟩ := h
    obtain ⟨y, hy⟩ := (hg.2 b i h2 h1).1 x h3
    exact ⟨b, i, y, e, h1, Nat.lt_of_lt_of_le h2 hg.1, hy⟩
  · exact h
  · exact h
  · exact h
  · exact h
  · exact h
  · obtain ⟨b, e, h1, h2, h3⟩ := h
    obtain ⟨h4, h5⟩ := NumsIn.grow ⟨h2.2, h3⟩ hg h1
    exact ⟨b, e, h1, ⟨h2.1, h4⟩, h5⟩
  · exact h
def indD (l : Array Bool) (j : Nat) : Nat := if l.getD j false = true then 1 else 0
/-- How many picks have come up. -/
def deedC (l : Array Bool) : Nat := indD l 2 + indD l 6
theorem indD_le (l : Array Bool) (j : Nat) : indD l j ≤ 1 := by unfold indD; split <;> omega
theorem indD_other {l : Array Bool} {i j : Nat} (h : i ≠ j) : indD (l.setIfInBounds i true) j = indD l j := by unfold indD; rw [getD_set_other _ h]
theorem indD_self {l : Array Bool} {i : Nat} (h : l.getD i true = false) : indD (l.setIfInBounds i true) i = indD l i + 1 := by
  have h1 := getD_set_self h
  have h2 : l.getD i false = false := by
    rcases Nat.lt_or_ge i l.size with hx | hx
    · simp [Array.getD_eq_getD_getElem?, hx] at h ⊢; exact h
    · simp [Array.getD_eq_getD_getElem?, Array.getElem?_eq_none hx]
  unfold indD; rw [if_pos h1, if_neg (by rw [h2]; simp)]
theorem deedC_le (l : Array Bool) : deedC l ≤ 2 := by
  have := indD_le l 2; have := indD_le l 6
  unfold deedC; omega
theorem deedC_other {l : Array Bool} {i : Nat} (h1 : i ≠ 2) (h3 : i ≠ 6) : deedC (l.setIfInBounds i true) = deedC l := by
  unfold deedC; rw [indD_other h1, indD_other h3]
theorem deedC_2 {l : Array Bool} (h : l.getD 2 true = false) : deedC (l.setIfInBounds 2 true) = deedC l + 1 := by
  unfold deedC; rw [indD_self h, indD_other (i := 2) (j := 6) (by decide)]; omega
theorem deedC_6 {l : Array Bool} (h : l.getD 6 true = false) : deedC (l.setIfInBounds 6 true) = deedC l + 1 := by
  unfold deedC; rw [indD_self h, indD_other (i := 6) (j := 2) (by decide)]; omega
theorem arr35 (t : Array Value) (h : t.size = 35) : t = #[t.getD 0 undef, t.getD 1 undef, t.getD 2 undef, t.getD 3 undef, t.getD 4 undef, t.getD 5 undef, t.getD 6 undef, t.getD 7 undef, t.getD 8 undef, t.getD 9 undef, t.getD 10 undef, t.getD 11 undef, t.getD 12 undef, t.getD 13 undef, t.getD 14 undef, t.getD 15 undef, t.getD 16 undef, t.getD 17 undef, t.getD 18 undef, t.getD 19 undef, t.getD 20 undef, t.getD 21 undef, t.getD 22 undef, t.getD 23 undef, t.getD 24 undef, t.getD 25 undef, t.getD 26 undef, t.getD 27 undef, t.getD 28 undef, t.getD 29 undef, t.getD 30 undef, t.getD 31 undef, t.getD 32 undef, t.getD 33 undef, t.getD 34 undef] := by
  apply Array.ext
  · simpa using h
  · intro i h1 h2
    have h3 : i < 35 := by omega
    rcases (show i = 0 ∨ i = 1 ∨ i = 2 ∨ i = 3 ∨ i = 4 ∨ i = 5 ∨ i = 6 ∨ i = 7 ∨ i = 8 ∨ i = 9 ∨ i = 10 ∨ i = 11 ∨ i = 12 ∨ i = 13 ∨ i = 14 ∨ i = 15 ∨ i = 16 ∨ i = 17 ∨ i = 18 ∨ i = 19 ∨ i = 20 ∨ i = 21 ∨ i = 22 ∨ i = 23 ∨ i = 24 ∨ i = 25 ∨ i = 26 ∨ i = 27 ∨ i = 28 ∨ i = 29 ∨ i = 30 ∨ i = 31 ∨ i = 32 ∨ i = 33 ∨ i = 34 by omega) with rfl | rfl | rfl | rfl | rfl | rfl | rfl | rfl | rfl | rfl | rfl | rfl | rfl | rfl | rfl | rfl | rfl | rfl | rfl | rfl | rfl | rfl | rfl | rfl | rfl | rfl | rfl | rfl | rfl | rfl | rfl | rfl | rfl | rfl | rfl <;> simp [Array.getD, h]
theorem act35 (t : Array Value) (h : t.size = 35) (v0 v2 v3 : Value) (h0 : t.getD 0 undef = v0) (h2 : t.getD 2 undef = v2) (h3 : t.getD 3 undef = v3) : ∃ u1 u4 u5 u6 u7 u8 u9 u10 u11 u12 u13 u14 u15 u16 u17 u18 u19 u20 u21 u22 u23 u24 u25 u26 u27 u28 u29 u30 u31 u32 u33 u34 : Value, t = #[v0, u1, v2, v3, u4, u5, u6, u7, u8, u9, u10, u11, u12, u13, u14, u15, u16, u17, u18, u19, u20, u21, u22, u23, u24, u25, u26, u27, u28, u29, u30, u31, u32, u33, u34] :=
  ⟨_, _, _, _, _, _, _, _, _, _, _, _, _, _, _, _, _, _, _, _, _, _, _, _, _, _, _, _, _, _, _, _, by rw [← h0, ← h2, ← h3]; exact arr35 t h⟩
/-- A deed under way, in a variable of its own. -/
def Half (w : World) (R k : Nat) (s : Value) (wx : World) : Prop :=
  ∃ b, s = .pointer (some ⟨b, 0, none⟩) ∧ b ≠ R ∧ w.heap.size < b ∧ (wx.heap.size > b ∧ NumsIn wx b) ∧ (wx.heap.size > w.heap.size ∧ NumsIn wx w.heap.size) ∧ Rd wx R k ∧ w.grownBy wx (some R)
set_option linter.unusedSimpArgs false in
set_option maxRecDepth 100000 in
set_option maxHeartbeats 16000000 in
theorem l20Deed_any (R k : Nat) (w : World) (h : Rd w R k) (hk : k ≤ 1000000) :
    Calls Tryd.prog 30 #[.pointer (some ⟨R, 0, none⟩)] w (DeedDrawn w R k) := by
  have hen : ∀ (args : Array Value) (w : World), (callFunc 42 args).run Tryd.prog w = .ok (.enter 42 args) w := enters_of Tryd.func42 (by kernel_rfl) rfl
  have hRlt := h.lt
  have hR0 : w.heap.size ≠ R := by omega
  go_enter Tryd.func30, Tryd.ntmps30
  go_wp2_with fail
  rename_i K hK
  refine wp_region_stores (PP := deedP w.heap.size R) (Grow := GrowI R) (G := fun l w' => w.grownBy w' (some R) ∧ Rd w' R (k + deedC l) ∧ w'.heap.size > w.heap.size ∧ NumsIn w' w.heap.size) (by kernel_rfl) (dis_of2 (by kernel_rfl)) (b_of (by kernel_rfl)) (back_of (by kernel_rfl)) (fun j u w1 w2 hg hp => deedP_mono _ R j u w1 w2 hg hp) ⟨gr_drew (gr_alloc (gr_refl _ _) _), h.alloc _, (show w.heap.size < (w.alloc (.cells #[.int .i64 0, .int .i64 0, .int .i64 0] 24)).heap.size by simp), numsIn_new w _⟩ ?step ?fin
  case step =>
    intro i o hi listed a w1 hS hG hall hl
    have hi25 : i < 13 := (Array.getElem?_eq_some_iff.1 hi).1
    rcases (show i = 0 ∨ i = 1 ∨ i = 2 ∨ i = 3 ∨ i = 4 ∨ i = 5 ∨ i = 6 ∨ i = 7 ∨ i = 8 ∨ i = 9 ∨ i = 10 ∨ i = 11 ∨ i = 12 by omega) with rfl | rfl | rfl | rfl | rfl | rfl | rfl | rfl | rfl | rfl | rfl | rfl | rfl
    · obtain rfl := Option.some.inj hi
      refine op_value (v := .slice (some ⟨w1.heap.size, 0, none⟩) 7 7) (w' := w1.alloc (.cells #[.int .i64 0, .int .i64 0, .int .i64 0, .int .i64 1, .int .i64 2, .int .i64 3, .int .i64 4] 3)) rfl rfl (by intro ev ht hc hf; simp [execOp, ht, hc, hf, go_sem]) ⟨.inl ⟨_, 4, rfl, rfl, ⟨w1.heap.size, rfl, by have := hG.2.1.lt; omega, by simp, fun j hj => by rw [World.cell?_alloc_mark]; exact seven_is hj⟩⟩, growI_alloc _ _ _, gr_alloc hG.1 _, by rw [deedC_other (by decide) (by decide)]; exact hG.2.1.alloc _, NumsIn.grow hG.2.2 (growI_alloc _ _ _) hR0⟩
    · obtain rfl := Option.some.inj hi
      have e0 : a.eval (.tmp 0) = .pointer (some ⟨R, 0, none⟩) := hS.2.2.1 0 (noDst_of (by kernel_rfl))
      refine op_value (v := .pointer (some ⟨R, 0, none⟩)) (w' := w1) rfl rfl (by intro ev ht hc hf; rw [← ht] at e0; simp [execOp, hc, hf, e0, go_sem]) ⟨.inl ⟨_, 5, rfl, rfl, rfl⟩, growI_refl _ _, ⟨hG.1, by rw [deedC_other (by decide) (by decide)]; exact hG.2.1, hG.2.2⟩⟩
    · obtain rfl := Option.some.inj hi
      have P1 := hS.2.2.2 1 _ 5 rfl rfl (hall { on := 1, ground := .data } (by simp) rfl)
      replace P1 : a.eval (.tmp 5) = .pointer (some ⟨R, 0, none⟩) := P1
      refine op_enter rfl rfl (f := 42) (args := #[.pointer (some ⟨R, 0, none⟩), .int .i64 7]) (w' := w1) (by intro ev ht hc hf; rw [← ht] at P1; simp [execOp, hc, hf, P1, go_sem, hen]) ?_
      refine (pick_any R (k + deedC listed) 7 w1 hG.2.1 (by have := deedC_le listed; omega) (by omega)).mono ?_
      rintro e w2 ⟨v, rfl, va, vb, hR, hg⟩
      exact ⟨_, rfl, .inl ⟨_, 6, rfl, rfl, ⟨v, rfl, va, by show v ≤ (6 : Int); omega⟩⟩, growI_of hg, gr_trans hG.1 hg, by rw [deedC_2 hl]; exact hR, NumsIn.grow hG.2.2 (growI_of hg) hR0⟩
    · obtain rfl := Option.some.inj hi
      have P0 := hS.2.2.2 0 _ 4 rfl rfl (hall { on := 0, ground := .data } (by simp) rfl)
      obtain ⟨b, eb, hbR, hbl, hbc⟩ := P0
      have P2 := hS.2.2.2 2 _ 6 rfl rfl (hall { on := 2, ground := .data } (by simp) rfl)
      obtain ⟨n2, e2, l2, h2⟩ := P2
      have hb4 : n2 < 7 := by omega
      obtain ⟨x, hx⟩ := hbc n2.toNat (by omega)
      refine op_value (v := .pointer (some ⟨b, n2.toNat, none⟩)) (w' := w1) rfl rfl (by intro ev ht hc hf; rw [← ht] at eb e2; simp [execOp, hc, hf, eb, e2, go_sem, l2, hb4]) ⟨.inl ⟨_, 7, rfl, rfl, ⟨b, n2.toNat, x, rfl, hbR, hbl, hx⟩⟩, growI_refl _ _, ⟨hG.1, by rw [deedC_other (by decide) (by decide)]; exact hG.2.1, hG.2.2⟩⟩
    · obtain rfl := Option.some.inj hi
      have P3 := hS.2.2.2 3 _ 7 rfl rfl (hall { on := 3, ground := .data } (by simp) rfl)
      obtain ⟨b, j, x, ep, hbR, hbl, hx⟩ := P3
      refine op_value (v := .int .i64 x) (w' := w1) rfl rfl (by intro ev ht hc hf; rw [← ht] at ep; simp [execOp, hc, hf, ep, go_sem, hx]) ⟨.inl ⟨_, 8, rfl, rfl, ⟨x, rfl⟩⟩, growI_refl _ _, ⟨hG.1, by rw [deedC_other (by decide) (by decide)]; exact hG.2.1, hG.2.2⟩⟩
    · obtain rfl := Option.some.inj hi
      have e0 : a.eval (.tmp 0) = .pointer (some ⟨R, 0, none⟩) := hS.2.2.1 0 (noDst_of (by kernel_rfl))
      refine op_value (v := .pointer (some ⟨R, 0, none⟩)) (w' := w1) rfl rfl (by intro ev ht hc hf; rw [← ht] at e0; simp [execOp, hc, hf, e0, go_sem]) ⟨.inl ⟨_, 9, rfl, rfl, rfl⟩, growI_refl _ _, ⟨hG.1, by rw [deedC_other (by decide) (by decide)]; exact hG.2.1, hG.2.2⟩⟩
    · obtain rfl := Option.some.inj hi
      have P5 := hS.2.2.2 5 _ 9 rfl rfl (hall { on := 5, ground := .data } (by simp) rfl)
      replace P5 : a.eval (.tmp 9) = .pointer (some ⟨R, 0, none⟩) := P5
      refine op_enter rfl rfl (f := 42) (args := #[.pointer (some ⟨R, 0, none⟩), .int .i64 60]) (w' := w1) (by intro ev ht hc hf; rw [← ht] at P5; simp [execOp, hc, hf, P5, go_sem, hen]) ?_
      refine (pick_any R (k + deedC listed) 60 w1 hG.2.1 (by have := deedC_le listed; omega) (by omega)).mono ?_
      rintro e w2 ⟨v, rfl, va, vb, hR, hg⟩
      exact ⟨_, rfl, .inl ⟨_, 10, rfl, rfl, ⟨v, rfl, va, by show v ≤ (59 : Int); omega⟩⟩, growI_of hg, gr_trans hG.1 hg, by rw [deedC_6 hl]; exact hR, NumsIn.grow hG.2.2 (growI_of hg) hR0⟩
    · obtain rfl := Option.some.inj hi
      have P6 := hS.2.2.2 6 _ 10 rfl rfl (hall { on := 6, ground := .data } (by simp) rfl)
      obtain ⟨n6, e6, l6, h6⟩ := P6
      have vt : n6.tdiv 59 = n6 / 59 := Int.tdiv_eq_ediv_of_nonneg l6
      have vw : IntKind.i64.wrap (n6 / 59) = n6 / 59 := by rw [IntKind.wrap_i64]; omega
      refine op_value (v := .int .i64 (n6 / 59)) (w' := w1) rfl rfl (by intro ev ht hc hf; rw [← ht] at e6; simp [execOp, hc, hf, e6, vt, vw, go_sem]) ⟨.inl ⟨_, 11, rfl, rfl, ⟨n6 / 59, rfl, by omega, by omega⟩⟩, growI_refl _ _, ⟨hG.1, by rw [deedC_other (by decide) (by decide)]; exact hG.2.1, hG.2.2⟩⟩
    · obtain rfl := Option.some.inj hi
      have P7 := hS.2.2.2 7 _ 11 rfl rfl (hall { on := 7, ground := .data } (by simp) rfl)
      obtain ⟨n7, e7, l7, h7⟩ := P7
      have vw : IntKind.i64.wrap (n7 * 5) = n7 * 5 := by rw [IntKind.wrap_i64]; omega
      refine op_value (v := .int .i64 (n7 * 5)) (w' := w1) rfl rfl (by intro ev ht hc hf; rw [← ht] at e7; simp [execOp, hc, hf, e7, vw, go_sem]) ⟨.inl ⟨_, 12, rfl, rfl, ⟨n7 * 5, rfl, by omega, by omega⟩⟩, growI_refl _ _, ⟨hG.1, by rw [deedC_other (by decide) (by decide)]; exact hG.2.1, hG.2.2⟩⟩
    · obtain rfl := Option.some.inj hi
      have P4 := hS.2.2.2 4 _ 8 rfl rfl (hall { on := 4, ground := .data } (by simp) rfl)
      obtain ⟨n4, e4⟩ := P4
      have P8 := hS.2.2.2 8 _ 12 rfl rfl (hall { on := 8, ground := .data } (by simp) rfl)
      obtain ⟨n8, e8, l8, h8⟩ := P8
      refine op_value (v := .int .i64 (IntKind.i64.wrap (n4 + n8))) (w' := w1) rfl rfl (by intro ev ht hc hf; rw [← ht] at e4 e8; simp [execOp, hc, hf, e4, e8, go_sem]) ⟨.inl ⟨_, 13, rfl, rfl, ⟨_, rfl⟩⟩, growI_refl _ _, ⟨hG.1, by rw [deedC_other (by decide) (by decide)]; exact hG.2.1, hG.2.2⟩⟩
    · obtain rfl := Option.some.inj hi
      have P9 := hS.2.2.2 9 _ 13 rfl rfl (hall { on := 9, ground := .data } (by simp) rfl)
      obtain ⟨n9, e9⟩ := P9
      refine op_value (v := .agg #[.int .i64 n9, .int .i64 0, .int .i64 0]) (w' := w1) rfl rfl (by intro ev ht hc hf; rw [← ht] at e9; simp [execOp, hc, hf, e9, go_sem]; try go_simp) ⟨.inl ⟨_, 14, rfl, rfl, ⟨n9, rfl⟩⟩, growI_refl _ _, ⟨hG.1, by rw [deedC_other (by decide) (by decide)]; exact hG.2.1, hG.2.2⟩⟩
    · obtain rfl := Option.some.inj hi
      refine op_value (v := .pointer (some ⟨w1.heap.size, 0, none⟩)) (w' := w1.alloc (.cells #[.int .i64 0, .int .i64 0, .int .i64 0] 24)) rfl rfl (by intro ev ht hc hf; simp [execOp, ht, hc, hf, go_sem]; try go_simp) ⟨.inl ⟨_, 3, rfl, rfl, ⟨w1.heap.size, rfl, by have := hG.2.1.lt; omega, ⟨hG.2.2.1, by simp⟩, numsIn_new _ _⟩⟩, growI_alloc _ _ _, gr_alloc hG.1 _, by rw [deedC_other (by decide) (by decide)]; exact hG.2.1.alloc _, NumsIn.grow hG.2.2 (growI_alloc _ _ _) hR0⟩
    · obtain rfl := Option.some.inj hi
      have P11 := hS.2.2.2 11 _ 3 rfl rfl (hall { on := 11, ground := .data } (by simp) rfl)
      obtain ⟨b, eb, hbR, ⟨hb1, hb2⟩, ⟨x, y, z, c0, c1, c2⟩, f0, f1, f2⟩ := P11
      have P10 := hS.2.2.2 10 _ 14 rfl rfl (hall { on := 10, ground := .data } (by simp) rfl)
      obtain ⟨n, en⟩ := P10
      have hbR' : R < b := by omega
      refine op_store (w' := ((w1.setCell ⟨b, 0, none⟩ (.int .i64 n)).setCell ⟨b, 1, none⟩ (.int .i64 0)).setCell ⟨b, 2, none⟩ (.int .i64 0)) rfl rfl rfl (by intro ev ht hc hf; rw [← ht] at eb en; simp [execOp, hc, hf, eb, en, go_sem, c0, c1, c2, f0, f1, f2]; try go_simp) ⟨.inr ⟨rfl, rfl⟩, growI_store c0 c1 c2, gr_set (gr_set (gr_set hG.1 (by show _ ≤ b; omega) _) (by show _ ≤ b; omega) _) (by show _ ≤ b; omega) _, by rw [deedC_other (by decide) (by decide)]; exact ((hG.2.1.set (q := ⟨b, 0, none⟩) hbR' _).set (q := ⟨b, 1, none⟩) hbR' _).set (q := ⟨b, 2, none⟩) hbR' _, NumsIn.grow hG.2.2 (growI_store c0 c1 c2) hR0⟩
  case fin =>
    intro listed a w1 hall hS hG
    obtain ⟨b, e3, hbR, ⟨hb1, hb2⟩, hbN⟩ := hS.2.2.2 11 _ 3 rfl rfl (hall 11 (by decide))
    have e0 : a.eval (.tmp 0) = .pointer (some ⟨R, 0, none⟩) := hS.2.2.1 0 (noDst_of (by kernel_rfl))
    have e2 : a.eval (.tmp 2) = .pointer (some ⟨w.heap.size, 0, none⟩) := hS.2.2.1 2 (noDst_of (by kernel_rfl))
    have hd : a.defers = [] := hS.1
    have hsz : a.tmps.size = 35 := hS.2.1
    have hR1 : Rd w1 R (k + 2) := hG.2.1.mono (by have := deedC_le listed; omega)
    have hg1 := hG.1
    have hN1 : w1.heap.size > b ∧ NumsIn w1 b := ⟨hb2, hbN⟩
    have hM1 := hG.2.2
    obtain ⟨t, d⟩ := a
    clear hS hG hall
    dsimp only at hd hsz
    subst hd
    obtain ⟨u1, u4, u5, u6, u7, u8, u9, u10, u11, u12, u13, u14, u15, u16, u17, u18, u19, u20, u21, u22, u23, u24, u25, u26, u27, u28, u29, u30, u31, u32, u33, u34, rfl⟩ := act35 t hsz _ _ _ e0 e2 e3
    clear e0 e2 e3 hsz hen
    refine hK _ _ ?_
    clear hK K
    obtain ⟨_, ⟨x, y, z, c0, c1, c2⟩, f0, f1, f2⟩ := id hN1
    obtain ⟨_, ⟨rx, ry, rz, r0, r1, r2⟩, t0, t1, t2⟩ := id hM1
    go_upto_if 17 with fail
    go_cut [3] from 4 (fun s3 wx => Half w R (k + 4) s3 wx)
    case first =>
      by_cases hx0 : x = 0
      · subst hx0
        go_wp2_with fail
        refine (pick_any R (k + 2) 11 _ hR1 (by omega) (by omega)).mono ?_
        rintro e w2 ⟨v2, rfl, va2, vb2, hR2, hh2⟩
        have hN2 := NumsIn.grow hN1 (growI_of hh2) hbR
        have hM2 := NumsIn.grow hM1 (growI_of hh2) hR0
        clear c0 c1 c2 f0 f1 f2 r0 r1 r2 t0 t1 t2
        obtain ⟨_, ⟨x2, y2, z2, c0, c1, c2⟩, f0, f1, f2⟩ := id hN2
        have hN3 := NumsIn.grow hN2 (growI_set (IntKind.i64.wrap (v2 - 5)) c1) hbR
        have hM3 := NumsIn.grow hM2 (growI_set (R := R) (IntKind.i64.wrap (v2 - 5)) c1) hR0
        have hRb : R < b := by omega
        have hR3 := hR2.set (q := ⟨b, 1, none⟩) hRb (.int .i64 (IntKind.i64.wrap (v2 - 5)))
        have w25 : IntKind.i64.wrap (v2 - 5) = v2 - 5 := by rw [IntKind.wrap_i64]; omega
        rw [w25] at hN3 hM3 hR3
        have hg3 : w.grownBy (w2.setCell ⟨b, 1, none⟩ (.int .i64 (v2 - 5))) (some R) := gr_set (gr_trans hg1 hh2) (by show _ ≤ b; omega) _
        go_wp2_with fail
        refine (pick_any R (k + 3) 11 _ hR3 (by omega) (by omega)).mono ?_
        rintro e w4 ⟨v4, rfl, va4, vb4, hR4, hh4⟩
        have hN4 := NumsIn.grow hN3 (growI_of hh4) hbR
        have hM4 := NumsIn.grow hM3 (growI_of hh4) hR0
        clear c0 c1 c2 f0 f1 f2
        obtain ⟨_, ⟨x4, y4, z4, c0, c1, c2⟩, f0, f1, f2⟩ := id hN4
        have w45 : IntKind.i64.wrap (v4 - 5) = v4 - 5 := by rw [IntKind.wrap_i64]; omega
        go_wp2_with fail
        go_meet
        case rel => exact ⟨b, rfl, hbR, hb1, NumsIn.grow hN4 (growI_set _ c2) hbR, NumsIn.grow hM4 (growI_set (R := R) _ c2) hR0, hR4.set (q := ⟨b, 2, none⟩) hRb _, gr_set (gr_trans hg3 hh4) (by show _ ≤ b; omega) _⟩
      · go_wp2_with fail
        go_meet
        case rel => exact ⟨b, rfl, hbR, hb1, hN1, hM1, hR1.mono (by omega), hg1⟩
    clear c0 c1 c2 f0 f1 f2 r0 r1 r2 t0 t1 t2
    obtain ⟨b', rfl, hbR', hb1', hN2, hM2, hR2, hg2⟩ := hcut
    rename World => w2
    go_wp2_with fail
    refine (odd_any R (k + 4) 40 _ hR2 (by omega) (by omega)).mono ?_
    rintro e w3 ⟨bb, rfl, hR3, hh3⟩
    have hN3 := NumsIn.grow hN2 (growI_of hh3) hbR'
    have hM3 := NumsIn.grow hM2 (growI_of hh3) hR0
    have hg3 := gr_trans hg2 hh3
    have hRb : R < b' := by omega
    clear hN2 hM2 hg2 hh3 hR2
    go_upto_if 27 with fail
    go_cut [3] from 4 (fun s3 wx => Half w R (k + 6) s3 wx)
    case first =>
      cases bb with
      | true =>
        go_wp2_with fail
        refine (pick_any R (k + 5) 3 _ (hR3.alloc _) (by omega) (by omega)).mono ?_
        rintro e w4 ⟨v4, rfl, va4, vb4, hR4, hh4⟩
        have hN4 := NumsIn.grow (NumsIn.grow hN3 (growI_alloc R _ _) hbR') (growI_of hh4) hbR'
        have hM4 := NumsIn.grow (NumsIn.grow hM3 (growI_alloc R _ _) hR0) (growI_of hh4) hR0
        obtain ⟨_, ⟨x4, y4, z4, c0, c1, c2⟩, f0, f1, f2⟩ := id hN4
        have hz3 := hR3.lt
        have hz4 := hh4.size
        simp at hz4
        have hg4 := gr_trans (gr_alloc hg3 (.cells #[.int .i64 (-10), .int .i64 10, .int .i64 1] 3)) hh4
        have hcv : ∃ x : Int, w4.cell? ⟨w3.heap.size, v4.toNat, none⟩ = some (.int .i64 x) := by
          rcases (show v4 = 0 ∨ v4 = 1 ∨ v4 = 2 by omega) with rfl | rfl | rfl
          · exact ⟨-10, ((gcell hh4).1 w3.heap.size 0 (by simp) (by omega)).trans (by go_simp)⟩
          · exact ⟨10, ((gcell hh4).1 w3.heap.size 1 (by simp) (by omega)).trans (by go_simp)⟩
          · exact ⟨1, ((gcell hh4).1 w3.heap.size 2 (by simp) (by omega)).trans (by go_simp)⟩
        obtain ⟨u, hu⟩ := hcv
        have v43 : v4 < 3 := by omega
        go_wp2_with fail
        go_meet
        case rel => exact ⟨b', rfl, hbR', hb1', NumsIn.grow hN4 (growI_set _ c2) hbR', NumsIn.grow hM4 (growI_set (R := R) _ c2) hR0, hR4.set (q := ⟨b', 2, none⟩) hRb _, gr_set hg4 (by show _ ≤ b'; omega) _⟩
      | false =>
        go_wp2_with fail
        go_meet
        case rel => exact ⟨b', rfl, hbR', hb1', hN3, hM3, hR3.mono (by omega), hg3⟩
    clear hN3 hM3 hR3 hg3
    obtain ⟨b4, rfl, hbR4, hb4, hN4, hM4, hR4, hg4⟩ := hcut
    rename World => w4
    obtain ⟨_, ⟨x, y, z, c0, c1, c2⟩, f0, f1, f2⟩ := id hN4
    obtain ⟨_, ⟨rx, ry, rz, r0, r1, r2⟩, t0, t1, t2⟩ := id hM4
    have hRw : R < w.heap.size := hRlt
    go_wp2_with fail
    refine bodyPost_ret (v := .agg #[.int .i64 x, .int .i64 y, .int .i64 z]) (by simp [results, Tryd.results30, go_sem]; go_simp) rfl ⟨x, y, z, rfl, ?_, ?_⟩
    · exact ((hR4.set (q := ⟨w.heap.size, 0, none⟩) hRw _).set (q := ⟨w.heap.size, 1, none⟩) hRw _).set (q := ⟨w.heap.size, 2, none⟩) hRw _
    · exact gr_set (gr_set (gr_set hg4 (Nat.le_refl _) _) (Nat.le_refl _) _) (Nat.le_refl _) _
end Go.Proofs.YtigcomhhgfgmgaaDoor
namespace Go.Proofs.YtigcomhhgfgmgaaDoor
open Go.RowKit
section
variable {P : Program} (w : World)
theorem run_append_keeps (t ty : TypeId) (base : Nat) (e : TypeId) (i : TypeInfo) (z : Value) (size bytes : Nat) (ht : P.underlying t = some (.slice e)) (hi : P.info? e = some i) (hz : i.zero = some z)
    (hsize : i.size = size) (hby : i.bytes = bytes) (hzs : z.cells.size = size) (hsz : 0 < size)
    (g0 n c0 : Nat) (xs : List Value) (hown : w.ownsRow base e size (.slice (some ⟨g0, 0, none⟩) n c0) n xs)
    (ad : Addr) (m c : Nat) (news : List Value) (hl : news.length = m * size) (hnews : ∀ j u, news[j]? = some u → w.cell? (ad.add j) = some u) (h1 : ∀ u ∈ news, u.oneCell' = true)
    (hm : 0 < m) (h63 : n + m ≤ maxLen) (hbytes : (n + m) * bytes ≤ 140737488355328) (hbase : base ≤ w.heap.size) (H : Nat) (hH : w.heap.size = H) :
    ∃ g cap w', (Builtin.append_ #[t, t] ty #[.slice (some ⟨g0, 0, none⟩) n c0, .slice (some ad) m c]).run P w = .ok (.slice (some ⟨g, 0, none⟩) (n + m) cap) w' ∧
      w'.ownsRow base e size (.slice (some ⟨g, 0, none⟩) (n + m) cap) (n + m) (xs ++ news) ∧ w.grownBy w' (some g0) ∧ (g = g0 ∨ g = H) ∧ g < w'.heap.size ∧
      ∀ j u, xs[j]? = some u → w'.cell? ((⟨g0, 0, none⟩ : Addr).add j) = some u := by
  obtain ⟨g, cap, w', hr, h2, h3, h4, h5⟩ := run_append_lies (P := P) w t ty base e i z size bytes ht hi hz hsize hby hzs hsz _ n xs hown ad m c news hl hnews h1 hm h63 hbytes hbase H hH
  have h4' : g = g0 ∨ g = H := by
    rcases h4 with h4 | h4
    · left; simpa [Value.ownBlock] using h4.symm
    · exact .inr h4
  refine ⟨g, cap, w', hr, h2, h3, h4', h5, ?_⟩
  have holds := hown.cells (g := g0) rfl
  by_cases hroom : n + m ≤ c0
  · rcases hown.2 with ⟨hbad, _⟩ | ⟨g1, cap1, cur, he, hbg, hg, hnc, hcm, hcs, htake⟩
    · cases hbad
    · injection he with ha _ hc
      injection ha with ha
      injection ha with ha
      subst ha; subst hc
      have hl' : news.length = m * i.size := by rw [hl, hsize]
      have hfit : n * i.size + news.length ≤ cur.size := by rw [hl', hcs, hsize, ← Nat.add_mul]; exact Nat.mul_le_mul_right _ hroom
      have hr2 := run_append_room (P := P) w t ty e i ht hi g0 n c0 cur hg ad m c news hl' hnews h1 hroom hfit
      rw [hr] at hr2
      injection hr2 with hv _
      injection hv with hv _ _
      injection hv with hv
      injection hv with hv
      subst hv
      intro j u hu
      exact h2.cells (g := g) rfl j u (by
        have hj : j < xs.length := (List.getElem?_eq_some_iff.1 hu).1
        rw [List.getElem?_append_left hj]; exact hu)
  · subst hsize; subst hby
    obtain ⟨v', w'', hrun, _, r2⟩ := run_append_arg_grows (P := P) w t ty e i z i.size i.bytes ht hi hz rfl rfl hzs hsz ⟨g0, 0, none⟩ n c0 xs hown.1 holds ad m c news hl hnews (by omega) h63 hbytes
    rw [hr] at hrun
    injection hrun with _ hw
    subst hw
    intro j u hu
    have hc := holds j u hu
    have hlt := World.block_lt_of_cell? w _ hc
    exact (World.cell?_of_block (r2.block _ hlt (by simp))).trans hc
/-- At a step of a region that draws its order. -/
theorem step_append_keeps {ops : Array Oper} {o : Oper} {a : Act} {K : Act → World → Prop} {Q : Exit → Act → World → Prop} {E : Prop} (hgd : o.guard = none) (s x : Operand) (t : TypeId)
    (ho : o.op = .call { callee := .builtin .append, args := #[s, x], argTypes := #[t, t] })
    (base : Nat) (e : TypeId) (i : TypeInfo) (z : Value) (size bytes : Nat) (ht : P.underlying t = some (.slice e)) (hi : P.info? e = some i) (hz : i.zero = some z)
    (hsize : i.size = size) (hby : i.bytes = bytes) (hzs : z.cells.size = size) (hsz : 0 < size)
    (g0 n c0 : Nat) (xs : List Value) (hs : a.eval s = .slice (some ⟨g0, 0, none⟩) n c0) (hown : w.ownsRow base e size (.slice (some ⟨g0, 0, none⟩) n c0) n xs)
    (ad : Addr) (m c : Nat) (news : List Value) (hx : a.eval x = .slice (some ad) m c) (hl : news.length = m * size) (hnews : ∀ j u, news[j]? = some u → w.cell? (ad.add j) = some u) (h1 : ∀ u ∈ news, u.oneCell' = true)
    (hm : 0 < m) (h63 : n + m ≤ maxLen) (hbytes : (n + m) * bytes ≤ 140737488355328) (hbase : base ≤ w.heap.size) (H : Nat) (hH : w.heap.size = H)
    (h : ∀ g cap w', w'.ownsRow base e size (.slice (some ⟨g, 0, none⟩) (n + m) cap) (n + m) (xs ++ news) → w.grownBy w' (some g0) → (g = g0 ∨ g = H) → g < w'.heap.size →
      (∀ j u, xs[j]? = some u → w'.cell? ((⟨g0, 0, none⟩ : Addr).add j) = some u) → K (a.put o.dst (.slice (some ⟨g, 0, none⟩) (n + m) cap)) w') :
    if Region.wanted o (yielded ops a.tmps) = true then Oper.wp P o a w K Q else E := by
  have hw : Region.wanted o (yielded ops a.tmps) = true := by simp [Region.wanted, hgd]
  rw [if_pos hw]
  obtain ⟨g, cap, w', hr, h2, h3, h4, h5, h6⟩ := run_append_keeps (P := P) w t o.type base e i z size bytes ht hi hz hsize hby hzs hsz g0 n c0 xs hown ad m c news hl hnews h1 hm h63 hbytes hbase H hH
  unfold Oper.wp execOp
  simp only [ho, resolve, invoke, builtin, Sem.run_bind, Sem.run_pure, Result.andThen_ok, List.map_toArray, List.map_cons, List.map_nil, hs, hx, hr]
  exact h g cap w' h2 h3 h4 h5 h6
end
end Go.Proofs.YtigcomhhgfgmgaaDoor
namespace Go.Proofs.YtigcomhhgfgmgaaDoor
open Go.RowKit
/-- v is a slice of n numbers f 0, f 1 ..; they lie in one block from B on, below C, and may be written. -/
def IsInts (B C : Nat) (w : World) (v : Value) (n : Nat) (f : Nat → Int) : Prop :=
  ∃ (a : Option Addr) (cap : Nat), v = .slice a n cap ∧ C ≤ w.heap.size ∧
    (n = 0 ∨ ∃ g off, a = some ⟨g, off, none⟩ ∧ B ≤ g ∧ g < C ∧ (∀ i, i < n → w.cell? ⟨g, off + i, none⟩ = some (.int .i64 (f i))) ∧ (∀ i, i < n → w.frozen? ⟨g, off + i, none⟩ = false))
theorem IsInts.below {B C D : Nat} {w w' : World} {v : Value} {n : Nat} {f : Nat → Int} (h : IsInts B C w v n f) (hb : Below D w w') (hD : C ≤ D) : IsInts B C w' v n f := by
  obtain ⟨a, cap, rfl, hC, hs⟩ := h
  refine ⟨a, cap, rfl, Nat.le_trans hC hb.size, ?_⟩
  rcases hs with hs | ⟨g, off, ha, h1, h2, hc, hf⟩
  · exact .inl hs
  · exact .inr ⟨g, off, ha, h1, h2, fun i hi => (hb.cell (p := ⟨g, off + i, none⟩) (by show g < D; omega)).trans (hc i hi), fun i hi => (hb.frozen (p := ⟨g, off + i, none⟩) (by show g < D; omega)).trans (hf i hi)⟩
theorem IsInts.mono {B B' C C' : Nat} {w : World} {v : Value} {n : Nat} {f : Nat → Int} (h : IsInts B C w v n f) (h1 : B' ≤ B) (h2 : C ≤ C') (h3 : C' ≤ w.heap.size) : IsInts B' C' w v n f := by
  obtain ⟨a, cap, rfl, hC, hs⟩ := h
  refine ⟨a, cap, rfl, h3, ?_⟩
  rcases hs with hs | ⟨g, off, ha, k1, k2, hc, hf⟩
  · exact .inl hs
  · exact .inr ⟨g, off, ha, by omega, by omega, hc, hf⟩
theorem IsInts.congr {B C : Nat} {w : World} {v : Value} {n : Nat} {f g : Nat → Int} (h : IsInts B C w v n f) (he : ∀ i, i < n → f i = g i) : IsInts B C w v n g := by
  obtain ⟨a, cap, rfl, hC, hs⟩ := h
  refine ⟨a, cap, rfl, hC, ?_⟩
  rcases hs with hs | ⟨g, off, ha, k1, k2, hc, hf⟩
  · exact .inl hs
  · exact .inr ⟨g, off, ha, k1, k2, fun i hi => by rw [hc i hi, he i hi], hf⟩
theorem IsInts.nil (B : Nat) (w : World) (f : Nat → Int) : IsInts B w.heap.size w (.slice none 0 0) 0 f := ⟨none, 0, rfl, Nat.le_refl _, .inl rfl⟩
theorem IsInts.empty (B : Nat) (w : World) (a : Option Addr) (c : Nat) (f : Nat → Int) : IsInts B w.heap.size w (.slice a 0 c) 0 f := ⟨a, c, rfl, Nat.le_refl _, .inl rfl⟩
/-- A row of one's own, as append leaves it. -/
theorem IsInts.of_owns {B n : Nat} {w : World} {e : TypeId} {v : Value} {f : Nat → Int} (h : w.ownsRow B e 1 v n ((List.range n).map fun i => .int .i64 (f i))) : IsInts B w.heap.size w v n f := by
  have hc := fun g (hg : v.ownBlock = some g) => h.cells hg
  obtain ⟨hl, h⟩ := h
  rcases h with ⟨rfl, rfl⟩ | ⟨g, cap, cur, rfl, hb, hg, hnc, hm, hcs, htk⟩
  · exact IsInts.nil B w f
  · have hlt : g < w.heap.size := (Array.getElem?_eq_some_iff.1 hg).1
    refine ⟨_, cap, rfl, Nat.le_refl _, .inr ⟨g, 0, rfl, hb, hlt, fun i hi => ?_, fun i hi => ?_⟩⟩
    · have := hc g rfl i (.int .i64 (f i)) (by simp [hi])
      rw [Nat.zero_add]
      by_cases h0 : i = 0
      · subst h0; simpa [Addr.add] using this
      · simpa [Addr.add, h0] using this
    · simp [World.frozen?, hg]
/-- What was marked: one block from B on, below C. -/
def Marked (B C : Nat) (w w' : World) : Prop := w'.heap.size = w.heap.size ∧ ∃ row, w.grownBy w' row ∧ ∀ k, row = some k → B ≤ k ∧ k < C
theorem IsInts.marked {B C B0 C0 : Nat} {w w' : World} {v : Value} {n : Nat} {f : Nat → Int} (h : IsInts B0 C0 w v n f) (hm : Marked B C w w') (hd : C0 ≤ B) : IsInts B0 C0 w' v n f := by
  obtain ⟨a, cap, rfl, hC, hs⟩ := h
  obtain ⟨hz, row, hg, hr⟩ := hm
  refine ⟨a, cap, rfl, by omega, ?_⟩
  rcases hs with hs | ⟨g, off, ha, h1, h2, hc, hf⟩
  · exact .inl hs
  · have hne : some g ≠ row := fun e => by have := hr g e.symm; omega
    exact .inr ⟨g, off, ha, h1, h2, fun i hi => (hg.cell_far ⟨g, off + i, none⟩ (by show g < w.heap.size; omega) hne).trans (hc i hi), fun i hi => (hg.frozen_far ⟨g, off + i, none⟩ (by show g < w.heap.size; omega) hne).trans (hf i hi)⟩
theorem below_marked {B C D : Nat} {w0 w w' : World} (h : Below D w0 w) (hm : Marked B C w w') (h1 : D ≤ B) (h2 : D ≤ w.heap.size) : Below D w0 w' := by
  obtain ⟨hz, row, hg, hr⟩ := hm
  exact h.grown hg h2 (fun k e => by have := hr k e; omega)
theorem grown_set {w w1 : World} {g : Nat} (h : w.grownBy w1 (some g)) (o : Nat) (v : Value) : w.grownBy (w1.setCell ⟨g, o, none⟩ v) (some g) :=
  ⟨h.os, h.tape, h.output, by simpa [World.setCell] using h.size, fun j hj hne => (Below.heap_setCell _ _ _ _ (fun e => hne (by rw [e]))).trans (h.block j hj hne)⟩
end Go.Proofs.YtigcomhhgfgmgaaDoor
namespace Go.Proofs.YtigcomhhgfgmgaaDoor
open Go.RowKit
theorem cell_belowS {W W' : World} {a : Addr} {v : Value} (hb : Below W.heap.size W W') (h : W.cell? a = some v) : W'.cell? a = some v := (hb.cell (p := a) (World.block_lt_of_cell? W a h)).trans h
/-- v is a slice of n texts f 0, f 1 ..; they lie in one block from B on, below C, and may be written. -/
def IsStrs (B C : Nat) (w : World) (v : Value) (n : Nat) (f : Nat → ByteArray) : Prop :=
  ∃ (a : Option Addr) (cap : Nat), v = .slice a n cap ∧ C ≤ w.heap.size ∧
    (n = 0 ∨ ∃ g off, a = some ⟨g, off, none⟩ ∧ B ≤ g ∧ g < C ∧ (∀ i, i < n → w.cell? ⟨g, off + i, none⟩ = some (.string (f i))) ∧ (∀ i, i < n → w.frozen? ⟨g, off + i, none⟩ = false))
theorem IsStrs.below {B C D : Nat} {w w' : World} {v : Value} {n : Nat} {f : Nat → ByteArray} (h : IsStrs B C w v n f) (hb : Below D w w') (hD : C ≤ D) : IsStrs B C w' v n f := by
  obtain ⟨a, cap, rfl, hC, hs⟩ := h
  refine ⟨a, cap, rfl, Nat.le_trans hC hb.size, ?_⟩
  rcases hs with hs | ⟨g, off, ha, h1, h2, hc, hf⟩
  · exact .inl hs
  · exact .inr ⟨g, off, ha, h1, h2, fun i hi => (hb.cell (p := ⟨g, off + i, none⟩) (by show g < D; omega)).trans (hc i hi), fun i hi => (hb.frozen (p := ⟨g, off + i, none⟩) (by show g < D; omega)).trans (hf i hi)⟩
theorem IsStrs.mono {B B' C C' : Nat} {w : World} {v : Value} {n : Nat} {f : Nat → ByteArray} (h : IsStrs B C w v n f) (h1 : B' ≤ B) (h2 : C ≤ C') (h3 : C' ≤ w.heap.size) : IsStrs B' C' w v n f := by
  obtain ⟨a, cap, rfl, hC, hs⟩ := h
  refine ⟨a, cap, rfl, h3, ?_⟩
  rcases hs with hs | ⟨g, off, ha, k1, k2, hc, hf⟩
  · exact .inl hs
  · exact .inr ⟨g, off, ha, by omega, by omega, hc, hf⟩
theorem IsStrs.congr {B C : Nat} {w : World} {v : Value} {n : Nat} {f g : Nat → ByteArray} (h : IsStrs B C w v n f) (he : ∀ i, i < n → f i = g i) : IsStrs B C w v n g := by
  obtain ⟨a, cap, rfl, hC, hs⟩ := h
  refine ⟨a, cap, rfl, hC, ?_⟩
  rcases hs with hs | ⟨g, off, ha, k1, k2, hc, hf⟩
  · exact .inl hs
  · exact .inr ⟨g, off, ha, k1, k2, fun i hi => by rw [hc i hi, he i hi], hf⟩
theorem IsStrs.nil (B : Nat) (w : World) (f : Nat → ByteArray) : IsStrs B w.heap.size w (.slice none 0 0) 0 f := ⟨none, 0, rfl, Nat.le_refl _, .inl rfl⟩
theorem IsStrs.empty (B : Nat) (w : World) (a : Option Addr) (c : Nat) (f : Nat → ByteArray) : IsStrs B w.heap.size w (.slice a 0 c) 0 f := ⟨a, c, rfl, Nat.le_refl _, .inl rfl⟩
/-- A row of one's own, as append leaves it. -/
theorem IsStrs.of_owns {B n : Nat} {w : World} {e : TypeId} {v : Value} {f : Nat → ByteArray} (h : w.ownsRow B e 1 v n ((List.range n).map fun i => .string (f i))) : IsStrs B w.heap.size w v n f := by
  have hc := fun g (hg : v.ownBlock = some g) => h.cells hg
  obtain ⟨hl, h⟩ := h
  rcases h with ⟨rfl, rfl⟩ | ⟨g, cap, cur, rfl, hb, hg, hnc, hm, hcs, htk⟩
  · exact IsStrs.nil B w f
  · have hlt : g < w.heap.size := (Array.getElem?_eq_some_iff.1 hg).1
    refine ⟨_, cap, rfl, Nat.le_refl _, .inr ⟨g, 0, rfl, hb, hlt, fun i hi => ?_, fun i hi => ?_⟩⟩
    · have := hc g rfl i (.string (f i)) (by simp [hi])
      rw [Nat.zero_add]
      by_cases h0 : i = 0
      · subst h0; simpa [Addr.add] using this
      · simpa [Addr.add, h0] using this
    · simp [World.frozen?, hg]
theorem IsStrs.marked {B C B0 C0 : Nat} {w w' : World} {v : Value} {n : Nat} {f : Nat → ByteArray} (h : IsStrs B0 C0 w v n f) (hm : Marked B C w w') (hd : C0 ≤ B) : IsStrs B0 C0 w' v n f := by
  obtain ⟨a, cap, rfl, hC, hs⟩ := h
  obtain ⟨hz, row, hg, hr⟩ := hm
  refine ⟨a, cap, rfl, by omega, ?_⟩
  rcases hs with hs | ⟨g, off, ha, h1, h2, hc, hf⟩
  · exact .inl hs
  · have hne : some g ≠ row := fun e => by have := hr g e.symm; omega
    exact .inr ⟨g, off, ha, h1, h2, fun i hi => (hg.cell_far ⟨g, off + i, none⟩ (by show g < w.heap.size; omega) hne).trans (hc i hi), fun i hi => (hg.frozen_far ⟨g, off + i, none⟩ (by show g < w.heap.size; omega) hne).trans (hf i hi)⟩
/-- A digit; the digits of a number ahead of a text; the mark of a number. -/
def digS (d : Nat) : ByteArray := ⟨#[UInt8.ofNat (48 + d)]⟩
def decF : Nat → Nat → ByteArray → ByteArray
  | 0, _, o => o
  | f + 1, k, o => if k = 0 then o else decF f (k / 10) (digS (k % 10) ++ o)
def markT (k : Nat) : ByteArray := ⟨#[109]⟩ ++ decF 10 k ⟨#[]⟩
theorem decF_zero (f : Nat) (o : ByteArray) : decF f 0 o = o := by cases f <;> simp [decF]
theorem decF_next {f k : Nat} (h : 0 < k) (o : ByteArray) : decF (f + 1) k o = decF f (k / 10) (digS (k % 10) ++ o) := by rw [decF, if_neg (by omega)]
theorem run_digit (w : World) (d : Nat) (hd : d < 10) : (convert 22 9 (.slice (some ⟨w.heap.size, 0, none⟩) 1 1)).run Tryd.prog (w.alloc (.cells #[.int .u8 (48 + (d : Int))] 5)) = .ok (.string (digS d)) (w.alloc (.cells #[.int .u8 (48 + (d : Int))] 5)) := by
  have h := run_convert_bytes_back (P := Tryd.prog) (w.alloc (.cells #[.int .u8 (48 + (d : Int))] 5)) 22 9 5 ⟨w.heap.size, 0, none⟩ 1 [UInt8.ofNat (48 + d)] Tryd.underlying22 Tryd.underlying5 Tryd.underlying9 ?_
  · exact h
  · intro j hj
    obtain rfl : j = 0 := by simpa using hj
    have e : ((UInt8.ofNat (48 + d)).toNat : Int) = 48 + (d : Int) := by
      rw [UInt8.toNat_ofNat_of_lt' (by show 48 + d < 256; omega)]; omega
    have h1 := cell_one_new w (.int .u8 (48 + (d : Int))) 5
    rw [← e] at h1
    rw [← e]
    exact h1 0 _ rfl
/-- What was marked: one block from B on, below C; other memory may be new. -/
def MarkedS (B C : Nat) (w w' : World) : Prop := ∃ row, w.grownBy w' row ∧ ∀ k, row = some k → B ≤ k ∧ k < C
theorem IsStrs.markedS {B C B0 C0 : Nat} {w w' : World} {v : Value} {n : Nat} {f : Nat → ByteArray} (h : IsStrs B0 C0 w v n f) (hm : MarkedS B C w w') (hd : C0 ≤ B) : IsStrs B0 C0 w' v n f := by
  obtain ⟨a, cap, rfl, hC, hs⟩ := h
  obtain ⟨row, hg, hr⟩ := hm
  refine ⟨a, cap, rfl, Nat.le_trans hC hg.size, ?_⟩
  rcases hs with hs | ⟨g, off, ha, h1, h2, hc, hf⟩
  · exact .inl hs
  · have hne : some g ≠ row := fun e => by have := hr g e.symm; omega
    exact .inr ⟨g, off, ha, h1, h2, fun i hi => (hg.cell_far ⟨g, off + i, none⟩ (by show g < w.heap.size; omega) hne).trans (hc i hi), fun i hi => (hg.frozen_far ⟨g, off + i, none⟩ (by show g < w.heap.size; omega) hne).trans (hf i hi)⟩
theorem below_markedS {B C D : Nat} {w0 w w' : World} (h : Below D w0 w) (hm : MarkedS B C w w') (h1 : D ≤ B) (h2 : D ≤ w.heap.size) : Below D w0 w' := by
  obtain ⟨row, hg, hr⟩ := hm
  exact h.grown hg h2 (fun k e => by have := hr k e; omega)
end Go.Proofs.YtigcomhhgfgmgaaDoor
namespace Go.Proofs.YtigcomhhgfgmgaaDoor
open Go.RowKit
theorem namesNone_at (k a b : Int) (w : World) : Calls Tryd.prog 35 #[.agg #[.int .i64 k, .int .i64 a, .int .i64 b]] w fun e w' => e = .returned (.bool (decide (a = 0 ∧ b = 0))) ∧ Below w.heap.size w w' := by
  by_cases ha : a = 0
  · by_cases hb : b = 0
    · rw [decide_eq_true ⟨ha, hb⟩]
      subst ha hb
      go_enter Tryd.func35, Tryd.ntmps35
      go_wp2
      go_ret
      exact ⟨rfl, by (repeat (first | exact Below.refl _ _ | refine Below.setCell ?_ (by first | omega | (simp <;> omega)) _ | refine Below.alloc ?_ (by first | omega | (simp <;> omega)) _ | refine Below.drew ?_ | refine Below.trans ?_ (Below.mono (by assumption) (by first | omega | (simp <;> omega))) | refine Below.grown ?_ (by assumption) (by first | omega | (simp <;> omega)) (fun k e => by cases e; first | omega | (simp <;> omega))))⟩
    · rw [decide_eq_false (fun e => hb e.2)]
      subst ha
      have hbf : (b == 0) = false := by simp [hb]
      go_enter Tryd.func35, Tryd.ntmps35
      go_wp2
      go_ret
      exact ⟨rfl, by (repeat (first | exact Below.refl _ _ | refine Below.setCell ?_ (by first | omega | (simp <;> omega)) _ | refine Below.alloc ?_ (by first | omega | (simp <;> omega)) _ | refine Below.drew ?_ | refine Below.trans ?_ (Below.mono (by assumption) (by first | omega | (simp <;> omega))) | refine Below.grown ?_ (by assumption) (by first | omega | (simp <;> omega)) (fun k e => by cases e; first | omega | (simp <;> omega))))⟩
  · rw [decide_eq_false (fun e => ha e.1)]
    go_enter Tryd.func35, Tryd.ntmps35
    go_wp2
    go_ret
    exact ⟨rfl, by (repeat (first | exact Below.refl _ _ | refine Below.setCell ?_ (by first | omega | (simp <;> omega)) _ | refine Below.alloc ?_ (by first | omega | (simp <;> omega)) _ | refine Below.drew ?_ | refine Below.trans ?_ (Below.mono (by assumption) (by first | omega | (simp <;> omega))) | refine Below.grown ?_ (by assumption) (by first | omega | (simp <;> omega)) (fun k e => by cases e; first | omega | (simp <;> omega))))⟩
theorem deedT_other {k a b : Int} (h : k < 0 ∨ 4 < k) : deedT ⟨k, a, b⟩ = [] := by
  unfold deedT
  rw [if_neg (by show ¬ k = 0; omega)]
  split
  · rw [if_neg (by show ¬ k = 1; omega), if_neg (by show ¬ k = 2; omega), if_neg (by show ¬ k = 3; omega), if_neg (by show ¬ k = 4; omega)]
  · rfl
theorem deedT_named {k a b : Int} (h0 : ¬ k = 0) (h : ¬ (a = 0 ∧ b = 0)) : deedT ⟨k, a, b⟩ = [] := by
  unfold deedT
  rw [if_neg h0, if_neg h]
theorem deedT_take {a b : Int} (h : -9 ≤ a ∧ a ≤ 9 ∧ -9 ≤ b ∧ b ≤ 9) : deedT ⟨0, a, b⟩ = [116, 97, 107, 101, 32] ++ digN a ++ [32] ++ digN b := by
  unfold deedT
  rw [if_pos rfl, if_pos h]
theorem deedT_not {a b : Int} (h : ¬ (-9 ≤ a ∧ a ≤ 9 ∧ -9 ≤ b ∧ b ≤ 9)) : deedT ⟨0, a, b⟩ = [] := by
  unfold deedT
  rw [if_pos rfl, if_neg h]
theorem digN_len (a : Int) : (digN a).length ≤ 2 := by unfold digN; split <;> simp
theorem txt_size (l : List UInt8) : (txt l).size = l.length := by show l.toArray.size = _; simp
theorem txt_append (l m : List UInt8) : txt l ++ txt m = txt (l ++ m) := txt_eq (by rw [ByteArray.data_append, Array.toList_append]; rfl)
/-- A number of -9..9, written. -/
theorem small_text {a : Int} (h1 : -9 ≤ a) (h2 : a ≤ 9) : ∃ A : ByteArray, txt (numberT a) = A ∧ A.size ≤ 2 ∧ A.data.toList = digN a := ⟨_, rfl, by rw [txt_size, digN_is a h1 h2]; exact digN_len a, by rw [digN_is a h1 h2]; rfl⟩
theorem take_text {A B : ByteArray} {a b : Int} (h : -9 ≤ a ∧ a ≤ 9 ∧ -9 ≤ b ∧ b ≤ 9) (ha : A.data.toList = digN a) (hb : B.data.toList = digN b) : ((((⟨#[116, 97, 107, 101]⟩ : ByteArray) ++ ⟨#[32]⟩) ++ A) ++ ⟨#[32]⟩) ++ B = txt (deedT ⟨0, a, b⟩) := by
  refine txt_eq ?_
  rw [deedT_take h]
  simp only [ByteArray.data_append, Array.toList_append, ha, hb]
  rfl
theorem take_text2 {A B : ByteArray} {a b : Int} (h : -9 ≤ a ∧ a ≤ 9 ∧ -9 ≤ b ∧ b ≤ 9) (ha : A.data.toList = digN a) (hb : B.data.toList = digN b) : (((⟨#[116, 97, 107, 101, 32]⟩ : ByteArray) ++ A) ++ ⟨#[32]⟩) ++ B = txt (deedT ⟨0, a, b⟩) := by
  refine txt_eq ?_
  rw [deedT_take h]
  simp only [ByteArray.data_append, Array.toList_append, ha, hb]
  rfl
set_option maxRecDepth 100000 in
set_option maxHeartbeats 4000000 in
theorem implText_take (a b : Int) (w : World) (ht : PowTab w) (ha1 : -9 ≤ a) (ha2 : a ≤ 9) (hb1' : -9 ≤ b) (hb2' : b ≤ 9) : Calls Tryd.prog 11 #[.agg #[.int .i64 0, .int .i64 a, .int .i64 b]] w fun e w' => e = .returned (.string (txt (deedT ⟨0, a, b⟩))) ∧ Below w.heap.size w w' := by
  have HT := Lib.hid ht
  clear ht
  obtain ⟨A, hA, hAs, hAl⟩ := small_text ha1 ha2
  obtain ⟨B, hB, hBs, hBl⟩ := small_text hb1' hb2'
  have HE := Lib.hid (take_text ⟨ha1, ha2, hb1', hb2'⟩ hAl hBl)
  have hIT := fun (n : Int) (X : ByteArray) (h1 : -9 ≤ n) (h2 : n ≤ 9) (hX : txt (numberT n) = X) (W : World) (hW : PowTab W) => (hX ▸ itoa_any n (by omega) (by omega) W hW : Calls Tryd.prog 34 #[.int .i64 n] W fun e w' => e = .returned (.string X) ∧ Below W.heap.size W w')
  have HIA := Lib.hid (fun W hW => hIT a A ha1 ha2 hA W hW)
  have HIB := Lib.hid (fun W hW => hIT b B hb1' hb2' hB W hW)
  clear hIT hA hB hAl hBl
  have da : decide (-9 ≤ a ∧ a ≤ 9) = true := decide_eq_true ⟨ha1, ha2⟩
  have db : decide (-9 ≤ b ∧ b ≤ 9) = true := decide_eq_true ⟨hb1', hb2'⟩
  have s1 : ¬ 9223372036854775807 < 5 + A.size := by omega
  have s2 : ¬ 9223372036854775807 < 5 + A.size + 1 := by omega
  have s3 : ¬ 9223372036854775807 < 5 + A.size + 1 + B.size := by omega
  have hTK := fun n W => takenOk_at n W
  go_enter Tryd.func11, Tryd.ntmps11
  go_wp2_with fail
  refine (deedWords_at _).mono ?_
  rintro e w1 ⟨rfl, hw1⟩
  have hz1 : w1.heap.size = w.heap.size + 2 := by rw [hw1]; simp
  have hb1 : Below w.heap.size w w1 := by rw [hw1]; exact ((Below.refl _ _).alloc (Nat.le_refl _) _).alloc (by simp) _
  have cb0 : w1.cell? ⟨w.heap.size, 0, none⟩ = some (.int .i64 0) := by rw [hw1]; go_simp
  have cb1 : w1.cell? ⟨w.heap.size, 1, none⟩ = some (.int .i64 a) := by rw [hw1]; go_simp
  have cb2 : w1.cell? ⟨w.heap.size, 2, none⟩ = some (.int .i64 b) := by rw [hw1]; go_simp
  have cw0 : w1.cell? ⟨w.heap.size + 1, 0, none⟩ = some (.string ⟨#[116, 97, 107, 101]⟩) := by rw [hw1]; go_simp
  have cw1 : w1.cell? ⟨w.heap.size + 1, 1, none⟩ = some (.string ⟨#[116, 117, 114, 110]⟩) := by rw [hw1]; go_simp
  have cw2 : w1.cell? ⟨w.heap.size + 1, 2, none⟩ = some (.string ⟨#[117, 112]⟩) := by rw [hw1]; go_simp
  have cw3 : w1.cell? ⟨w.heap.size + 1, 3, none⟩ = some (.string ⟨#[100, 111, 119, 110]⟩) := by rw [hw1]; go_simp
  have cw4 : w1.cell? ⟨w.heap.size + 1, 4, none⟩ = some (.string ⟨#[98, 97, 99, 107]⟩) := by rw [hw1]; go_simp
  clear hw1
  simp only [World.size_alloc]
  have HT1 := Lib.hid (HT.out.below hb1 (Nat.le_refl _))
  go_wp2_with fail
  refine (takenOk_at a _).mono ?_
  rintro e wa ⟨rfl, hba⟩
  obtain ⟨hca, hfa⟩ := bcell hba
  have hza := hba.size
  rw [da]
  have HTa := Lib.hid (HT1.out.below hba (Nat.le_refl _))
  have ca : ∀ o v, w1.cell? ⟨w.heap.size, o, none⟩ = some v → wa.cell? ⟨w.heap.size, o, none⟩ = some v := fun o v h => (hba.cell (p := ⟨w.heap.size, o, none⟩) (by show w.heap.size < _; omega)).trans h
  have cb0a := ca 0 _ cb0
  have cb1a := ca 1 _ cb1
  have cb2a := ca 2 _ cb2
  have cw0a := (hba.cell (p := ⟨w.heap.size + 1, 0, none⟩) (by show w.heap.size + 1 < _; omega)).trans cw0
  have hba' := hb1.trans (hba.mono (by omega))
  clear ca cb0 cb1 cb2 cw0 cw1 cw2 cw3 cw4 hca hfa
  go_wp2_with fail
  refine (takenOk_at b _).mono ?_
  rintro e wb ⟨rfl, hbb⟩
  obtain ⟨hcb, hfb⟩ := bcell hbb
  have hzb := hbb.size
  rw [db]
  have HTb := Lib.hid (HTa.out.below hbb (Nat.le_refl _))
  have cb0b := (hbb.cell (p := ⟨w.heap.size, 0, none⟩) (by show w.heap.size < _; omega)).trans cb0a
  have cb1b := (hbb.cell (p := ⟨w.heap.size, 1, none⟩) (by show w.heap.size < _; omega)).trans cb1a
  have cb2b := (hbb.cell (p := ⟨w.heap.size, 2, none⟩) (by show w.heap.size < _; omega)).trans cb2a
  have cw0b := (hbb.cell (p := ⟨w.heap.size + 1, 0, none⟩) (by show w.heap.size + 1 < _; omega)).trans cw0a
  have hbb' := hba'.trans (hbb.mono (by omega))
  have hzb' : w.heap.size + 2 ≤ wb.heap.size := by omega
  clear cb0a cb1a cb2a cw0a hcb hfb hba hbb hb1 hba' da db hTK hza hzb hz1
  go_wp2_with fail
  go_region_held3 (fun W_ => W_.cell? ⟨w.heap.size, 0, none⟩ = some (.int .i64 0) ∧ W_.cell? ⟨w.heap.size, 1, none⟩ = some (.int .i64 a) ∧ W_.cell? ⟨w.heap.size, 2, none⟩ = some (.int .i64 b) ∧ W_.cell? ⟨w.heap.size + 1, 0, none⟩ = some (.string ⟨#[116, 97, 107, 101]⟩))
    ((go_split_ands; refine ⟨?_, ?_, ?_, ?_⟩ <;> (repeat (first | with_reducible assumption | with_reducible refine cell_alloc_is _ ?_ | with_reducible refine cell_drew_is ?_ | with_reducible refine cell_set_is ?_ ?_ | omega)); done))
    ((first | (go_at_call 34; refine (HIA.out _ (HTb.out.below (show Below wb.heap.size wb _ by (repeat (first | exact Below.refl _ _ | refine Below.setCell ?_ (by first | omega | (simp <;> omega)) _ | refine Below.alloc ?_ (by first | omega | (simp <;> omega)) _ | refine Below.drew ?_ | refine Below.trans ?_ (Below.mono (by assumption) (by first | omega | (simp <;> omega)))))) (Nat.le_refl _))).mono ?_; rintro e w_2 ⟨rfl, hb_2⟩; obtain ⟨hc_2, hf_2⟩ := bcell hb_2; have hz_2 := hb_2.size; (try simp at hz_2); (try have hq_2 : wb.heap.size ≤ w_2.heap.size := by omega); have kx0 := (hb_2.cell (p := ⟨w.heap.size, 0, none⟩) (by first | omega | (simp <;> omega))).trans (show _ = some (.int .i64 0) by (repeat (first | with_reducible assumption | with_reducible refine cell_alloc_is _ ?_ | with_reducible refine cell_drew_is ?_ | with_reducible refine cell_set_is ?_ ?_ | omega))); have kx1 := (hb_2.cell (p := ⟨w.heap.size, 1, none⟩) (by first | omega | (simp <;> omega))).trans (show _ = some (.int .i64 a) by (repeat (first | with_reducible assumption | with_reducible refine cell_alloc_is _ ?_ | with_reducible refine cell_drew_is ?_ | with_reducible refine cell_set_is ?_ ?_ | omega))); have kx2 := (hb_2.cell (p := ⟨w.heap.size, 2, none⟩) (by first | omega | (simp <;> omega))).trans (show _ = some (.int .i64 b) by (repeat (first | with_reducible assumption | with_reducible refine cell_alloc_is _ ?_ | with_reducible refine cell_drew_is ?_ | with_reducible refine cell_set_is ?_ ?_ | omega))); have kx3 := (hb_2.cell (p := ⟨w.heap.size + 1, 0, none⟩) (by first | omega | (simp <;> omega))).trans (show _ = some (.string ⟨#[116, 97, 107, 101]⟩) by (repeat (first | with_reducible assumption | with_reducible refine cell_alloc_is _ ?_ | with_reducible refine cell_drew_is ?_ | with_reducible refine cell_set_is ?_ ?_ | omega)))) | (go_at_call 34; refine (HIB.out _ (HTb.out.below (show Below wb.heap.size wb _ by (repeat (first | exact Below.refl _ _ | refine Below.setCell ?_ (by first | omega | (simp <;> omega)) _ | refine Below.alloc ?_ (by first | omega | (simp <;> omega)) _ | refine Below.drew ?_ | refine Below.trans ?_ (Below.mono (by assumption) (by first | omega | (simp <;> omega)))))) (Nat.le_refl _))).mono ?_; rintro e w_2 ⟨rfl, hb_2⟩; obtain ⟨hc_2, hf_2⟩ := bcell hb_2; have hz_2 := hb_2.size; (try simp at hz_2); (try have hq_2 : wb.heap.size ≤ w_2.heap.size := by omega); have kx0 := (hb_2.cell (p := ⟨w.heap.size, 0, none⟩) (by first | omega | (simp <;> omega))).trans (show _ = some (.int .i64 0) by (repeat (first | with_reducible assumption | with_reducible refine cell_alloc_is _ ?_ | with_reducible refine cell_drew_is ?_ | with_reducible refine cell_set_is ?_ ?_ | omega))); have kx1 := (hb_2.cell (p := ⟨w.heap.size, 1, none⟩) (by first | omega | (simp <;> omega))).trans (show _ = some (.int .i64 a) by (repeat (first | with_reducible assumption | with_reducible refine cell_alloc_is _ ?_ | with_reducible refine cell_drew_is ?_ | with_reducible refine cell_set_is ?_ ?_ | omega))); have kx2 := (hb_2.cell (p := ⟨w.heap.size, 2, none⟩) (by first | omega | (simp <;> omega))).trans (show _ = some (.int .i64 b) by (repeat (first | with_reducible assumption | with_reducible refine cell_alloc_is _ ?_ | with_reducible refine cell_drew_is ?_ | with_reducible refine cell_set_is ?_ ?_ | omega))); have kx3 := (hb_2.cell (p := ⟨w.heap.size + 1, 0, none⟩) (by first | omega | (simp <;> omega))).trans (show _ = some (.string ⟨#[116, 97, 107, 101]⟩) by (repeat (first | with_reducible assumption | with_reducible refine cell_alloc_is _ ?_ | with_reducible refine cell_drew_is ?_ | with_reducible refine cell_set_is ?_ ?_ | omega)))) | fail))
  all_goals
    go_wp2_with fail
    go_ret
    exact ⟨by rw [HE.out]; rfl, by (repeat (first | exact hbb' | exact Below.refl _ _ | refine Below.setCell ?_ (by first | omega | (simp <;> omega)) _ | refine Below.alloc ?_ (by first | omega | (simp <;> omega)) _ | refine Below.drew ?_ | refine Below.trans ?_ (Below.mono (by assumption) (by first | omega | (simp <;> omega)))))⟩
set_option maxRecDepth 100000 in
set_option maxHeartbeats 2000000 in
theorem implText_notA (a b : Int) (w : World) (h : ¬ (-9 ≤ a ∧ a ≤ 9)) : Calls Tryd.prog 11 #[.agg #[.int .i64 0, .int .i64 a, .int .i64 b]] w fun e w' => e = .returned (.string (txt (deedT ⟨0, a, b⟩))) ∧ Below w.heap.size w w' := by
  have HE := Lib.hid (deedT_not (a := a) (b := b) (by omega))
  have da : decide (-9 ≤ a ∧ a ≤ 9) = false := decide_eq_false h
  go_enter Tryd.func11, Tryd.ntmps11
  go_wp2_with fail
  refine (deedWords_at _).mono ?_
  rintro e w1 ⟨rfl, hw1⟩
  have hz1 : w1.heap.size = w.heap.size + 2 := by rw [hw1]; simp
  have hb1 : Below w.heap.size w w1 := by rw [hw1]; exact ((Below.refl _ _).alloc (Nat.le_refl _) _).alloc (by simp) _
  have cb0 : w1.cell? ⟨w.heap.size, 0, none⟩ = some (.int .i64 0) := by rw [hw1]; go_simp
  have cb1 : w1.cell? ⟨w.heap.size, 1, none⟩ = some (.int .i64 a) := by rw [hw1]; go_simp
  have cb2 : w1.cell? ⟨w.heap.size, 2, none⟩ = some (.int .i64 b) := by rw [hw1]; go_simp
  have cw0 : w1.cell? ⟨w.heap.size + 1, 0, none⟩ = some (.string ⟨#[116, 97, 107, 101]⟩) := by rw [hw1]; go_simp
  have cw1 : w1.cell? ⟨w.heap.size + 1, 1, none⟩ = some (.string ⟨#[116, 117, 114, 110]⟩) := by rw [hw1]; go_simp
  have cw2 : w1.cell? ⟨w.heap.size + 1, 2, none⟩ = some (.string ⟨#[117, 112]⟩) := by rw [hw1]; go_simp
  have cw3 : w1.cell? ⟨w.heap.size + 1, 3, none⟩ = some (.string ⟨#[100, 111, 119, 110]⟩) := by rw [hw1]; go_simp
  have cw4 : w1.cell? ⟨w.heap.size + 1, 4, none⟩ = some (.string ⟨#[98, 97, 99, 107]⟩) := by rw [hw1]; go_simp
  clear hw1
  simp only [World.size_alloc]
  go_wp2_with fail
  refine (takenOk_at a _).mono ?_
  rintro e wa ⟨rfl, hba⟩
  obtain ⟨hca, hfa⟩ := bcell hba
  have hza := hba.size
  rw [da]
  go_wp2
  go_ret
  exact ⟨by rw [HE.out]; rfl, by (repeat (first | exact Below.refl _ _ | refine Below.setCell ?_ (by first | omega | (simp <;> omega)) _ | refine Below.alloc ?_ (by first | omega | (simp <;> omega)) _ | refine Below.drew ?_ | refine Below.trans ?_ (Below.mono (by assumption) (by first | omega | (simp <;> omega))) | refine Below.grown ?_ (by assumption) (by first | omega | (simp <;> omega)) (fun k e => by cases e; first | omega | (simp <;> omega))))⟩
set_option maxRecDepth 100000 in
set_option maxHeartbeats 2000000 in
theorem implText_notB (a b : Int) (w : World) (h1 : -9 ≤ a ∧ a ≤ 9) (h : ¬ (-9 ≤ b ∧ b ≤ 9)) : Calls Tryd.prog 11 #[.agg #[.int .i64 0, .int .i64 a, .int .i64 b]] w fun e w' => e = .returned (.string (txt (deedT ⟨0, a, b⟩))) ∧ Below w.heap.size w w' := by
  have HE := Lib.hid (deedT_not (a := a) (b := b) (by omega))
  have da : decide (-9 ≤ a ∧ a ≤ 9) = true := decide_eq_true h1
  have db : decide (-9 ≤ b ∧ b ≤ 9) = false := decide_eq_false h
  go_enter Tryd.func11, Tryd.ntmps11
  go_wp2_with fail
  refine (deedWords_at _).mono ?_
  rintro e w1 ⟨rfl, hw1⟩
  have hz1 : w1.heap.size = w.heap.size + 2 := by rw [hw1]; simp
  have hb1 : Below w.heap.size w w1 := by rw [hw1]; exact ((Below.refl _ _).alloc (Nat.le_refl _) _).alloc (by simp) _
  have cb0 : w1.cell? ⟨w.heap.size, 0, none⟩ = some (.int .i64 0) := by rw [hw1]; go_simp
  have cb1 : w1.cell? ⟨w.heap.size, 1, none⟩ = some (.int .i64 a) := by rw [hw1]; go_simp
  have cb2 : w1.cell? ⟨w.heap.size, 2, none⟩ = some (.int .i64 b) := by rw [hw1]; go_simp
  have cw0 : w1.cell? ⟨w.heap.size + 1, 0, none⟩ = some (.string ⟨#[116, 97, 107, 101]⟩) := by rw [hw1]; go_simp
  have cw1 : w1.cell? ⟨w.heap.size + 1, 1, none⟩ = some (.string ⟨#[116, 117, 114, 110]⟩) := by rw [hw1]; go_simp
  have cw2 : w1.cell? ⟨w.heap.size + 1, 2, none⟩ = some (.string ⟨#[117, 112]⟩) := by rw [hw1]; go_simp
  have cw3 : w1.cell? ⟨w.heap.size + 1, 3, none⟩ = some (.string ⟨#[100, 111, 119, 110]⟩) := by rw [hw1]; go_simp
  have cw4 : w1.cell? ⟨w.heap.size + 1, 4, none⟩ = some (.string ⟨#[98, 97, 99, 107]⟩) := by rw [hw1]; go_simp
  clear hw1
  simp only [World.size_alloc]
  go_wp2_with fail
  refine (takenOk_at a _).mono ?_
  rintro e wa ⟨rfl, hba⟩
  obtain ⟨hca, hfa⟩ := bcell hba
  have hza := hba.size
  rw [da]
  have hsa : w.heap.size < wa.heap.size := by omega
  have cb0a := (hba.cell (p := ⟨w.heap.size, 0, none⟩) (by show w.heap.size < _; omega)).trans cb0
  have cb2a := (hba.cell (p := ⟨w.heap.size, 2, none⟩) (by show w.heap.size < _; omega)).trans cb2
  go_wp2_with fail
  refine (takenOk_at b _).mono ?_
  rintro e wb ⟨rfl, hbb⟩
  obtain ⟨hcb, hfb⟩ := bcell hbb
  have hzb := hbb.size
  rw [db]
  go_wp2
  go_ret
  exact ⟨by rw [HE.out]; rfl, by (repeat (first | exact Below.refl _ _ | refine Below.setCell ?_ (by first | omega | (simp <;> omega)) _ | refine Below.alloc ?_ (by first | omega | (simp <;> omega)) _ | refine Below.drew ?_ | refine Below.trans ?_ (Below.mono (by assumption) (by first | omega | (simp <;> omega))) | refine Below.grown ?_ (by assumption) (by first | omega | (simp <;> omega)) (fun k e => by cases e; first | omega | (simp <;> omega))))⟩
set_option maxRecDepth 100000 in
set_option maxHeartbeats 2000000 in
theorem implText_word1 (a b : Int) (w : World) : Calls Tryd.prog 11 #[.agg #[.int .i64 1, .int .i64 a, .int .i64 b]] w fun e w' => e = .returned (.string (txt (deedT ⟨1, a, b⟩))) ∧ Below w.heap.size w w' := by
  by_cases h : a = 0 ∧ b = 0
  · have da : decide (a = 0 ∧ b = 0) = true := decide_eq_true h
    have HE := Lib.hid (show deedT ⟨1, a, b⟩ = [116, 117, 114, 110] by rw [h.1, h.2]; decide)
    clear h
    go_enter Tryd.func11, Tryd.ntmps11
    go_wp2_with fail
    refine (deedWords_at _).mono ?_
    rintro e w1 ⟨rfl, hw1⟩
    have hz1 : w1.heap.size = w.heap.size + 2 := by rw [hw1]; simp
    have hb1 : Below w.heap.size w w1 := by rw [hw1]; exact ((Below.refl _ _).alloc (Nat.le_refl _) _).alloc (by simp) _
    have cb0 : w1.cell? ⟨w.heap.size, 0, none⟩ = some (.int .i64 1) := by rw [hw1]; go_simp
    have cb1 : w1.cell? ⟨w.heap.size, 1, none⟩ = some (.int .i64 a) := by rw [hw1]; go_simp
    have cb2 : w1.cell? ⟨w.heap.size, 2, none⟩ = some (.int .i64 b) := by rw [hw1]; go_simp
    have cw0 : w1.cell? ⟨w.heap.size + 1, 0, none⟩ = some (.string ⟨#[116, 97, 107, 101]⟩) := by rw [hw1]; go_simp
    have cw1 : w1.cell? ⟨w.heap.size + 1, 1, none⟩ = some (.string ⟨#[116, 117, 114, 110]⟩) := by rw [hw1]; go_simp
    have cw2 : w1.cell? ⟨w.heap.size + 1, 2, none⟩ = some (.string ⟨#[117, 112]⟩) := by rw [hw1]; go_simp
    have cw3 : w1.cell? ⟨w.heap.size + 1, 3, none⟩ = some (.string ⟨#[100, 111, 119, 110]⟩) := by rw [hw1]; go_simp
    have cw4 : w1.cell? ⟨w.heap.size + 1, 4, none⟩ = some (.string ⟨#[98, 97, 99, 107]⟩) := by rw [hw1]; go_simp
    clear hw1
    simp only [World.size_alloc]
    go_wp2_with fail
    refine (namesNone_at 1 a b _).mono ?_
    rintro e wn ⟨rfl, hbn⟩
    obtain ⟨hcn, hfn⟩ := bcell hbn
    have hzn := hbn.size
    rw [da]
    have cw := (hbn.cell (p := ⟨w.heap.size + 1, 1, none⟩) (by show w.heap.size + 1 < _; omega)).trans cw1
    have cb := (hbn.cell (p := ⟨w.heap.size, 0, none⟩) (by show w.heap.size < _; omega)).trans cb0
    go_wp2
    go_ret
    exact ⟨by rw [HE.out]; rfl, by (repeat (first | exact Below.refl _ _ | refine Below.setCell ?_ (by first | omega | (simp <;> omega)) _ | refine Below.alloc ?_ (by first | omega | (simp <;> omega)) _ | refine Below.drew ?_ | refine Below.trans ?_ (Below.mono (by assumption) (by first | omega | (simp <;> omega))) | refine Below.grown ?_ (by assumption) (by first | omega | (simp <;> omega)) (fun k e => by cases e; first | omega | (simp <;> omega))))⟩
  · have da : decide (a = 0 ∧ b = 0) = false := decide_eq_false h
    have HE := Lib.hid (deedT_named (k := 1) (by decide) h)
    clear h
    go_enter Tryd.func11, Tryd.ntmps11
    go_wp2_with fail
    refine (deedWords_at _).mono ?_
    rintro e w1 ⟨rfl, hw1⟩
    have hz1 : w1.heap.size = w.heap.size + 2 := by rw [hw1]; simp
    have hb1 : Below w.heap.size w w1 := by rw [hw1]; exact ((Below.refl _ _).alloc (Nat.le_refl _) _).alloc (by simp) _
    have cb0 : w1.cell? ⟨w.heap.size, 0, none⟩ = some (.int .i64 1) := by rw [hw1]; go_simp
    have cb1 : w1.cell? ⟨w.heap.size, 1, none⟩ = some (.int .i64 a) := by rw [hw1]; go_simp
    have cb2 : w1.cell? ⟨w.heap.size, 2, none⟩ = some (.int .i64 b) := by rw [hw1]; go_simp
    have cw0 : w1.cell? ⟨w.heap.size + 1, 0, none⟩ = some (.string ⟨#[116, 97, 107, 101]⟩) := by rw [hw1]; go_simp
    have cw1 : w1.cell? ⟨w.heap.size + 1, 1, none⟩ = some (.string ⟨#[116, 117, 114, 110]⟩) := by rw [hw1]; go_simp
    have cw2 : w1.cell? ⟨w.heap.size + 1, 2, none⟩ = some (.string ⟨#[117, 112]⟩) := by rw [hw1]; go_simp
    have cw3 : w1.cell? ⟨w.heap.size + 1, 3, none⟩ = some (.string ⟨#[100, 111, 119, 110]⟩) := by rw [hw1]; go_simp
    have cw4 : w1.cell? ⟨w.heap.size + 1, 4, none⟩ = some (.string ⟨#[98, 97, 99, 107]⟩) := by rw [hw1]; go_simp
    clear hw1
    simp only [World.size_alloc]
    go_wp2_with fail
    refine (namesNone_at 1 a b _).mono ?_
    rintro e wn ⟨rfl, hbn⟩
    obtain ⟨hcn, hfn⟩ := bcell hbn
    have hzn := hbn.size
    rw [da]
    go_wp2
    go_ret
    exact ⟨by rw [HE.out]; rfl, by (repeat (first | exact Below.refl _ _ | refine Below.setCell ?_ (by first | omega | (simp <;> omega)) _ | refine Below.alloc ?_ (by first | omega | (simp <;> omega)) _ | refine Below.drew ?_ | refine Below.trans ?_ (Below.mono (by assumption) (by first | omega | (simp <;> omega))) | refine Below.grown ?_ (by assumption) (by first | omega | (simp <;> omega)) (fun k e => by cases e; first | omega | (simp <;> omega))))⟩
set_option maxRecDepth 100000 in
set_option maxHeartbeats 2000000 in
theorem implText_word2 (a b : Int) (w : World) : Calls Tryd.prog 11 #[.agg #[.int .i64 2, .int .i64 a, .int .i64 b]] w fun e w' => e = .returned (.string (txt (deedT ⟨2, a, b⟩))) ∧ Below w.heap.size w w' := by
  by_cases h : a = 0 ∧ b = 0
  · have da : decide (a = 0 ∧ b = 0) = true := decide_eq_true h
    have HE := Lib.hid (show deedT ⟨2, a, b⟩ = [117, 112] by rw [h.1, h.2]; decide)
    clear h
    go_enter Tryd.func11, Tryd.ntmps11
    go_wp2_with fail
    refine (deedWords_at _).mono ?_
    rintro e w1 ⟨rfl, hw1⟩
    have hz1 : w1.heap.size = w.heap.size + 2 := by rw [hw1]; simp
    have hb1 : Below w.heap.size w w1 := by rw [hw1]; exact ((Below.refl _ _).alloc (Nat.le_refl _) _).alloc (by simp) _
    have cb0 : w1.cell? ⟨w.heap.size, 0, none⟩ = some (.int .i64 2) := by rw [hw1]; go_simp
    have cb1 : w1.cell? ⟨w.heap.size, 1, none⟩ = some (.int .i64 a) := by rw [hw1]; go_simp
    have cb2 : w1.cell? ⟨w.heap.size, 2, none⟩ = some (.int .i64 b) := by rw [hw1]; go_simp
    have cw0 : w1.cell? ⟨w.heap.size + 1, 0, none⟩ = some (.string ⟨#[116, 97, 107, 101]⟩) := by rw [hw1]; go_simp
    have cw1 : w1.cell? ⟨w.heap.size + 1, 1, none⟩ = some (.string ⟨#[116, 117, 114, 110]⟩) := by rw [hw1]; go_simp
    have cw2 : w1.cell? ⟨w.heap.size + 1, 2, none⟩ = some (.string ⟨#[117, 112]⟩) := by rw [hw1]; go_simp
    have cw3 : w1.cell? ⟨w.heap.size + 1, 3, none⟩ = some (.string ⟨#[100, 111, 119, 110]⟩) := by rw [hw1]; go_simp
    have cw4 : w1.cell? ⟨w.heap.size + 1, 4, none⟩ = some (.string ⟨#[98, 97, 99, 107]⟩) := by rw [hw1]; go_simp
    clear hw1
    simp only [World.size_alloc]
    go_wp2_with fail
    refine (namesNone_at 2 a b _).mono ?_
    rintro e wn ⟨rfl, hbn⟩
    obtain ⟨hcn, hfn⟩ := bcell hbn
    have hzn := hbn.size
    rw [da]
    have cw := (hbn.cell (p := ⟨w.heap.size + 1, 2, none⟩) (by show w.heap.size + 1 < _; omega)).trans cw2
    have cb := (hbn.cell (p := ⟨w.heap.size, 0, none⟩) (by show w.heap.size < _; omega)).trans cb0
    go_wp2
    go_ret
    exact ⟨by rw [HE.out]; rfl, by (repeat (first | exact Below.refl _ _ | refine Below.setCell ?_ (by first | omega | (simp <;> omega)) _ | refine Below.alloc ?_ (by first | omega | (simp <;> omega)) _ | refine Below.drew ?_ | refine Below.trans ?_ (Below.mono (by assumption) (by first | omega | (simp <;> omega))) | refine Below.grown ?_ (by assumption) (by first | omega | (simp <;> omega)) (fun k e => by cases e; first | omega | (simp <;> omega))))⟩
  · have da : decide (a = 0 ∧ b = 0) = false := decide_eq_false h
    have HE := Lib.hid (deedT_named (k := 2) (by decide) h)
    clear h
    go_enter Tryd.func11, Tryd.ntmps11
    go_wp2_with fail
    refine (deedWords_at _).mono ?_
    rintro e w1 ⟨rfl, hw1⟩
    have hz1 : w1.heap.size = w.heap.size + 2 := by rw [hw1]; simp
    have hb1 : Below w.heap.size w w1 := by rw [hw1]; exact ((Below.refl _ _).alloc (Nat.le_refl _) _).alloc (by simp) _
    have cb0 : w1.cell? ⟨w.heap.size, 0, none⟩ = some (.int .i64 2) := by rw [hw1]; go_simp
    have cb1 : w1.cell? ⟨w.heap.size, 1, none⟩ = some (.int .i64 a) := by rw [hw1]; go_simp
    have cb2 : w1.cell? ⟨w.heap.size, 2, none⟩ = some (.int .i64 b) := by rw [hw1]; go_simp
    have cw0 : w1.cell? ⟨w.heap.size + 1, 0, none⟩ = some (.string ⟨#[116, 97, 107, 101]⟩) := by rw [hw1]; go_simp
    have cw1 : w1.cell? ⟨w.heap.size + 1, 1, none⟩ = some (.string ⟨#[116, 117, 114, 110]⟩) := by rw [hw1]; go_simp
    have cw2 : w1.cell? ⟨w.heap.size + 1, 2, none⟩ = some (.string ⟨#[117, 112]⟩) := by rw [hw1]; go_simp
    have cw3 : w1.cell? ⟨w.heap.size + 1, 3, none⟩ = some (.string ⟨#[100, 111, 119, 110]⟩) := by rw [hw1]; go_simp
    have cw4 : w1.cell? ⟨w.heap.size + 1, 4, none⟩ = some (.string ⟨#[98, 97, 99, 107]⟩) := by rw [hw1]; go_simp
    clear hw1
    simp only [World.size_alloc]
    go_wp2_with fail
    refine (namesNone_at 2 a b _).mono ?_
    rintro e wn ⟨rfl, hbn⟩
    obtain ⟨hcn, hfn⟩ := bcell hbn
    have hzn := hbn.size
    rw [da]
    go_wp2
    go_ret
    exact ⟨by rw [HE.out]; rfl, by (repeat (first | exact Below.refl _ _ | refine Below.setCell ?_ (by first | omega | (simp <;> omega)) _ | refine Below.alloc ?_ (by first | omega | (simp <;> omega)) _ | refine Below.drew ?_ | refine Below.trans ?_ (Below.mono (by assumption) (by first | omega | (simp <;> omega))) | refine Below.grown ?_ (by assumption) (by first | omega | (simp <;> omega)) (fun k e => by cases e; first | omega | (simp <;> omega))))⟩
set_option maxRecDepth 100000 in
set_option maxHeartbeats 2000000 in
theorem implText_word3 (a b : Int) (w : World) : Calls Tryd.prog 11 #[.agg #[.int .i64 3, .int .i64 a, .int .i64 b]] w fun e w' => e = .returned (.string (txt (deedT ⟨3, a, b⟩))) ∧ Below w.heap.size w w' := by
  by_cases h : a = 0 ∧ b = 0
  · have da : decide (a = 0 ∧ b = 0) = true := decide_eq_true h
    have HE := Lib.hid (show deedT ⟨3, a, b⟩ = [100, 111, 119, 110] by rw [h.1, h.2]; decide)
    clear h
    go_enter Tryd.func11, Tryd.ntmps11
    go_wp2_with fail
    refine (deedWords_at _).mono ?_
    rintro e w1 ⟨rfl, hw1⟩
    have hz1 : w1.heap.size = w.heap.size + 2 := by rw [hw1]; simp
    have hb1 : Below w.heap.size w w1 := by rw [hw1]; exact ((Below.refl _ _).alloc (Nat.le_refl _) _).alloc (by simp) _
    have cb0 : w1.cell? ⟨w.heap.size, 0, none⟩ = some (.int .i64 3) := by rw [hw1]; go_simp
    have cb1 : w1.cell? ⟨w.heap.size, 1, none⟩ = some (.int .i64 a) := by rw [hw1]; go_simp
    have cb2 : w1.cell? ⟨w.heap.size, 2, none⟩ = some (.int .i64 b) := by rw [hw1]; go_simp
    have cw0 : w1.cell? ⟨w.heap.size + 1, 0, none⟩ = some (.string ⟨#[116, 97, 107, 101]⟩) := by rw [hw1]; go_simp
    have cw1 : w1.cell? ⟨w.heap.size + 1, 1, none⟩ = some (.string ⟨#[116, 117, 114, 110]⟩) := by rw [hw1]; go_simp
    have cw2 : w1.cell? ⟨w.heap.size + 1, 2, none⟩ = some (.string ⟨#[117, 112]⟩) := by rw [hw1]; go_simp
    have cw3 : w1.cell? ⟨w.heap.size + 1, 3, none⟩ = some (.string ⟨#[100, 111, 119, 110]⟩) := by rw [hw1]; go_simp
    have cw4 : w1.cell? ⟨w.heap.size + 1, 4, none⟩ = some (.string ⟨#[98, 97, 99, 107]⟩) := by rw [hw1]; go_simp
    clear hw1
    simp only [World.size_alloc]
    go_wp2_with fail
    refine (namesNone_at 3 a b _).mono ?_
    rintro e wn ⟨rfl, hbn⟩
    obtain ⟨hcn, hfn⟩ := bcell hbn
    have hzn := hbn.size
    rw [da]
    have cw := (hbn.cell (p := ⟨w.heap.size + 1, 3, none⟩) (by show w.heap.size + 1 < _; omega)).trans cw3
    have cb := (hbn.cell (p := ⟨w.heap.size, 0, none⟩) (by show w.heap.size < _; omega)).trans cb0
    go_wp2
    go_ret
    exact ⟨by rw [HE.out]; rfl, by (repeat (first | exact Below.refl _ _ | refine Below.setCell ?_ (by first | omega | (simp <;> omega)) _ | refine Below.alloc ?_ (by first | omega | (simp <;> omega)) _ | refine Below.drew ?_ | refine Below.trans ?_ (Below.mono (by assumption) (by first | omega | (simp <;> omega))) | refine Below.grown ?_ (by assumption) (by first | omega | (simp <;> omega)) (fun k e => by cases e; first | omega | (simp <;> omega))))⟩
  · have da : decide (a = 0 ∧ b = 0) = false := decide_eq_false h
    have HE := Lib.hid (deedT_named (k := 3) (by decide) h)
    clear h
    go_enter Tryd.func11, Tryd.ntmps11
    go_wp2_with fail
    refine (deedWords_at _).mono ?_
    rintro e w1 ⟨rfl, hw1⟩
    have hz1 : w1.heap.size = w.heap.size + 2 := by rw [hw1]; simp
    have hb1 : Below w.heap.size w w1 := by rw [hw1]; exact ((Below.refl _ _).alloc (Nat.le_refl _) _).alloc (by simp) _
    have cb0 : w1.cell? ⟨w.heap.size, 0, none⟩ = some (.int .i64 3) := by rw [hw1]; go_simp
    have cb1 : w1.cell? ⟨w.heap.size, 1, none⟩ = some (.int .i64 a) := by rw [hw1]; go_simp
    have cb2 : w1.cell? ⟨w.heap.size, 2, none⟩ = some (.int .i64 b) := by rw [hw1]; go_simp
    have cw0 : w1.cell? ⟨w.heap.size + 1, 0, none⟩ = some (.string ⟨#[116, 97, 107, 101]⟩) := by rw [hw1]; go_simp
    have cw1 : w1.cell? ⟨w.heap.size + 1, 1, none⟩ = some (.string ⟨#[116, 117, 114, 110]⟩) := by rw [hw1]; go_simp
    have cw2 : w1.cell? ⟨w.heap.size + 1, 2, none⟩ = some (.string ⟨#[117, 112]⟩) := by rw [hw1]; go_simp
    have cw3 : w1.cell? ⟨w.heap.size + 1, 3, none⟩ = some (.string ⟨#[100, 111, 119, 110]⟩) := by rw [hw1]; go_simp
    have cw4 : w1.cell? ⟨w.heap.size + 1, 4, none⟩ = some (.string ⟨#[98, 97, 99, 107]⟩) := by rw [hw1]; go_simp
    clear hw1
    simp only [World.size_alloc]
    go_wp2_with fail
    refine (namesNone_at 3 a b _).mono ?_
    rintro e wn ⟨rfl, hbn⟩
    obtain ⟨hcn, hfn⟩ := bcell hbn
    have hzn := hbn.size
    rw [da]
    go_wp2
    go_ret
    exact ⟨by rw [HE.out]; rfl, by (repeat (first | exact Below.refl _ _ | refine Below.setCell ?_ (by first | omega | (simp <;> omega)) _ | refine Below.alloc ?_ (by first | omega | (simp <;> omega)) _ | refine Below.drew ?_ | refine Below.trans ?_ (Below.mono (by assumption) (by first | omega | (simp <;> omega))) | refine Below.grown ?_ (by assumption) (by first | omega | (simp <;> omega)) (fun k e => by cases e; first | omega | (simp <;> omega))))⟩
set_option maxRecDepth 100000 in
set_option maxHeartbeats 2000000 in
theorem implText_word4 (a b : Int) (w : World) : Calls Tryd.prog 11 #[.agg #[.int .i64 4, .int .i64 a, .int .i64 b]] w fun e w' => e = .returned (.string (txt (deedT ⟨4, a, b⟩))) ∧ Below w.heap.size w w' := by
  by_cases h : a = 0 ∧ b = 0
  · have da : decide (a = 0 ∧ b = 0) = true := decide_eq_true h
    have HE := Lib.hid (show deedT ⟨4, a, b⟩ = [98, 97, 99, 107] by rw [h.1, h.2]; decide)
    clear h
    go_enter Tryd.func11, Tryd.ntmps11
    go_wp2_with fail
    refine (deedWords_at _).mono ?_
    rintro e w1 ⟨rfl, hw1⟩
    have hz1 : w1.heap.size = w.heap.size + 2 := by rw [hw1]; simp
    have hb1 : Below w.heap.size w w1 := by rw [hw1]; exact ((Below.refl _ _).alloc (Nat.le_refl _) _).alloc (by simp) _
    have cb0 : w1.cell? ⟨w.heap.size, 0, none⟩ = some (.int .i64 4) := by rw [hw1]; go_simp
    have cb1 : w1.cell? ⟨w.heap.size, 1, none⟩ = some (.int .i64 a) := by rw [hw1]; go_simp
    have cb2 : w1.cell? ⟨w.heap.size, 2, none⟩ = some (.int .i64 b) := by rw [hw1]; go_simp
    have cw0 : w1.cell? ⟨w.heap.size + 1, 0, none⟩ = some (.string ⟨#[116, 97, 107, 101]⟩) := by rw [hw1]; go_simp
    have cw1 : w1.cell? ⟨w.heap.size + 1, 1, none⟩ = some (.string ⟨#[116, 117, 114, 110]⟩) := by rw [hw1]; go_simp
    have cw2 : w1.cell? ⟨w.heap.size + 1, 2, none⟩ = some (.string ⟨#[117, 112]⟩) := by rw [hw1]; go_simp
    have cw3 : w1.cell? ⟨w.heap.size + 1, 3, none⟩ = some (.string ⟨#[100, 111, 119, 110]⟩) := by rw [hw1]; go_simp
    have cw4 : w1.cell? ⟨w.heap.size + 1, 4, none⟩ = some (.string ⟨#[98, 97, 99, 107]⟩) := by rw [hw1]; go_simp
    clear hw1
    simp only [World.size_alloc]
    go_wp2_with fail
    refine (namesNone_at 4 a b _).mono ?_
    rintro e wn ⟨rfl, hbn⟩
    obtain ⟨hcn, hfn⟩ := bcell hbn
    have hzn := hbn.size
    rw [da]
    have cw := (hbn.cell (p := ⟨w.heap.size + 1, 4, none⟩) (by show w.heap.size + 1 < _; omega)).trans cw4
    have cb := (hbn.cell (p := ⟨w.heap.size, 0, none⟩) (by show w.heap.size < _; omega)).trans cb0
    go_wp2
    go_ret
    exact ⟨by rw [HE.out]; rfl, by (repeat (first | exact Below.refl _ _ | refine Below.setCell ?_ (by first | omega | (simp <;> omega)) _ | refine Below.alloc ?_ (by first | omega | (simp <;> omega)) _ | refine Below.drew ?_ | refine Below.trans ?_ (Below.mono (by assumption) (by first | omega | (simp <;> omega))) | refine Below.grown ?_ (by assumption) (by first | omega | (simp <;> omega)) (fun k e => by cases e; first | omega | (simp <;> omega))))⟩
  · have da : decide (a = 0 ∧ b = 0) = false := decide_eq_false h
    have HE := Lib.hid (deedT_named (k := 4) (by decide) h)
    clear h
    go_enter Tryd.func11, Tryd.ntmps11
    go_wp2_with fail
    refine (deedWords_at _).mono ?_
    rintro e w1 ⟨rfl, hw1⟩
    have hz1 : w1.heap.size = w.heap.size + 2 := by rw [hw1]; simp
    have hb1 : Below w.heap.size w w1 := by rw [hw1]; exact ((Below.refl _ _).alloc (Nat.le_refl _) _).alloc (by simp) _
    have cb0 : w1.cell? ⟨w.heap.size, 0, none⟩ = some (.int .i64 4) := by rw [hw1]; go_simp
    have cb1 : w1.cell? ⟨w.heap.size, 1, none⟩ = some (.int .i64 a) := by rw [hw1]; go_simp
    have cb2 : w1.cell? ⟨w.heap.size, 2, none⟩ = some (.int .i64 b) := by rw [hw1]; go_simp
    have cw0 : w1.cell? ⟨w.heap.size + 1, 0, none⟩ = some (.string ⟨#[116, 97, 107, 101]⟩) := by rw [hw1]; go_simp
    have cw1 : w1.cell? ⟨w.heap.size + 1, 1, none⟩ = some (.string ⟨#[116, 117, 114, 110]⟩) := by rw [hw1]; go_simp
    have cw2 : w1.cell? ⟨w.heap.size + 1, 2, none⟩ = some (.string ⟨#[117, 112]⟩) := by rw [hw1]; go_simp
    have cw3 : w1.cell? ⟨w.heap.size + 1, 3, none⟩ = some (.string ⟨#[100, 111, 119, 110]⟩) := by rw [hw1]; go_simp
    have cw4 : w1.cell? ⟨w.heap.size + 1, 4, none⟩ = some (.string ⟨#[98, 97, 99, 107]⟩) := by rw [hw1]; go_simp
    clear hw1
    simp only [World.size_alloc]
    go_wp2_with fail
    refine (namesNone_at 4 a b _).mono ?_
    rintro e wn ⟨rfl, hbn⟩
    obtain ⟨hcn, hfn⟩ := bcell hbn
    have hzn := hbn.size
    rw [da]
    go_wp2
    go_ret
    exact ⟨by rw [HE.out]; rfl, by (repeat (first | exact Below.refl _ _ | refine Below.setCell ?_ (by first | omega | (simp <;> omega)) _ | refine Below.alloc ?_ (by first | omega | (simp <;> omega)) _ | refine Below.drew ?_ | refine Below.trans ?_ (Below.mono (by assumption) (by first | omega | (simp <;> omega))) | refine Below.grown ?_ (by assumption) (by first | omega | (simp <;> omega)) (fun k e => by cases e; first | omega | (simp <;> omega))))⟩
set_option maxRecDepth 100000 in
set_option maxHeartbeats 2000000 in
theorem implText_off (k a b : Int) (w : World) (h : k < 0 ∨ 4 < k) : Calls Tryd.prog 11 #[.agg #[.int .i64 k, .int .i64 a, .int .i64 b]] w fun e w' => e = .returned (.string (txt (deedT ⟨k, a, b⟩))) ∧ Below w.heap.size w w' := by
  have HE := Lib.hid (deedT_other (a := a) (b := b) h)
  have hk0 : ¬ k = 0 := by omega
  rcases h with h | h
  · have h1 : ¬ (0 < k) := by omega
    go_enter Tryd.func11, Tryd.ntmps11
    go_wp2_with fail
    refine (deedWords_at _).mono ?_
    rintro e w1 ⟨rfl, hw1⟩
    have hz1 : w1.heap.size = w.heap.size + 2 := by rw [hw1]; simp
    have hb1 : Below w.heap.size w w1 := by rw [hw1]; exact ((Below.refl _ _).alloc (Nat.le_refl _) _).alloc (by simp) _
    have cb0 : w1.cell? ⟨w.heap.size, 0, none⟩ = some (.int .i64 k) := by rw [hw1]; go_simp
    have cb1 : w1.cell? ⟨w.heap.size, 1, none⟩ = some (.int .i64 a) := by rw [hw1]; go_simp
    have cb2 : w1.cell? ⟨w.heap.size, 2, none⟩ = some (.int .i64 b) := by rw [hw1]; go_simp
    have cw0 : w1.cell? ⟨w.heap.size + 1, 0, none⟩ = some (.string ⟨#[116, 97, 107, 101]⟩) := by rw [hw1]; go_simp
    have cw1 : w1.cell? ⟨w.heap.size + 1, 1, none⟩ = some (.string ⟨#[116, 117, 114, 110]⟩) := by rw [hw1]; go_simp
    have cw2 : w1.cell? ⟨w.heap.size + 1, 2, none⟩ = some (.string ⟨#[117, 112]⟩) := by rw [hw1]; go_simp
    have cw3 : w1.cell? ⟨w.heap.size + 1, 3, none⟩ = some (.string ⟨#[100, 111, 119, 110]⟩) := by rw [hw1]; go_simp
    have cw4 : w1.cell? ⟨w.heap.size + 1, 4, none⟩ = some (.string ⟨#[98, 97, 99, 107]⟩) := by rw [hw1]; go_simp
    clear hw1
    simp only [World.size_alloc]
    go_wp2
    go_ret
    exact ⟨by rw [HE.out]; rfl, by (repeat (first | exact Below.refl _ _ | refine Below.setCell ?_ (by first | omega | (simp <;> omega)) _ | refine Below.alloc ?_ (by first | omega | (simp <;> omega)) _ | refine Below.drew ?_ | refine Below.trans ?_ (Below.mono (by assumption) (by first | omega | (simp <;> omega))) | refine Below.grown ?_ (by assumption) (by first | omega | (simp <;> omega)) (fun k e => by cases e; first | omega | (simp <;> omega))))⟩
  · have h1 : (0 < k) := by omega
    have h2 : ¬ (k < 5) := by omega
    go_enter Tryd.func11, Tryd.ntmps11
    go_wp2_with fail
    refine (deedWords_at _).mono ?_
    rintro e w1 ⟨rfl, hw1⟩
    have hz1 : w1.heap.size = w.heap.size + 2 := by rw [hw1]; simp
    have hb1 : Below w.heap.size w w1 := by rw [hw1]; exact ((Below.refl _ _).alloc (Nat.le_refl _) _).alloc (by simp) _
    have cb0 : w1.cell? ⟨w.heap.size, 0, none⟩ = some (.int .i64 k) := by rw [hw1]; go_simp
    have cb1 : w1.cell? ⟨w.heap.size, 1, none⟩ = some (.int .i64 a) := by rw [hw1]; go_simp
    have cb2 : w1.cell? ⟨w.heap.size, 2, none⟩ = some (.int .i64 b) := by rw [hw1]; go_simp
    have cw0 : w1.cell? ⟨w.heap.size + 1, 0, none⟩ = some (.string ⟨#[116, 97, 107, 101]⟩) := by rw [hw1]; go_simp
    have cw1 : w1.cell? ⟨w.heap.size + 1, 1, none⟩ = some (.string ⟨#[116, 117, 114, 110]⟩) := by rw [hw1]; go_simp
    have cw2 : w1.cell? ⟨w.heap.size + 1, 2, none⟩ = some (.string ⟨#[117, 112]⟩) := by rw [hw1]; go_simp
    have cw3 : w1.cell? ⟨w.heap.size + 1, 3, none⟩ = some (.string ⟨#[100, 111, 119, 110]⟩) := by rw [hw1]; go_simp
    have cw4 : w1.cell? ⟨w.heap.size + 1, 4, none⟩ = some (.string ⟨#[98, 97, 99, 107]⟩) := by rw [hw1]; go_simp
    clear hw1
    simp only [World.size_alloc]
    go_wp2
    go_ret
    exact ⟨by rw [HE.out]; rfl, by (repeat (first | exact Below.refl _ _ | refine Below.setCell ?_ (by first | omega | (simp <;> omega)) _ | refine Below.alloc ?_ (by first | omega | (simp <;> omega)) _ | refine Below.drew ?_ | refine Below.trans ?_ (Below.mono (by assumption) (by first | omega | (simp <;> omega))) | refine Below.grown ?_ (by assumption) (by first | omega | (simp <;> omega)) (fun k e => by cases e; first | omega | (simp <;> omega))))⟩
/-- The text of a deed, as the program tells it. -/
theorem implText_any (k a b : Int) (w : World) (ht : PowTab w) : Calls Tryd.prog 11 #[.agg #[.int .i64 k, .int .i64 a, .int .i64 b]] w fun e w' => e = .returned (.string (txt (deedT ⟨k, a, b⟩))) ∧ Below w.heap.size w w' := by
  rcases (show k = 0 ∨ k = 1 ∨ k = 2 ∨ k = 3 ∨ k = 4 ∨ (k < 0 ∨ 4 < k) by omega) with rfl | rfl | rfl | rfl | rfl | h
  · by_cases ha : -9 ≤ a ∧ a ≤ 9
    · by_cases hb : -9 ≤ b ∧ b ≤ 9
      · exact implText_take a b w ht ha.1 ha.2 hb.1 hb.2
      · exact implText_notB a b w ha hb
    · exact implText_notA a b w ha
  · exact implText_word1 a b w
  · exact implText_word2 a b w
  · exact implText_word3 a b w
  · exact implText_word4 a b w
  · exact implText_off k a b w h
end Go.Proofs.YtigcomhhgfgmgaaDoor
namespace Go.Proofs.YtigcomhhgfgmgaaDoor
open Go.RowKit
theorem decN_small {n f : Nat} (h : n < 10) : decN (f + 1) n = [UInt8.ofNat (48 + n)] := by rw [decN, if_pos h]
theorem decN_big {n f : Nat} (h : ¬ n < 10) : decN (f + 1) n = decN f (n / 10) ++ [UInt8.ofNat (48 + n % 10)] := by rw [decN, if_neg h]
theorem decN_len : ∀ (f n : Nat), (decN f n).length ≤ f
  | 0, n => by simp [decN]
  | f + 1, n => by
    have := decN_len f (n / 10)
    unfold decN
    split
    · simp
    · rw [List.length_append]; simp; omega
theorem run_digit_at (w : World) (b d : Nat) (hd : d < 10) (h : w.cell? ⟨b, 0, none⟩ = some (.int .u8 (48 + (d : Int)))) : (convert 22 9 (.slice (some ⟨b, 0, none⟩) 1 1)).run Tryd.prog w = .ok (.string (digS d)) w := by
  have h' := run_convert_bytes_back (P := Tryd.prog) w 22 9 5 ⟨b, 0, none⟩ 1 [UInt8.ofNat (48 + d)] Tryd.underlying22 Tryd.underlying5 Tryd.underlying9 ?_
  · exact h'
  · intro j hj
    obtain rfl : j = 0 := by simpa using hj
    have e : ((UInt8.ofNat (48 + d)).toNat : Int) = 48 + (d : Int) := by
      rw [UInt8.toNat_ofNat_of_lt' (by show 48 + d < 256; omega)]; omega
    have e2 : (⟨b, 0, none⟩ : Addr).add 0 = ⟨b, 0, none⟩ := by unfold Addr.add; split <;> simp_all
    rw [e2, h, ← e]
    rfl
set_option maxHeartbeats 1000000 in
theorem number_digit (n : Nat) (w : World) (h : n < 10) : Calls Tryd.prog 37 #[.int .i64 n] w fun e w' => e = .returned (.string (digS n)) ∧ Below w.heap.size w w' := by
  have h0 : ¬ ((n : Int) < 0) := by omega
  have h1 : (n : Int) < 10 := by omega
  have hw8 : IntKind.u8.wrap (48 + (n : Int)) = 48 + (n : Int) := IntWalk.u8_in _ ⟨by omega, by omega⟩
  have hw6 : IntKind.i64.wrap (48 + (n : Int)) = 48 + (n : Int) := by rw [IntKind.wrap_i64]; omega
  have hcv := run_digit w n h
  go_enter Tryd.func37, Tryd.ntmps37
  go_wp2
  go_ret
  exact ⟨rfl, by (repeat (first | exact Below.refl _ _ | refine Below.setCell ?_ (by first | omega | (simp <;> omega)) _ | refine Below.alloc ?_ (by first | omega | (simp <;> omega)) _ | refine Below.drew ?_ | refine Below.trans ?_ (Below.mono (by assumption) (by first | omega | (simp <;> omega))) | refine Below.grown ?_ (by assumption) (by first | omega | (simp <;> omega)) (fun k e => by cases e; first | omega | (simp <;> omega))))⟩
def numP (n m d : Nat) (q : ByteArray) (j : Nat) (v : Value) (w : World) : Prop :=
  match j with
  | 0 => v = .int .i64 n
  | 1 => v = .int .i64 (m : Int)
  | 2 => v = .string q
  | 3 => v = .int .i64 n
  | 4 => v = .int .i64 (d : Int)
  | 5 => v = .int .i64 (48 + (d : Int))
  | 6 => v = .int .u8 (48 + (d : Int))
  | 7 => ∃ b, v = .slice (some ⟨b, 0, none⟩) 1 1 ∧ b < w.heap.size ∧ w.cell? ⟨b, 0, none⟩ = some (.int .u8 (48 + (d : Int)))
  | 8 => v = .string (digS d)
  | _ => v = .string (q ++ digS d)
theorem numP_mono (n m d : Nat) (q : ByteArray) (j : Nat) (v : Value) (w w' : World) (hg : Below w.heap.size w w') (h : numP n m d q j v w) : numP n m d q j v w' := by
  unfold numP at *
  split at h
  · exact h
  · exact h
  · exact h
  · exact h
  · exact h
  · exact h
  · exact h
  · obtain ⟨b, e, h1, h2⟩ := h
    exact ⟨b, e, Nat.lt_of_lt_of_le h1 hg.size, (hg.cell (p := ⟨b, 0, none⟩) h1).trans h2⟩
  · exact h
  · exact h
set_option linter.unusedSimpArgs false in
set_option maxRecDepth 100000 in
set_option maxHeartbeats 4000000 in
theorem number_more (n m d : Nat) (q : ByteArray) (w : World) (h10 : 10 ≤ n) (hn : n ≤ 9223372036854775807) (hm : n / 10 = m) (hd : n % 10 = d) (hq : q.size ≤ 1000)
    (IH : ∀ w, Calls Tryd.prog 37 #[.int .i64 (m : Int)] w fun e w' => e = .returned (.string q) ∧ Below w.heap.size w w') :
    Calls Tryd.prog 37 #[.int .i64 n] w fun e w' => e = .returned (.string (q ++ digS d)) ∧ Below w.heap.size w w' := by
  have h0 : ¬ ((n : Int) < 0) := by omega
  have h1 : ¬ ((n : Int) < 10) := by omega
  have hen : ∀ (args : Array Value) (w : World), (callFunc 37 args).run Tryd.prog w = .ok (.enter 37 args) w := enters_of Tryd.func37 (by kernel_rfl) rfl
  have hd9 : d < 10 := by omega
  have q1 : Int.tdiv (n : Int) 10 = (m : Int) := by rw [Int.tdiv_eq_ediv_of_nonneg (by omega)]; omega
  have q3 : (n : Int) / 10 = (m : Int) := by omega
  have q2 : IntKind.i64.wrap (m : Int) = (m : Int) := by rw [IntKind.wrap_i64]; omega
  have r1 : Int.tmod (n : Int) 10 = (d : Int) := by rw [Int.tmod_eq_emod_of_nonneg (by omega)]; omega
  have r3 : (n : Int) % 10 = (d : Int) := by omega
  have r2 : IntKind.i64.wrap (d : Int) = (d : Int) := by rw [IntKind.wrap_i64]; omega
  have a2 : IntKind.i64.wrap (48 + (d : Int)) = 48 + (d : Int) := by rw [IntKind.wrap_i64]; omega
  have hw8 : IntKind.u8.wrap (48 + (d : Int)) = 48 + (d : Int) := IntWalk.u8_in _ ⟨by omega, by omega⟩
  have hds : (digS d).size = 1 := rfl
  have hcat : ¬ 9223372036854775807 < q.size + 1 := by omega
  clear hm hd
  have HIH := Lib.hid IH
  have HEN := Lib.hid hen
  clear IH hen
  go_enter Tryd.func37, Tryd.ntmps37
  go_wp2_with fail
  rename_i K hK
  have hen := HEN.out
  refine wp_region_stores (PP := numP n m d q) (Grow := fun a b => Below a.heap.size a b) (G := fun _ w' => Below w.heap.size w w') (by kernel_rfl) (dis_of2 (by kernel_rfl)) (b_of (by kernel_rfl)) (back_of (by kernel_rfl)) (fun j u w1 w2 hg hp => numP_mono n m d q j u w1 w2 hg hp) (Below.drew (Below.refl _ _)) ?step ?fin
  case step =>
    intro i o hi listed a w1 hS hG hall hl
    have hi11 : i < 11 := (Array.getElem?_eq_some_iff.1 hi).1
    rcases (show i = 0 ∨ i = 1 ∨ i = 2 ∨ i = 3 ∨ i = 4 ∨ i = 5 ∨ i = 6 ∨ i = 7 ∨ i = 8 ∨ i = 9 ∨ i = 10 by omega) with rfl | rfl | rfl | rfl | rfl | rfl | rfl | rfl | rfl | rfl | rfl
    · obtain rfl := Option.some.inj hi
      have e0 : a.eval (.tmp 0) = .int .i64 n := hS.2.2.1 0 (noDst_of (by kernel_rfl))
      refine op_value (v := .int .i64 n) (w' := w1) rfl rfl (by intro ev ht hc hf; rw [← ht] at e0; simp [execOp, hc, hf, e0, go_sem]) ⟨.inl ⟨_, 24, rfl, rfl, rfl⟩, Below.refl _ _, hG⟩
    · obtain rfl := Option.some.inj hi
      have P0 := hS.2.2.2 0 _ 24 rfl rfl (hall { on := 0, ground := .data } (by simp) rfl)
      replace P0 : a.eval (.tmp 24) = .int .i64 n := P0
      refine op_value (v := .int .i64 (m : Int)) (w' := w1) rfl rfl (by intro ev ht hc hf; rw [← ht] at P0; simp [execOp, hc, hf, P0, q1, q2, q3, go_sem]) ⟨.inl ⟨_, 25, rfl, rfl, rfl⟩, Below.refl _ _, hG⟩
    · obtain rfl := Option.some.inj hi
      have P1 := hS.2.2.2 1 _ 25 rfl rfl (hall { on := 1, ground := .data } (by simp) rfl)
      replace P1 : a.eval (.tmp 25) = .int .i64 (m : Int) := P1
      refine op_enter rfl rfl (f := 37) (args := #[.int .i64 (m : Int)]) (w' := w1) (by intro ev ht hc hf; rw [← ht] at P1; simp [execOp, hc, hf, P1, go_sem, hen]) ?_
      refine (HIH.out w1).mono ?_
      rintro e w2 ⟨rfl, hb⟩
      exact ⟨_, rfl, .inl ⟨_, 26, rfl, rfl, rfl⟩, hb, hG.trans (hb.mono hG.size)⟩
    · obtain rfl := Option.some.inj hi
      have e0 : a.eval (.tmp 0) = .int .i64 n := hS.2.2.1 0 (noDst_of (by kernel_rfl))
      refine op_value (v := .int .i64 n) (w' := w1) rfl rfl (by intro ev ht hc hf; rw [← ht] at e0; simp [execOp, hc, hf, e0, go_sem]) ⟨.inl ⟨_, 27, rfl, rfl, rfl⟩, Below.refl _ _, hG⟩
    · obtain rfl := Option.some.inj hi
      have P3 := hS.2.2.2 3 _ 27 rfl rfl (hall { on := 3, ground := .data } (by simp) rfl)
      replace P3 : a.eval (.tmp 27) = .int .i64 n := P3
      refine op_value (v := .int .i64 (d : Int)) (w' := w1) rfl rfl (by intro ev ht hc hf; rw [← ht] at P3; simp [execOp, hc, hf, P3, r1, r2, r3, go_sem]) ⟨.inl ⟨_, 28, rfl, rfl, rfl⟩, Below.refl _ _, hG⟩
    · obtain rfl := Option.some.inj hi
      have P4 := hS.2.2.2 4 _ 28 rfl rfl (hall { on := 4, ground := .data } (by simp) rfl)
      replace P4 : a.eval (.tmp 28) = .int .i64 (d : Int) := P4
      refine op_value (v := .int .i64 (48 + (d : Int))) (w' := w1) rfl rfl (by intro ev ht hc hf; rw [← ht] at P4; simp [execOp, hc, hf, P4, a2, go_sem]) ⟨.inl ⟨_, 29, rfl, rfl, rfl⟩, Below.refl _ _, hG⟩
    · obtain rfl := Option.some.inj hi
      have P5 := hS.2.2.2 5 _ 29 rfl rfl (hall { on := 5, ground := .data } (by simp) rfl)
      replace P5 : a.eval (.tmp 29) = .int .i64 (48 + (d : Int)) := P5
      refine op_value (v := .int .u8 (48 + (d : Int))) (w' := w1) rfl rfl (by intro ev ht hc hf; rw [← ht] at P5; simp [execOp, hc, hf, P5, hw8, go_sem]) ⟨.inl ⟨_, 30, rfl, rfl, rfl⟩, Below.refl _ _, hG⟩
    · obtain rfl := Option.some.inj hi
      have P6 := hS.2.2.2 6 _ 30 rfl rfl (hall { on := 6, ground := .data } (by simp) rfl)
      replace P6 : a.eval (.tmp 30) = .int .u8 (48 + (d : Int)) := P6
      refine op_value (v := .slice (some ⟨w1.heap.size, 0, none⟩) 1 1) (w' := w1.alloc (.cells #[.int .u8 (48 + (d : Int))] 5)) rfl rfl (by intro ev ht hc hf; rw [← ht] at P6; simp [execOp, hc, hf, P6, go_sem]; try go_simp) ⟨.inl ⟨_, 31, rfl, rfl, ⟨w1.heap.size, rfl, by simp, World.cell?_alloc_mark _ _ _ _ _⟩⟩, (Below.refl _ _).alloc (Nat.le_refl _) _, hG.alloc hG.size _⟩
    · obtain rfl := Option.some.inj hi
      have P7 := hS.2.2.2 7 _ 31 rfl rfl (hall { on := 7, ground := .data } (by simp) rfl)
      obtain ⟨b, eb, hb1, hb2⟩ := P7
      have hcv := run_digit_at w1 b d hd9 hb2
      refine op_value (v := .string (digS d)) (w' := w1) rfl rfl (by intro ev ht hc hf; rw [← ht] at eb; simp [execOp, hc, hf, eb, hcv, go_sem]) ⟨.inl ⟨_, 32, rfl, rfl, rfl⟩, Below.refl _ _, hG⟩
    · obtain rfl := Option.some.inj hi
      have P2 := hS.2.2.2 2 _ 26 rfl rfl (hall { on := 2, ground := .data } (by simp) rfl)
      replace P2 : a.eval (.tmp 26) = .string q := P2
      have P8 := hS.2.2.2 8 _ 32 rfl rfl (hall { on := 8, ground := .data } (by simp) rfl)
      replace P8 : a.eval (.tmp 32) = .string (digS d) := P8
      refine op_value (v := .string (q ++ digS d)) (w' := w1) rfl rfl (by intro ev ht hc hf; rw [← ht] at P2 P8; simp [execOp, hc, hf, P2, P8, hds, hcat, go_sem]) ⟨.inl ⟨_, 33, rfl, rfl, rfl⟩, Below.refl _ _, hG⟩
    · obtain rfl := Option.some.inj hi
      have P9 := hS.2.2.2 9 _ 33 rfl rfl (hall { on := 9, ground := .data } (by simp) rfl)
      replace P9 : a.eval (.tmp 33) = .string (q ++ digS d) := P9
      refine op_value (v := .string (q ++ digS d)) (w' := w1) rfl rfl (by intro ev ht hc hf; rw [← ht] at P9; simp [execOp, hc, hf, P9, go_sem]) ⟨.inl ⟨_, 2, rfl, rfl, rfl⟩, Below.refl _ _, hG⟩
  case fin =>
    intro listed a w1 hall hS hG
    have e2 : a.tmps.getD 2 undef = .string (q ++ digS d) := hS.2.2.2 10 _ 2 rfl rfl (hall 10 (by decide))
    have hd : a.defers = [] := hS.1
    refine hK _ _ ?_
    clear hK hS hall
    go_wp2_with fail
    refine bodyPost_ret (v := .string (q ++ digS d)) ((results_tmp Tryd.results37 _ _ _).trans (by rw [e2])) hd ⟨rfl, hG⟩
theorem digS_txt (d : Nat) : digS d = txt [UInt8.ofNat (48 + d)] := rfl
theorem number_nat : ∀ (f n : Nat), n < 10 ^ (f + 1) → f ≤ 18 → n ≤ 9223372036854775807 → ∀ w, Calls Tryd.prog 37 #[.int .i64 n] w fun e w' => e = .returned (.string (txt (decN (f + 1) n))) ∧ Below w.heap.size w w' := by
  intro f
  induction f with
  | zero =>
    intro n hn _ _ w
    rw [decN_small (by simpa using hn), ← digS_txt]
    exact number_digit n w (by simpa using hn)
  | succ f ih =>
    intro n hn hf hmax w
    by_cases h10 : n < 10
    · rw [decN_small h10, ← digS_txt]
      exact number_digit n w h10
    · rw [decN_big h10, ← txt_append, ← digS_txt]
      have hp : n < 10 ^ 20 := Nat.lt_of_lt_of_le hn (Nat.pow_le_pow_right (by omega) (by omega))
      rw [Nat.pow_succ] at hn
      have hq : n / 10 < 10 ^ (f + 1) := by omega
      have hn18 : (10 : Nat) ^ (f + 1 + 1) ≤ 10 ^ 20 := Nat.pow_le_pow_right (by omega) (by omega)
      exact number_more n (n / 10) (n % 10) _ w (by omega) hmax rfl rfl (by rw [txt_size]; have := decN_len (f + 1) (n / 10); omega) (fun w => ih (n / 10) hq (by omega) (by omega) w)
/-- A number, as the model writes it. -/
theorem number_any (n : Int) (w : World) (h0 : -9223372036854775807 ≤ n) (h1 : n ≤ 9223372036854775807) : Calls Tryd.prog 37 #[.int .i64 n] w fun e w' => e = .returned (.string (txt (numberT n))) ∧ Below w.heap.size w w' := by
  rcases Int.lt_or_le n 0 with hn | hn
  · have hc := number_nat 18 n.natAbs (by omega) (by omega) (by omega)
    have e : ((n.natAbs : Nat) : Int) = -n := by omega
    obtain ⟨q, hq, hqs⟩ : ∃ q, txt (decN 19 n.natAbs) = q ∧ q.size ≤ 19 := ⟨_, rfl, by rw [txt_size]; exact decN_len 19 _⟩
    rw [hq, e] at hc
    have HE := Lib.hid (show txt (numberT n) = ⟨#[45]⟩ ++ q by
      rw [← hq, numberT, if_pos hn, decN_fuel 20 19 n.natAbs (by omega) (by omega) (by omega) (by omega)]
      exact txt_eq (by rw [ByteArray.data_append, Array.toList_append]; rfl))
    have HC := Lib.hid hc
    have hneg : IntKind.i64.wrap (-n) = -n := by rw [IntKind.wrap_i64]; omega
    have hne : ¬ n = -n := by omega
    have hcat : ¬ 9223372036854775807 < 1 + q.size := by omega
    clear hc hq e
    go_enter Tryd.func37, Tryd.ntmps37
    go_wp2_with fail
    refine (HC.out _).mono ?_
    rintro e w1 ⟨rfl, hb1⟩
    go_wp2
    go_ret
    exact ⟨by rw [HE.out]; rfl, by (repeat (first | exact Below.refl _ _ | refine Below.setCell ?_ (by first | omega | (simp <;> omega)) _ | refine Below.alloc ?_ (by first | omega | (simp <;> omega)) _ | refine Below.drew ?_ | refine Below.trans ?_ (Below.mono (by assumption) (by first | omega | (simp <;> omega))) | refine Below.grown ?_ (by assumption) (by first | omega | (simp <;> omega)) (fun k e => by cases e; first | omega | (simp <;> omega))))⟩
  · obtain ⟨m, rfl⟩ : ∃ m : Nat, n = (m : Int) := ⟨n.toNat, by omega⟩
    have := number_nat 18 m (by omega) (by omega) (by omega) w
    rwa [numberT, if_neg (by omega), Int.natAbs_natCast, decN_fuel 20 19 m (by omega) (by omega) (by omega) (by omega)]
end Go.Proofs.YtigcomhhgfgmgaaDoor
namespace Go.Proofs.YtigcomhhgfgmgaaDoor
theorem two_steps {P : Nat → Prop} (h0 : P 0) (h1 : P 1) (hs : ∀ n, P n → P (n + 1) → P (n + 2)) : ∀ n, P n := by
  have : ∀ n, P n ∧ P (n + 1) := fun n => by
    induction n with
    | zero => exact ⟨h0, h1⟩
    | succ n ih => exact ⟨ih.2, hs n ih.1 ih.2⟩
  exact fun n => (this n).1
/-- The second row is told by the first one. -/
theorem second_of_first (p q : Int) : ∀ n, row p q 2 p n = 2 * row p q 0 1 (n + 1) - p * row p q 0 1 n := by
  refine two_steps ?_ ?_ ?_
  · simp [row]
  · simp only [row]; grind
  · intro n h1 h2
    have e1 : row p q 2 p (n + 2) = p * row p q 2 p (n + 1) - q * row p q 2 p n := rfl
    have e2 : row p q 0 1 (n + 1 + 1) = p * row p q 0 1 (n + 1) - q * row p q 0 1 n := rfl
    have e3 : row p q 0 1 (n + 2 + 1) = p * row p q 0 1 (n + 1 + 1) - q * row p q 0 1 (n + 1) := rfl
    rw [e1, h1, h2, e3]
    have e4 : row p q 0 1 (n + 2) = row p q 0 1 (n + 1 + 1) := rfl
    rw [e4, e2]
    grind
/-- The norm of two neighbours is a power. -/
theorem row_norm (p q : Int) : ∀ n, row p q 0 1 (n + 1) * row p q 0 1 (n + 1) - p * row p q 0 1 n * row p q 0 1 (n + 1) + q * row p q 0 1 n * row p q 0 1 n = q ^ n := by
  intro n
  induction n with
  | zero => simp [row]
  | succ n ih =>
    have e : row p q 0 1 (n + 1 + 1) = p * row p q 0 1 (n + 1) - q * row p q 0 1 n := rfl
    rw [e, Int.pow_succ, ← ih]
    grind
/-- Both rows belong together. -/
theorem row_square (p q : Int) (n : Nat) : row p q 2 p n * row p q 2 p n - (p * p - 4 * q) * row p q 0 1 n * row p q 0 1 n = 4 * q ^ n := by
  rw [second_of_first, ← row_norm p q n]
  grind
/-- A power of a number of a pair. -/
theorem pow_bd {a : Int} (h1 : -4 ≤ a) (h2 : a ≤ 4) : ∀ n : Nat, -(4 ^ n) ≤ a ^ n ∧ a ^ n ≤ 4 ^ n
  | 0 => by simp
  | n + 1 => by
    obtain ⟨m1, m2⟩ := pow_bd h1 h2 n
    have := mul_bd m1 m2 h1 h2
    rw [Int.pow_succ, Int.pow_succ]
    exact this
theorem pow_small {a : Int} (h1 : -4 ≤ a) (h2 : a ≤ 4) (n : Nat) (hn : n ≤ 25) : -1125899906842624 ≤ a ^ n ∧ a ^ n ≤ 1125899906842624 := by
  obtain ⟨m1, m2⟩ := pow_bd h1 h2 n
  have e : (4 : Int) ^ n ≤ 4 ^ 25 := by
    have := Nat.pow_le_pow_right (n := 4) (by omega) hn
    exact_mod_cast this
  have e2 : (4 : Int) ^ 25 = 1125899906842624 := by decide +kernel
  omega
/-- The sign at a place of a turned first row. -/
def sgn : Nat → Int
  | 0 => -1
  | n + 1 => -sgn n
theorem sgn_mod : ∀ n : Nat, sgn n = -(1 - (n : Int) % 2 * 2)
  | 0 => rfl
  | n + 1 => by simp only [sgn, sgn_mod n]; omega
/-- Turned pairs change every second sign. -/
theorem row_turn (p q : Int) : ∀ n, row (-p) q 0 1 n = sgn n * row p q 0 1 n ∧ row (-p) q 2 (-p) n = -sgn n * row p q 2 p n := by
  refine two_steps ?_ ?_ ?_
  · simp [row, sgn]
  · simp [row, sgn]
  · rintro n ⟨h1, h2⟩ ⟨h3, h4⟩
    have a1 : row (-p) q 0 1 (n + 2) = (-p) * row (-p) q 0 1 (n + 1) - q * row (-p) q 0 1 n := rfl
    have a2 : row (-p) q 2 (-p) (n + 2) = (-p) * row (-p) q 2 (-p) (n + 1) - q * row (-p) q 2 (-p) n := rfl
    have b1 : row p q 0 1 (n + 2) = p * row p q 0 1 (n + 1) - q * row p q 0 1 n := rfl
    have b2 : row p q 2 p (n + 2) = p * row p q 2 p (n + 1) - q * row p q 2 p n := rfl
    have s1 : sgn (n + 1) = -sgn n := rfl
    have s2 : sgn (n + 2) = sgn n := by show - - sgn n = sgn n; omega
    rw [a1, a2, b1, b2, h1, h2, h3, h4, s1, s2]
    clear h1 h2 h3 h4 a1 a2 b1 b2 s1 s2
    constructor <;> grind
end Go.Proofs.YtigcomhhgfgmgaaDoor
namespace Go.Proofs.YtigcomhhgfgmgaaDoor
/-- Rows go on from anywhere. -/
theorem row_add (p q : Int) (a : Nat) : ∀ b : Nat, row p q 0 1 (a + 1) * row p q 0 1 (b + 1) - q * row p q 0 1 a * row p q 0 1 b = row p q 0 1 (a + 1 + b) := by
  refine two_steps ?_ ?_ ?_
  · simp [row]
  · have e : row p q 0 1 (a + 1 + 1) = p * row p q 0 1 (a + 1) - q * row p q 0 1 a := rfl
    have e2 : row p q 0 1 (1 + 1) = p := by simp [row]
    have e3 : row p q 0 1 1 = 1 := rfl
    rw [e, e2, e3]
    grind
  · intro b h1 h2
    have e : row p q 0 1 (a + 1 + (b + 2)) = p * row p q 0 1 (a + 1 + (b + 1)) - q * row p q 0 1 (a + 1 + b) := rfl
    have e2 : row p q 0 1 (b + 2 + 1) = p * row p q 0 1 (b + 1 + 1) - q * row p q 0 1 (b + 1) := rfl
    have e3 : row p q 0 1 (b + 2) = p * row p q 0 1 (b + 1) - q * row p q 0 1 b := rfl
    rw [e, ← h1, ← h2, e2, e3]
    clear h1 h2 e e2 e3
    grind
/-- Both rows multiplied are the row at twice the place. -/
theorem row_twice (p q : Int) (n : Nat) : row p q 0 1 n * row p q 2 p n = row p q 0 1 (2 * n) := by
  cases n with
  | zero => simp [row]
  | succ n =>
    have e : row p q 0 1 (n + 1 + 1) = p * row p q 0 1 (n + 1) - q * row p q 0 1 n := rfl
    rw [show 2 * (n + 1) = n + 1 + (n + 1) by omega, ← row_add p q n (n + 1), second_of_first, e]
    clear e
    grind
/-- Middles are powers times squares. -/
theorem row_about (p q : Int) (d r : Nat) : row p q 0 1 (d + r) * row p q 0 1 (d + r) - row p q 0 1 d * row p q 0 1 (d + r + r) = q ^ d * row p q 0 1 r * row p q 0 1 r := by
  cases r with
  | zero => simp [row]
  | succ r =>
    have e0 : row p q 0 1 (r + 1 + 1) = p * row p q 0 1 (r + 1) - q * row p q 0 1 r := rfl
    have e1 : row p q 0 1 (d + (r + 1)) = row p q 0 1 (d + 1) * row p q 0 1 (r + 1) - q * row p q 0 1 d * row p q 0 1 r := by rw [row_add, show d + 1 + r = d + (r + 1) by omega]
    have e2 : row p q 0 1 (r + 1 + r) = row p q 0 1 (r + 1) * row p q 0 1 (r + 1) - q * row p q 0 1 r * row p q 0 1 r := (row_add p q r r).symm
    have e3 : row p q 0 1 (r + 1 + r + 1) = row p q 0 1 (r + 1) * row p q 0 1 (r + 1 + 1) - q * row p q 0 1 r * row p q 0 1 (r + 1) := by rw [row_add, show r + 1 + (r + 1) = r + 1 + r + 1 by omega]
    have e4 : row p q 0 1 (d + (r + 1) + (r + 1)) = row p q 0 1 (d + 1) * row p q 0 1 (r + 1 + r + 1) - q * row p q 0 1 d * row p q 0 1 (r + 1 + r) := by rw [row_add, show d + 1 + (r + 1 + r) = d + (r + 1) + (r + 1) by omega]
    rw [e4, e3, e2, e1, e0, ← row_norm p q d]
    clear e0 e1 e2 e3 e4
    grind
/-- The sum of the numbers of the first row up to a place. -/
def rowSum (p q : Int) : Nat → Int
  | 0 => 0
  | n + 1 => rowSum p q n + row p q 0 1 n
/-- Sums are told by two numbers. -/
theorem row_sum (p q : Int) : ∀ n : Nat, rowSum p q (n + 1) * (p - q - 1) = row p q 0 1 (n + 1) - q * row p q 0 1 n - 1
  | 0 => by simp [rowSum, row]
  | n + 1 => by
    have ih := row_sum p q n
    have e : row p q 0 1 (n + 1 + 1) = p * row p q 0 1 (n + 1) - q * row p q 0 1 n := rfl
    have e2 : rowSum p q (n + 1 + 1) = rowSum p q (n + 1) + row p q 0 1 (n + 1) := rfl
    rw [e2, e, Int.add_mul, ih]
    clear ih e e2
    grind
/-- .. and so by a quotient, where P less Q is not 1. -/
theorem row_sum_quo (p q : Int) (n : Nat) (h : p - q - 1 ≠ 0) : (row p q 0 1 (n + 1) - q * row p q 0 1 n - 1).tdiv (p - q - 1) = rowSum p q (n + 1) := by
  rw [← row_sum]
  exact Int.mul_tdiv_cancel _ h
/-- The numbers of the first row, by powers of 5. -/
theorem first_bd {p q : Int} (hp : -4 ≤ p) (hp' : p ≤ 4) (hq : -4 ≤ q) (hq' : q ≤ 4) (n : Nat) : -(cap 1 n) ≤ row p q 0 1 n ∧ row p q 0 1 n ≤ cap 1 n :=
  (row_bd hp hp' hq hq' (c := 1) (by omega) (by omega) (by omega) (by omega) (by omega) n).1
theorem cap_mono {c : Int} (h : 0 ≤ c) (n m : Nat) (hm : n ≤ m) : cap c n ≤ cap c m := by
  obtain ⟨d, rfl⟩ := Nat.exists_eq_add_of_le hm
  induction d with
  | zero => exact Int.le_refl _
  | succ d ih =>
    have := ih (by omega)
    have h2 := cap_nonneg h (n + d)
    have e : cap c (n + (d + 1)) = 5 * cap c (n + d) := rfl
    omega
theorem first_half {p q : Int} (hp : -4 ≤ p) (hp' : p ≤ 4) (hq : -4 ≤ q) (hq' : q ≤ 4) (n : Nat) (hn : n ≤ 10) : -9765625 ≤ row p q 0 1 n ∧ row p q 0 1 n ≤ 9765625 := by
  have h := first_bd hp hp' hq hq' n
  have m := cap_mono (c := 1) (by omega) n 10 hn
  have e : cap 1 10 = 9765625 := by decide +kernel
  omega
theorem second_half {p q : Int} (hp : -4 ≤ p) (hp' : p ≤ 4) (hq : -4 ≤ q) (hq' : q ≤ 4) (n : Nat) (hn : n ≤ 10) : -39062500 ≤ row p q 2 p n ∧ row p q 2 p n ≤ 39062500 := by
  have h := (row_bd (a := 2) (b := p) hp hp' hq hq' (c := 4) (by omega) (by omega) (by omega) (by omega) (by omega) n).1
  have m := cap_mono (c := 4) (by omega) n 10 hn
  have e : cap 4 10 = 39062500 := by decide +kernel
  omega
theorem first_far {p q : Int} (hp : -4 ≤ p) (hp' : p ≤ 4) (hq : -4 ≤ q) (hq' : q ≤ 4) (n : Nat) (hn : n ≤ 20) : -95367431640625 ≤ row p q 0 1 n ∧ row p q 0 1 n ≤ 95367431640625 := by
  have h := first_bd hp hp' hq hq' n
  have m := cap_mono (c := 1) (by omega) n 20 hn
  have e : cap 1 20 = 95367431640625 := by decide +kernel
  omega
/-- The product of a number of the row and the one as far behind the middle as it is before it. -/
theorem about_bd {p q : Int} (hp : -4 ≤ p) (hp' : p ≤ 4) (hq : -4 ≤ q) (hq' : q ≤ 4) (d r : Nat) (h : d + r ≤ 10) : -95367431640625 ≤ row p q 0 1 d * row p q 0 1 (d + r + r) ∧ row p q 0 1 d * row p q 0 1 (d + r + r) ≤ 95367431640625 := by
  have h1 := first_bd hp hp' hq hq' d
  have h2 := first_bd hp hp' hq hq' (d + r + r)
  have m := mul_bd h1.1 h1.2 h2.1 h2.2
  have cm : ∀ n m : Nat, cap 1 n * cap 1 m = cap 1 (n + m) := fun n m => by
    induction m with
    | zero => simp [cap]
    | succ m ih =>
      have e : cap 1 (m + 1) = 5 * cap 1 m := rfl
      have e2 : cap 1 (n + (m + 1)) = 5 * cap 1 (n + m) := rfl
      rw [e, e2, ← ih]
      clear ih e e2
      grind
  rw [cm] at m
  have m2 := cap_mono (c := 1) (by omega) (d + (d + r + r)) 20 (by omega)
  have e : cap 1 20 = 95367431640625 := by decide +kernel
  omega
theorem pow_row_bd {p q : Int} (hp : -4 ≤ p) (hp' : p ≤ 4) (hq : -4 ≤ q) (hq' : q ≤ 4) (d r : Nat) (h : d + r ≤ 10) : (-9765625 ≤ q ^ d * row p q 0 1 r ∧ q ^ d * row p q 0 1 r ≤ 9765625) ∧ -95367431640625 ≤ q ^ d * row p q 0 1 r * row p q 0 1 r ∧ q ^ d * row p q 0 1 r * row p q 0 1 r ≤ 95367431640625 := by
  have h1 := first_bd hp hp' hq hq' r
  have pc : ∀ d : Nat, -(cap 1 d) ≤ q ^ d ∧ q ^ d ≤ cap 1 d := fun d => by
    induction d with
    | zero => simp [cap]
    | succ d ih =>
      have n := cap_nonneg (c := 1) (by omega) d
      have m := mul_bd ih.1 ih.2 hq hq'
      have e : cap 1 (d + 1) = 5 * cap 1 d := rfl
      rw [Int.pow_succ]
      omega
  have h2 := pc d
  have m := mul_bd h2.1 h2.2 h1.1 h1.2
  have cm : ∀ n m : Nat, cap 1 n * cap 1 m = cap 1 (n + m) := fun n m => by
    induction m with
    | zero => simp [cap]
    | succ m ih =>
      have e : cap 1 (m + 1) = 5 * cap 1 m := rfl
      have e2 : cap 1 (n + (m + 1)) = 5 * cap 1 (n + m) := rfl
      rw [e, e2, ← ih]
      clear ih e e2
      grind
  rw [cm] at m
  have m2 := mul_bd m.1 m.2 h1.1 h1.2
  rw [cm] at m2
  have c1 := cap_mono (c := 1) (by omega) (d + r) 10 h
  have c2 := cap_mono (c := 1) (by omega) (d + r + r) 20 (by omega)
  have e1 : cap 1 10 = 9765625 := by decide +kernel
  have e2 : cap 1 20 = 95367431640625 := by decide +kernel
  omega
/-- The sums, by powers of 5. -/
theorem sum_bd {p q : Int} (hp : -4 ≤ p) (hp' : p ≤ 4) (hq : -4 ≤ q) (hq' : q ≤ 4) : ∀ n : Nat, -(cap 1 n) ≤ rowSum p q n ∧ rowSum p q n ≤ cap 1 n
  | 0 => by simp [rowSum, cap]
  | n + 1 => by
    have ih := sum_bd hp hp' hq hq' n
    have h := first_bd hp hp' hq hq' n
    have n0 := cap_nonneg (c := 1) (by omega) n
    have e : cap 1 (n + 1) = 5 * cap 1 n := rfl
    have e2 : rowSum p q (n + 1) = rowSum p q n + row p q 0 1 n := rfl
    omega
theorem sum_far {p q : Int} (hp : -4 ≤ p) (hp' : p ≤ 4) (hq : -4 ≤ q) (hq' : q ≤ 4) (n : Nat) (hn : n ≤ 20) : -95367431640625 ≤ rowSum p q n ∧ rowSum p q n ≤ 95367431640625 := by
  have h := sum_bd hp hp' hq hq' n
  have m := cap_mono (c := 1) (by omega) n 20 hn
  have e : cap 1 20 = 95367431640625 := by decide +kernel
  omega
end Go.Proofs.YtigcomhhgfgmgaaDoor
namespace Go.Proofs.YtigcomhhgfgmgaaDoor
/-- Two numbers leave the same, divided by m. -/
def Eqm (m x y : Int) : Prop := m ∣ x - y
theorem Eqm.refl (m x : Int) : Eqm m x x := ⟨0, by omega⟩
theorem Eqm.of_eq {m x y : Int} (h : x = y) : Eqm m x y := by subst h; exact Eqm.refl m x
theorem Eqm.symm {m x y : Int} (h : Eqm m x y) : Eqm m y x := by
  obtain ⟨k, hk⟩ := h
  exact ⟨-k, by rw [Int.mul_neg]; omega⟩
theorem Eqm.trans {m x y z : Int} (h : Eqm m x y) (g : Eqm m y z) : Eqm m x z := by
  obtain ⟨k, hk⟩ := h
  obtain ⟨l, hl⟩ := g
  exact ⟨k + l, by rw [Int.mul_add]; omega⟩
theorem Eqm.add {m x y u v : Int} (h : Eqm m x y) (g : Eqm m u v) : Eqm m (x + u) (y + v) := by
  obtain ⟨k, hk⟩ := h
  obtain ⟨l, hl⟩ := g
  exact ⟨k + l, by rw [Int.mul_add]; omega⟩
theorem Eqm.sub {m x y u v : Int} (h : Eqm m x y) (g : Eqm m u v) : Eqm m (x - u) (y - v) := by
  obtain ⟨k, hk⟩ := h
  obtain ⟨l, hl⟩ := g
  exact ⟨k - l, by rw [Int.mul_sub]; omega⟩
theorem Eqm.mul {m x y u v : Int} (h : Eqm m x y) (g : Eqm m u v) : Eqm m (x * u) (y * v) := by
  obtain ⟨k, hk⟩ := h
  obtain ⟨l, hl⟩ := g
  have e : x = y + m * k := by omega
  have e2 : u = v + m * l := by omega
  subst e e2
  clear hk hl
  exact ⟨y * l + k * v + k * (m * l), by grind⟩
theorem Eqm.pow {m x y : Int} (h : Eqm m x y) : ∀ n : Nat, Eqm m (x ^ n) (y ^ n)
  | 0 => by rw [Int.pow_zero, Int.pow_zero]; exact Eqm.refl _ _
  | n + 1 => by rw [Int.pow_succ, Int.pow_succ]; exact (h.pow n).mul h
theorem eqm_left (m x : Int) : Eqm m (x % m) x := ⟨-(x / m), by have := Int.emod_add_mul_ediv x m; rw [Int.mul_neg]; omega⟩
theorem Eqm.left {m x y : Int} (h : Eqm m x y) : x % m = y % m := by
  exact Int.emod_eq_emod_iff_emod_sub_eq_zero.2 (Int.emod_eq_zero_of_dvd h)
theorem eqm_of_left {m x y : Int} (h : x % m = y % m) : Eqm m x y := ((eqm_left m x).symm.trans (Eqm.of_eq h)).trans (eqm_left m y)
/-- What is left, as Go's quotients tell it. -/
theorem go_left2 (n m : Int) : (n.tmod m + m) % m = n % m := by
  refine Eqm.left ⟨1 - n.tdiv m, ?_⟩
  have := Int.mul_tdiv_add_tmod n m
  rw [Int.mul_sub]
  omega
theorem go_left (n m : Int) (hm : 1 ≤ m) : (n.tmod m + m).tmod m = n % m := by
  have h1 := Int.tmod_lt_of_pos n (b := m) (by omega)
  have h2 : -m < n.tmod m := by
    have := Int.tmod_lt_of_pos (-n) (b := m) (by omega)
    rw [Int.neg_tmod] at this
    omega
  rw [Int.tmod_eq_emod_of_nonneg (by omega)]
  exact go_left2 n m
theorem left_bd (n m : Int) (hm : 1 ≤ m) : 0 ≤ n % m ∧ n % m < m := ⟨Int.emod_nonneg _ (by omega), Int.emod_lt_of_pos _ (by omega)⟩
theorem left_again (n m : Int) : n % m % m = n % m := Int.emod_emod_of_dvd n (Int.dvd_refl m)
/-- A remainder of Go's is 0 exactly where a number divides. -/
theorem tmod_zero {n m : Int} (h : m ∣ n) : n.tmod m = 0 := Int.tmod_eq_zero_of_dvd h
/-- At twice a place, at the next place, one behind. -/
theorem far_even (p q m : Int) (k : Nat) : row p q 0 1 k % m * ((2 * (row p q 0 1 (k + 1) % m) - p * (row p q 0 1 k % m)) % m) % m = row p q 0 1 (2 * k) % m := by
  refine Eqm.left ?_
  rw [← row_twice, second_of_first]
  exact (eqm_left m _).mul ((eqm_left m _).trans (((Eqm.refl m 2).mul (eqm_left m _)).sub ((Eqm.refl m p).mul (eqm_left m _))))
theorem far_odd (p q m : Int) (k : Nat) : (row p q 0 1 (k + 1) % m * (row p q 0 1 (k + 1) % m) - q * (row p q 0 1 k % m) % m * (row p q 0 1 k % m)) % m = row p q 0 1 (2 * k + 1) % m := by
  refine Eqm.left ?_
  rw [show 2 * k + 1 = k + 1 + k by omega, ← row_add]
  exact ((eqm_left m _).mul (eqm_left m _)).sub (((eqm_left m _).trans ((Eqm.refl m q).mul (eqm_left m _))).mul (eqm_left m _))
theorem far_next (p q m : Int) (k : Nat) : (p * (row p q 0 1 (k + 1) % m) - q * (row p q 0 1 k % m)) % m = row p q 0 1 (k + 2) % m := by
  refine Eqm.left ?_
  rw [row_step]
  exact ((Eqm.refl m p).mul (eqm_left m _)).sub ((Eqm.refl m q).mul (eqm_left m _))
theorem far_second (p q m : Int) (k : Nat) : (2 * (row p q 0 1 (k + 1) % m) - p * (row p q 0 1 k % m)) % m = row p q 2 p k % m := by
  refine Eqm.left ?_
  rw [second_of_first]
  exact ((Eqm.refl m 2).mul (eqm_left m _)).sub ((Eqm.refl m p).mul (eqm_left m _))
/-- A power by its square: the exponent even, odd. -/
theorem pow_even (a : Int) (k : Nat) : (a * a) ^ k = a ^ (2 * k) := by rw [Int.pow_mul, show a ^ 2 = a * a by rw [Int.pow_succ, Int.pow_succ, Int.pow_zero, Int.one_mul]]
theorem pow_step_even {m o s t : Int} {k : Nat} (h : Eqm m (o * s ^ (2 * k)) t) : Eqm m (o * (s * s % m) ^ k) t := by
  rw [← pow_even] at h
  exact ((Eqm.refl m o).mul ((eqm_left m (s * s)).pow k)).trans h
theorem pow_step_odd {m o s t : Int} {k : Nat} (h : Eqm m (o * s ^ (2 * k + 1)) t) : Eqm m (o * s % m * (s * s % m) ^ k) t := by
  rw [Int.pow_succ, ← pow_even] at h
  refine (((eqm_left m (o * s)).mul ((eqm_left m (s * s)).pow k)).trans (Eqm.of_eq ?_)).trans h
  clear h
  grind
/-- Addition far on. -/
theorem far_add (p q m : Int) (k j : Nat) : Eqm m (row p q 0 1 (k + 1) % m * row p q 0 1 (j + 1) - q * (row p q 0 1 k % m * row p q 0 1 j)) (row p q 0 1 (k + 1 + j)) := by
  rw [← row_add, Int.mul_assoc q]
  exact ((eqm_left m _).mul (Eqm.refl m _)).sub ((Eqm.refl m q).mul ((eqm_left m _).mul (Eqm.refl m _)))
/-- Both rows far on. -/
theorem far_square (p q m : Int) (k : Nat) : m ∣ row p q 2 p k % m * (row p q 2 p k % m) - (p * p - 4 * q) * (row p q 0 1 k % m) * (row p q 0 1 k % m) - 4 * (q ^ k % m) := by
  have h : Eqm m (row p q 2 p k % m * (row p q 2 p k % m) - (p * p - 4 * q) * (row p q 0 1 k % m) * (row p q 0 1 k % m) - 4 * (q ^ k % m)) (row p q 2 p k * row p q 2 p k - (p * p - 4 * q) * row p q 0 1 k * row p q 0 1 k - 4 * q ^ k) :=
    (((eqm_left m _).mul (eqm_left m _)).sub (((Eqm.refl m _).mul (eqm_left m _)).mul (eqm_left m _))).sub ((Eqm.refl m 4).mul (eqm_left m _))
  rw [row_square, Int.sub_self] at h
  simpa [Eqm] using h
theorem far_twice (p q m : Int) (k : Nat) : row p q 2 p k % m * (row p q 0 1 k % m) % m = row p q 0 1 (2 * k) % m := by
  refine Eqm.left ?_
  rw [← row_twice, Int.mul_comm (row p q 0 1 k)]
  exact (eqm_left m _).mul (eqm_left m _)
end Go.Proofs.YtigcomhhgfgmgaaDoor
namespace Go.Proofs.YtigcomhhgfgmgaaDoor
open Go.RowKit
end Go.Proofs.YtigcomhhgfgmgaaDoor
namespace Go.Proofs.YtigcomhhgfgmgaaDoor
open Go.RowKit
theorem info_int : (Tryd.prog.info? 3).map (fun i => (i.zero, i.size, i.bytes)) = some (some (.int .i64 0), 1, 8) := by kernel_rfl
/-- The first n numbers of a row, as cells. -/
def rowCells (p q a b : Int) (n : Nat) : List Value := (List.range n).map fun i => .int .i64 (row p q a b i)
theorem rowCells_length (p q a b : Int) (n : Nat) : (rowCells p q a b n).length = n := by simp [rowCells]
theorem rowCells_snoc (p q a b : Int) (n : Nat) : rowCells p q a b n ++ [.int .i64 (row p q a b n)] = rowCells p q a b (n + 1) := by simp [rowCells, List.range_succ]
theorem rowCells_get (p q a b : Int) (n i : Nat) (h : i < n) : (rowCells p q a b n)[i]? = some (.int .i64 (row p q a b i)) := by simp [rowCells, h]
theorem row_small {p q a b : Int} (hp : -4 ≤ p) (hp' : p ≤ 4) (hq : -4 ≤ q) (hq' : q ≤ 4) (ha : -4 ≤ a) (ha' : a ≤ 4) (hb : -4 ≤ b) (hb' : b ≤ 4) (n : Nat) (hn : n ≤ 22) : -10000000000000000 ≤ row p q a b n ∧ row p q a b n ≤ 10000000000000000 := by
  have h := (row_bd (a := a) (b := b) hp hp' hq hq' (c := 4) (by omega) ha ha' (by omega) (by omega) n).1
  have mono : ∀ n, n ≤ 22 → cap 4 n ≤ cap 4 22 := by
    have step : ∀ n, cap 4 n ≤ cap 4 (n + 1) := fun n => by have := cap_nonneg (c := 4) (by omega) n; simp only [cap]; omega
    intro n hn
    have : ∀ d, cap 4 n ≤ cap 4 (n + d) := fun d => by
      induction d with
      | zero => exact Int.le_refl _
      | succ d ih => exact Int.le_trans ih (step _)
    have := this (22 - n)
    rwa [show n + (22 - n) = 22 by omega] at this
  have m := mono n hn
  have e : cap 4 22 = 9536743164062500 := by decide +kernel
  omega
/-- The products and the next number of a row, within int's bounds. -/
theorem row_next {p q a b : Int} (hp : -4 ≤ p) (hp' : p ≤ 4) (hq : -4 ≤ q) (hq' : q ≤ 4) (ha : -4 ≤ a) (ha' : a ≤ 4) (hb : -4 ≤ b) (hb' : b ≤ 4) (n : Nat) (hn : n ≤ 21) :
    (-40000000000000000 ≤ p * row p q a b (n + 1) ∧ p * row p q a b (n + 1) ≤ 40000000000000000) ∧ (-40000000000000000 ≤ q * row p q a b n ∧ q * row p q a b n ≤ 40000000000000000) := by
  obtain ⟨h1, h2⟩ := row_small hp hp' hq hq' ha ha' hb hb' (n + 1) (by omega)
  obtain ⟨h3, h4⟩ := row_small hp hp' hq hq' ha ha' hb hb' n (by omega)
  obtain ⟨m1, m2⟩ := mul_bd (a := 4) hp hp' h1 h2
  obtain ⟨m3, m4⟩ := mul_bd (a := 4) hq hq' h3 h4
  omega
theorem own2 {w : World} {base g : Nat} {x y : Value} (hb : base ≤ g) (h : w.heap[g]? = some (.cells #[x, y] 3 (0, 0))) : w.ownsRow base 3 1 (.slice (some ⟨g, 0, none⟩) 2 2) 2 [x, y] :=
  ⟨rfl, .inr ⟨g, 2, #[x, y], rfl, hb, h, Nat.le_refl _, by unfold maxLen; omega, rfl, rfl⟩⟩
theorem own_get {w : World} {base g c n : Nat} {p q a b : Int} {v : Value} (h : w.ownsRow base 3 1 v n (rowCells p q a b n)) (hv : v = .slice (some ⟨g, 0, none⟩) n c) {i : Nat} (hi : i < n) : w.cell? ⟨g, i, none⟩ = some (.int .i64 (row p q a b i)) := by
  subst hv
  have := h.cells rfl i _ (rowCells_get p q a b n i hi)
  by_cases h0 : i = 0
  · subst h0; simpa [Addr.add] using this
  · simpa [Addr.add, h0] using this
theorem own_cell {w : World} {g i : Nat} {xs : List Value} {u : Value} (h : ∀ j u, xs[j]? = some u → w.cell? ((⟨g, 0, none⟩ : Addr).add j) = some u) (hi : xs[i]? = some u) : w.cell? ⟨g, i, none⟩ = some u := by
  have := h i u hi
  by_cases h0 : i = 0
  · subst h0; simpa [Addr.add] using this
  · simpa [Addr.add, h0] using this
/-- What l1Rows returns for a place. -/
def Rows2 (p q : Int) (m : Nat) (w : World) (e : Ending) (w' : World) : Prop :=
  ∃ gu cu gv cv : Nat, e = .returned (.tuple #[.slice (some ⟨gu, 0, none⟩) (m + 1) cu, .slice (some ⟨gv, 0, none⟩) (m + 1) cv]) ∧ w.heap.size ≤ gu ∧ w.heap.size ≤ gv ∧
    (∀ i, i ≤ m → w'.cell? ⟨gu, i, none⟩ = some (.int .i64 (row p q 0 1 i))) ∧ (∀ i, i ≤ m → w'.cell? ⟨gv, i, none⟩ = some (.int .i64 (row p q 2 p i))) ∧ Below w.heap.size w w'
end Go.Proofs.YtigcomhhgfgmgaaDoor
namespace Go.Proofs.YtigcomhhgfgmgaaDoor
open Go.RowKit
/-- Whether there is something left: a pair, a place far on, a number by which is divided; and how much, -1 for others. -/
def farB (p q n m : Int) : Bool := pairB p q && (inB n 0 1000000000 && inB m 1 10000)
def farFirstV (p q n m : Int) : Int := if farB p q n m = true then row p q 0 1 n.toNat % m else -1
def farSecondV (p q n m : Int) : Int := if farB p q n m = true then row p q 2 p n.toNat % m else -1
def powB (a t m : Int) : Bool := inB a (-10000) 10000 && (inB t 0 1000000000 && inB m 1 10000)
def powLeftV (a t m : Int) : Int := if powB a t m = true then a ^ t.toNat % m else -1
def rowLeftB (p q n m : Int) : Bool := pairB p q && (inB n 0 200 && inB m 1 10000)
/-- How many numbers RowLeft returns. -/
def rowLeftN (p q n m : Int) : Nat := if rowLeftB p q n m = true then n.toNat + 1 else 0
theorem farB_true {p q n m : Int} (h : farB p q n m = true) : pairB p q = true ∧ (∃ k : Nat, n = k ∧ k ≤ 1000000000) ∧ 1 ≤ m ∧ m ≤ 10000 := by
  have h' : pairB p q = true ∧ inB n 0 1000000000 = true ∧ inB m 1 10000 = true := by simpa [farB] using h
  obtain ⟨hp, ha, hb⟩ := h'
  obtain ⟨a1, a2⟩ := inB_true ha
  obtain ⟨b1, b2⟩ := inB_true hb
  exact ⟨hp, ⟨n.toNat, by omega, by omega⟩, b1, b2⟩
theorem powB_true {a t m : Int} (h : powB a t m = true) : (-10000 ≤ a ∧ a ≤ 10000) ∧ (∃ k : Nat, t = k ∧ k ≤ 1000000000) ∧ 1 ≤ m ∧ m ≤ 10000 := by
  have h' : inB a (-10000) 10000 = true ∧ inB t 0 1000000000 = true ∧ inB m 1 10000 = true := by simpa [powB] using h
  obtain ⟨ht, ha, hb⟩ := h'
  obtain ⟨a1, a2⟩ := inB_true ha
  obtain ⟨b1, b2⟩ := inB_true hb
  exact ⟨inB_true ht, ⟨t.toNat, by omega, by omega⟩, b1, b2⟩
theorem rowLeftB_true {p q n m : Int} (h : rowLeftB p q n m = true) : pairB p q = true ∧ (∃ k : Nat, n = k ∧ k ≤ 200) ∧ 1 ≤ m ∧ m ≤ 10000 := by
  have h' : pairB p q = true ∧ inB n 0 200 = true ∧ inB m 1 10000 = true := by simpa [rowLeftB] using h
  obtain ⟨hp, ha, hb⟩ := h'
  obtain ⟨a1, a2⟩ := inB_true ha
  obtain ⟨b1, b2⟩ := inB_true hb
  exact ⟨hp, ⟨n.toNat, by omega, by omega⟩, b1, b2⟩
theorem l1In_is (n a b : Int) (c : Bool) (w : World) (h : inB n a b = c) : Calls Tryd.prog 36 #[.int .i64 n, .int .i64 a, .int .i64 b] w fun e w' => e = .returned (.bool c) ∧ w = w' := by have := l1In_any n a b w; rw [h] at this; exact this
theorem farB_ways {p q n m : Int} (h : farB p q n m = false) : pairB p q = false ∨ (pairB p q = true ∧ inB n 0 1000000000 = false) ∨ (pairB p q = true ∧ inB n 0 1000000000 = true ∧ inB m 1 10000 = false) := by
  cases hp : pairB p q with
  | false => exact .inl rfl
  | true =>
    cases ha : inB n 0 1000000000 with
    | false => exact .inr (.inl ⟨rfl, rfl⟩)
    | true => exact .inr (.inr ⟨rfl, rfl, by simpa [farB, hp, ha] using h⟩)
theorem rowLeftB_ways {p q n m : Int} (h : rowLeftB p q n m = false) : pairB p q = false ∨ (pairB p q = true ∧ inB n 0 200 = false) ∨ (pairB p q = true ∧ inB n 0 200 = true ∧ inB m 1 10000 = false) := by
  cases hp : pairB p q with
  | false => exact .inl rfl
  | true =>
    cases ha : inB n 0 200 with
    | false => exact .inr (.inl ⟨rfl, rfl⟩)
    | true => exact .inr (.inr ⟨rfl, rfl, by simpa [rowLeftB, hp, ha] using h⟩)
theorem powB_ways {a t m : Int} (h : powB a t m = false) : inB a (-10000) 10000 = false ∨ (inB a (-10000) 10000 = true ∧ inB t 0 1000000000 = false) ∨ (inB a (-10000) 10000 = true ∧ inB t 0 1000000000 = true ∧ inB m 1 10000 = false) := by
  cases hp : inB a (-10000) 10000 with
  | false => exact .inl rfl
  | true =>
    cases ha : inB t 0 1000000000 with
    | false => exact .inr (.inl ⟨rfl, rfl⟩)
    | true => exact .inr (.inr ⟨rfl, rfl, by simpa [powB, hp, ha] using h⟩)
theorem mul_pos_bd {x y m : Int} (h1 : 0 ≤ x) (h2 : x < m) (h3 : 0 ≤ y) (h4 : y < m) (hm : m ≤ 10000) : 0 ≤ x * y ∧ x * y ≤ 100000000 := by
  have := mul_bd (a := 10000) (b := 10000) (show -10000 ≤ x by omega) (by omega) (show -10000 ≤ y by omega) (by omega)
  exact ⟨Int.mul_nonneg h1 h3, this.2⟩
end Go.Proofs.YtigcomhhgfgmgaaDoor
