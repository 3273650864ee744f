/- Contracts and laws that the statement's proof stands on, one text behind the other. -/
import Derived.KernelRfl
import Derived.Test.YtblphilcmfabkaaGreatDoorProg
import Derived.WalkKit
import Derived.Lib.Hide
import Derived.WalkSpells
import Derived.WalkLawsBesides
import Derived.Lib.Split
import Derived.Lib.AtoiAll
import Derived.Lib.SlicesS
import Derived.Lib.ItoaNum
import Derived.Test.YtblphilcmfabkaaGreatDoorShelf
import Derived.Shelf.Strings.SplitCore
import Derived.Lib.LaidTab
import Derived.Lib.AppendIntMem
import Derived.Lib.AtoiErrMem
import Derived.Test.YtblphilcmfabkaaGreatDoorRows
import Derived.LaidLaws
import Derived.Stop.LaidErr
import Derived.Lib.LaidU8
import Derived.Deep.DeepLaidRun
import Derived.ChangeSame
import Derived.ChangeVars
import Derived.JoinedOf
import Derived.Deep.AppendLies
import Derived.Deep.RegionLawGrows
import Derived.Deep.QuietTactic
import Derived.BigQuiet
import Derived.IntWalk
import Derived.Maps.AppendAt
import Derived.Laws.OwnMore
import Derived.OneCell
import Derived.Laws.IdiomStrings
import Derived.RangeFuncNested
import Derived.RangeFuncBound
import Derived.RangeFuncCalls
import Derived.RangeFuncLeaves
import Derived.Sort.QuietIn
import Derived.Deep.RegionHeld3
import Derived.Laws.MakeOwn
import Derived.ProofKit
import Derived.OpenShut
import Derived.Below
import Derived.Lib.SmallJoins
import Derived.Deep.Slices
import Derived.Deep.Fields
import Derived.Deep.Strs
import Derived.Lib.AppendZeros
import Derived.Lib.AtoiTie
import Derived.Lib.IndexBytes
import Derived.Lib.IndexLaws

namespace Go.Proofs.YtblphilcmfabkaaGreatDoor
open Go.RowKit
theorem zS {B : Nat} {w w1 : World} {p : Addr} {v : Value} (h : RowKit.Below B w w1) (hp : B ≤ p.block := by first | omega | (simp <;> omega)) : RowKit.Below B w (w1.setCell p v) := h.setCell hp v
theorem zA {B : Nat} {w w1 : World} {o : Obj} (h : RowKit.Below B w w1) (hp : B ≤ w1.heap.size := by first | omega | (simp <;> omega)) : RowKit.Below B w (w1.alloc o) := h.alloc hp o
theorem zT {B D : Nat} {a b c : World} (h : RowKit.Below B a b) (k : RowKit.Below D b c := by assumption) (hm : B ≤ D := by first | omega | (simp <;> omega)) : RowKit.Below B a c := h.trans (k.mono hm)
theorem zG {B : Nat} {a b c : World} {r : Option Nat} (h : RowKit.Below B a b) (k : b.grownBy c r := by assumption) (hz : B ≤ b.heap.size := by first | omega | (simp <;> omega)) (hr : ∀ k, r = some k → B ≤ k := by (intro k e; cases e; first | omega | (simp <;> omega))) : RowKit.Below B a c := h.grown k hz hr
theorem zb {B : Nat} {a b : World} (h : RowKit.Below B a b := by repeat (first | exact RowKit.Below.refl _ _ | refine zS ?_ | refine zA ?_ | refine RowKit.Below.drew ?_ | refine zT ?_ | refine zG ?_)) : RowKit.Below B a b := h
theorem zl {a b : Nat} (h : a ≤ b := by first | exact Nat.le_refl _ | omega) : a ≤ b := h
theorem zO {p : Prop} (h : p := by omega) : p := h
theorem zo {p : Prop} (h : p := by first | omega | (simp <;> omega)) : p := h
theorem zs {p : Prop} (h : p := by simp <;> omega) : p := h
theorem zd {p : Prop} (h : p := by decide) : p := h
end Go.Proofs.YtblphilcmfabkaaGreatDoor
namespace Go.Proofs.YtblphilcmfabkaaGreatDoor
section
def numB (n : Int) : Bool := decide (-4 ≤ n ∧ n ≤ 4)
def pairB (p q : Int) : Bool := numB p && numB q
def placeB (k : Int) : Bool := decide (0 ≤ k ∧ k ≤ 20)
theorem numB_true {n : Int} (h : numB n = true) : -4 ≤ n ∧ n ≤ 4 := by simpa [numB] using h
theorem numB_mk {n : Int} (h1 : -4 ≤ n) (h2 : n ≤ 4) : numB n = true := by simp [numB, h1, h2]
theorem numB_no {n : Int} (h : n < -4 ∨ 4 < n) : numB n = false := by
 have h' : ¬ (-4 ≤ n ∧ n ≤ 4) := by omega
 simp only [numB, h', decide_false]
theorem placeB_true {n : Int} (h : placeB n = true) : 0 ≤ n ∧ n ≤ 20 := by simpa [placeB] using h
theorem placeB_mk {n : Int} (h1 : 0 ≤ n) (h2 : n ≤ 20) : placeB n = true := by simp [placeB, h1, h2]
theorem placeB_no {n : Int} (h : n < 0 ∨ 20 < n) : placeB n = false := by
 have h' : ¬ (0 ≤ n ∧ n ≤ 20) := by omega
 simp only [placeB, h', decide_false]
theorem pairB_true {p q : Int} (h : pairB p q = true) : (-4 ≤ p ∧ p ≤ 4) ∧ (-4 ≤ q ∧ q ≤ 4) := by
 have h' : numB p = true ∧ numB q = true := by simpa [pairB] using h
 exact ⟨numB_true h'.1, numB_true h'.2⟩
def row (p q a b : Int) : Nat → Int
 | 0 => a
 | 1 => b
 | n + 2 => p * row p q a b (n + 1) - q * row p q a b n
theorem row_step (p q a b : Int) (n : Nat) : row p q a b (n + 2) = p * row p q a b (n + 1) - q * row p q a b n := rfl
theorem mul_bd {a b x y : Int} (h1 : -a ≤ x) (h2 : x ≤ a) (h3 : -b ≤ y) (h4 : y ≤ b) : -(a * b) ≤ x * y ∧ x * y ≤ a * b := by
 have ha : 0 ≤ a := by omega
 have hb : 0 ≤ b := by omega
 have hx : x.natAbs ≤ a.natAbs := by omega
 have hy : y.natAbs ≤ b.natAbs := by omega
 have h : (x * y).natAbs ≤ (a * b).natAbs := by rw [Int.natAbs_mul, Int.natAbs_mul]; exact Nat.mul_le_mul hx hy
 have hab : 0 ≤ a * b := Int.mul_nonneg ha hb
 omega
def cap (c : Int) : Nat → Int
 | 0 => c
 | n + 1 => 5 * cap c n
theorem cap_nonneg {c : Int} (h : 0 ≤ c) : ∀ n, 0 ≤ cap c n
 | 0 => h
 | n + 1 => by have := cap_nonneg h n; simp only [cap]; omega
theorem row_bd {p q a b : Int} (hp : -4 ≤ p) (hp' : p ≤ 4) (hq : -4 ≤ q) (hq' : q ≤ 4) {c : Int} (hc : 0 ≤ c) (ha : -c ≤ a) (ha' : a ≤ c) (hb : -(5 * c) ≤ b) (hb' : b ≤ 5 * c) :
   ∀ n, (-(cap c n) ≤ row p q a b n ∧ row p q a b n ≤ cap c n) ∧ (-(cap c (n + 1)) ≤ row p q a b (n + 1) ∧ row p q a b (n + 1) ≤ cap c (n + 1))
 | 0 => ⟨⟨ha, ha'⟩, hb, hb'⟩
 | n + 1 => by
   obtain ⟨⟨h1, h2⟩, h3, h4⟩ := row_bd hp hp' hq hq' hc ha ha' hb hb' n
   refine ⟨⟨h3, h4⟩, ?_⟩
   have e := row_step p q a b n
   have m1 := mul_bd (a := 4) hp hp' h3 h4
   have m2 := mul_bd (a := 4) hq hq' h1 h2
   have hn := cap_nonneg hc n
   have e2 : cap c (n + 1 + 1) = 5 * cap c (n + 1) := rfl
   have e1 : cap c (n + 1) = 5 * cap c n := rfl
   rw [e]
   omega
end
section
structure DeedN where
 kind : Int
 a : Int
 b : Int
 deriving DecidableEq
structure DeskN where
 now : Int × Int
 past : List (Int × Int)
 deriving DecidableEq
def pairN (p : Int × Int) : Bool := pairB p.1 p.2
def deskN (d : DeskN) : Bool := pairN d.now && decide (d.past.length ≤ 8) && d.past.all pairN
def madeN (p : Int × Int) (x : DeedN) : Option (Int × Int) :=
 if x.kind = 0 then some (x.a, x.b) else
 if x.a = 0 ∧ x.b = 0 then
   if x.kind = 1 then some (-p.1, p.2) else
   if x.kind = 2 then some (p.1 + 1, p.2 + 1) else
   if x.kind = 3 then some (p.1 - 1, p.2 - 1) else none
 else none
def takenN (p : Int × Int) (x : DeedN) : Option (Int × Int) := (madeN p x).filter fun q => pairN q && decide (q ≠ p)
def backN : DeedN := ⟨4, 0, 0⟩
def doN (d : DeskN) (x : DeedN) : DeskN × Bool :=
 if x = backN then (if d.past = [] then (d, false) else (⟨d.past.getLastD d.now, d.past.dropLast⟩, true)) else
 match takenN d.now x with
 | some q => (⟨q, (d.past ++ [d.now]).drop (d.past.length + 1 - 8)⟩, true)
 | none => (d, false)
theorem deskN_of {d : DeskN} (h : deskN d = true) : pairN d.now = true ∧ d.past.length ≤ 8 ∧ ∀ p ∈ d.past, pairN p = true := by
 simp only [deskN, Bool.and_eq_true, decide_eq_true_eq, List.all_eq_true] at h
 exact ⟨h.1.1, h.1.2, h.2⟩
theorem deskN_mk {d : DeskN} (h1 : pairN d.now = true) (h2 : d.past.length ≤ 8) (h3 : ∀ p ∈ d.past, pairN p = true) : deskN d = true := by
 simp only [deskN, Bool.and_eq_true, decide_eq_true_eq, List.all_eq_true]
 exact ⟨⟨h1, h2⟩, h3⟩
theorem takenN_some {p q : Int × Int} {x : DeedN} (h : takenN p x = some q) : madeN p x = some q ∧ pairN q = true ∧ q ≠ p := by
 unfold takenN at h
 rw [Option.filter_eq_some_iff] at h
 simp only [Bool.and_eq_true, decide_eq_true_eq] at h
 exact ⟨h.1, h.2.1, h.2.2⟩
theorem backN_made (p : Int × Int) : madeN p backN = none := by simp [madeN, backN]
theorem doN_desk {d : DeskN} (x : DeedN) (h : deskN d = true) : deskN (doN d x).1 = true := by
 obtain ⟨h1, h2, h3⟩ := deskN_of h
 unfold doN
 split
 · split
   · exact h
   · rename_i hne
     refine deskN_mk ?_ (by simp; omega) (fun p hp => h3 p (List.dropLast_subset _ hp))
     show pairN (d.past.getLastD d.now) = true
     rw [List.getLastD_eq_getLast?, List.getLast?_eq_some_getLast hne]
     exact h3 _ (List.getLast_mem hne)
 · split
   · rename_i q hq
     obtain ⟨-, hp, -⟩ := takenN_some hq
     refine deskN_mk hp (by simp; omega) (fun p hp => ?_)
     rcases List.mem_append.1 (List.mem_of_mem_drop hp) with hp | hp
     · exact h3 p hp
     · rw [List.mem_singleton.1 hp]; exact h1
   · exact h
theorem doN_no {d : DeskN} {x : DeedN} (h : (doN d x).2 = false) : (doN d x).1 = d := by
 revert h
 unfold doN
 split
 · split <;> simp
 · split <;> simp
def digN (n : Int) : List UInt8 := if n < 0 then [45, UInt8.ofNat (48 + (-n).toNat)] else [UInt8.ofNat (48 + n.toNat)]
def deedT (x : DeedN) : List UInt8 :=
 if x.kind = 0 then (if -9 ≤ x.a ∧ x.a ≤ 9 ∧ -9 ≤ x.b ∧ x.b ≤ 9 then [116, 97, 107, 101, 32] ++ digN x.a ++ [32] ++ digN x.b else []) else
 if x.a = 0 ∧ x.b = 0 then
   if x.kind = 1 then [116, 117, 114, 110] else
   if x.kind = 2 then [117, 112] else
   if x.kind = 3 then [100, 111, 119, 110] else
   if x.kind = 4 then [98, 97, 99, 107] else []
 else []
def nines : List Int := (List.range 19).map fun (i : Nat) => (i : Int) - 9
def allDeeds : List DeedN := [⟨1, 0, 0⟩, ⟨2, 0, 0⟩, ⟨3, 0, 0⟩, ⟨4, 0, 0⟩] ++ nines.flatMap fun a => nines.map fun b => ⟨0, a, b⟩
theorem mem_nines {a : Int} (h1 : -9 ≤ a) (h2 : a ≤ 9) : a ∈ nines := by
 refine List.mem_map.2 ⟨(a + 9).toNat, List.mem_range.2 zO, by omega⟩
theorem mem_deeds {x : DeedN} (h : deedT x ≠ []) : x ∈ allDeeds := by
 obtain ⟨k, a, b⟩ := x
 unfold deedT at h
 simp only at h
 by_cases h0 : k = 0
 · subst h0
   rw [if_pos rfl] at h
   by_cases hr : -9 ≤ a ∧ a ≤ 9 ∧ -9 ≤ b ∧ b ≤ 9
   · refine List.mem_append.2 (.inr (List.mem_flatMap.2 ⟨a, mem_nines hr.1 hr.2.1, List.mem_map.2 ⟨b, mem_nines hr.2.2.1 hr.2.2.2, rfl⟩⟩))
   · rw [if_neg hr] at h; exact absurd rfl h
 · rw [if_neg h0] at h
   by_cases hr : a = 0 ∧ b = 0
   · obtain ⟨rfl, rfl⟩ := hr
     rw [if_pos ⟨rfl, rfl⟩] at h
     by_cases h1 : k = 1
     · subst h1; simp [allDeeds]
     · rw [if_neg h1] at h
       by_cases h2 : k = 2
       · subst h2; simp [allDeeds]
       · rw [if_neg h2] at h
         by_cases h3 : k = 3
         · subst h3; simp [allDeeds]
         · rw [if_neg h3] at h
           by_cases h4 : k = 4
           · subst h4; simp [allDeeds]
           · rw [if_neg h4] at h; exact absurd rfl h
   · rw [if_neg hr] at h; exact absurd rfl h
def numT (s : List UInt8) : Int := match s with
 | [45, d] => -((d.toNat : Int) - 48)
 | [d] => (d.toNat : Int) - 48
 | _ => 0
def candT (s : List UInt8) : DeedN := match s with
 | 116 :: 117 :: _ => ⟨1, 0, 0⟩
 | 117 :: _ => ⟨2, 0, 0⟩
 | 100 :: _ => ⟨3, 0, 0⟩
 | 98 :: _ => ⟨4, 0, 0⟩
 | 116 :: 97 :: _ :: _ :: _ :: r => ⟨0, numT (r.takeWhile (· != 32)), numT ((r.dropWhile (· != 32)).tail)⟩
 | _ => ⟨9, 0, 0⟩
theorem deeds_told : allDeeds.all (fun x => decide (candT (deedT x) = x ∧ deedT x ≠ [] ∧ (10 : UInt8) ∉ deedT x ∧ (deedT x).getLast? ≠ some 32)) = true := by decide +kernel
theorem deed_told {x : DeedN} (h : deedT x ≠ []) : candT (deedT x) = x ∧ (10 : UInt8) ∉ deedT x ∧ (deedT x).getLast? ≠ some 32 := by
 have := of_decide_eq_true (List.all_eq_true.1 deeds_told x (mem_deeds h))
 exact ⟨this.1, this.2.2.1, this.2.2.2⟩
def readN (s : List UInt8) : Option DeedN := if s ≠ [] ∧ deedT (candT s) = s then some (candT s) else none
theorem readN_text {x : DeedN} (h : deedT x ≠ []) : readN (deedT x) = some x := by
 have e := (deed_told h).1
 rw [readN, e, if_pos ⟨h, rfl⟩]
theorem readN_some {s : List UInt8} {x : DeedN} (h : readN s = some x) : deedT x = s ∧ s ≠ [] := by
 unfold readN at h
 split at h
 · rename_i hs; cases h; exact ⟨hs.2, hs.1⟩
 · cases h
end
section
section
variable {ask : Int × Int → List UInt8 → List UInt8}
end
def wordsN (w : List UInt8) : List UInt8 → List (List UInt8)
 | [] => [w]
 | c :: cs => if c = 32 then w :: wordsN [] cs else wordsN (w ++ [c]) cs
theorem wordsN_skip (w t s : List UInt8) (h : (32 : UInt8) ∉ t) : wordsN w (t ++ s) = wordsN (w ++ t) s := by
 induction t generalizing w with
 | nil => simp
 | cons c cs ih =>
   have hc : c ≠ 32 := fun e => h (by simp [e])
   rw [List.cons_append, wordsN, if_neg hc, ih _ (fun e => h (List.mem_cons_of_mem _ e))]
   simp
theorem wordsN_ne (w s : List UInt8) : wordsN w s ≠ [] := by
 induction s generalizing w with
 | nil => simp [wordsN]
 | cons c cs ih => unfold wordsN; split <;> simp [ih]
def isDig (c : UInt8) : Bool := decide (48 ≤ c.toNat ∧ c.toNat ≤ 57)
def valN (s : List UInt8) : Nat := s.foldl (fun n c => 10 * n + (c.toNat - 48)) 0
def digitsN (s : List UInt8) : Option Nat :=
 if 1 ≤ s.length ∧ s.length ≤ 9 ∧ (s.length = 1 ∨ s.head? ≠ some 48) ∧ s.all isDig = true then some (valN s) else none
theorem valN_snoc (s : List UInt8) (c : UInt8) : valN (s ++ [c]) = 10 * valN s + (c.toNat - 48) := by simp [valN]
theorem valN_fold (s : List UInt8) : ∀ (n k : Nat), n < 10 ^ k → s.all isDig = true → s.foldl (fun n c => 10 * n + (c.toNat - 48)) n < 10 ^ (k + s.length) := by
 induction s with
 | nil => intro n k h _; simpa using h
 | cons c cs ih =>
   intro n k h hd
   simp only [List.all_cons, Bool.and_eq_true, isDig, decide_eq_true_eq] at hd
   have := ih (10 * n + (c.toNat - 48)) (k + 1) (by rw [Nat.pow_succ]; omega) hd.2
   rw [List.foldl_cons, List.length_cons, show k + (cs.length + 1) = k + 1 + cs.length by omega]
   exact this
theorem valN_lt (s : List UInt8) (h : s.all isDig = true) : valN s < 10 ^ s.length := by
 have := valN_fold s 0 0 zO h
 rwa [Nat.zero_add] at this
theorem digitsN_lt {s : List UInt8} {n : Nat} (h : digitsN s = some n) : n < 1000000000 := by
 unfold digitsN at h
 split at h
 · rename_i hs
   cases h
   exact Nat.lt_of_lt_of_le (valN_lt s hs.2.2.2) (Nat.le_trans (Nat.pow_le_pow_right zO hs.2.1) zO)
 · cases h
def numsN : List (List UInt8) → Option (List Nat)
 | [] => some []
 | s :: ss => match digitsN s, numsN ss with
   | some n, some ns => some (n :: ns)
   | _, _ => none
theorem numsN_none {s : List UInt8} {ss : List (List UInt8)} (hm : s ∈ ss) (h : digitsN s = none) : numsN ss = none := by
 induction ss with
 | nil => cases hm
 | cons t ts ih =>
   unfold numsN
   rcases List.mem_cons.1 hm with rfl | hm
   · rw [h]
   · rw [ih hm]; cases digitsN t <;> rfl
theorem numsN_snoc (ss : List (List UInt8)) (s : List UInt8) : numsN (ss ++ [s]) = (numsN ss).bind fun ns => (digitsN s).map fun n => ns ++ [n] := by
 induction ss with
 | nil => simp only [List.nil_append, numsN]; cases digitsN s <;> rfl
 | cons t ts ih =>
   simp only [List.cons_append, numsN, ih]
   cases digitsN t <;> cases numsN ts <;> cases digitsN s <;> rfl
def decN : Nat → Nat → List UInt8
 | 0, _ => []
 | f + 1, n => if n < 10 then [UInt8.ofNat (48 + n)] else decN f (n / 10) ++ [UInt8.ofNat (48 + n % 10)]
def numberT (n : Int) : List UInt8 := if n < 0 then 45 :: decN 20 n.natAbs else decN 20 n.natAbs
theorem decN_ne {f n : Nat} : decN (f + 1) n ≠ [] := by unfold decN; split <;> simp
theorem numberT_ne (n : Int) : numberT n ≠ [] := by unfold numberT; split <;> simp [decN_ne]
theorem decN_fuel : ∀ (f g n : Nat), n < 10 ^ f → n < 10 ^ g → 0 < f → 0 < g → decN f n = decN g n
 | f + 1, g + 1, n, hf, hg, _, _ => by
   unfold decN
   split
   · rfl
   · rename_i h
     rw [Nat.pow_succ] at hf hg
     cases f with
     | zero => simp at hf; omega
     | succ f => cases g with
       | zero => simp at hg; omega
       | succ g => rw [decN_fuel (f + 1) (g + 1) (n / 10) zO zO zO zO]
theorem takes_told : (nines.all fun a => nines.all fun b => decide (wordsN [] (deedT ⟨0, a, b⟩) = [[116, 97, 107, 101], digN a, digN b])) = true := by decide +kernel
theorem take_words {a b : Int} (h : deedT ⟨0, a, b⟩ ≠ []) : wordsN [] (deedT ⟨0, a, b⟩) = [[116, 97, 107, 101], digN a, digN b] := by
 have hr : -9 ≤ a ∧ a ≤ 9 ∧ -9 ≤ b ∧ b ≤ 9 := by
   by_cases hr : -9 ≤ a ∧ a ≤ 9 ∧ -9 ≤ b ∧ b ≤ 9
   · exact hr
   · unfold deedT at h; rw [if_pos rfl, if_neg hr] at h; exact absurd rfl h
 have := List.all_eq_true.1 (List.all_eq_true.1 takes_told a (mem_nines hr.1 hr.2.1)) b (mem_nines hr.2.2.1 hr.2.2.2)
 exact of_decide_eq_true this
end
section
open Go.RowKit
theorem ret_bool {a b : Bool} (h : a = b) : Ending.returned (.bool a) = .returned (.bool b) := by rw [h]
theorem ret_int {k : IntKind} {a b : Int} (h : a = b) : Ending.returned (.int k a) = .returned (.int k b) := by rw [h]
abbrev pr (p q : Int) : Value := .agg #[.int .i64 p, .int .i64 q]
set_option maxHeartbeats 400000 in
theorem numberOk_any (n : Int) (w : World) :
   Calls Tryz.prog 94 #[.int .i64 n] w fun e w' => e = .returned (.bool (numB n)) ∧ w = w' := by
 by_cases h1 : -4 ≤ n
 · by_cases h2 : n ≤ 4
   · have H := Lib.hid (numB_mk h1 h2)
     go_enter Tryz.func94, Tryz.ntmps94
     go_wp2
     go_ret
     exact ⟨ret_bool H.out.symm, rfl⟩
   · have H := Lib.hid (numB_no (n := n) zO)
     have h2' : 4 < n := by omega
     go_enter Tryz.func94, Tryz.ntmps94
     go_wp2
     go_ret
     exact ⟨ret_bool H.out.symm, rfl⟩
 · have H := Lib.hid (numB_no (n := n) zO)
   have h1' : n < -4 := by omega
   go_enter Tryz.func94, Tryz.ntmps94
   go_wp2
   go_ret
   exact ⟨ret_bool H.out.symm, rfl⟩
set_option maxHeartbeats 400000 in
theorem placeOk_any (n : Int) (w : World) :
   Calls Tryz.prog 200 #[.int .i64 n] w fun e w' => e = .returned (.bool (placeB n)) ∧ w = w' := by
 by_cases h1 : 0 ≤ n
 · by_cases h2 : n ≤ 20
   · have H := Lib.hid (placeB_mk h1 h2)
     go_enter Tryz.func200, Tryz.ntmps200
     go_wp2
     go_ret
     exact ⟨ret_bool H.out.symm, rfl⟩
   · have H := Lib.hid (placeB_no (n := n) zO)
     have h2' : 20 < n := by omega
     go_enter Tryz.func200, Tryz.ntmps200
     go_wp2
     go_ret
     exact ⟨ret_bool H.out.symm, rfl⟩
 · have H := Lib.hid (placeB_no (n := n) zO)
   have h1' : n < 0 := by omega
   go_enter Tryz.func200, Tryz.ntmps200
   go_wp2
   go_ret
   exact ⟨ret_bool H.out.symm, rfl⟩
def inB (n a b : Int) : Bool := decide (a ≤ n ∧ n ≤ b)
theorem inB_mk {n a b : Int} (h1 : a ≤ n) (h2 : n ≤ b) : inB n a b = true := by simp [inB, h1, h2]
theorem inB_no {n a b : Int} (h : n < a ∨ b < n) : inB n a b = false := by
 have h' : ¬ (a ≤ n ∧ n ≤ b) := by omega
 simp only [inB, h', decide_false]
theorem inB_true {n a b : Int} (h : inB n a b = true) : a ≤ n ∧ n ≤ b := by simpa [inB] using h
set_option maxHeartbeats 400000 in
theorem l1In_any (n a b : Int) (w : World) :
   Calls Tryz.prog 86 #[.int .i64 n, .int .i64 a, .int .i64 b] w fun e w' => e = .returned (.bool (inB n a b)) ∧ w = w' := by
 by_cases h1 : a ≤ n
 · by_cases h2 : n ≤ b
   · have H := Lib.hid (inB_mk h1 h2)
     go_enter Tryz.func86, Tryz.ntmps86
     go_wp2
     go_ret
     exact ⟨ret_bool H.out.symm, rfl⟩
   · have H := Lib.hid (inB_no (n := n) (a := a) (b := b) zO)
     have h2' : b < n := by omega
     go_enter Tryz.func86, Tryz.ntmps86
     go_wp2
     go_ret
     exact ⟨ret_bool H.out.symm, rfl⟩
 · have H := Lib.hid (inB_no (n := n) (a := a) (b := b) zO)
   have h1' : n < a := by omega
   go_enter Tryz.func86, Tryz.ntmps86
   go_wp2
   go_ret
   exact ⟨ret_bool H.out.symm, rfl⟩
set_option maxHeartbeats 400000 in
theorem implPairOk_any (p q : Int) (w : World) :
   Calls Tryz.prog 60 #[pr p q] w fun e w' => e = .returned (.bool (pairB p q)) ∧ Below w.heap.size w w' := by
 by_cases h1 : numB p = true
 · by_cases h2 : numB q = true
   · have H := Lib.hid (show pairB p q = true by simp [pairB, h1, h2])
     go_enter Tryz.func60, Tryz.ntmps60
     go_wp2_with (go_at_call 94; refine (numberOk_any _ _).mono ?_; rintro e w' ⟨rfl, rfl⟩)
     go_ret
     exact ⟨ret_bool H.out.symm, (Below.refl _ _).alloc (Nat.le_refl _) _⟩
   · have h2' : numB q = false := by simpa using h2
     have H := Lib.hid (show pairB p q = false by simp [pairB, h2'])
     clear h2
     go_enter Tryz.func60, Tryz.ntmps60
     go_wp2_with (go_at_call 94; refine (numberOk_any _ _).mono ?_; rintro e w' ⟨rfl, rfl⟩)
     go_ret
     exact ⟨ret_bool H.out.symm, (Below.refl _ _).alloc (Nat.le_refl _) _⟩
 · have h1' : numB p = false := by simpa using h1
   have H := Lib.hid (show pairB p q = false by simp [pairB, h1'])
   clear h1
   go_enter Tryz.func60, Tryz.ntmps60
   go_wp2_with (go_at_call 94; refine (numberOk_any _ _).mono ?_; rintro e w' ⟨rfl, rfl⟩)
   go_ret
   exact ⟨ret_bool H.out.symm, (Below.refl _ _).alloc (Nat.le_refl _) _⟩
set_option maxHeartbeats 400000 in
theorem l1In_num (n : Int) (w : World) : Calls Tryz.prog 86 #[.int .i64 n, .int .i64 (-4), .int .i64 4] w fun e w' => e = .returned (.bool (numB n)) ∧ w = w' := l1In_any n (-4) 4 w
set_option maxHeartbeats 400000 in
theorem l1In_place (n : Int) (w : World) : Calls Tryz.prog 86 #[.int .i64 n, .int .i64 0, .int .i64 20] w fun e w' => e = .returned (.bool (placeB n)) ∧ w = w' := l1In_any n 0 20 w
set_option maxHeartbeats 400000 in
theorem specPairOk_any (p q : Int) (w : World) :
   Calls Tryz.prog 49 #[pr p q] w fun e w' => e = .returned (.bool (pairB p q)) ∧ Below w.heap.size w w' := by
 by_cases h1 : numB p = true
 · by_cases h2 : numB q = true
   · have H := Lib.hid (show pairB p q = true by simp [pairB, h1, h2])
     go_enter Tryz.func49, Tryz.ntmps49
     go_wp2_with (go_at_call 86; refine (l1In_num _ _).mono ?_; rintro e w' ⟨rfl, rfl⟩)
     go_ret
     exact ⟨ret_bool H.out.symm, (Below.refl _ _).alloc (Nat.le_refl _) _⟩
   · have h2' : numB q = false := by simpa using h2
     have H := Lib.hid (show pairB p q = false by simp [pairB, h2'])
     clear h2
     go_enter Tryz.func49, Tryz.ntmps49
     go_wp2_with (go_at_call 86; refine (l1In_num _ _).mono ?_; rintro e w' ⟨rfl, rfl⟩)
     go_ret
     exact ⟨ret_bool H.out.symm, (Below.refl _ _).alloc (Nat.le_refl _) _⟩
 · have h1' : numB p = false := by simpa using h1
   have H := Lib.hid (show pairB p q = false by simp [pairB, h1'])
   clear h1
   go_enter Tryz.func49, Tryz.ntmps49
   go_wp2_with (go_at_call 86; refine (l1In_num _ _).mono ?_; rintro e w' ⟨rfl, rfl⟩)
   go_ret
   exact ⟨ret_bool H.out.symm, (Below.refl _ _).alloc (Nat.le_refl _) _⟩
end
section
open Go.RowKit
theorem bcell {W w1 : World} (hb : Below W.heap.size W w1) : (∀ b o, b < W.heap.size → w1.cell? ⟨b, o, none⟩ = W.cell? ⟨b, o, none⟩) ∧ (∀ b o, b < W.heap.size → w1.frozen? ⟨b, o, none⟩ = W.frozen? ⟨b, o, none⟩) :=
 ⟨fun b o h => hb.cell (p := ⟨b, o, none⟩) h, fun b o h => hb.frozen (p := ⟨b, o, none⟩) h⟩
theorem implPairOk_yes (p q : Int) (w : World) (h : pairB p q = true) : Calls Tryz.prog 60 #[pr p q] w fun e w' => e = .returned (.bool true) ∧ Below w.heap.size w w' := by rw [← h]; exact implPairOk_any p q w
theorem implPairOk_no (p q : Int) (w : World) (h : pairB p q = false) : Calls Tryz.prog 60 #[pr p q] w fun e w' => e = .returned (.bool false) ∧ Below w.heap.size w w' := by rw [← h]; exact implPairOk_any p q w
theorem specPairOk_yes (p q : Int) (w : World) (h : pairB p q = true) : Calls Tryz.prog 49 #[pr p q] w fun e w' => e = .returned (.bool true) ∧ Below w.heap.size w w' := by rw [← h]; exact specPairOk_any p q w
theorem specPairOk_no (p q : Int) (w : World) (h : pairB p q = false) : Calls Tryz.prog 49 #[pr p q] w fun e w' => e = .returned (.bool false) ∧ Below w.heap.size w w' := by rw [← h]; exact specPairOk_any p q w
def weightV (p q : Int) : Int := if pairB p q = true then p * p - 4 * q else 0
def turnP (p q : Int) : Int := if pairB p q = true then -p else 0
def turnQ (p q : Int) : Int := if pairB p q = true then q else 0
theorem ret_int_bool {k : IntKind} {a b : Int} {c d : Bool} (h : a = b) (h' : c = d) : Ending.returned (.tuple #[.int k a, .bool c]) = .returned (.tuple #[.int k b, .bool d]) := by rw [h, h']
theorem ret_pr {a b c d : Int} (h : a = c) (h' : b = d) : Ending.returned (pr a b) = .returned (pr c d) := by rw [h, h']
set_option maxHeartbeats 400000 in
theorem implWeight_any (p q : Int) (w : World) :
   Calls Tryz.prog 147 #[pr p q] w fun e w' => e = .returned (.tuple #[.int .i64 (weightV p q), .bool (pairB p q)]) ∧ Below w.heap.size w w' := by
 by_cases h : pairB p q = true
 · obtain ⟨⟨h1, h2⟩, h3, h4⟩ := pairB_true h
   obtain ⟨m1, m2⟩ := mul_bd h1 h2 h1 h2
   have H := Lib.hid h
   have HV := Lib.hid (show weightV p q = p * p - 4 * q by rw [weightV, if_pos h])
   clear h
   go_enter Tryz.func147, Tryz.ntmps147
   go_wp2_with (go_at_call 60; refine (implPairOk_yes _ _ _ H.out).mono ?_; rintro e w1 ⟨rfl, hb1⟩; obtain ⟨hc1, hf1⟩ := bcell hb1; have hz1 := hb1.size; try simp only [World.size_alloc] at hz1)
   go_ret2
   exact ⟨ret_int_bool HV.out.symm H.out.symm, ((Below.refl _ _).alloc (Nat.le_refl _) _).trans (hb1.mono (by simp))⟩
 · have h' : pairB p q = false := by simpa using h
   have H := Lib.hid h'
   have HV := Lib.hid (show weightV p q = 0 by rw [weightV, if_neg h])
   clear h h'
   go_enter Tryz.func147, Tryz.ntmps147
   go_wp2_with (go_at_call 60; refine (implPairOk_no _ _ _ H.out).mono ?_; rintro e w1 ⟨rfl, hb1⟩; obtain ⟨hc1, hf1⟩ := bcell hb1; have hz1 := hb1.size; try simp only [World.size_alloc] at hz1)
   go_ret2
   exact ⟨ret_int_bool HV.out.symm H.out.symm, ((Below.refl _ _).alloc (Nat.le_refl _) _).trans (hb1.mono (by simp))⟩
set_option maxHeartbeats 400000 in
theorem implTurned_any (p q : Int) (w : World) :
   Calls Tryz.prog 122 #[pr p q] w fun e w' => e = .returned (pr (turnP p q) (turnQ p q)) ∧ Below w.heap.size w w' := by
 by_cases h : pairB p q = true
 · obtain ⟨⟨h1, h2⟩, h3, h4⟩ := pairB_true h
   have H := Lib.hid h
   have HP := Lib.hid (show turnP p q = -p by rw [turnP, if_pos h])
   have HQ := Lib.hid (show turnQ p q = q by rw [turnQ, if_pos h])
   clear h
   go_enter Tryz.func122, Tryz.ntmps122
   go_wp2_with (go_at_call 60; refine (implPairOk_yes _ _ _ H.out).mono ?_; rintro e w1 ⟨rfl, hb1⟩; obtain ⟨hc1, hf1⟩ := bcell hb1; have hz1 := hb1.size; try simp only [World.size_alloc] at hz1)
   refine bodyPost_ret (v := pr (-p) q) (by simp [results, Tryz.results122, go_sem, hc1]) rfl ⟨ret_pr HP.out.symm HQ.out.symm, ?_⟩
   exact zb
 · have h' : pairB p q = false := by simpa using h
   have H := Lib.hid h'
   have HP := Lib.hid (show turnP p q = 0 by rw [turnP, if_neg h])
   have HQ := Lib.hid (show turnQ p q = 0 by rw [turnQ, if_neg h])
   clear h h'
   go_enter Tryz.func122, Tryz.ntmps122
   go_wp2_with (go_at_call 60; refine (implPairOk_no _ _ _ H.out).mono ?_; rintro e w1 ⟨rfl, hb1⟩; obtain ⟨hc1, hf1⟩ := bcell hb1; have hz1 := hb1.size; try simp only [World.size_alloc] at hz1)
   refine bodyPost_ret (v := pr 0 0) (by simp [results, Tryz.results122, go_sem, hc1]) rfl ⟨ret_pr HP.out.symm HQ.out.symm, ?_⟩
   exact zb
set_option maxHeartbeats 400000 in
theorem specWeight_any (p q : Int) (w : World) :
   Calls Tryz.prog 66 #[pr p q] w fun e w' => e = .returned (.tuple #[.int .i64 (weightV p q), .bool (pairB p q)]) ∧ Below w.heap.size w w' := by
 by_cases h : pairB p q = true
 · obtain ⟨⟨h1, h2⟩, h3, h4⟩ := pairB_true h
   obtain ⟨m1, m2⟩ := mul_bd h1 h2 h1 h2
   have H := Lib.hid h
   have HV := Lib.hid (show weightV p q = p * p - 4 * q by rw [weightV, if_pos h])
   clear h
   go_enter Tryz.func66, Tryz.ntmps66
   go_wp2_with (go_at_call 49; refine (specPairOk_yes _ _ _ H.out).mono ?_; rintro e w1 ⟨rfl, hb1⟩; obtain ⟨hc1, hf1⟩ := bcell hb1; have hz1 := hb1.size; try simp only [World.size_alloc] at hz1)
   go_ret2
   exact ⟨ret_int_bool HV.out.symm H.out.symm, ((Below.refl _ _).alloc (Nat.le_refl _) _).trans (hb1.mono (by simp))⟩
 · have h' : pairB p q = false := by simpa using h
   have H := Lib.hid h'
   have HV := Lib.hid (show weightV p q = 0 by rw [weightV, if_neg h])
   clear h h'
   go_enter Tryz.func66, Tryz.ntmps66
   go_wp2_with (go_at_call 49; refine (specPairOk_no _ _ _ H.out).mono ?_; rintro e w1 ⟨rfl, hb1⟩; obtain ⟨hc1, hf1⟩ := bcell hb1; have hz1 := hb1.size; try simp only [World.size_alloc] at hz1)
   go_ret2
   exact ⟨ret_int_bool HV.out.symm H.out.symm, ((Below.refl _ _).alloc (Nat.le_refl _) _).trans (hb1.mono (by simp))⟩
set_option maxHeartbeats 400000 in
theorem specTurned_any (p q : Int) (w : World) :
   Calls Tryz.prog 125 #[pr p q] w fun e w' => e = .returned (pr (turnP p q) (turnQ p q)) ∧ Below w.heap.size w w' := by
 by_cases h : pairB p q = true
 · obtain ⟨⟨h1, h2⟩, h3, h4⟩ := pairB_true h
   have H := Lib.hid h
   have HP := Lib.hid (show turnP p q = -p by rw [turnP, if_pos h])
   have HQ := Lib.hid (show turnQ p q = q by rw [turnQ, if_pos h])
   clear h
   go_enter Tryz.func125, Tryz.ntmps125
   go_wp2_with (go_at_call 49; refine (specPairOk_yes _ _ _ H.out).mono ?_; rintro e w1 ⟨rfl, hb1⟩; obtain ⟨hc1, hf1⟩ := bcell hb1; have hz1 := hb1.size; try simp only [World.size_alloc] at hz1)
   refine bodyPost_ret (v := pr (-p) q) (by simp [results, Tryz.results125, go_sem, hc1]) rfl ⟨ret_pr HP.out.symm HQ.out.symm, ?_⟩
   exact zb
 · have h' : pairB p q = false := by simpa using h
   have H := Lib.hid h'
   have HP := Lib.hid (show turnP p q = 0 by rw [turnP, if_neg h])
   have HQ := Lib.hid (show turnQ p q = 0 by rw [turnQ, if_neg h])
   clear h h'
   go_enter Tryz.func125, Tryz.ntmps125
   go_wp2_with (go_at_call 49; refine (specPairOk_no _ _ _ H.out).mono ?_; rintro e w1 ⟨rfl, hb1⟩; obtain ⟨hc1, hf1⟩ := bcell hb1; have hz1 := hb1.size; try simp only [World.size_alloc] at hz1)
   refine bodyPost_ret (v := pr 0 0) (by simp [results, Tryz.results125, go_sem, hc1]) rfl ⟨ret_pr HP.out.symm HQ.out.symm, ?_⟩
   exact zb
set_option maxHeartbeats 400000 in
theorem toPair_any (p q : Int) (w : World) :
   Calls Tryz.prog 71 #[pr p q] w fun e w' => e = .returned (pr p q) ∧ Below w.heap.size w w' := by
 go_enter Tryz.func71, Tryz.ntmps71
 go_wp2
 refine bodyPost_ret (v := pr p q) (by simp [results, Tryz.results71, go_sem]) rfl ⟨rfl, ?_⟩
 exact zb
end
section
open Go.RowKit
theorem bl_size (a : ByteArray) : a.data.toList.length = a.size := by rw [Array.length_toList]; rfl
theorem bl_loop (a : ByteArray) : ∀ (n i : Nat) (r : List UInt8), a.size - i = n → ByteArray.toList.loop a i r = r.reverse ++ a.data.toList.drop i := by
 intro n
 induction n with
 | zero =>
   intro i r h
   rw [ByteArray.toList.loop]
   have h1 : ¬ i < a.size := by omega
   have h2 : a.data.toList.length ≤ i := by rw [bl_size]; omega
   rw [if_neg h1, List.drop_eq_nil_of_le h2, List.append_nil]
 | succ n ih =>
   intro i r h
   rw [ByteArray.toList.loop]
   have h1 : i < a.size := by omega
   rw [if_pos h1, ih (i + 1) _ zO]
   have h2 : i < a.data.toList.length := by rw [bl_size]; exact h1
   have h3 : i < a.data.size := h1
   have e : a.get! i = a.data.toList[i] := by
     rw [Array.getElem_toList]
     exact getElem!_pos a.data i h3
   rw [List.drop_eq_getElem_cons h2, e, List.reverse_cons, List.append_assoc]
   rfl
theorem bl_toList (a : ByteArray) : a.toList = a.data.toList := by
 rw [ByteArray.toList, bl_loop a a.size 0 [] zO]; rfl
theorem bl_eq (a b : ByteArray) : (a.toList == b.toList) = (a.data.toList == b.data.toList) := by rw [bl_toList, bl_toList]
end
section
open Go
def txt (l : List UInt8) : ByteArray := ⟨l.toArray⟩
theorem txt_list (l : List UInt8) : (txt l).data.toList = l := rfl
theorem txt_of (s : ByteArray) : txt s.data.toList = s := rfl
theorem txt_eq {s t : ByteArray} (h : s.data.toList = t.data.toList) : s = t := by rw [← txt_of s, ← txt_of t, h]
def deedWs : List ByteArray := [txt [116, 97, 107, 101], txt [116, 117, 114, 110], txt [117, 112], txt [100, 111, 119, 110], txt [98, 97, 99, 107]]
def atoiV (l : List UInt8) : Int := match Lib.atoiAll l with
 | .ok v => v
 | .range => Lib.atoiSat l
 | _ => 0
def piecesB (n : Nat) (s : ByteArray) : List ByteArray := Lib.splitB (txt [32]) 0 (min n (s.size + 1) - 1) s
def candI (s : ByteArray) : DeedN :=
 if Lib.idxOfS deedWs ((piecesB 3 s).getD 0 ByteArray.empty) = 0 ∧ (piecesB 3 s).length = 3 then ⟨0, atoiV ((piecesB 3 s).getD 1 ByteArray.empty).data.toList, atoiV ((piecesB 3 s).getD 2 ByteArray.empty).data.toList⟩
 else ⟨Lib.idxOfS deedWs ((piecesB 3 s).getD 0 ByteArray.empty), 0, 0⟩
theorem candI_deeds : allDeeds.all (fun x => decide (candI (txt (deedT x)) = x)) = true := by decide +kernel
theorem candI_text {x : DeedN} (h : deedT x ≠ []) : candI (txt (deedT x)) = x := of_decide_eq_true (List.all_eq_true.1 candI_deeds x (mem_deeds h))
def deedV (s : List UInt8) : DeedN × Bool := match readN s with
 | some x => (x, true)
 | none => (⟨0, 0, 0⟩, false)
theorem deedV_cand (s : ByteArray) : deedV s.data.toList = if deedT (candI s) ≠ [] ∧ deedT (candI s) = s.data.toList then (candI s, true) else (⟨0, 0, 0⟩, false) := by
 by_cases h : deedT (candI s) ≠ [] ∧ deedT (candI s) = s.data.toList
 · rw [if_pos h, ← h.2, deedV, readN_text h.1]
 · rw [if_neg h]
   unfold deedV
   cases hr : readN s.data.toList with
   | none => rfl
   | some x =>
     obtain ⟨h1, h2⟩ := readN_some hr
     have hx : deedT x ≠ [] := h1 ▸ h2
     have e : candI s = x := by
       have := candI_text hx
       rwa [h1, txt_of] at this
     exact absurd ⟨e ▸ hx, e ▸ h1⟩ h
def digZ : List UInt8 → Int × Bool
 | [] => (0, false)
 | c :: t => if c = 45 ∧ t ≠ [] then (-(digZ t).1, (digZ t).2 && decide (0 < (digZ t).1)) else
   match digitsN (c :: t) with
   | some n => ((n : Int), true)
   | none => (0, false)
theorem digZ_nine : (nines.all fun a => decide ((digZ (digN a)).1 = a)) = true := by decide +kernel
def candsS (s : List UInt8) : List DeedN := [⟨1, 0, 0⟩, ⟨2, 0, 0⟩, ⟨3, 0, 0⟩, ⟨4, 0, 0⟩] ++ (if (wordsN [] s).length = 3 then [⟨0, (digZ ((wordsN [] s).getD 1 [])).1, (digZ ((wordsN [] s).getD 2 [])).1⟩] else [])
theorem cands_has {s : List UInt8} {x : DeedN} (h : readN s = some x) : x ∈ candsS s := by
 obtain ⟨h1, h2⟩ := readN_some h
 subst h1
 obtain ⟨k, a, b⟩ := x
 have hm := mem_deeds h2
 unfold allDeeds at hm
 rcases List.mem_append.1 hm with hm | hm
 · exact List.mem_append.2 (.inl hm)
 · obtain ⟨a', ha, hm⟩ := List.mem_flatMap.1 hm
   obtain ⟨b', hb, e⟩ := List.mem_map.1 hm
   cases e
   refine List.mem_append.2 (.inr ?_)
   rw [take_words h2, if_pos (show List.length _ = 3 from rfl)]
   have ea := of_decide_eq_true (List.all_eq_true.1 digZ_nine a ha)
   have eb := of_decide_eq_true (List.all_eq_true.1 digZ_nine b hb)
   simp [ea, eb]
theorem cands_hit {s : List UInt8} {x : DeedN} (hs : s ≠ []) (h : deedT x = s) : deedV s = (x, true) := by
 subst h
 rw [deedV, readN_text hs]
theorem cands_miss {s : List UInt8} (h : ∀ x ∈ candsS s, ¬ (s ≠ [] ∧ deedT x = s)) : deedV s = (⟨0, 0, 0⟩, false) := by
 unfold deedV
 cases hr : readN s with
 | none => rfl
 | some x =>
   obtain ⟨h1, h2⟩ := readN_some hr
   exact absurd ⟨h2, h1⟩ (h x (cands_has hr))
theorem decN_digits : ∀ (f n : Nat), n < 10 ^ f → 0 < f → decN f n = Lib.decDigits n
 | f + 1, n, h, _ => by
   rw [decN, Lib.decDigits]
   by_cases h9 : n < 10
   · rw [if_pos h9, dif_pos h9]
   · rw [if_neg h9, dif_neg h9]
     rw [Nat.pow_succ] at h
     cases f with
     | zero => simp at h; omega
     | succ f => rw [decN_digits (f + 1) (n / 10) zO zO]
theorem numberT_itoa (n : Int) (h0 : -9223372036854775808 ≤ n) (h1 : n ≤ 9223372036854775807) : numberT n = Lib.itoa n := by
 unfold numberT Lib.itoa
 have hb : n.natAbs < 10 ^ 20 := by omega
 rw [decN_digits 20 _ hb zO]
 split
 · rfl
 · rw [show n.natAbs = n.toNat by omega]
theorem digN_is (n : Int) (h1 : -9 ≤ n) (h2 : n ≤ 9) : numberT n = digN n := by
 have : (nines.all fun a => decide (numberT a = digN a)) = true := by decide +kernel
 exact of_decide_eq_true (List.all_eq_true.1 this n (mem_nines h1 h2))
end
section
open Go.RowKit Go.Shelf
def PowTab (w : World) : Prop := Lib.TabIs Tryz.prog w "internal/strconv.uint64pow10" .u64 Lib.pow10Tab
def Errs (w : World) : Prop := (∃ t p, w.var? Tryz.prog "strconv.ErrSyntax" = some #[.iface t p]) ∧ ∃ t p, w.var? Tryz.prog "strconv.ErrRange" = some #[.iface t p]
theorem var_stays {w w' : World} {D : Nat} {n : String} {cs : Array Value} (h : w.var? Tryz.prog n = some cs) (hb : Below D w w') (hD : w.heap.size ≤ D) : w'.var? Tryz.prog n = some cs := by
 unfold World.var? at *
 obtain ⟨g, hg, h2⟩ := Option.bind_eq_some_iff.1 h
 rw [hg]
 show (match w'.heap[g]? with | some (.cells cs _ _) => some cs | _ => none) = _
 have hlt : g < w.heap.size := by
   rcases Nat.lt_or_ge g w.heap.size with h3 | h3
   · exact h3
   · rw [Array.getElem?_eq_none h3] at h2; cases h2
 rw [hb.block g zO]
 exact h2
theorem PowTab.below {w w' : World} {D : Nat} (h : PowTab w) (hb : Below D w w') (hD : w.heap.size ≤ D) : PowTab w' := var_stays h hb hD
theorem Errs.below {w w' : World} {D : Nat} (h : Errs w) (hb : Below D w w') (hD : w.heap.size ≤ D) : Errs w' := by
 obtain ⟨⟨t, p, h1⟩, t', p', h2⟩ := h
 exact ⟨⟨t, p, var_stays h1 hb hD⟩, t', p', var_stays h2 hb hD⟩
theorem itoa_any (n : Int) (h0 : -9223372036854775808 ≤ n) (h1 : n ≤ 9223372036854775807) (w : World) (h : PowTab w) :
   Calls Tryz.prog 55 #[.int .i64 n] w fun e w' => e = .returned (.string (txt (numberT n))) ∧ Below w.heap.size w w' := by
 refine (Tryz.strconv_Itoa n h0 h1 w h).mono ?_
 rintro e w' ⟨rfl, k, os, rfl⟩
 refine ⟨?_, Lib.below_grow _ _ (Nat.le_refl _) _ _⟩
 rw [numberT_itoa n h0 h1]
 rfl
theorem atoi_any (s : ByteArray) (hs : s.size ≤ 2097152) (w : World) (h : Errs w) :
   Calls Tryz.prog 82 #[.string s] w fun e w' => ∃ x, e = .returned (.tuple #[.int .i64 (atoiV s.data.toList), x]) ∧ ((∀ v, Lib.atoiAll s.data.toList = .ok v → x = .nilIface) ∧ ((∀ v, Lib.atoiAll s.data.toList ≠ .ok v) → ∃ t p, x = .iface t p)) ∧ Below w.heap.size w w' := by
 obtain ⟨⟨t, p, h1⟩, t', p', h2⟩ := h
 cases ha : Lib.atoiAll s.data.toList with
 | ok v =>
   refine (Tryz.strconv_Atoi_ok s zO v ha w).mono ?_
   rintro e w' ⟨rfl, hw⟩
   refine ⟨.nilIface, by rw [atoiV, ha], ⟨fun _ _ => rfl, fun h => absurd rfl (h v)⟩, ?_⟩
   rcases hw with rfl | ⟨u, rfl⟩
   · exact Below.refl _ _
   · exact Lib.bytesWorld_below _ _ _
 | range =>
   refine (Tryz.strconv_Atoi_range_var s zO ha t' p' w h2).mono ?_
   rintro e w' ⟨N, rfl, _, _, hb⟩
   exact ⟨_, by rw [atoiV, ha], ⟨fun v h => (by cases h), fun _ => ⟨_, _, rfl⟩⟩, hb⟩
 | _ =>
   refine (Tryz.strconv_Atoi_syntax_var s zO ha t p w h1).mono ?_
   rintro e w' ⟨N, rfl, _, _, hb⟩
   exact ⟨_, by rw [atoiV, ha], ⟨fun v h => (by cases h), fun _ => ⟨_, _, rfl⟩⟩, hb⟩
theorem genSplit_at (s : ByteArray) (n : Nat) (w : World) (hs : s.size ≤ 2097152) (hn : 1 ≤ n) (hn2 : n ≤ 1000) :
   Calls Tryz.prog 108 #[.string s, .string (txt [32]), .int .i64 0, .int .i64 n] w fun e w' => e = .returned (.slice (some ⟨w.heap.size, 0, none⟩) (piecesB n s).length (min n (s.size + 1))) ∧ w' = w.alloc (.cells (Lib.cellsOf (piecesB n s) (min n (s.size + 1))) 9) := by
 refine Any.strings_genSplit_core Tryz.lays221 (by kernel_rfl) s (txt [32]) 0 n (min n (s.size + 1)) w zO zd zd (fun x c hx => ?_) ?_ zO zO ?_
 · refine (Tryz.strings_Index_one x 32 _).mono ?_
   rintro e w' ⟨rfl, rfl⟩
   refine ⟨?_, rfl⟩
   show _ = Ending.returned (Value.int .i64 (Lib.index x.data.toList [32]))
   rw [Lib.index_one]
 · refine (Tryz.strings_Count_one s 32 _).mono ?_
   rintro e w' ⟨rfl, rfl⟩
   refine ⟨?_, rfl⟩
   show _ = Ending.returned (Value.int .i64 ((Lib.count s.data.toList [32] : Nat) : Int))
   rw [Lib.count_one]
   rfl
 · rw [if_neg zO]; omega
theorem pieces_len (n : Nat) (s : ByteArray) (hn : 1 ≤ n) : 1 ≤ (piecesB n s).length ∧ (piecesB n s).length ≤ min n (s.size + 1) := by
 have h : ∀ (k : Nat) (x : ByteArray), 1 ≤ (Lib.splitB (txt [32]) 0 k x).length ∧ (Lib.splitB (txt [32]) 0 k x).length ≤ k + 1 := by
   intro k
   induction k with
   | zero => intro x; simp [Lib.splitB]
   | succ k ih =>
     intro x
     unfold Lib.splitB
     split
     · simp
     · have := ih (x.extract ((Lib.indexB x (txt [32])).toNat + (txt [32]).size) x.size)
       simp only [List.length_cons]; omega
 have := h (min n (s.size + 1) - 1) s
 unfold piecesB
 omega
theorem cellsOf_get {L : List ByteArray} {N i : Nat} (h : i < L.length) : (Lib.cellsOf L N)[i]? = some (.string (L.getD i ByteArray.empty)) := by
 unfold Lib.cellsOf
 rw [List.getElem?_toArray, List.getElem?_append_left (by simpa using h)]
 simp [h]
set_option maxHeartbeats 1000000 in
theorem splitN_at (s : ByteArray) (n : Nat) (w : World) (hs : s.size ≤ 2097152) (hn : 1 ≤ n) (hn2 : n ≤ 1000) :
   Calls Tryz.prog 80 #[.string s, .string (txt [32]), .int .i64 n] w fun e w' => ∃ c, e = .returned (.slice (some ⟨w.heap.size, 0, none⟩) (piecesB n s).length c) ∧ ((piecesB n s).length ≤ c ∧ w.heap.size < w'.heap.size) ∧ (∀ i, i < (piecesB n s).length → w'.cell? ⟨w.heap.size, i, none⟩ = some (.string ((piecesB n s).getD i ByteArray.empty))) ∧ Below w.heap.size w w' := by
 go_enter Tryz.func80, Tryz.ntmps80
 go_wp2_with (go_at_call 108; refine (genSplit_at s n _ hs hn hn2).mono ?_; rintro e w1 ⟨rfl, hw1⟩)
 go_ret
 subst hw1
 refine ⟨_, rfl, ⟨(pieces_len n s hn).2, by simp⟩, fun i hi => ?_, (Below.refl _ _).alloc (Nat.le_refl _) _⟩
 exact (World.cell?_alloc_mark _ _ _ _ _).trans (cellsOf_get hi)
theorem deedWords_at (w : World) : Calls Tryz.prog 53 #[] w fun e w' => e = .returned (.slice (some ⟨w.heap.size, 0, none⟩) 5 5) ∧ w' = w.alloc (.cells #[.string ⟨#[116, 97, 107, 101]⟩, .string ⟨#[116, 117, 114, 110]⟩, .string ⟨#[117, 112]⟩, .string ⟨#[100, 111, 119, 110]⟩, .string ⟨#[98, 97, 99, 107]⟩] 9) := by
 go_enter Tryz.func53, Tryz.ntmps53
 go_wp2
 go_ret
 exact ⟨rfl, rfl⟩
theorem kindOf_at (g : Nat) (x : ByteArray) (w : World) (h : ∀ j, j < 5 → w.cell? ⟨g, j, none⟩ = some (.string (deedWs.getD j ByteArray.empty))) :
   Calls Tryz.prog 81 #[.slice (some ⟨g, 0, none⟩) 5 5, .string x] w fun e w' => e = .returned (.int .i64 (Lib.idxOfS deedWs x)) ∧ w' = w := by
 have := Tryz.slices_Index_string g 0 5 5 deedWs x w zd zd (fun j hj => by rw [Nat.zero_add]; exact h j hj)
 rwa [show deedWs.take 5 = deedWs from rfl] at this
theorem takenOk_at (n : Int) (w : World) : Calls Tryz.prog 54 #[.int .i64 n] w fun e w' => e = .returned (.bool (decide (-9 ≤ n ∧ n ≤ 9))) ∧ Below w.heap.size w w' := by
 rcases (show n < -9 ∨ 9 < n ∨ (-9 ≤ n ∧ n ≤ 9) by omega) with h | h | ⟨h, h'⟩
 · have h1 : ¬ (-9 ≤ n) := by omega
   rw [decide_eq_false zO]
   go_enter Tryz.func54, Tryz.ntmps54
   go_wp2
   go_ret
   exact ⟨rfl, Below.refl _ _⟩
 · have h1 : (-9 ≤ n) := by omega
   have h2 : ¬ (n ≤ 9) := by omega
   rw [decide_eq_false zO]
   go_enter Tryz.func54, Tryz.ntmps54
   go_wp2
   go_ret
   exact ⟨rfl, Below.refl _ _⟩
 · rw [decide_eq_true ⟨h, h'⟩]
   go_enter Tryz.func54, Tryz.ntmps54
   go_wp2
   go_ret
   exact ⟨rfl, Below.refl _ _⟩
end
section
open Go.RowKit Go.Shelf
theorem gPow : Tryz.prog.globalNamed "internal/strconv.uint64pow10" = some 3 := by kernel_rfl
theorem gSyn : Tryz.prog.globalNamed "strconv.ErrSyntax" = some 1 := by kernel_rfl
theorem gRng : Tryz.prog.globalNamed "strconv.ErrRange" = some 2 := by kernel_rfl
theorem starErr : "*" ++ "errors.errorString" = "*errors.errorString" := by decide
theorem rowErr (u : TypeId) (h : Tryz.prog.typeName? 3 u = some "*errors.errorString") : u = 198 :=
 typeName_ptr_named (nm := "errors.errorString") (by rw [starErr]; kernel_rfl) (by kernel_rfl) zd u (by rw [starErr]; exact h)
theorem tab_of {r : List (String × DataW Unit)} {W : World} (h : laidMet Tryz.prog (("internal/strconv.uint64pow10", Lib.tabData .u64 Lib.pow10Tab) :: r) W) : PowTab W :=
 Lib.tabIs_of_head (n := 20) (t := 193) gPow (by kernel_rfl) (by kernel_rfl) Tryz.underlying163 (by kernel_rfl) (by kernel_rfl) h
theorem syn_of {r : List (String × DataW Unit)} {W : World} (h : laidMet Tryz.prog (("strconv.ErrSyntax", Rows.laid_strconv_ErrSyntax) :: r) W) : ∃ t p, W.var? Tryz.prog "strconv.ErrSyntax" = some #[.iface t p] := by
 obtain ⟨a0, s0, hv0, -, -, -⟩ := laid_sentinel h gSyn (by kernel_rfl) Tryz.underlying88 rowErr Tryz.underlying198 Tryz.underlying200 rfl rfl Tryz.underlying9 (by kernel_rfl) (by kernel_rfl)
 exact ⟨_, _, hv0⟩
theorem rng_of {r : List (String × DataW Unit)} {W : World} (h : laidMet Tryz.prog (("strconv.ErrRange", Rows.laid_strconv_ErrRange) :: r) W) : ∃ t p, W.var? Tryz.prog "strconv.ErrRange" = some #[.iface t p] := by
 obtain ⟨a0, s0, hv0, -, -, -⟩ := laid_sentinel h gRng (by kernel_rfl) Tryz.underlying88 rowErr Tryz.underlying198 Tryz.underlying200 rfl rfl Tryz.underlying9 (by kernel_rfl) (by kernel_rfl)
 exact ⟨_, _, hv0⟩
theorem tabs_of {W : World} (h : laidMet Tryz.prog Rows.fnExactDeskLineRow.laid W) : PowTab W ∧ Errs W :=
 ⟨tab_of h.tail.tail, syn_of h.tail.tail.tail.tail.tail, rng_of h.tail.tail.tail.tail⟩
noncomputable def laidWorld (os : Os) : World :=
 let N := (World.settled Tryz.prog os).heap.size
 let w0 := World.holding Tryz.prog os ⟨#[.cells #[.string ⟨#[105, 110, 118, 97, 108, 105, 100, 32, 115, 121, 110, 116, 97, 120]⟩] 200, .cells #[.string ⟨#[118, 97, 108, 117, 101, 32, 111, 117, 116, 32, 111, 102, 32, 114, 97, 110, 103, 101]⟩] 200], #[], []⟩
 let put (h : Array Obj) (g : Nat) (cs : Array Value) : Array Obj := h.modify g fun
   | .cells _ t frozen => .cells cs t frozen
   | o => o
 let h1 := put w0.heap 3 (Lib.pow10Tab.map fun z => Value.int .u64 z).toArray
 let h2 := put h1 4 (Lib.firstTab.map fun z => Value.int .u8 z).toArray
 let h3 := put h2 5 ((List.range 16).flatMap fun i => [Value.int .u8 (Lib.accLo i), Value.int .u8 (Lib.accHi i)]).toArray
 let h4 := put h3 1 #[.iface 198 (.pointer (some ⟨N, 0, none⟩))]
 let h5 := put h4 2 #[.iface 198 (.pointer (some ⟨N + 1, 0, none⟩))]
 let h6 := put h5 6 #[.int .u8 0, .int .u8 1, .int .u8 28, .int .u8 2, .int .u8 29, .int .u8 14, .int .u8 24, .int .u8 3, .int .u8 30, .int .u8 22, .int .u8 20, .int .u8 15, .int .u8 25, .int .u8 17, .int .u8 4, .int .u8 8, .int .u8 31, .int .u8 27, .int .u8 13, .int .u8 23, .int .u8 21, .int .u8 19, .int .u8 16, .int .u8 7, .int .u8 26, .int .u8 12, .int .u8 18, .int .u8 6, .int .u8 11, .int .u8 5, .int .u8 10, .int .u8 9]
 let h7 := put h6 7 #[.int .u8 0, .int .u8 1, .int .u8 56, .int .u8 2, .int .u8 57, .int .u8 49, .int .u8 28, .int .u8 3, .int .u8 61, .int .u8 58, .int .u8 42, .int .u8 50, .int .u8 38, .int .u8 29, .int .u8 17, .int .u8 4, .int .u8 62, .int .u8 47, .int .u8 59, .int .u8 36, .int .u8 45, .int .u8 43, .int .u8 51, .int .u8 22, .int .u8 53, .int .u8 39, .int .u8 33, .int .u8 30, .int .u8 24, .int .u8 18, .int .u8 12, .int .u8 5, .int .u8 63, .int .u8 55, .int .u8 48, .int .u8 27, .int .u8 60, .int .u8 41, .int .u8 37, .int .u8 16, .int .u8 46, .int .u8 35, .int .u8 44, .int .u8 21, .int .u8 52, .int .u8 32, .int .u8 23, .int .u8 11, .int .u8 54, .int .u8 26, .int .u8 40, .int .u8 15, .int .u8 34, .int .u8 20, .int .u8 31, .int .u8 10, .int .u8 25, .int .u8 14, .int .u8 19, .int .u8 9, .int .u8 13, .int .u8 8, .int .u8 7, .int .u8 6]
 { w0 with heap := h7 }
theorem laidWorld_met (os : Os) (args : Array Value) : laidMet Tryz.prog Rows.fnExactDeskLineRow.laid ((laidWorld os).forCall (fun _ _ => 0) ⟨#[], args, []⟩).memory :=
 laidMet_of_run3 10 (by kernel_rfl) (by kernel_rfl) (by kernel_rfl)
end
section
open Go.RowKit
section
variable {P : Program} (w : World)
theorem run_append_keeps (t ty : TypeId) (base : Nat) (e : TypeId) (i : TypeInfo) (z : Value) (size bytes : Nat) (ht : P.underlying t = some (.slice e)) (hi : P.info? e = some i) (hz : i.zero = some z)
   (hsize : i.size = size) (hby : i.bytes = bytes) (hzs : z.cells.size = size) (hsz : 0 < size)
   (g0 n c0 : Nat) (xs : List Value) (hown : w.ownsRow base e size (.slice (some ⟨g0, 0, none⟩) n c0) n xs)
   (ad : Addr) (m c : Nat) (news : List Value) (hl : news.length = m * size) (hnews : ∀ j u, news[j]? = some u → w.cell? (ad.add j) = some u) (h1 : ∀ u ∈ news, u.oneCell' = true)
   (hm : 0 < m) (h63 : n + m ≤ maxLen) (hbytes : (n + m) * bytes ≤ 140737488355328) (hbase : base ≤ w.heap.size) (H : Nat) (hH : w.heap.size = H) :
   ∃ g cap w', (Builtin.append_ #[t, t] ty #[.slice (some ⟨g0, 0, none⟩) n c0, .slice (some ad) m c]).run P w = .ok (.slice (some ⟨g, 0, none⟩) (n + m) cap) w' ∧
     w'.ownsRow base e size (.slice (some ⟨g, 0, none⟩) (n + m) cap) (n + m) (xs ++ news) ∧ w.grownBy w' (some g0) ∧ (g = g0 ∨ g = H) ∧ g < w'.heap.size ∧
     ∀ j u, xs[j]? = some u → w'.cell? ((⟨g0, 0, none⟩ : Addr).add j) = some u := by
 obtain ⟨g, cap, w', hr, h2, h3, h4, h5⟩ := run_append_lies (P := P) w t ty base e i z size bytes ht hi hz hsize hby hzs hsz _ n xs hown ad m c news hl hnews h1 hm h63 hbytes hbase H hH
 have h4' : g = g0 ∨ g = H := by
   rcases h4 with h4 | h4
   · left; simpa [Value.ownBlock] using h4.symm
   · exact .inr h4
 refine ⟨g, cap, w', hr, h2, h3, h4', h5, ?_⟩
 have holds := hown.cells (g := g0) rfl
 by_cases hroom : n + m ≤ c0
 · rcases hown.2 with ⟨hbad, _⟩ | ⟨g1, cap1, cur, he, hbg, hg, hnc, hcm, hcs, htake⟩
   · cases hbad
   · injection he with ha _ hc
     injection ha with ha
     injection ha with ha
     subst ha; subst hc
     have hl' : news.length = m * i.size := by rw [hl, hsize]
     have hfit : n * i.size + news.length ≤ cur.size := by rw [hl', hcs, hsize, ← Nat.add_mul]; exact Nat.mul_le_mul_right _ hroom
     have hr2 := run_append_room (P := P) w t ty e i ht hi g0 n c0 cur hg ad m c news hl' hnews h1 hroom hfit
     rw [hr] at hr2
     injection hr2 with hv _
     injection hv with hv _ _
     injection hv with hv
     injection hv with hv
     subst hv
     intro j u hu
     exact h2.cells (g := g) rfl j u (by
       have hj : j < xs.length := (List.getElem?_eq_some_iff.1 hu).1
       rw [List.getElem?_append_left hj]; exact hu)
 · subst hsize; subst hby
   obtain ⟨v', w'', hrun, _, r2⟩ := run_append_arg_grows (P := P) w t ty e i z i.size i.bytes ht hi hz rfl rfl hzs hsz ⟨g0, 0, none⟩ n c0 xs hown.1 holds ad m c news hl hnews zO h63 hbytes
   rw [hr] at hrun
   injection hrun with _ hw
   subst hw
   intro j u hu
   have hc := holds j u hu
   have hlt := World.block_lt_of_cell? w _ hc
   exact (World.cell?_of_block (r2.block _ hlt (by simp))).trans hc
theorem step_append_keeps {ops : Array Oper} {o : Oper} {a : Act} {K : Act → World → Prop} {Q : Exit → Act → World → Prop} {E : Prop} (hgd : o.guard = none) (s x : Operand) (t : TypeId)
   (ho : o.op = .call { callee := .builtin .append, args := #[s, x], argTypes := #[t, t] })
   (base : Nat) (e : TypeId) (i : TypeInfo) (z : Value) (size bytes : Nat) (ht : P.underlying t = some (.slice e)) (hi : P.info? e = some i) (hz : i.zero = some z)
   (hsize : i.size = size) (hby : i.bytes = bytes) (hzs : z.cells.size = size) (hsz : 0 < size)
   (g0 n c0 : Nat) (xs : List Value) (hs : a.eval s = .slice (some ⟨g0, 0, none⟩) n c0) (hown : w.ownsRow base e size (.slice (some ⟨g0, 0, none⟩) n c0) n xs)
   (ad : Addr) (m c : Nat) (news : List Value) (hx : a.eval x = .slice (some ad) m c) (hl : news.length = m * size) (hnews : ∀ j u, news[j]? = some u → w.cell? (ad.add j) = some u) (h1 : ∀ u ∈ news, u.oneCell' = true)
   (hm : 0 < m) (h63 : n + m ≤ maxLen) (hbytes : (n + m) * bytes ≤ 140737488355328) (hbase : base ≤ w.heap.size) (H : Nat) (hH : w.heap.size = H)
   (h : ∀ g cap w', w'.ownsRow base e size (.slice (some ⟨g, 0, none⟩) (n + m) cap) (n + m) (xs ++ news) → w.grownBy w' (some g0) → (g = g0 ∨ g = H) → g < w'.heap.size →
     (∀ j u, xs[j]? = some u → w'.cell? ((⟨g0, 0, none⟩ : Addr).add j) = some u) → K (a.put o.dst (.slice (some ⟨g, 0, none⟩) (n + m) cap)) w') :
   if Region.wanted o (yielded ops a.tmps) = true then Oper.wp P o a w K Q else E := by
 have hw : Region.wanted o (yielded ops a.tmps) = true := by simp [Region.wanted, hgd]
 rw [if_pos hw]
 obtain ⟨g, cap, w', hr, h2, h3, h4, h5, h6⟩ := run_append_keeps (P := P) w t o.type base e i z size bytes ht hi hz hsize hby hzs hsz g0 n c0 xs hown ad m c news hl hnews h1 hm h63 hbytes hbase H hH
 unfold Oper.wp execOp
 simp only [ho, resolve, invoke, builtin, Sem.run_bind, Sem.run_pure, Result.andThen_ok, List.map_toArray, List.map_cons, List.map_nil, hs, hx, hr]
 exact h g cap w' h2 h3 h4 h5 h6
end
end
section
open Go.RowKit
def IsInts (B C : Nat) (w : World) (v : Value) (n : Nat) (f : Nat → Int) : Prop :=
 ∃ (a : Option Addr) (cap : Nat), v = .slice a n cap ∧ C ≤ w.heap.size ∧
   (n = 0 ∨ ∃ g off, a = some ⟨g, off, none⟩ ∧ B ≤ g ∧ g < C ∧ (∀ i, i < n → w.cell? ⟨g, off + i, none⟩ = some (.int .i64 (f i))) ∧ (∀ i, i < n → w.frozen? ⟨g, off + i, none⟩ = false))
theorem IsInts.below {B C D : Nat} {w w' : World} {v : Value} {n : Nat} {f : Nat → Int} (h : IsInts B C w v n f) (hb : Below D w w') (hD : C ≤ D) : IsInts B C w' v n f := by
 obtain ⟨a, cap, rfl, hC, hs⟩ := h
 refine ⟨a, cap, rfl, Nat.le_trans hC hb.size, ?_⟩
 rcases hs with hs | ⟨g, off, ha, h1, h2, hc, hf⟩
 · exact .inl hs
 · exact .inr ⟨g, off, ha, h1, h2, fun i hi => (hb.cell (p := ⟨g, off + i, none⟩) (by show g < D; omega)).trans (hc i hi), fun i hi => (hb.frozen (p := ⟨g, off + i, none⟩) (by show g < D; omega)).trans (hf i hi)⟩
theorem IsInts.mono {B B' C C' : Nat} {w : World} {v : Value} {n : Nat} {f : Nat → Int} (h : IsInts B C w v n f) (h1 : B' ≤ B) (h2 : C ≤ C') (h3 : C' ≤ w.heap.size) : IsInts B' C' w v n f := by
 obtain ⟨a, cap, rfl, hC, hs⟩ := h
 refine ⟨a, cap, rfl, h3, ?_⟩
 rcases hs with hs | ⟨g, off, ha, k1, k2, hc, hf⟩
 · exact .inl hs
 · exact .inr ⟨g, off, ha, by omega, by omega, hc, hf⟩
theorem IsInts.congr {B C : Nat} {w : World} {v : Value} {n : Nat} {f g : Nat → Int} (h : IsInts B C w v n f) (he : ∀ i, i < n → f i = g i) : IsInts B C w v n g := by
 obtain ⟨a, cap, rfl, hC, hs⟩ := h
 refine ⟨a, cap, rfl, hC, ?_⟩
 rcases hs with hs | ⟨g, off, ha, k1, k2, hc, hf⟩
 · exact .inl hs
 · exact .inr ⟨g, off, ha, k1, k2, fun i hi => by rw [hc i hi, he i hi], hf⟩
theorem IsInts.nil (B : Nat) (w : World) (f : Nat → Int) : IsInts B w.heap.size w (.slice none 0 0) 0 f := ⟨none, 0, rfl, Nat.le_refl _, .inl rfl⟩
theorem IsInts.empty (B : Nat) (w : World) (a : Option Addr) (c : Nat) (f : Nat → Int) : IsInts B w.heap.size w (.slice a 0 c) 0 f := ⟨a, c, rfl, Nat.le_refl _, .inl rfl⟩
theorem IsInts.of_owns {B n : Nat} {w : World} {e : TypeId} {v : Value} {f : Nat → Int} (h : w.ownsRow B e 1 v n ((List.range n).map fun i => .int .i64 (f i))) : IsInts B w.heap.size w v n f := by
 have hc := fun g (hg : v.ownBlock = some g) => h.cells hg
 obtain ⟨hl, h⟩ := h
 rcases h with ⟨rfl, rfl⟩ | ⟨g, cap, cur, rfl, hb, hg, hnc, hm, hcs, htk⟩
 · exact IsInts.nil B w f
 · have hlt : g < w.heap.size := (Array.getElem?_eq_some_iff.1 hg).1
   refine ⟨_, cap, rfl, Nat.le_refl _, .inr ⟨g, 0, rfl, hb, hlt, fun i hi => ?_, fun i hi => ?_⟩⟩
   · have := hc g rfl i (.int .i64 (f i)) (by simp [hi])
     rw [Nat.zero_add]
     by_cases h0 : i = 0
     · subst h0; simpa [Addr.add] using this
     · simpa [Addr.add, h0] using this
   · simp [World.frozen?, hg]
theorem grown_set {w w1 : World} {g : Nat} (h : w.grownBy w1 (some g)) (o : Nat) (v : Value) : w.grownBy (w1.setCell ⟨g, o, none⟩ v) (some g) :=
 ⟨h.os, h.tape, h.output, by simpa [World.setCell] using h.size, fun j hj hne => (Below.heap_setCell _ _ _ _ (fun e => hne (by rw [e]))).trans (h.block j hj hne)⟩
end
section
open Go.RowKit
def IsPairs (B C : Nat) (w : World) (v : Value) (L : List (Int × Int)) : Prop :=
 ∃ (a : Option Addr) (cap : Nat), v = .slice a L.length cap ∧ C ≤ w.heap.size ∧
   (L = [] ∨ ∃ g off, a = some ⟨g, off, none⟩ ∧ B ≤ g ∧ (g < C ∧ L.length ≤ cap) ∧
     (∀ (i : Nat) (p : Int × Int), L[i]? = some p → w.cell? ⟨g, off + i * 2, none⟩ = some (.int .i64 p.1) ∧ w.cell? ⟨g, off + i * 2 + 1, none⟩ = some (.int .i64 p.2)) ∧ (∀ i, i < 2 * L.length → w.frozen? ⟨g, off + i, none⟩ = false))
theorem IsPairs.below {B C D : Nat} {w w' : World} {v : Value} {L : List (Int × Int)} (h : IsPairs B C w v L) (hb : Below D w w') (hD : C ≤ D) : IsPairs B C w' v L := by
 obtain ⟨a, cap, rfl, hC, hs⟩ := h
 refine ⟨a, cap, rfl, Nat.le_trans hC hb.size, ?_⟩
 rcases hs with hs | ⟨g, off, ha, h1, h2, hc, hf⟩
 · exact .inl hs
 · exact .inr ⟨g, off, ha, h1, h2, fun i p hi => ⟨(hb.cell (p := ⟨g, off + i * 2, none⟩) (by show g < D; omega)).trans (hc i p hi).1, (hb.cell (p := ⟨g, off + i * 2 + 1, none⟩) (by show g < D; omega)).trans (hc i p hi).2⟩, fun i hi => (hb.frozen (p := ⟨g, off + i, none⟩) (by show g < D; omega)).trans (hf i hi)⟩
theorem IsPairs.mono {B B' C C' : Nat} {w : World} {v : Value} {L : List (Int × Int)} (h : IsPairs B C w v L) (h1 : B' ≤ B) (h2 : C ≤ C') (h3 : C' ≤ w.heap.size) : IsPairs B' C' w v L := by
 obtain ⟨a, cap, rfl, hC, hs⟩ := h
 refine ⟨a, cap, rfl, h3, ?_⟩
 rcases hs with hs | ⟨g, off, ha, k1, k2, hc, hf⟩
 · exact .inl hs
 · exact .inr ⟨g, off, ha, by omega, by omega, hc, hf⟩
theorem IsPairs.empty (B : Nat) (w : World) (a : Option Addr) (c : Nat) : IsPairs B w.heap.size w (.slice a 0 c) [] := ⟨a, c, rfl, Nat.le_refl _, .inl rfl⟩
theorem IsPairs.drop {B C : Nat} {w : World} {a : Addr} {n cap : Nat} {L : List (Int × Int)} (h : IsPairs B C w (.slice (some a) n cap) L) (k c : Nat) (hk : k < n) (hkc : n - k ≤ c) : IsPairs B C w (.slice (some ⟨a.block, a.off + k * 2, none⟩) (n - k) c) (L.drop k) := by
 obtain ⟨a', cap', e, hC, hs⟩ := h
 obtain ⟨rfl, rfl, rfl⟩ : some a = a' ∧ n = L.length ∧ cap = cap' := by simpa using e
 refine ⟨_, c, by rw [List.length_drop], hC, ?_⟩
 rcases hs with hs | ⟨g, off, ha, h1, h2, hc, hf⟩
 · subst hs; simp at hk
 · cases ha
   refine .inr ⟨g, off + k * 2, rfl, h1, ⟨h2.1, by rw [List.length_drop]; exact hkc⟩, fun i p hi => ?_, fun i hi => ?_⟩
   · rw [List.getElem?_drop] at hi
     have := hc _ _ hi
     rw [show off + k * 2 + i * 2 = off + (k + i) * 2 by omega]
     exact this
   · rw [List.length_drop] at hi
     rw [show off + k * 2 + i = off + (k * 2 + i) by omega]
     exact hf _ zO
theorem IsPairs.take {B C : Nat} {w : World} {a : Option Addr} {n cap : Nat} {L : List (Int × Int)} (h : IsPairs B C w (.slice a n cap) L) (k c : Nat) (hk : k ≤ n) (hkc : k ≤ c) : IsPairs B C w (.slice a k c) (L.take k) := by
 obtain ⟨a', cap', e, hC, hs⟩ := h
 obtain ⟨rfl, rfl, rfl⟩ : a = a' ∧ n = L.length ∧ cap = cap' := by simpa using e
 refine ⟨a, c, by rw [List.length_take, Nat.min_eq_left hk], hC, ?_⟩
 rcases hs with hs | ⟨g, off, ha, h1, h2, hc, hf⟩
 · subst hs; exact .inl (by simp)
 · refine .inr ⟨g, off, ha, h1, ⟨h2.1, by rw [List.length_take]; omega⟩, fun i p hi => hc i p ?_, fun i hi => hf i (by rw [List.length_take] at hi; omega)⟩
   rw [List.getElem?_take] at hi
   split at hi
   · exact hi
   · cases hi
def pairCells (L : List (Int × Int)) : List Value := L.flatMap fun p => [.int .i64 p.1, .int .i64 p.2]
theorem pairCells_len (L : List (Int × Int)) : (pairCells L).length = L.length * 2 := by
 induction L with
 | nil => rfl
 | cons p L ih => simp only [pairCells, List.flatMap_cons, List.length_append, List.length_cons, List.length_nil] at ih ⊢; rw [ih]; omega
theorem pairCells_append (L M : List (Int × Int)) : pairCells L ++ pairCells M = pairCells (L ++ M) := by simp [pairCells]
theorem pairCells_get : ∀ (L : List (Int × Int)) (i : Nat) (p : Int × Int), L[i]? = some p → (pairCells L)[i * 2]? = some (.int .i64 p.1) ∧ (pairCells L)[i * 2 + 1]? = some (.int .i64 p.2)
 | [], i, p, h => by simp at h
 | q :: L, 0, p, h => by simp at h; subst h; exact ⟨rfl, rfl⟩
 | q :: L, i + 1, p, h => by
   have := pairCells_get L i p (by simpa using h)
   rw [show (i + 1) * 2 = i * 2 + 1 + 1 by omega]
   exact this
theorem IsPairs.of_owns {B : Nat} {w : World} {e : TypeId} {v : Value} {L : List (Int × Int)} {n : Nat} (h : w.ownsRow B e 2 v n (pairCells L)) : IsPairs B w.heap.size w v L := by
 have hc := fun g (hg : v.ownBlock = some g) => h.cells hg
 obtain ⟨hl, h⟩ := h
 rw [pairCells_len] at hl
 have hn : L.length = n := by omega
 rcases h with ⟨rfl, rfl⟩ | ⟨g, cap, cur, rfl, hb, hg, hnc, hm, hcs, htk⟩
 · obtain rfl : L = [] := List.length_eq_zero_iff.1 hn
   exact IsPairs.empty B w none 0
 · have hlt : g < w.heap.size := (Array.getElem?_eq_some_iff.1 hg).1
   have hcell : ∀ (k : Nat) (x : Value), (pairCells L)[k]? = some x → w.cell? ⟨g, 0 + k, none⟩ = some x := fun k x hk => by
     have := hc g rfl k x hk
     rw [Nat.zero_add]
     by_cases h0 : k = 0
     · subst h0; simpa [Addr.add] using this
     · simpa [Addr.add, h0] using this
   refine ⟨_, cap, by rw [hn], Nat.le_refl _, .inr ⟨g, 0, rfl, hb, ⟨hlt, by omega⟩, fun i p hi => ?_, fun i hi => ?_⟩⟩
   · obtain ⟨k1, k2⟩ := pairCells_get L i p hi
     exact ⟨hcell _ _ k1, hcell _ _ k2⟩
   · simp [World.frozen?, hg]
end
section
open Go.RowKit
theorem own_keeps {w w' : World} {base : Nat} {e : TypeId} {size : Nat} {v : Value} {n : Nat} {xs : List Value} (h : w.ownsRow base e size v n xs) (hb : Below w.heap.size w w') : w'.ownsRow base e size v n xs :=
 h.kept (row := none) ⟨hb.os, hb.tape, hb.output, hb.size, fun j hj _ => hb.block j hj⟩ (by cases v.ownBlock <;> simp)
theorem own_le {w : World} {base base' : Nat} {e : TypeId} {size : Nat} {v : Value} {n : Nat} {xs : List Value} (h : w.ownsRow base e size v n xs) (hb : base' ≤ base) : w.ownsRow base' e size v n xs := by
 refine ⟨h.1, ?_⟩
 rcases h.2 with h2 | ⟨g, cap, cur, hv, hg, r⟩
 · exact .inl h2
 · exact .inr ⟨g, cap, cur, hv, Nat.le_trans hb hg, r⟩
theorem cell_belowP {W W' : World} {a : Addr} {v : Value} (hb : Below W.heap.size W W') (h : W.cell? a = some v) : W'.cell? a = some v := (hb.cell (p := a) (World.block_lt_of_cell? W a h)).trans h
theorem add_row (b o j : Nat) : (⟨b, o, none⟩ : Addr).add j = ⟨b, o + j, none⟩ := by unfold Addr.add; split <;> simp_all
theorem pairCells_at : ∀ (L : List (Int × Int)) (j : Nat) (u : Value), (pairCells L)[j]? = some u → ∃ i p, L[i]? = some p ∧ ((j = i * 2 ∧ u = .int .i64 p.1) ∨ (j = i * 2 + 1 ∧ u = .int .i64 p.2))
 | [], j, u, h => by simp [pairCells] at h
 | q :: L, 0, u, h => by
   have h' : (Value.int .i64 q.1) = u := by simpa [pairCells] using h
   exact ⟨0, q, rfl, .inl ⟨rfl, h'.symm⟩⟩
 | q :: L, 1, u, h => by
   have h' : (Value.int .i64 q.2) = u := by simpa [pairCells] using h
   exact ⟨0, q, rfl, .inr ⟨rfl, h'.symm⟩⟩
 | q :: L, j + 2, u, h => by
   have h' : (pairCells L)[j]? = some u := by simpa [pairCells] using h
   obtain ⟨i, p, hp, hj⟩ := pairCells_at L j u h'
   refine ⟨i + 1, p, by simpa using hp, ?_⟩
   rcases hj with ⟨h1, h2⟩ | ⟨h1, h2⟩
   · exact .inl ⟨by omega, h2⟩
   · exact .inr ⟨by omega, h2⟩
theorem pairCells_one (L : List (Int × Int)) : ∀ u ∈ pairCells L, u.oneCell' = true := by
 intro u hu
 obtain ⟨j, hj⟩ := List.getElem?_of_mem hu
 obtain ⟨i, p, _, h | h⟩ := pairCells_at L j u hj
 · rw [h.2]; rfl
 · rw [h.2]; rfl
theorem own_shape {w : World} {base size n : Nat} {e : TypeId} {v : Value} {xs : List Value} (h : w.ownsRow base e size v n xs) : ∃ a c, v = .slice a n c := by
 rcases h.2 with ⟨rfl, rfl⟩ | ⟨g, cap, cur, rfl, _⟩
 · exact ⟨none, 0, rfl⟩
 · exact ⟨some ⟨g, 0, none⟩, cap, rfl⟩
theorem IsPairs.far {B C : Nat} {w w' : World} {v : Value} {L : List (Int × Int)} (h : IsPairs B C w v L) (hz : w.heap.size ≤ w'.heap.size) (hb : ∀ g, B ≤ g → g < C → w'.heap[g]? = w.heap[g]?) : IsPairs B C w' v L := by
 obtain ⟨a, cap, rfl, hC, hs⟩ := h
 refine ⟨a, cap, rfl, Nat.le_trans hC hz, ?_⟩
 rcases hs with hs | ⟨g, off, ha, h1, h2, hc, hf⟩
 · exact .inl hs
 · exact .inr ⟨g, off, ha, h1, h2, fun i p hi => ⟨(World.cell?_of_block (a := ⟨g, off + i * 2, none⟩) (hb g h1 h2.1)).trans (hc i p hi).1, (World.cell?_of_block (a := ⟨g, off + i * 2 + 1, none⟩) (hb g h1 h2.1)).trans (hc i p hi).2⟩, fun i hi => (World.frozen?_of_block (a := ⟨g, off + i, none⟩) (hb g h1 h2.1)).trans (hf i hi)⟩
theorem IsPairs.set {B C : Nat} {w : World} {v : Value} {L : List (Int × Int)} (h : IsPairs B C w v L) {p : Addr} (hp : p.block < B) (x : Value) : IsPairs B C (w.setCell p x) v L :=
 h.far (by simp [World.setCell]) fun g h1 _ => Below.heap_setCell _ _ _ _ zO
theorem IsPairs.set2 {B C : Nat} {w : World} {v : Value} {L : List (Int × Int)} (h : IsPairs B C w v L) {p : Addr} (hp : p.block < B ∨ C ≤ p.block) (x : Value) : IsPairs B C (w.setCell p x) v L :=
 h.far (by simp [World.setCell]) fun g h1 h2 => Below.heap_setCell _ _ _ _ zO
theorem IsPairs.drew {B C : Nat} {w : World} {v : Value} {L : List (Int × Int)} (h : IsPairs B C w v L) : IsPairs B C w.drew v L := h
theorem IsPairs.allocd {B C : Nat} {w : World} {v : Value} {L : List (Int × Int)} (h : IsPairs B C w v L) (o : Obj) : IsPairs B C (w.alloc o) v L := by
 obtain ⟨a, cap, hv, hC, hs⟩ := id h
 exact h.below ((Below.refl _ _).alloc (Nat.le_refl _) _) hC
theorem IsPairs.lit {w : World} {g : Nat} {p q : Int} {t : TypeId} (h : w.heap[g]? = some (.cells #[.int .i64 p, .int .i64 q] t (0, 0))) : IsPairs g w.heap.size w (.slice (some ⟨g, 0, none⟩) 1 1) [(p, q)] := by
 have hlt : g < w.heap.size := (Array.getElem?_eq_some_iff.1 h).1
 refine ⟨_, 1, rfl, Nat.le_refl _, .inr ⟨g, 0, rfl, Nat.le_refl _, ⟨hlt, by simp⟩, fun i x hi => ?_, fun i hi => ?_⟩⟩
 · cases i with
   | zero =>
     have e : x = (p, q) := by simpa using hi.symm
     subst e
     exact ⟨by simp [World.cell?, h], by simp [World.cell?, h]⟩
   | succ i => simp at hi
 · simp [World.frozen?, h]
theorem IsPairs.new (W : World) (p q : Int) (t : TypeId) (g : Nat) (hg : W.heap.size = g) : IsPairs g (g + 1) (W.alloc (.cells #[.int .i64 p, .int .i64 q] t)) (.slice (some ⟨g, 0, none⟩) 1 1) [(p, q)] := by
 subst hg
 have h := IsPairs.lit (w := W.alloc (.cells #[.int .i64 p, .int .i64 q] t)) (g := W.heap.size) (p := p) (q := q) (t := t) (heap_alloc_new _ _)
 rwa [World.size_alloc] at h
section
variable {P : Program} (w : World)
theorem run_append_pairs (base : Nat) (t ty e : TypeId) (i : TypeInfo) (z : Value) (bytes : Nat) (ht : P.underlying t = some (.slice e)) (hi : P.info? e = some i) (hz : i.zero = some z)
   (hsize : i.size = 2) (hby : i.bytes = bytes) (hzs : z.cells.size = 2) (v : Value) (n : Nat) (xs : List Value) (hown : w.ownsRow base e 2 v n xs)
   (B C : Nat) (x : Value) (L : List (Int × Int)) (hx : IsPairs B C w x L) (h63 : n + L.length ≤ maxLen) (hbytes : (n + L.length) * bytes ≤ 140737488355328) (hbase : base ≤ w.heap.size) :
   ∃ a c w', (Builtin.append_ #[t, t] ty #[v, x]).run P w = .ok (.slice a (n + L.length) c) w' ∧ w'.ownsRow base e 2 (.slice a (n + L.length) c) (n + L.length) (xs ++ pairCells L) ∧ w.grownBy w' v.ownBlock ∧
     ((Value.slice a (n + L.length) c).ownBlock = v.ownBlock ∨ (Value.slice a (n + L.length) c).ownBlock = some w.heap.size) := by
 obtain ⟨a, cap, rfl, hC, hs⟩ := hx
 cases a with
 | none =>
   obtain rfl : L = [] := by
     rcases hs with hs | ⟨g, off, ha, _⟩
     · exact hs
     · cases ha
   obtain ⟨a0, c0, rfl⟩ := own_shape hown
   refine ⟨a0, c0, w, ?_, by simpa [pairCells] using hown, ⟨rfl, rfl, rfl, Nat.le_refl _, fun _ _ _ => rfl⟩, .inl rfl⟩
   rcases hown.2 with ⟨hv, rfl⟩ | ⟨g, cap, cur, hv, _, _, hnc, _⟩
   · cases hv
     simp [Builtin.append_, run_underlying ht, sizeOf, typeInfo, hi, Builtin.lenOf, Builtin.firstCells]
   · cases hv
     simp [Builtin.append_, run_underlying ht, sizeOf, typeInfo, hi, Builtin.lenOf, Builtin.firstCells, hnc, storeCells]
 | some ad =>
   obtain ⟨v', w', h1, h2, h3, _, h5⟩ := run_append_own_at (P := P) w base t ty e i z 2 bytes ht hi hz hsize hby hzs zO v n xs hown ad L.length cap (pairCells L) (pairCells_len L)
     (fun j u hu => by
       rcases hs with rfl | ⟨g, off, ha, _, _, hc, _⟩
       · simp [pairCells] at hu
       · cases ha
         rw [add_row]
         obtain ⟨k, p, hp, h | h⟩ := pairCells_at L j u hu
         · rw [h.1, h.2]; exact (hc k p hp).1
         · rw [h.1, h.2]; exact (hc k p hp).2) (pairCells_one L) h63 hbytes hbase
   obtain ⟨a0, c0, rfl⟩ := own_shape h2
   exact ⟨a0, c0, w', h1, h2, h3, h5⟩
theorem wpList_append_pairs {ops : Array Oper} {rest : List Oper} {o : Oper} {a : Act} {Q : Exit → Act → World → Prop} (hgd : o.guard = none) (s x : Operand) (t : TypeId)
   (ho : o.op = .call { callee := .builtin .append, args := #[s, x], argTypes := #[t, t] })
   (base : Nat) (e : TypeId) (i : TypeInfo) (z : Value) (bytes : Nat) (ht : P.underlying t = some (.slice e)) (hi : P.info? e = some i) (hz : i.zero = some z)
   (hsize : i.size = 2) (hby : i.bytes = bytes) (hzs : z.cells.size = 2) (v : Value) (n : Nat) (xs : List Value) (hs : a.eval s = v) (hown : w.ownsRow base e 2 v n xs)
   (B C : Nat) (y : Value) (L : List (Int × Int)) (hx : a.eval x = y) (hy : IsPairs B C w y L) (N : Nat) (hN : n + L.length = N) (X : List Value) (hX : xs ++ pairCells L = X) (h63 : N ≤ maxLen) (hbytes : N * bytes ≤ 140737488355328) (hbase : base ≤ w.heap.size)
   (h : ∀ a' c' w', w'.ownsRow base e 2 (.slice a' N c') N X → w.grownBy w' v.ownBlock → ((Value.slice a' N c').ownBlock = v.ownBlock ∨ (Value.slice a' N c').ownBlock = some w.heap.size) → wpList P ops Q rest (a.put o.dst (.slice a' N c')) w') : wpList P ops Q (o :: rest) a w := by
 subst hN hX
 refine wpList_plain hgd fun K hK => ?_
 obtain ⟨a', c', w', hr, h2, h3, h4⟩ := run_append_pairs (P := P) w base t o.type e i z bytes ht hi hz hsize hby hzs v n xs hown B C y L hy h63 hbytes hbase
 unfold Oper.wp execOp
 simp only [ho, resolve, invoke, builtin, Sem.run_bind, Sem.run_pure, Result.andThen_ok, List.map_toArray, List.map_cons, List.map_nil, hs, hx, hr]
 exact hK _ _ (h a' c' w' h2 h3 h4)
theorem step_append_pairs {ops : Array Oper} {o : Oper} {a : Act} {K : Act → World → Prop} {Q : Exit → Act → World → Prop} {E : Prop} (hgd : o.guard = none) (s x : Operand) (t : TypeId)
   (ho : o.op = .call { callee := .builtin .append, args := #[s, x], argTypes := #[t, t] })
   (base : Nat) (e : TypeId) (i : TypeInfo) (z : Value) (bytes : Nat) (ht : P.underlying t = some (.slice e)) (hi : P.info? e = some i) (hz : i.zero = some z)
   (hsize : i.size = 2) (hby : i.bytes = bytes) (hzs : z.cells.size = 2) (v : Value) (n : Nat) (xs : List Value) (hs : a.eval s = v) (hown : w.ownsRow base e 2 v n xs)
   (B C : Nat) (y : Value) (L : List (Int × Int)) (hx : a.eval x = y) (hy : IsPairs B C w y L) (N : Nat) (hN : n + L.length = N) (X : List Value) (hX : xs ++ pairCells L = X) (h63 : N ≤ maxLen) (hbytes : N * bytes ≤ 140737488355328) (hbase : base ≤ w.heap.size)
   (h : ∀ a' c' w', w'.ownsRow base e 2 (.slice a' N c') N X → w.grownBy w' v.ownBlock → ((Value.slice a' N c').ownBlock = v.ownBlock ∨ (Value.slice a' N c').ownBlock = some w.heap.size) → K (a.put o.dst (.slice a' N c')) w') :
   if Region.wanted o (yielded ops a.tmps) = true then Oper.wp P o a w K Q else E := by
 have hw : Region.wanted o (yielded ops a.tmps) = true := by simp [Region.wanted, hgd]
 rw [if_pos hw]
 subst hN hX
 obtain ⟨a', c', w', hr, h2, h3, h4⟩ := run_append_pairs (P := P) w base t o.type e i z bytes ht hi hz hsize hby hzs v n xs hown B C y L hy h63 hbytes hbase
 unfold Oper.wp execOp
 simp only [ho, resolve, invoke, builtin, Sem.run_bind, Sem.run_pure, Result.andThen_ok, List.map_toArray, List.map_cons, List.map_nil, hs, hx, hr]
 exact h a' c' w' h2 h3 h4
end
end
section
open Go.RowKit
theorem cell_belowS {W W' : World} {a : Addr} {v : Value} (hb : Below W.heap.size W W') (h : W.cell? a = some v) : W'.cell? a = some v := (hb.cell (p := a) (World.block_lt_of_cell? W a h)).trans h
def IsStrs (B C : Nat) (w : World) (v : Value) (n : Nat) (f : Nat → ByteArray) : Prop :=
 ∃ (a : Option Addr) (cap : Nat), v = .slice a n cap ∧ C ≤ w.heap.size ∧
   (n = 0 ∨ ∃ g off, a = some ⟨g, off, none⟩ ∧ B ≤ g ∧ g < C ∧ (∀ i, i < n → w.cell? ⟨g, off + i, none⟩ = some (.string (f i))) ∧ (∀ i, i < n → w.frozen? ⟨g, off + i, none⟩ = false))
theorem IsStrs.below {B C D : Nat} {w w' : World} {v : Value} {n : Nat} {f : Nat → ByteArray} (h : IsStrs B C w v n f) (hb : Below D w w') (hD : C ≤ D) : IsStrs B C w' v n f := by
 obtain ⟨a, cap, rfl, hC, hs⟩ := h
 refine ⟨a, cap, rfl, Nat.le_trans hC hb.size, ?_⟩
 rcases hs with hs | ⟨g, off, ha, h1, h2, hc, hf⟩
 · exact .inl hs
 · exact .inr ⟨g, off, ha, h1, h2, fun i hi => (hb.cell (p := ⟨g, off + i, none⟩) (by show g < D; omega)).trans (hc i hi), fun i hi => (hb.frozen (p := ⟨g, off + i, none⟩) (by show g < D; omega)).trans (hf i hi)⟩
theorem IsStrs.mono {B B' C C' : Nat} {w : World} {v : Value} {n : Nat} {f : Nat → ByteArray} (h : IsStrs B C w v n f) (h1 : B' ≤ B) (h2 : C ≤ C') (h3 : C' ≤ w.heap.size) : IsStrs B' C' w v n f := by
 obtain ⟨a, cap, rfl, hC, hs⟩ := h
 refine ⟨a, cap, rfl, h3, ?_⟩
 rcases hs with hs | ⟨g, off, ha, k1, k2, hc, hf⟩
 · exact .inl hs
 · exact .inr ⟨g, off, ha, by omega, by omega, hc, hf⟩
theorem IsStrs.congr {B C : Nat} {w : World} {v : Value} {n : Nat} {f g : Nat → ByteArray} (h : IsStrs B C w v n f) (he : ∀ i, i < n → f i = g i) : IsStrs B C w v n g := by
 obtain ⟨a, cap, rfl, hC, hs⟩ := h
 refine ⟨a, cap, rfl, hC, ?_⟩
 rcases hs with hs | ⟨g, off, ha, k1, k2, hc, hf⟩
 · exact .inl hs
 · exact .inr ⟨g, off, ha, k1, k2, fun i hi => by rw [hc i hi, he i hi], hf⟩
theorem IsStrs.nil (B : Nat) (w : World) (f : Nat → ByteArray) : IsStrs B w.heap.size w (.slice none 0 0) 0 f := ⟨none, 0, rfl, Nat.le_refl _, .inl rfl⟩
theorem IsStrs.empty (B : Nat) (w : World) (a : Option Addr) (c : Nat) (f : Nat → ByteArray) : IsStrs B w.heap.size w (.slice a 0 c) 0 f := ⟨a, c, rfl, Nat.le_refl _, .inl rfl⟩
theorem IsStrs.of_owns {B n : Nat} {w : World} {e : TypeId} {v : Value} {f : Nat → ByteArray} (h : w.ownsRow B e 1 v n ((List.range n).map fun i => .string (f i))) : IsStrs B w.heap.size w v n f := by
 have hc := fun g (hg : v.ownBlock = some g) => h.cells hg
 obtain ⟨hl, h⟩ := h
 rcases h with ⟨rfl, rfl⟩ | ⟨g, cap, cur, rfl, hb, hg, hnc, hm, hcs, htk⟩
 · exact IsStrs.nil B w f
 · have hlt : g < w.heap.size := (Array.getElem?_eq_some_iff.1 hg).1
   refine ⟨_, cap, rfl, Nat.le_refl _, .inr ⟨g, 0, rfl, hb, hlt, fun i hi => ?_, fun i hi => ?_⟩⟩
   · have := hc g rfl i (.string (f i)) (by simp [hi])
     rw [Nat.zero_add]
     by_cases h0 : i = 0
     · subst h0; simpa [Addr.add] using this
     · simpa [Addr.add, h0] using this
   · simp [World.frozen?, hg]
set_option maxHeartbeats 2000000 in
theorem eqStringS_same (B C B' C' n : Nat) (v u : Value) (f : Nat → ByteArray) (w : World) (h : IsStrs B C w v n f) (k : IsStrs B' C' w u n f) (hn : n ≤ 3000000) :
   Calls Tryz.prog 35 #[v, u] w fun e w' => e = .returned (.bool true) ∧ Below w.heap.size w w' := by
 obtain ⟨a, ca, rfl, hC, hs⟩ := h
 obtain ⟨b, cb, rfl, hC', ks⟩ := k
 go_enter Tryz.func35, Tryz.ntmps35
 go_wp2_with fail
 go_loopw [5] (fun k wr => ∃ i : Nat, i ≤ n ∧ k = .int .i64 i ∧ Below w.heap.size w wr) (fun k _ => n - (intOf k).toNat)
 case atStart => exact ⟨0, Nat.zero_le _, rfl, Below.refl _ _⟩
 case round =>
   obtain ⟨i, hi, rfl, hB⟩ := hrel
   by_cases hlt : i < n
   · rcases hs with rfl | ⟨g, off, rfl, h1, h2, hc, hf⟩
     · omega
     rcases ks with rfl | ⟨g', off', rfl, h1', h2', hc', hf'⟩
     · omega
     have c1 : wr.cell? ⟨g, off + i, none⟩ = some (.string (f i)) := (hB.cell (p := ⟨g, off + i, none⟩) (by show g < _; omega)).trans (hc i hlt)
     have c2 : wr.cell? ⟨g', off' + i, none⟩ = some (.string (f i)) := (hB.cell (p := ⟨g', off' + i, none⟩) (by show g' < _; omega)).trans (hc' i hlt)
     have hz := hB.size
     clear hc hc' hf hf'
     go_wp2
     go_quiet (fail)
     go_wp2
     go_roundw
     case rel => exact ⟨i + 1, by omega, congrArg (Value.int .i64) zO, Go.below_drewN hB _⟩
     case measure => simp [intOf]; omega
   · obtain rfl : i = n := by omega
     clear hs ks
     go_wp2
     go_ret
     exact ⟨rfl, hB⟩
set_option maxHeartbeats 2000000 in
theorem sameTexts_same (B C B' C' n : Nat) (v u : Value) (f : Nat → ByteArray) (w : World) (h : IsStrs B C w v n f) (k : IsStrs B' C' w u n f) (hn : n ≤ 3000000) :
   Calls Tryz.prog 27 #[v, u] w fun e w' => e = .returned (.bool true) ∧ Below w.heap.size w w' := by
 obtain ⟨a, ca, rfl, hC, hs⟩ := h
 obtain ⟨b, cb, rfl, hC', ks⟩ := k
 go_enter Tryz.func27, Tryz.ntmps27
 go_wp2_with fail
 go_loopw [5] (fun k wr => ∃ i : Nat, i ≤ n ∧ k = .int .i64 i ∧ Below w.heap.size w wr) (fun k _ => n - (intOf k).toNat)
 case atStart => exact ⟨0, Nat.zero_le _, rfl, Below.refl _ _⟩
 case round =>
   obtain ⟨i, hi, rfl, hB⟩ := hrel
   by_cases hlt : i < n
   · rcases hs with rfl | ⟨g, off, rfl, h1, h2, hc, hf⟩
     · omega
     rcases ks with rfl | ⟨g', off', rfl, h1', h2', hc', hf'⟩
     · omega
     have c1 : wr.cell? ⟨g, off + i, none⟩ = some (.string (f i)) := (hB.cell (p := ⟨g, off + i, none⟩) (by show g < _; omega)).trans (hc i hlt)
     have c2 : wr.cell? ⟨g', off' + i, none⟩ = some (.string (f i)) := (hB.cell (p := ⟨g', off' + i, none⟩) (by show g' < _; omega)).trans (hc' i hlt)
     have hz := hB.size
     clear hc hc' hf hf'
     go_wp2
     go_quiet (fail)
     go_wp2
     go_roundw
     case rel => exact ⟨i + 1, by omega, congrArg (Value.int .i64) zO, Go.below_drewN hB _⟩
     case measure => simp [intOf]; omega
   · obtain rfl : i = n := by omega
     clear hs ks
     go_wp2
     go_ret
     exact ⟨rfl, hB⟩
def digS (d : Nat) : ByteArray := ⟨#[UInt8.ofNat (48 + d)]⟩
def decF : Nat → Nat → ByteArray → ByteArray
 | 0, _, o => o
 | f + 1, k, o => if k = 0 then o else decF f (k / 10) (digS (k % 10) ++ o)
def markT (k : Nat) : ByteArray := ⟨#[109]⟩ ++ decF 10 k ⟨#[]⟩
theorem decF_zero (f : Nat) (o : ByteArray) : decF f 0 o = o := by cases f <;> simp [decF]
theorem decF_next {f k : Nat} (h : 0 < k) (o : ByteArray) : decF (f + 1) k o = decF f (k / 10) (digS (k % 10) ++ o) := by rw [decF, if_neg zO]
theorem run_digit (w : World) (d : Nat) (hd : d < 10) : (convert 22 9 (.slice (some ⟨w.heap.size, 0, none⟩) 1 1)).run Tryz.prog (w.alloc (.cells #[.int .u8 (48 + (d : Int))] 5)) = .ok (.string (digS d)) (w.alloc (.cells #[.int .u8 (48 + (d : Int))] 5)) := by
 have h := run_convert_bytes_back (P := Tryz.prog) (w.alloc (.cells #[.int .u8 (48 + (d : Int))] 5)) 22 9 5 ⟨w.heap.size, 0, none⟩ 1 [UInt8.ofNat (48 + d)] Tryz.underlying22 Tryz.underlying5 Tryz.underlying9 ?_
 · exact h
 · intro j hj
   obtain rfl : j = 0 := by simpa using hj
   have e : ((UInt8.ofNat (48 + d)).toNat : Int) = 48 + (d : Int) := by
     rw [UInt8.toNat_ofNat_of_lt' (by show 48 + d < 256; omega)]; omega
   have h1 := cell_one_new w (.int .u8 (48 + (d : Int))) 5
   rw [← e] at h1
   rw [← e]
   exact h1 0 _ rfl
set_option maxHeartbeats 2000000 in
theorem markText_any (k : Nat) (w : World) (h1 : 1 ≤ k) (h2 : k < 10000000000) :
   Calls Tryz.prog 77 #[.int .i64 k] w fun e w' => e = .returned (.string (markT k)) ∧ Below w.heap.size w w' := by
 have HM := Lib.hid (show markT k = ⟨#[109]⟩ ++ decF 10 k ⟨#[]⟩ from rfl)
 obtain ⟨D, hD⟩ : ∃ D, decF 10 k ⟨#[]⟩ = D := ⟨_, rfl⟩
 rw [hD] at HM
 have HD := Lib.hid hD
 have k0 : ¬ ((k : Int) ≤ 0) := by omega
 clear hD
 go_enter Tryz.func77, Tryz.ntmps77
 go_wp2_with fail
 go_loopw [0, 3] (fun x y wr => ∃ (f j : Nat) (o : ByteArray), x = .int .i64 j ∧ y = .string o ∧ decF f j o = D ∧ j < 10 ^ f ∧ j ≤ 9999999999 ∧ o.size + f = 10 ∧ Below w.heap.size w wr) (fun x _ _ => (intOf x).toNat)
 case atStart => exact ⟨10, k, ⟨#[]⟩, rfl, rfl, HD.out, by omega, by omega, rfl, Below.refl _ _⟩
 case round =>
   obtain ⟨f, j, o, rfl, rfl, hdec, hj, hj9, hos, hB⟩ := hrel
   by_cases hj0 : 0 < j
   · obtain ⟨f, rfl⟩ : ∃ t, f = t + 1 := by
       cases f with
       | zero => simp at hj; omega
       | succ t => exact ⟨t, rfl⟩
     rw [decF_next hj0] at hdec
     rw [Nat.pow_succ] at hj
     have hq : j / 10 < 10 ^ f := by omega
     have hji : (0 : Int) < (j : Int) := by omega
     have hd9 : j % 10 < 10 := by omega
     obtain ⟨d, hd⟩ : ∃ d, j % 10 = d := ⟨_, rfl⟩
     obtain ⟨q, hqq⟩ : ∃ q, j / 10 = q := ⟨_, rfl⟩
     rw [hd] at hdec hd9
     rw [hqq] at hdec hq
     have hm1 : (j : Int) % 10 = (d : Int) := by omega
     have hm2 : Int.tmod (j : Int) 10 = (d : Int) := by rw [Int.tmod_eq_emod_of_nonneg zO]; omega
     have hq1 : (j : Int) / 10 = (q : Int) := by omega
     have hq2 : Int.tdiv (j : Int) 10 = (q : Int) := by rw [Int.tdiv_eq_ediv_of_nonneg zO]; omega
     have hw8 : IntKind.u8.wrap (48 + (d : Int)) = 48 + (d : Int) := IntWalk.u8_in _ ⟨by omega, by omega⟩
     have hcv := run_digit wr d hd9
     have hcat : ¬ 9223372036854775807 < 1 + o.size := by omega
     have hds : (digS d).size = 1 := rfl
     have HDEC := Lib.hid hdec
     have HQ := Lib.hid hq
     have hqj : q < j := by omega
     have HB2 := Lib.hid (show Below w.heap.size w (wr.alloc (.cells #[.int .u8 (48 + (d : Int))] 5)) from hB.alloc hB.size _)
     clear hdec hq hd hqq hj hB
     go_wp2
     go_roundw
     case rel => exact ⟨f, q, digS d ++ o, rfl, rfl, HDEC.out, HQ.out, by omega, by rw [ByteArray.size_append, hds]; omega, HB2.out⟩
     case measure => simp [intOf]; omega
   · obtain rfl : j = 0 := by omega
     rw [decF_zero] at hdec
     have hcat : ¬ 9223372036854775807 < 1 + o.size := by omega
     have HDEC := Lib.hid hdec
     clear hdec
     go_wp2
     go_ret
     refine ⟨?_, hB⟩
     show Ending.returned (.string (⟨#[109]⟩ ++ o)) = _
     rw [HM.out, HDEC.out]
def MarkedS (B C : Nat) (w w' : World) : Prop := ∃ row, w.grownBy w' row ∧ ∀ k, row = some k → B ≤ k ∧ k < C
theorem below_markedS {B C D : Nat} {w0 w w' : World} (h : Below D w0 w) (hm : MarkedS B C w w') (h1 : D ≤ B) (h2 : D ≤ w.heap.size) : Below D w0 w' := by
 obtain ⟨row, hg, hr⟩ := hm
 exact h.grown hg h2 (fun k e => by have := hr k e; omega)
set_option maxHeartbeats 4000000 in
theorem markStringS_any (B C n : Nat) (v : Value) (f : Nat → ByteArray) (k0 : Nat) (w : World) (h : IsStrs B C w v n f) (hn : n ≤ 3000000) (hk : 1 ≤ k0) (hk1 : k0 ≤ 3000000) :
   Calls Tryz.prog 36 #[v, .int .i64 k0] w fun e w' => e = .returned (.int .i64 ((k0 + n : Nat) : Int)) ∧ IsStrs B C w' v n (fun i => markT (k0 + i)) ∧ MarkedS B C w w' := by
 obtain ⟨a, ca, rfl, hC, hs⟩ := h
 rcases hs with rfl | ⟨g, off, rfl, h1, h2, hc, hf⟩
 · go_enter Tryz.func36, Tryz.ntmps36
   go_wp2_with fail
   go_loop [1, 5] (fun x y => x = .int .i64 k0 ∧ y = .int .i64 0) (fun _ _ => 0)
   case atStart => exact ⟨rfl, rfl⟩
   case round =>
     obtain ⟨rfl, rfl⟩ := hrel
     go_wp2
     go_ret
     exact ⟨by simp, ⟨a, ca, rfl, hC, .inl rfl⟩, none, World.grownBy.refl _ _, fun k e => by cases e⟩
 · go_enter Tryz.func36, Tryz.ntmps36
   go_wp2_with fail
   go_loopw [1, 5] (fun x y wr => ∃ i : Nat, i ≤ n ∧ x = .int .i64 ((k0 + i : Nat) : Int) ∧ y = .int .i64 i ∧ (∀ j, j < i → wr.cell? ⟨g, off + j, none⟩ = some (.string (markT (k0 + j)))) ∧ (∀ j, i ≤ j → j < n → wr.cell? ⟨g, off + j, none⟩ = some (.string (f j))) ∧ (∀ j, j < n → wr.frozen? ⟨g, off + j, none⟩ = false) ∧ w.grownBy wr (some g)) (fun _ y _ => n - (intOf y).toNat)
   case atStart => exact ⟨0, Nat.zero_le _, by simp, rfl, fun j hj => absurd hj zO, fun j _ hj => hc j hj, hf, World.grownBy.refl _ _⟩
   case round =>
     obtain ⟨i, hi, rfl, rfl, hm, hr, hfr, hg⟩ := hrel
     by_cases hlt : i < n
     · have hzg := hg.size
       have hii : (i : Int) < (n : Int) := by omega
       have i0 : (0 : Int) ≤ (i : Int) := by omega
       obtain ⟨K, hK⟩ : ∃ K, k0 + i = K := ⟨_, rfl⟩
       have HM := Lib.hid hm
       have HR := Lib.hid hr
       have HF := Lib.hid hfr
       have HG := Lib.hid hg
       have HK := Lib.hid hK
       have hK1 : 1 ≤ K := by omega
       have hK2 : K ≤ 6000000 := by omega
       rw [hK]
       clear hm hr hfr hc hf hg hK
       go_wp2_with fail
       refine (markText_any K _ hK1 zO).mono ?_
       rintro e w3 ⟨rfl, hh3⟩
       have hgw : g < wr.heap.size := by omega
       have c1 : w3.cell? ⟨g, off + i, none⟩ = some (.string (f i)) := cell_belowS hh3 (HR.out i (Nat.le_refl _) hlt)
       have f1 : w3.frozen? ⟨g, off + i, none⟩ = false := (hh3.frozen (p := ⟨g, off + i, none⟩) hgw).trans (HF.out i hlt)
       have HH3 := Lib.hid hh3
       clear hh3
       go_wp2
       go_roundw
       case rel =>
         refine ⟨i + 1, by omega, congrArg (Value.int .i64) (by have := HK.out; omega), congrArg (Value.int .i64) zO, fun j hj => ?_, fun j hij hj => ?_, fun j hj => ?_, grown_set (HG.out.trans ⟨HH3.out.os, HH3.out.tape, HH3.out.output, HH3.out.size, fun q hq _ => HH3.out.block q hq⟩) _ _⟩
         · by_cases e : j = i
           · subst e; rw [HK.out]; exact World.cell?_setCell_same' _ _ _ (by rw [c1]; rfl)
           · exact (World.cell?_setCell_other _ ⟨g, off + i, none⟩ ⟨g, off + j, none⟩ _ (fun e' => by injection e'; omega)).trans (cell_belowS HH3.out (HM.out j zO))
         · exact (World.cell?_setCell_other _ ⟨g, off + i, none⟩ ⟨g, off + j, none⟩ _ (fun e' => by injection e'; omega)).trans (cell_belowS HH3.out (HR.out j zO hj))
         · rw [World.frozen?_setCell]; exact (HH3.out.frozen (p := ⟨g, off + j, none⟩) hgw).trans (HF.out j hj)
       case measure => simp [intOf]; omega
     · obtain rfl : i = n := by omega
       have HM := Lib.hid hm
       have HF := Lib.hid hfr
       have HG := Lib.hid hg
       clear hm hr hfr hc hf hg
       go_wp2
       go_ret
       exact ⟨rfl, ⟨_, ca, rfl, Nat.le_trans hC HG.out.size, .inr ⟨g, off, rfl, h1, h2, HM.out, HF.out⟩⟩, some g, HG.out, fun k e => by cases e; exact ⟨h1, h2⟩⟩
end
section
open Go.RowKit
def Endless (F : Fence) (n : Nat) (P : Program) (g : Nat) (lb : Array Value) (at_ : Nat → Array Value) (Kp : World → Prop) (N : Nat) (w : World) : Prop :=
 ∀ (l : Nat) (J X : Nat → World → Prop) (W : World), Below w.heap.size w W → AbidesFrom W.heap.size J → AbidesFrom W.heap.size X → (∀ k V, J k V → Kp V) →
   (∀ k V, k < N → J k V → YieldAt F (n - 1) P l (at_ k) V fun e V' => (e = .returned (.bool true) ∧ k + 1 < N ∧ J (k + 1) V') ∨ (e = .returned (.bool false) ∧ X k V')) →
   0 < N → J 0 W → CallsIn F n P g (#[.func (.yield l) #[] #[]] ++ lb) W fun e V => (∃ v, e = .returned v) ∧ ∃ k, k < N ∧ X k V
def roundEnd (N : Nat) (I : Nat → World → Prop) (X : Code → Nat → World → Prop) (k : Nat) (W : World) : Exit → Act → World → Prop
 | .normal, _, V => KeepsOthers W V ∧ k + 1 < N ∧ I (k + 1) V
 | .ret, _, V => KeepsOthers W V ∧ X .ret k V
 | .exit id, _, V => KeepsOthers W V ∧ X (.exit id) k V
 | .goto t, _, V => KeepsOthers W V ∧ X (.goto t) k V
 | .panic _, _, _ => False
 | .outgrown, _, _ => False
def recordOf (w : World) (fn : FuncId) (a : Act) (ps : Array Tmp) (assign body : Code) (st : LoopState) (pe : Option Code) : Obj :=
 .loop { state := st, pending := pe, fn := fn, tmps := a.tmps, params := ps, assign := assign, body := body, defers := w.heap.size }
def Held (w W : World) (o : Obj) : Prop := W.heap[w.heap.size + 1]? = some o ∧ W.heap[w.heap.size]? = some (.deferred (some []))
theorem Held.kept {w A B : World} {o : Obj} {row : Option Nat} (h : Held w A o) (ho : o.isWalk = false) (hg : A.grownBy B row) (hr : ∀ r, row = some r → ∃ x : Obj, A.heap[r]? = some x ∧ x.isWalk = true) : Held w B o :=
 ⟨(grownBy_keeps hg hr h.1 ho).trans h.1, (grownBy_keeps hg hr h.2 rfl).trans h.2⟩
theorem Held.turned {w A : World} {o : Obj} (h : Held w A o) (o' : Obj) : Held w (A.putObj (w.heap.size + 1) o') o' :=
 ⟨World.putObj_heap_same (Array.getElem?_eq_some_iff.1 h.1).1, (World.putObj_heap_other zO).trans h.2⟩
theorem Held.others {w A B : World} {o : Obj} (h : Held w A o) (ho : o.isCells = false) (hk : KeepsOthers A B) : Held w B o := ⟨hk.same _ _ h.1 ho, hk.same _ _ h.2 rfl⟩
variable {F : Fence} {n : Nat} {P : Program}
theorem wpIn_rangeFunc_endless {g : Operand} {ps : Array Tmp} {assign body : Code} {Q : Exit → Act → World → Prop} {a : Act} {w : World}
   (hro : F.round = none) (h1 : 1 ≤ n) {gf : Nat} {lb : Array Value} (hg : a.eval g = .func (.func gf) #[] lb) (hFg : F.fn gf) (eg : ∀ args V, (callFunc gf args).run P V = .ok (.enter gf args) V)
   {at_ : Nat → Array Value} {Kp : World → Prop} {N : Nat} {w0 : World} (hseq : Endless F (n - 1) P gf lb at_ Kp N w0) (hb0 : Below w0.heap.size w0 w) (hps : ∀ k, (at_ k).size = ps.size) (hN : 0 < N)
   (I : Nat → World → Prop) (X : Code → Nat → World → Prop) (hI : OwnFrom w.heap.size I) (hX : ∀ c, OwnFrom w.heap.size (X c)) (hKp : ∀ k V, I k V → Kp V) (h0 : I 0 w) (a₁ : Nat → Act)
   (hassign : ∀ (l k : Nat) (W : World) (K : Act → World → Prop), K (a₁ k) W →
     assign.wpIn (F.inRound l) (n - 1 - 1) P (Exit.then K (fun _ _ _ => False)) { tmps := (ps.zip (at_ k)).foldl (fun t (p, v) => t.setIfInBounds p v) a.tmps, defers := [] } W)
   (hbody : ∀ (l k : Nat) (W : World), k < N → I k W → body.wpIn (F.inRound l) (n - 1 - 1) P (roundEnd N I X k W) (a₁ k) W)
   (hstop : ∀ (D k : Nat) (c : Code) (W : World), w.heap.size ≤ D → k < N → X c k W → W.heap[D]? = some (.deferred (some [])) → c.wpIn F n P Q { a with defers := { target := .collected D, args := #[] } :: a.defers } W) :
   (Code.rangeFunc g ps assign body).wpIn F n P Q a w := by
 refine wpIn_rangeFunc fun fn hfn => ?_
 rw [hro]
 obtain ⟨rec, hrec⟩ : ∃ rec : LoopState → Option Code → Obj, rec = recordOf w fn a ps assign body := ⟨_, rfl⟩
 have held : Held w ((w.alloc (.deferred (some []))).alloc (rec .ready none)) (rec .ready none) := by
   refine ⟨?_, (Below.heap_alloc _ _ _ (by simp)).trans (World.alloc_heap_new w _)⟩
   have := World.alloc_heap_new (w.alloc (.deferred (some []))) (rec .ready none)
   rwa [World.size_alloc] at this
 have hI1 : I 0 ((w.alloc (.deferred (some []))).alloc (rec .ready none)) := hI.alloc _ (hI.alloc _ h0)
 have hb1 : Below w0.heap.size w0 ((w.alloc (.deferred (some []))).alloc (rec .ready none)) := hb0.trans ((((Below.refl _ w).alloc (Nat.le_refl _) _).alloc (by simp) _).mono hb0.size)
 have hsz : w.heap.size ≤ ((w.alloc (.deferred (some []))).alloc (rec .ready none)).heap.size := by simp; omega
 obtain ⟨W1, hW1⟩ : ∃ W1, (w.alloc (.deferred (some []))).alloc (rec .ready none) = W1 := ⟨_, rfl⟩
 rw [hW1] at held hI1 hb1 hsz
 refine ⟨w.heap.size + 1, [{ target := .collected w.heap.size, args := #[] }], W1, { target := .fn (.func gf) lb, args := #[.func (.yield (w.heap.size + 1)) #[] #[]] }, W1, gf, #[.func (.yield (w.heap.size + 1)) #[] #[]] ++ lb, W1,
   by rw [← hW1, hrec]; exact run_enterLoop_outer _ _ _ _ _, by simp only [resolve, hg]; simp [go_sem], fun f' hf' => by simp [Target.leads] at hf'; subst hf'; exact hFg, by simp [invoke, go_sem, eg], fun _ => h1, ?_⟩
 have nowalk : ∀ {A : World} {row : Option Nat}, (∀ r, row = some r → W1.heap.size ≤ r ∧ ∃ o : Obj, A.heap[r]? = some o ∧ o.isWalk = true) → (∀ r, row = some r → w.heap.size ≤ r ∧ ∃ o : Obj, A.heap[r]? = some o ∧ o.isCells = false) :=
   fun hr r e => by obtain ⟨hB, o, ho, hw⟩ := hr r e; exact ⟨by omega, o, ho, Obj.not_cells_of_walk hw⟩
 have recW : ∀ st pe, (rec st pe).isWalk = false := fun _ _ => by rw [hrec]; rfl
 have recC : ∀ st pe, (rec st pe).isCells = false := fun _ _ => by rw [hrec]; rfl
 refine (hseq (w.heap.size + 1) (fun k W => I k W ∧ Held w W (rec .ready none)) (fun k W => ∃ c, X c k W ∧ Held w W (rec .done (some c))) W1 hb1
   (fun s A B row hs hg' hr => ⟨hI s A B row hs.1 hg' (nowalk hr), hs.2.kept (recW _ _) hg' (fun r e => (hr r e).2)⟩)
   (fun s A B row hs hg' hr => by obtain ⟨c, hc, hh⟩ := hs; exact ⟨c, hX c s A B row hc hg' (nowalk hr), hh.kept (recW _ _) hg' (fun r e => (hr r e).2)⟩)
   (fun k V hj => hKp k V hj.1) ?round hN ⟨hI1, held⟩).mono ?behind
 case round =>
   rintro k W hk ⟨hi, hh⟩
   have hl : W.heap[w.heap.size + 1]? = some (.loop { state := .ready, pending := none, fn := fn, tmps := a.tmps, params := ps, assign := assign, body := body, defers := w.heap.size }) := by have := hh.1; rw [hrec] at this; exact this
   refine ⟨fn, _, assign, body, run_yield (P := P) (args := at_ k) hl (hps k), roundIn_of_wpIn hfn (hassign _ k W _ ⟨_, run_beginRound hl rfl, ?_⟩)⟩
   have busy : Held w (W.putObj (w.heap.size + 1) (rec .busy none)) (rec .busy none) := hh.turned _
   have hi2 : I k (W.putObj (w.heap.size + 1) (rec .busy none)) := hI.putObj _ hi zO hl rfl
   have fin : ∀ (jump : Option Code) (V : World), KeepsOthers (W.putObj (w.heap.size + 1) (rec .busy none)) V → ∃ r : Loop, V.heap[w.heap.size + 1]? = some (.loop r) ∧
       (Instr.endRound (w.heap.size + 1) jump).run P V = .ok (.bool jump.isNone) (V.putObj (w.heap.size + 1) (rec (if jump.isNone then .ready else .done) jump)) ∧ Held w (V.putObj (w.heap.size + 1) (rec (if jump.isNone then .ready else .done) jump)) (rec (if jump.isNone then .ready else .done) jump) := fun jump V hkV => by
     have hv := busy.others (recC _ _) hkV
     have hv1 := hv.1
     rw [hrec] at hv1
     have hr := run_endRound (P := P) jump hv1
     refine ⟨_, hv1, ?_, hv.turned _⟩
     rw [hrec]; exact hr
   rw [hrec] at hi2 busy
   refine wpIn_mono (hbody _ k _ hk hi2) ?_
   rintro e a3 V hp
   have stop : ∀ c : Code, KeepsOthers (W.putObj (w.heap.size + 1) (recordOf w fn a ps assign body .busy none)) V ∧ X c k V →
       ∃ v V', (Instr.endRound (w.heap.size + 1) (some c)).run P V = .ok v V' ∧ ((Ending.returned v = .returned (.bool true) ∧ k + 1 < N ∧ (I (k + 1) V' ∧ Held w V' (rec .ready none))) ∨ (Ending.returned v = .returned (.bool false) ∧ ∃ c, X c k V' ∧ Held w V' (rec .done (some c)))) := fun c hc => by
     obtain ⟨r, hl3, hr, hh3⟩ := fin (some c) V (by rw [hrec]; exact hc.1)
     exact ⟨_, _, hr, .inr ⟨rfl, c, (hX c).putObj _ hc.2 zO hl3 rfl, hh3⟩⟩
   cases e with
   | normal =>
     obtain ⟨hk3, hlt, hi3⟩ := hp
     obtain ⟨r, hl3, hr, hh3⟩ := fin none V (by rw [hrec]; exact hk3)
     exact ⟨_, _, hr, .inl ⟨rfl, hlt, hI.putObj _ hi3 zO hl3 rfl, hh3⟩⟩
   | ret => exact stop _ hp
   | exit id => exact stop _ hp
   | goto t => exact stop _ hp
   | panic ch => exact hp.elim
   | outgrown => exact hp.elim
 case behind =>
   rintro e V ⟨⟨v, rfl⟩, k, hk, c, hc, hh⟩
   have hl := hh.1
   rw [hrec] at hl
   refine ⟨some c, _, run_endLoop (P := P) hl (by simp), hstop _ k c _ (Nat.le_refl _) hk ((hX c).putObj _ hc zO hl rfl) ?_⟩
   exact (World.putObj_heap_other zO).trans hh.2
end
section
open Go.RowKit
variable {F : Fence} {n : Nat} {P : Program} {ops : Array Oper} {md : Region.Mode} {Q : Exit → Act → World → Prop}
def noDefer (ops : Array Oper) : Bool := ops.all fun o => match o.op with | .defer _ => false | _ => true
theorem noDefer_at {i : Nat} {o : Oper} (h : noDefer ops = true) (hi : ops[i]? = some o) : ∀ c, o.op ≠ .defer c := by
 intro c hc
 obtain ⟨hlt, rfl⟩ := Array.getElem?_eq_some_iff.1 hi
 have := Array.all_eq_true.1 h i hlt
 simp only [hc] at this
 cases this
theorem wpOpIn_round {l i : Nat} {K : Act → World → Prop} {a : Act} {w : World} (hro : F.round = none) (hnd : noDefer ops = true) (h : wpOpIn F n P ops Q i K a w) : wpOpIn (F.inRound l) n P ops Q i K a w := by
 unfold wpOpIn at *
 split
 · rename_i ho; simp only [ho] at h; exact h
 · rename_i o ho
   simp only [ho] at h
   split
   · rename_i hw
     simp only [hw, if_true] at h
     unfold Oper.wpIn at *
     refine ⟨h.1, ?_⟩
     have h2 := h.2
     rw [hro, Oper.semAt_none] at h2
     rw [Fence.inRound_round, Oper.semAt_some l _ _ (noDefer_at hnd ho)]
     exact h2
   · rename_i hw; simp only [hw] at h; exact h
structure KeptBy (S : World → Prop) where
 world : World
 ok : S world
end
section
open Go.RowKit
variable {P : Program} {Q : Exit → Act → World → Prop}
theorem wp_region_kept {S : World → Prop} {id : Nat} {a : Act} {w : World} {os : List Oper} (hS : S w.drew) (hm : P.follows .mixedOrders = true) (hB : Region.lexB .any os.toArray = true)
   (h : wpQuiet P os.toArray (fun w' => ∃ i : KeptBy S, w' = i.world) (fun a' => ∀ w', (∃ i : KeptBy S, w' = i.world) → Q .normal a' w') os a) : (Code.region id os.toArray true).wp P Q a w :=
 wp_region_quiet (C := fun w' => ∃ i : KeptBy S, w' = i.world) hm hB ⟨⟨w.drew, hS⟩, rfl⟩ (by simpa using h)
end
section
open Go.RowKit
set_option maxHeartbeats 400000 in
theorem eqPair_any (p q : Int) (w : World) :
   Calls Tryz.prog 73 #[pr p q, pr p q] w fun e w' => e = .returned (.bool true) ∧ Below w.heap.size w w' := by
 go_enter Tryz.func73, Tryz.ntmps73
 go_wp2
 go_ret
 exact ⟨rfl, by exact zb⟩
end
section
open Go.RowKit
set_option maxHeartbeats 2000000 in
theorem specDeskOk_any (B C : Nat) (p0 q0 : Int) (L : List (Int × Int)) (v : Value) (w : World) (h : IsPairs B C w v L) (hn : L.length ≤ 1048600) :
   Calls Tryz.prog 13 #[.agg #[.int .i64 p0, .int .i64 q0, v]] w fun e w' => e = .returned (.bool (deskN ⟨(p0, q0), L⟩)) ∧ Below w.heap.size w w' := by
 obtain ⟨a, cap, rfl, hC, hs⟩ := h
 have hmk : ∀ b : Bool, deskN ⟨(p0, q0), L⟩ = b → Ending.returned (.bool b) = .returned (.bool (deskN ⟨(p0, q0), L⟩)) := fun b e => by rw [e]
 replace hmk := Lib.hid hmk
 go_enter Tryz.func13, Tryz.ntmps13
 go_wp2_with fail
 go_loopw [3] (fun k wr => ∃ i : Nat, i ≤ L.length ∧ k = .int .i64 i ∧ (∀ (j : Nat) (p : Int × Int), j < i → L[j]? = some p → pairN p = true) ∧ wr.cell? ⟨w.heap.size, 0, none⟩ = some (.int .i64 p0) ∧ wr.cell? ⟨w.heap.size, 1, none⟩ = some (.int .i64 q0) ∧ wr.cell? ⟨w.heap.size, 2, none⟩ = some (.slice a L.length cap) ∧ w.heap.size < wr.heap.size ∧ Below w.heap.size w wr) (fun k _ => L.length - (intOf k).toNat)
 case atStart => exact ⟨0, Nat.zero_le _, rfl, fun j p hj => absurd hj zO, by go_simp, by go_simp, by go_simp, by simp, (Below.refl _ _).alloc (Nat.le_refl _) _⟩
 case round =>
   obtain ⟨i, hi, rfl, hall, k0, k1, k2, hz, hB⟩ := hrel
   by_cases hlt : i < L.length
   · rcases hs with rfl | ⟨g, off, rfl, h1, h2, hc, hf⟩
     · simp at hlt
     obtain ⟨⟨x, y⟩, hp⟩ : ∃ p, L[i]? = some p := ⟨L[i], by simp [hlt]⟩
     have c1 : wr.cell? ⟨g, off + i * 2, none⟩ = some (.int .i64 x) := (hB.cell (p := ⟨g, off + i * 2, none⟩) (by show g < _; omega)).trans (hc i _ hp).1
     have c2 : wr.cell? ⟨g, off + i * 2 + 1, none⟩ = some (.int .i64 y) := (hB.cell (p := ⟨g, off + i * 2 + 1, none⟩) (by show g < _; omega)).trans (hc i _ hp).2
     clear hc hf
     cases hb : pairB x y with
     | true =>
       go_wp2_with (go_at_call 49; refine (specPairOk_yes x y _ hb).mono ?_; rintro e w1 ⟨rfl, hb1⟩; obtain ⟨hc1, hf1⟩ := bcell hb1; have hz1 := hb1.size)
       go_roundw
       case rel =>
         refine ⟨i + 1, by omega, congrArg (Value.int .i64) zO, fun j p hj hp' => ?_, (hc1 _ _ hz).trans k0, (hc1 _ _ hz).trans k1, (hc1 _ _ hz).trans k2, by omega, hB.trans (hb1.mono zO)⟩
         rcases Nat.lt_or_ge j i with hj' | hj'
         · exact hall j p hj' hp'
         · have hji : j = i := by omega
           rw [hji, hp] at hp'
           cases hp'
           exact hb
       case measure => simp [intOf]; omega
     | false =>
       go_wp2_with (go_at_call 49; refine (specPairOk_no x y _ hb).mono ?_; rintro e w1 ⟨rfl, hb1⟩; obtain ⟨hc1, hf1⟩ := bcell hb1; have hz1 := hb1.size)
       go_ret
       refine ⟨hmk.out _ ?_, hB.trans (hb1.mono zO)⟩
       cases hd : deskN ⟨(p0, q0), L⟩ with
       | false => rfl
       | true =>
         have := (deskN_of hd).2.2 _ (List.mem_of_getElem? hp)
         exact absurd (this.symm.trans hb) zd
   · have hall' : ∀ p ∈ L, pairN p = true := fun p hp => by
       obtain ⟨j, hj, rfl⟩ := List.mem_iff_getElem.1 hp
       exact hall j _ zO (by simp [hj])
     replace hall' := Lib.hid hall'
     clear hall hs
     cases hb : pairB p0 q0 with
     | true =>
       have hb8 : decide ((L.length : Int) ≤ 8) = decide (L.length ≤ 8) := by rw [decide_eq_decide]; omega
       go_wp2_with (go_at_call 49; refine (specPairOk_yes p0 q0 _ hb).mono ?_; rintro e w1 ⟨rfl, hb1⟩; obtain ⟨hc1, hf1⟩ := bcell hb1; have hz1 := hb1.size; have k2' := (hc1 _ 2 hz).trans k2)
       go_ret
       refine ⟨hmk.out _ ?_, hB.trans (hb1.mono zO)⟩
       show (pairN (p0, q0) && decide (L.length ≤ 8) && L.all pairN) = _
       rw [List.all_eq_true.2 hall'.out, show pairN (p0, q0) = true from hb]
       simp
     | false =>
       go_wp2_with (go_at_call 49; refine (specPairOk_no p0 q0 _ hb).mono ?_; rintro e w1 ⟨rfl, hb1⟩; obtain ⟨hc1, hf1⟩ := bcell hb1; have hz1 := hb1.size)
       go_ret
       refine ⟨hmk.out _ ?_, hB.trans (hb1.mono zO)⟩
       simp [deskN, pairN, hb]
theorem specDeskNew_any (p q : Int) (w : World) : Calls Tryz.prog 83 #[pr p q] w fun e w' =>
   e = .returned (if pairB p q = true then .tuple #[.agg #[.int .i64 p, .int .i64 q, .slice none 0 0], .bool true] else .tuple #[.agg #[.int .i64 0, .int .i64 0, .slice none 0 0], .bool false]) ∧ Below w.heap.size w w' := by
 cases hb : pairB p q with
 | true =>
   go_enter Tryz.func83, Tryz.ntmps83
   go_wp2_with (go_at_call 49; refine (specPairOk_yes p q _ hb).mono ?_; rintro e w1 ⟨rfl, hb1⟩; obtain ⟨hc1, hf1⟩ := bcell hb1; have hz1 := hb1.size; simp only [World.size_alloc] at hz1)
   refine bodyPost_ret (v := .tuple #[.agg #[.int .i64 p, .int .i64 q, .slice none 0 0], .bool true]) (by simp [results, Tryz.results83, go_sem]; go_simp) rfl ⟨by simp, ?_⟩
   exact zb
 | false =>
   go_enter Tryz.func83, Tryz.ntmps83
   go_wp2_with (go_at_call 49; refine (specPairOk_no p q _ hb).mono ?_; rintro e w1 ⟨rfl, hb1⟩; obtain ⟨hc1, hf1⟩ := bcell hb1; have hz1 := hb1.size; simp only [World.size_alloc] at hz1)
   refine bodyPost_ret (v := .tuple #[.agg #[.int .i64 0, .int .i64 0, .slice none 0 0], .bool false]) (by simp [results, Tryz.results83, go_sem]; go_simp) rfl ⟨by simp, ?_⟩
   exact zb
end
section
open Go.RowKit
def markL (k0 : Int) (n : Nat) : List (Int × Int) := (List.range n).map fun (i : Nat) => (k0 + 2 * (i : Int), k0 + 2 * (i : Int) + 1)
theorem markL_len (k0 : Int) (n : Nat) : (markL k0 n).length = n := by simp [markL]
theorem markL_at {k0 : Int} {n i : Nat} (h : i < n) : (markL k0 n)[i]? = some (k0 + 2 * (i : Int), k0 + 2 * (i : Int) + 1) := by simp [markL, h]
theorem markL_is {k0 : Int} {n i : Nat} {p : Int × Int} (h : (markL k0 n)[i]? = some p) : i < n ∧ p = (k0 + 2 * (i : Int), k0 + 2 * (i : Int) + 1) := by
 have hi : i < n := by
   have := (List.getElem?_eq_some_iff.1 h).1
   rwa [markL_len] at this
 rw [markL_at hi] at h
 exact ⟨hi, (Option.some.inj h).symm⟩
theorem list_at {L : List (Int × Int)} {i : Nat} (h : i < L.length) : ∃ x y, L[i]? = some (x, y) := ⟨L[i].1, L[i].2, by simp [h]⟩
set_option maxHeartbeats 4000000 in
theorem eqPairS_same (B C B' C' : Nat) (v u : Value) (L : List (Int × Int)) (w : World) (h : IsPairs B C w v L) (k : IsPairs B' C' w u L) (hn : L.length ≤ 1048600) :
   Calls Tryz.prog 74 #[v, u] w fun e w' => e = .returned (.bool true) ∧ Below w.heap.size w w' := by
 obtain ⟨a, ca, rfl, hC, hs⟩ := h
 obtain ⟨b, cb, rfl, hC', ks⟩ := k
 go_enter Tryz.func74, Tryz.ntmps74
 go_wp2_with fail
 go_loopw [5] (fun k wr => ∃ i : Nat, i ≤ L.length ∧ k = .int .i64 i ∧ Below w.heap.size w wr) (fun k _ => L.length - (intOf k).toNat)
 case atStart => exact ⟨0, Nat.zero_le _, rfl, Below.refl _ _⟩
 case round =>
   obtain ⟨i, hi, rfl, hB⟩ := hrel
   by_cases hlt : i < L.length
   · rcases hs with rfl | ⟨g, off, rfl, h1, h2, hc, hf⟩
     · simp at hlt
     rcases ks with rfl | ⟨g', off', rfl, h1', h2', hc', hf'⟩
     · simp at hlt
     obtain ⟨x, y, hp⟩ := list_at hlt
     have c1 : wr.cell? ⟨g, off + i * 2, none⟩ = some (.int .i64 x) := (hB.cell (p := ⟨g, off + i * 2, none⟩) (by show g < _; omega)).trans (hc i _ hp).1
     have c2 : wr.cell? ⟨g, off + i * 2 + 1, none⟩ = some (.int .i64 y) := (hB.cell (p := ⟨g, off + i * 2 + 1, none⟩) (by show g < _; omega)).trans (hc i _ hp).2
     have c3 : wr.cell? ⟨g', off' + i * 2, none⟩ = some (.int .i64 x) := (hB.cell (p := ⟨g', off' + i * 2, none⟩) (by show g' < _; omega)).trans (hc' i _ hp).1
     have c4 : wr.cell? ⟨g', off' + i * 2 + 1, none⟩ = some (.int .i64 y) := (hB.cell (p := ⟨g', off' + i * 2 + 1, none⟩) (by show g' < _; omega)).trans (hc' i _ hp).2
     have hii : (i : Int) < (L.length : Int) := by omega
     have i0 : (0 : Int) ≤ (i : Int) := by omega
     have HB := Lib.hid hB
     have hbz := hB.size
     clear hc hc' hf hf' hB hp
     obtain ⟨S, hSd⟩ : ∃ S : World → Prop, (fun V => Below wr.heap.size wr V) = S := ⟨_, rfl⟩
     have hkeep : ∀ V V' : World, S V → Below V.heap.size V V' → S V' := by rw [← hSd]; exact fun V V' h hb => h.trans (hb.mono h.size)
     have gk1 : ∀ iq : KeptBy S, iq.world.cell? ⟨g, off + i * 2, none⟩ = some (.int .i64 x) := by rw [← hSd]; exact fun iq => cell_belowP iq.ok c1
     have gk2 : ∀ iq : KeptBy S, iq.world.cell? ⟨g, off + i * 2 + 1, none⟩ = some (.int .i64 y) := by rw [← hSd]; exact fun iq => cell_belowP iq.ok c2
     have gk3 : ∀ iq : KeptBy S, iq.world.cell? ⟨g', off' + i * 2, none⟩ = some (.int .i64 x) := by rw [← hSd]; exact fun iq => cell_belowP iq.ok c3
     have gk4 : ∀ iq : KeptBy S, iq.world.cell? ⟨g', off' + i * 2 + 1, none⟩ = some (.int .i64 y) := by rw [← hSd]; exact fun iq => cell_belowP iq.ok c4
     have gkn : Nonempty (KeptBy S) := ⟨⟨wr.drew, by rw [← hSd]; exact (Below.refl _ _).drew⟩⟩
     go_wp2_with fail
     refine wp_region_kept (S := S) (by rw [← hSd]; exact (Below.refl _ _).drew) (by kernel_rfl) (by kernel_rfl) ?_
     repeat (go_big_quiet_step ((first | (go_at_call 73; refine (eqPair_any x y _).mono ?_; rintro e w' ⟨rfl, hhw⟩; exact ⟨rfl, ⟨w', hkeep _ _ (KeptBy.ok _) hhw⟩, rfl⟩) | fail)))
     refine wpQuiet_nil ?_
     rintro z3 ⟨iz, hwz⟩
     have bz3 : Below wr.heap.size wr z3 := by
       have this : S z3 := by rw [hwz]; exact iz.ok
       rw [← hSd] at this
       exact this
     clear hwz iz gkn hkeep hSd gk1 gk2 gk3 gk4
     have HBz := Lib.hid (HB.out.trans (bz3.mono hbz))
     clear bz3
     go_wp2
     go_roundw
     case rel => exact ⟨i + 1, by omega, congrArg (Value.int .i64) zO, HBz.out⟩
     case measure => simp [intOf]; omega
   · obtain rfl : i = L.length := by omega
     clear hs ks
     go_wp2
     go_ret
     exact ⟨rfl, hB⟩
set_option maxHeartbeats 4000000 in
theorem markPairS_any (B C : Nat) (v : Value) (L : List (Int × Int)) (k0 : Int) (w : World) (h : IsPairs B C w v L) (hn : L.length ≤ 1048600) (hk : 0 ≤ k0) (hk1 : k0 ≤ 100000000) :
   Calls Tryz.prog 75 #[v, .int .i64 k0] w fun e w' => e = .returned (.int .i64 (k0 + 2 * (L.length : Int))) ∧ IsPairs B C w' v (markL k0 L.length) ∧ MarkedS B C w w' := by
 obtain ⟨a, ca, rfl, hC, hs⟩ := h
 rcases hs with rfl | ⟨g, off, rfl, h1, h2, hc, hf⟩
 · go_enter Tryz.func75, Tryz.ntmps75
   go_wp2_with fail
   go_loop [1, 5] (fun x y => x = .int .i64 k0 ∧ y = .int .i64 0) (fun _ _ => 0)
   case atStart => exact ⟨rfl, rfl⟩
   case round =>
     obtain ⟨rfl, rfl⟩ := hrel
     go_wp2
     go_ret
     exact ⟨by simp, ⟨a, ca, rfl, hC, .inl rfl⟩, none, World.grownBy.refl _ _, fun k e => by cases e⟩
 · have hc2 : ∀ j, j < L.length → ∃ x y : Int, w.cell? ⟨g, off + j * 2, none⟩ = some (.int .i64 x) ∧ w.cell? ⟨g, off + j * 2 + 1, none⟩ = some (.int .i64 y) := fun j hj => by
     obtain ⟨x, y, hp⟩ := list_at hj
     exact ⟨x, y, hc j _ hp⟩
   obtain ⟨n, hnl⟩ : ∃ n, L.length = n := ⟨_, rfl⟩
   rw [hnl] at hn hf hc2 h2 ⊢
   clear hc hnl
   go_enter Tryz.func75, Tryz.ntmps75
   go_wp2_with fail
   go_loopw [1, 5] (fun x y wr => ∃ i : Nat, i ≤ n ∧ x = .int .i64 (k0 + 2 * (i : Int)) ∧ y = .int .i64 i ∧ (∀ j, j < i → wr.cell? ⟨g, off + j * 2, none⟩ = some (.int .i64 (k0 + 2 * (j : Int))) ∧ wr.cell? ⟨g, off + j * 2 + 1, none⟩ = some (.int .i64 (k0 + 2 * (j : Int) + 1))) ∧ (∀ j, i ≤ j → j < n → ∃ x y : Int, wr.cell? ⟨g, off + j * 2, none⟩ = some (.int .i64 x) ∧ wr.cell? ⟨g, off + j * 2 + 1, none⟩ = some (.int .i64 y)) ∧ (∀ j, j < 2 * n → wr.frozen? ⟨g, off + j, none⟩ = false) ∧ wr.heap.size = w.heap.size ∧ w.grownBy wr (some g)) (fun _ y _ => n - (intOf y).toNat)
   case atStart => exact ⟨0, Nat.zero_le _, by simp, rfl, fun j hj => absurd hj zO, fun j _ hj => hc2 j hj, hf, rfl, World.grownBy.refl _ _⟩
   case round =>
     obtain ⟨i, hi, rfl, rfl, hm, hr, hfr, hsz, hg⟩ := hrel
     by_cases hlt : i < n
     · obtain ⟨x, y, c1, c2⟩ := hr i (Nat.le_refl _) hlt
       have f1 : wr.frozen? ⟨g, off + i * 2, none⟩ = false := hfr (i * 2) zO
       have f2 : wr.frozen? ⟨g, off + i * 2 + 1, none⟩ = false := hfr (i * 2 + 1) zO
       have hii : (i : Int) < (n : Int) := by omega
       have i0 : (0 : Int) ≤ (i : Int) := by omega
       have HM := Lib.hid hm
       have HR := Lib.hid hr
       have HF := Lib.hid hfr
       have HS := Lib.hid hsz
       have HG := Lib.hid hg
       clear hm hr hfr hc2 hf hsz hg
       go_wp2
       go_roundw
       case rel =>
         refine ⟨i + 1, by omega, congrArg (Value.int .i64) zO, congrArg (Value.int .i64) zO, fun j hj => ?_, fun j hij hj => ?_, fun j hj => ?_, ?_, grown_set (grown_set HG.out _ _) _ _⟩
         · by_cases e : j = i
           · subst e
             refine ⟨(World.cell?_setCell_other _ ⟨g, off + j * 2 + 1, none⟩ ⟨g, off + j * 2, none⟩ _ (fun e' => by injection e'; omega)).trans (World.cell?_setCell_same' _ _ _ (by rw [c1]; rfl)), World.cell?_setCell_same' _ _ _ ?_⟩
             rw [World.cell?_setCell_other _ ⟨g, off + j * 2, none⟩ ⟨g, off + j * 2 + 1, none⟩ _ (fun e' => by injection e'; omega), c2]
             rfl
           · obtain ⟨m1, m2⟩ := HM.out j zO
             exact ⟨(World.cell?_setCell_other _ ⟨g, off + i * 2 + 1, none⟩ ⟨g, off + j * 2, none⟩ _ (fun e' => by injection e'; omega)).trans ((World.cell?_setCell_other _ ⟨g, off + i * 2, none⟩ ⟨g, off + j * 2, none⟩ _ (fun e' => by injection e'; omega)).trans m1),
               (World.cell?_setCell_other _ ⟨g, off + i * 2 + 1, none⟩ ⟨g, off + j * 2 + 1, none⟩ _ (fun e' => by injection e'; omega)).trans ((World.cell?_setCell_other _ ⟨g, off + i * 2, none⟩ ⟨g, off + j * 2 + 1, none⟩ _ (fun e' => by injection e'; omega)).trans m2)⟩
         · obtain ⟨x', y', m1, m2⟩ := HR.out j zO hj
           exact ⟨x', y', (World.cell?_setCell_other _ ⟨g, off + i * 2 + 1, none⟩ ⟨g, off + j * 2, none⟩ _ (fun e' => by injection e'; omega)).trans ((World.cell?_setCell_other _ ⟨g, off + i * 2, none⟩ ⟨g, off + j * 2, none⟩ _ (fun e' => by injection e'; omega)).trans m1),
               (World.cell?_setCell_other _ ⟨g, off + i * 2 + 1, none⟩ ⟨g, off + j * 2 + 1, none⟩ _ (fun e' => by injection e'; omega)).trans ((World.cell?_setCell_other _ ⟨g, off + i * 2, none⟩ ⟨g, off + j * 2 + 1, none⟩ _ (fun e' => by injection e'; omega)).trans m2)⟩
         · rw [World.frozen?_setCell, World.frozen?_setCell]; exact HF.out j hj
         · rw [← HS.out]; simp [World.setCell]
       case measure => simp [intOf]; omega
     · obtain rfl : i = n := by omega
       have HM := Lib.hid hm
       have HF := Lib.hid hfr
       have HS := Lib.hid hsz
       have HG := Lib.hid hg
       clear hm hr hfr hc2 hf hsz hg
       go_wp2
       go_ret
       refine ⟨rfl, ⟨_, ca, by rw [markL_len], by rw [HS.out]; exact hC, .inr ⟨g, off, rfl, h1, ⟨h2.1, by rw [markL_len]; exact h2.2⟩, fun j p hj => ?_, by rw [markL_len]; exact HF.out⟩⟩, some g, HG.out, fun k e => by cases e; exact ⟨h1, h2.1⟩⟩
       obtain ⟨hj', rfl⟩ := markL_is hj
       exact HM.out j hj'
set_option maxHeartbeats 4000000 in
theorem heldPairS_any (B C n : Nat) (v : Value) (k0 : Int) (w : World) (h : IsPairs B C w v (markL k0 n)) (hn : n ≤ 1048600) (hk : 0 ≤ k0) (hk1 : k0 ≤ 100000000) :
   Calls Tryz.prog 76 #[v, .int .i64 k0] w fun e w' => e = .returned (.int .i64 (k0 + 2 * (n : Int))) ∧ w = w' := by
 obtain ⟨a, ca, rfl, hC, hs⟩ := h
 rw [markL_len]
 replace hs : n = 0 ∨ ∃ g off, a = some ⟨g, off, none⟩ ∧ ∀ j, j < n → w.cell? ⟨g, off + j * 2, none⟩ = some (.int .i64 (k0 + 2 * (j : Int))) ∧ w.cell? ⟨g, off + j * 2 + 1, none⟩ = some (.int .i64 (k0 + 2 * (j : Int) + 1)) := by
   rcases hs with hs | ⟨g, off, ha, _, _, hc, _⟩
   · left; have := markL_len k0 n; rw [hs] at this; simpa using this.symm
   · exact .inr ⟨g, off, ha, fun j hj => hc j _ (markL_at hj)⟩
 go_enter Tryz.func76, Tryz.ntmps76
 go_wp2_with fail
 go_loop [1, 5] (fun x y => ∃ i : Nat, i ≤ n ∧ x = .int .i64 (k0 + 2 * (i : Int)) ∧ y = .int .i64 i) (fun _ y => n - (intOf y).toNat)
 case atStart => exact ⟨0, Nat.zero_le _, by simp, rfl⟩
 case round =>
   obtain ⟨i, hi, rfl, rfl⟩ := hrel
   by_cases hlt : i < n
   · rcases hs with rfl | ⟨g, off, rfl, hc⟩
     · omega
     obtain ⟨c1, c2⟩ := hc i hlt
     have hii : (i : Int) < (n : Int) := by omega
     have i0 : (0 : Int) ≤ (i : Int) := by omega
     clear hc
     go_wp2
     go_round
     case rel => exact ⟨i + 1, by omega, congrArg (Value.int .i64) zO, congrArg (Value.int .i64) zO⟩
     case measure => simp [intOf]; omega
   · obtain rfl : i = n := by omega
     clear hs
     go_wp2
     go_ret
     exact ⟨rfl, rfl⟩
end
section
open Go.RowKit
theorem info_pair : (Tryz.prog.info? 29).map (fun i => (i.zero, i.size, i.bytes)) = some (some (.agg #[.int .i64 0, .int .i64 0]), 2, 16) := by kernel_rfl
def DeskOwn (w : World) (d : DeskN) (e : Ending) (w' : World) : Prop :=
 ∃ a c, e = .returned (.agg #[.int .i64 d.now.1, .int .i64 d.now.2, .slice a d.past.length c]) ∧ w'.ownsRow w.heap.size 29 2 (.slice a d.past.length c) d.past.length (pairCells d.past) ∧ Below w.heap.size w w'
set_option maxRecDepth 100000 in
set_option maxHeartbeats 2000000 in
theorem deskWith_any (B C : Nat) (p q : Int) (L : List (Int × Int)) (v : Value) (w : World) (h : IsPairs B C w v L) (hn : L.length ≤ 1048600) :
   Calls Tryz.prog 50 #[pr p q, v] w (DeskOwn w ⟨(p, q), L⟩) := by
 obtain ⟨i0, hi0, hz0, hzs1, hz2⟩ := info_parts info_pair
 obtain ⟨a, cap, rfl, hC, hs⟩ := id h
 have H := Lib.hid h
 clear h hs
 go_enter Tryz.func50, Tryz.ntmps50
 go_wp2_with fail
 go_region_held3 (fun w' => w'.cell? ⟨w.heap.size, 0, none⟩ = some (.int .i64 p) ∧ w'.cell? ⟨w.heap.size, 1, none⟩ = some (.int .i64 q))
   (first | go_keep)
   ((refine step_append_pairs _ (by rfl) _ _ _ (by rfl) w.heap.size 29 i0 _ 16 Tryz.underlying30 hi0 hz0 hzs1 hz2 rfl (.slice none 0 0) 0 [] (by rfl) (World.ownsRow_nil _ _ _ _) B C _ L (by rfl) (H.out.below (show Below w.heap.size w _ by (repeat (first | exact Below.refl _ _ | refine Below.alloc ?_ zo _ | refine Below.drew ?_))) hC) L.length zO (pairCells L) (by rfl) (by unfold maxLen; omega) zO (by simp; omega) ?_; intro a1 c1 w1 hown1 hgrow1 hat1; have hz1 := hgrow1.size; simp at hz1; have hza : w.heap.size < w1.heap.size := zO; have hzb : w.heap.size + 1 < w1.heap.size := zO; have kc0_0 := (hgrow1.cell_far (a := ⟨w.heap.size, 0, none⟩) zs (by simp [Value.ownBlock] <;> omega)); have kf0_0 := (hgrow1.frozen_far (a := ⟨w.heap.size, 0, none⟩) zs (by simp [Value.ownBlock] <;> omega)); have kc0_1 := (hgrow1.cell_far (a := ⟨w.heap.size, 1, none⟩) zs (by simp [Value.ownBlock] <;> omega)); have kf0_1 := (hgrow1.frozen_far (a := ⟨w.heap.size, 1, none⟩) zs (by simp [Value.ownBlock] <;> omega)); have kc1_0 := (hgrow1.cell_far (a := ⟨w.heap.size + 1, 0, none⟩) zs (by simp [Value.ownBlock] <;> omega)); have kf1_0 := (hgrow1.frozen_far (a := ⟨w.heap.size + 1, 0, none⟩) zs (by simp [Value.ownBlock] <;> omega)); have kc1_1 := (hgrow1.cell_far (a := ⟨w.heap.size + 1, 1, none⟩) zs (by simp [Value.ownBlock] <;> omega)); have kf1_1 := (hgrow1.frozen_far (a := ⟨w.heap.size + 1, 1, none⟩) zs (by simp [Value.ownBlock] <;> omega)); have kc1_2 := (hgrow1.cell_far (a := ⟨w.heap.size + 1, 2, none⟩) zs (by simp [Value.ownBlock] <;> omega)); have kf1_2 := (hgrow1.frozen_far (a := ⟨w.heap.size + 1, 2, none⟩) zs (by simp [Value.ownBlock] <;> omega))))
 have hgr : World.grownBy _ w1 none := hgrow1
 simp [Value.ownBlock] at hat1
 clear hgrow1
 go_wp2_with fail
 refine bodyPost_ret (v := .agg #[.int .i64 p, .int .i64 q, .slice a1 L.length c1]) (by simp [results, Tryz.results50, go_sem]; go_simp) rfl ⟨a1, c1, rfl, ?_, ?_⟩
 · have hne : (Value.slice a1 L.length c1).ownBlock ≠ some (w.heap.size + 1) := by rcases hat1 with h | h <;> simp [Value.ownBlock, h] <;> omega
   exact ownsRow_setCell_other (ownsRow_setCell_other (ownsRow_setCell_other hown1 hne _) hne _) hne _
 · refine Below.setCell (Below.setCell (Below.setCell (Below.grown ?_ hgr ?_ (fun k e => by cases e)) ?_ _) ?_ _) ?_ _
   all_goals (first | (simp <;> omega) | (refine Below.drew (Below.alloc (Below.alloc (Below.refl _ _) ?_ _) ?_ _) <;> (simp <;> omega)))
set_option maxRecDepth 100000 in
set_option maxHeartbeats 2000000 in
theorem specCopy_any (B C : Nat) (p q : Int) (L : List (Int × Int)) (v : Value) (w : World) (h : IsPairs B C w v L) (hn : L.length ≤ 1048600) :
   Calls Tryz.prog 62 #[.agg #[.int .i64 p, .int .i64 q, v]] w (DeskOwn w ⟨(p, q), L⟩) := by
 obtain ⟨i0, hi0, hz0, hzs1, hz2⟩ := info_parts info_pair
 obtain ⟨a, cap, rfl, hC, hs⟩ := id h
 have H := Lib.hid h
 clear h hs
 have HMD := Lib.hid (show ∀ W : World, W.heap.size = w.heap.size + 1 + 1 → (W.alloc (.cells #[] 29)).drew.ownsRow w.heap.size 29 2 (.slice (some ⟨w.heap.size + 1 + 1, 0, none⟩) 0 0) 0 [] from fun W hW => by
   rw [← hW]
   exact (World.ownsRow_made W #[] 0 zO (by unfold maxLen; omega) rfl).drew)
 go_enter Tryz.func62, Tryz.ntmps62
 go_wp2_with fail
 go_region_held3 (fun w' => w'.cell? ⟨w.heap.size, 0, none⟩ = some (.int .i64 p) ∧ w'.cell? ⟨w.heap.size, 1, none⟩ = some (.int .i64 q) ∧ w'.cell? ⟨w.heap.size, 2, none⟩ = some (.slice a L.length cap))
   (first | go_keep)
   ((refine step_append_pairs _ (by rfl) _ _ _ (by rfl) w.heap.size 29 i0 _ 16 Tryz.underlying30 hi0 hz0 hzs1 hz2 rfl (.slice (some ⟨w.heap.size + 1 + 1, 0, none⟩) 0 0) 0 [] (by rfl) (HMD.out _ (by simp)) B C _ L (by rfl) (H.out.below (show Below w.heap.size w _ by (repeat (first | exact Below.refl _ _ | refine Below.alloc ?_ zo _ | refine Below.drew ?_))) hC) L.length zO (pairCells L) (by rfl) (by unfold maxLen; omega) zO (by simp; omega) ?_; intro a1 c1 w1 hown1 hgrow1 hat1; have hz1 := hgrow1.size; simp at hz1; have hza : w.heap.size < w1.heap.size := zO; have hzb : w.heap.size + 1 < w1.heap.size := zO; have kc0_0 := (hgrow1.cell_far (a := ⟨w.heap.size, 0, none⟩) zs (by simp [Value.ownBlock] <;> omega)); have kf0_0 := (hgrow1.frozen_far (a := ⟨w.heap.size, 0, none⟩) zs (by simp [Value.ownBlock] <;> omega)); have kc0_1 := (hgrow1.cell_far (a := ⟨w.heap.size, 1, none⟩) zs (by simp [Value.ownBlock] <;> omega)); have kf0_1 := (hgrow1.frozen_far (a := ⟨w.heap.size, 1, none⟩) zs (by simp [Value.ownBlock] <;> omega)); have kc0_2 := (hgrow1.cell_far (a := ⟨w.heap.size, 2, none⟩) zs (by simp [Value.ownBlock] <;> omega)); have kf0_2 := (hgrow1.frozen_far (a := ⟨w.heap.size, 2, none⟩) zs (by simp [Value.ownBlock] <;> omega)); have kc1_0 := (hgrow1.cell_far (a := ⟨w.heap.size + 1, 0, none⟩) zs (by simp [Value.ownBlock] <;> omega)); have kf1_0 := (hgrow1.frozen_far (a := ⟨w.heap.size + 1, 0, none⟩) zs (by simp [Value.ownBlock] <;> omega)); have kc1_1 := (hgrow1.cell_far (a := ⟨w.heap.size + 1, 1, none⟩) zs (by simp [Value.ownBlock] <;> omega)); have kf1_1 := (hgrow1.frozen_far (a := ⟨w.heap.size + 1, 1, none⟩) zs (by simp [Value.ownBlock] <;> omega)); have kc1_2 := (hgrow1.cell_far (a := ⟨w.heap.size + 1, 2, none⟩) zs (by simp [Value.ownBlock] <;> omega)); have kf1_2 := (hgrow1.frozen_far (a := ⟨w.heap.size + 1, 2, none⟩) zs (by simp [Value.ownBlock] <;> omega))))
 have hgr : World.grownBy _ w1 (some (w.heap.size + 2)) := hgrow1
 simp [Value.ownBlock] at hat1
 clear hgrow1
 go_wp2_with fail
 refine bodyPost_ret (v := .agg #[.int .i64 p, .int .i64 q, .slice a1 L.length c1]) (by simp [results, Tryz.results62, go_sem]; go_simp) rfl ⟨a1, c1, rfl, ?_, ?_⟩
 · have hne : (Value.slice a1 L.length c1).ownBlock ≠ some (w.heap.size + 1) := by rcases hat1 with h | h <;> simp [Value.ownBlock, h] <;> omega
   exact ownsRow_setCell_other (ownsRow_setCell_other (ownsRow_setCell_other hown1 hne _) hne _) hne _
 · refine Below.setCell (Below.setCell (Below.setCell (Below.grown ?_ hgr ?_ (fun k e => by cases e; omega)) ?_ _) ?_ _) ?_ _
   all_goals (first | (simp <;> omega) | (refine Below.drew (Below.alloc (Below.alloc (Below.alloc (Below.refl _ _) ?_ _) ?_ _) ?_ _) <;> (simp <;> omega)))
end
section
open Go.RowKit
def SeesPairs (w : World) (v : Value) (L : List (Int × Int)) : Prop :=
 ∃ (a : Option Addr) (cap : Nat), v = .slice a L.length cap ∧
   (L = [] ∨ ∃ g off, a = some ⟨g, off, none⟩ ∧ g < w.heap.size ∧ ∀ (i : Nat) (p : Int × Int), L[i]? = some p → w.cell? ⟨g, off + i * 2, none⟩ = some (.int .i64 p.1) ∧ w.cell? ⟨g, off + i * 2 + 1, none⟩ = some (.int .i64 p.2))
theorem SeesPairs.below {w w' : World} {v : Value} {L : List (Int × Int)} (h : SeesPairs w v L) (hb : Below w.heap.size w w') : SeesPairs w' v L := by
 obtain ⟨a, cap, rfl, hs⟩ := h
 refine ⟨a, cap, rfl, ?_⟩
 rcases hs with hs | ⟨g, off, ha, hg, hc⟩
 · exact .inl hs
 · exact .inr ⟨g, off, ha, Nat.lt_of_lt_of_le hg hb.size, fun i p hi => ⟨(hb.cell (p := ⟨g, off + i * 2, none⟩) hg).trans (hc i p hi).1, (hb.cell (p := ⟨g, off + i * 2 + 1, none⟩) hg).trans (hc i p hi).2⟩⟩
theorem run_make_two {P : Program} (t e : TypeId) (i : TypeInfo) (ht : P.underlying t = some (.slice e)) (hi : P.info? e = some i) (hz : i.zero = some (.agg #[.int .i64 0, .int .i64 0])) (hs : i.size = 2) (hb : i.bytes = 16) (n : Nat) (hn : n ≤ 1048600) (w : World) :
   (Instr.makeSlice t (.int .i64 (n : Int)) (.int .i64 (n : Int))).run P w = .ok (.slice (some ⟨w.heap.size, 0, none⟩) n n) (w.alloc (.cells (madeCells #[.int .i64 0, .int .i64 0] (n * 2)) e)) := by
 have hr := run_make (P := P) w t e i _ ht hi hz .i64 .i64 n n zO zO (by rw [hb]; omega) zO
 simp only [Int.toNat_natCast, hs] at hr
 exact hr
theorem made_at (n j : Nat) (h : j < n) : (madeCells #[.int .i64 0, .int .i64 0] n)[j]? = some (.int .i64 0) := by
 have h2 : j % 2 = 0 ∨ j % 2 = 1 := by omega
 rcases h2 with h2 | h2 <;> simp [madeCells, h, h2]
set_option maxHeartbeats 4000000 in
theorem toPairS_any (L : List (Int × Int)) (v : Value) (w : World) (h : SeesPairs w v L) (hn : L.length ≤ 1048600) :
   Calls Tryz.prog 72 #[v] w fun e w' => ∃ u, e = .returned u ∧ IsPairs w.heap.size w'.heap.size w' u L ∧ Below w.heap.size w w' := by
 obtain ⟨a, cap, rfl, hs⟩ := h
 obtain ⟨i0, hi0, hz0, hzs1, hz2⟩ := info_parts info_pair
 have hmk := fun W => run_make_two (P := Tryz.prog) 30 29 i0 Tryz.underlying30 hi0 hz0 hzs1 hz2 L.length hn W
 go_enter Tryz.func72, Tryz.ntmps72
 go_wp2_with fail
 go_loopw [4] (fun y wr => ∃ i : Nat, i ≤ L.length ∧ y = .int .i64 i ∧ (∀ (j : Nat) (p : Int × Int), j < i → L[j]? = some p → wr.cell? ⟨w.heap.size, j * 2, none⟩ = some (.int .i64 p.1) ∧ wr.cell? ⟨w.heap.size, j * 2 + 1, none⟩ = some (.int .i64 p.2)) ∧ (∀ j, i * 2 ≤ j → j < L.length * 2 → wr.cell? ⟨w.heap.size, j, none⟩ = some (.int .i64 0)) ∧ (∀ j, wr.frozen? ⟨w.heap.size, j, none⟩ = false) ∧ w.heap.size < wr.heap.size ∧ Below w.heap.size w wr) (fun y _ => L.length - (intOf y).toNat)
 case atStart => exact ⟨0, Nat.zero_le _, rfl, fun j p hj => absurd hj zO, fun j _ hj => (World.cell?_alloc_mark _ _ _ _ _).trans (made_at _ _ hj), fun j => by (unfold World.frozen?; rw [heap_alloc_new]; simp), by simp, (Below.refl _ _).alloc (Nat.le_refl _) _⟩
 case round =>
   obtain ⟨i, hi, rfl, hm, hr, hfr, hsz, hB⟩ := hrel
   by_cases hlt : i < L.length
   · rcases hs with rfl | ⟨g, off, rfl, hg, hc⟩
     · simp at hlt
     obtain ⟨x, y, hp⟩ := list_at hlt
     have c1 : wr.cell? ⟨g, off + i * 2, none⟩ = some (.int .i64 x) := (hB.cell (p := ⟨g, off + i * 2, none⟩) hg).trans (hc i _ hp).1
     have c2 : wr.cell? ⟨g, off + i * 2 + 1, none⟩ = some (.int .i64 y) := (hB.cell (p := ⟨g, off + i * 2 + 1, none⟩) hg).trans (hc i _ hp).2
     have d1 := hr (i * 2) zO zO
     have d2 := hr (i * 2 + 1) zO zO
     have f1 := hfr (i * 2)
     have f2 := hfr (i * 2 + 1)
     have hii : (i : Int) < (L.length : Int) := by omega
     have i0 : (0 : Int) ≤ (i : Int) := by omega
     have HM := Lib.hid hm
     have HR := Lib.hid hr
     have HF := Lib.hid hfr
     have HB := Lib.hid hB
     have HP := Lib.hid hp
     clear hm hr hfr hc hB hmk hp
     go_wp2_with fail
     refine (toPair_any x y _).mono ?_
     rintro e w1 ⟨rfl, hb1⟩
     have hz1 := hb1.size
     have e1 : w1.cell? ⟨w.heap.size, i * 2, none⟩ = some (.int .i64 0) := cell_belowP hb1 d1
     have e2 : w1.cell? ⟨w.heap.size, i * 2 + 1, none⟩ = some (.int .i64 0) := cell_belowP hb1 d2
     have k1 : w1.frozen? ⟨w.heap.size, i * 2, none⟩ = false := (hb1.frozen (p := ⟨w.heap.size, i * 2, none⟩) hsz).trans f1
     have k2 : w1.frozen? ⟨w.heap.size, i * 2 + 1, none⟩ = false := (hb1.frozen (p := ⟨w.heap.size, i * 2 + 1, none⟩) hsz).trans f2
     have HB1 := Lib.hid hb1
     clear hb1 c1 c2 d1 d2 f1 f2
     go_wp2
     go_roundw
     case rel =>
       refine ⟨i + 1, by omega, congrArg (Value.int .i64) zO, fun j p hj hjp => ?_, fun j hj1 hj2 => ?_, fun j => ?_, by simp [World.setCell]; omega, ((HB.out.trans (HB1.out.mono zO)).setCell (by simp) _).setCell (by simp) _⟩
       · by_cases e : j = i
         · subst e
           rw [HP.out] at hjp
           cases hjp
           exact ⟨(World.cell?_setCell_other _ ⟨w.heap.size, j * 2 + 1, none⟩ ⟨w.heap.size, j * 2, none⟩ _ (fun e' => by injection e'; omega)).trans (World.cell?_setCell_same' _ _ _ (by rw [e1]; rfl)), World.cell?_setCell_same' _ _ _ (by rw [World.cell?_setCell_other _ ⟨w.heap.size, j * 2, none⟩ ⟨w.heap.size, j * 2 + 1, none⟩ _ (fun e' => by injection e'; omega), e2]; rfl)⟩
         · obtain ⟨m1, m2⟩ := HM.out j p zO hjp
           exact ⟨(World.cell?_setCell_other _ ⟨w.heap.size, i * 2 + 1, none⟩ ⟨w.heap.size, j * 2, none⟩ _ (fun e' => by injection e'; omega)).trans ((World.cell?_setCell_other _ ⟨w.heap.size, i * 2, none⟩ ⟨w.heap.size, j * 2, none⟩ _ (fun e' => by injection e'; omega)).trans (cell_belowP HB1.out m1)),
             (World.cell?_setCell_other _ ⟨w.heap.size, i * 2 + 1, none⟩ ⟨w.heap.size, j * 2 + 1, none⟩ _ (fun e' => by injection e'; omega)).trans ((World.cell?_setCell_other _ ⟨w.heap.size, i * 2, none⟩ ⟨w.heap.size, j * 2 + 1, none⟩ _ (fun e' => by injection e'; omega)).trans (cell_belowP HB1.out m2))⟩
       · exact (World.cell?_setCell_other _ ⟨w.heap.size, i * 2 + 1, none⟩ ⟨w.heap.size, j, none⟩ _ (fun e' => by injection e'; omega)).trans ((World.cell?_setCell_other _ ⟨w.heap.size, i * 2, none⟩ ⟨w.heap.size, j, none⟩ _ (fun e' => by injection e'; omega)).trans (cell_belowP HB1.out (HR.out j zO hj2)))
       · rw [World.frozen?_setCell, World.frozen?_setCell]; exact (HB1.out.frozen (p := ⟨w.heap.size, j, none⟩) hsz).trans (HF.out j)
     case measure => simp [intOf]; omega
   · obtain rfl : i = L.length := by omega
     have HM := Lib.hid hm
     have HF := Lib.hid hfr
     clear hm hr hfr hs hmk
     go_wp2
     go_ret
     exact ⟨_, rfl, ⟨_, L.length, rfl, Nat.le_refl _, .inr ⟨w.heap.size, 0, rfl, Nat.le_refl _, ⟨hsz, Nat.le_refl _⟩, fun j p hj => by rw [Nat.zero_add]; exact HM.out j p (List.getElem?_eq_some_iff.1 hj).1 hj, fun j _ => by rw [Nat.zero_add]; exact HF.out j⟩⟩, hB⟩
def DeskMade (w : World) (d : DeskN) (e : Ending) (w' : World) : Prop :=
 ∃ a c, e = .returned (.agg #[.int .i64 d.now.1, .int .i64 d.now.2, .slice a d.past.length c]) ∧ IsPairs w.heap.size w'.heap.size w' (.slice a d.past.length c) d.past ∧ Below w.heap.size w w'
set_option maxHeartbeats 2000000 in
theorem toDesk_any (p q : Int) (L : List (Int × Int)) (v : Value) (w : World) (h : SeesPairs w v L) (hn : L.length ≤ 1048600) :
   Calls Tryz.prog 29 #[.agg #[.int .i64 p, .int .i64 q, v]] w (DeskMade w ⟨(p, q), L⟩) := by
 obtain ⟨a, cap, rfl, hs⟩ := id h
 have H := Lib.hid h
 clear h hs
 go_enter Tryz.func29, Tryz.ntmps29
 go_wp2_with fail
 refine (toPair_any p q _).mono ?_
 rintro e w1 ⟨rfl, hb1⟩
 obtain ⟨hc1, hf1⟩ := bcell hb1
 have hz1 := hb1.size
 simp at hz1
 have hz2 : w.heap.size < w1.heap.size := by omega
 have hz3 : w.heap.size + 1 < w1.heap.size := by omega
 have hz4 : w.heap.size + 2 < w1.heap.size := by omega
 have hz5 : w.heap.size + 1 + 1 < w1.heap.size := by omega
 have HB1 := Lib.hid (show Below w.heap.size w w1 by (repeat (first | exact Below.refl _ _ | refine Below.alloc ?_ zo _ | refine Below.trans ?_ (Below.mono (by assumption) zo))))
 go_wp2_with fail
 refine (toPairS_any L _ _ (H.out.below ((HB1.out.setCell (p := ⟨w.heap.size + 1 + 1, 0, none⟩) (by show w.heap.size ≤ w.heap.size + 1 + 1; omega) _).setCell (p := ⟨w.heap.size + 1 + 1, 1, none⟩) (by show w.heap.size ≤ w.heap.size + 1 + 1; omega) _)) hn).mono ?_
 rintro e w2 ⟨u, rfl, hI, hb2⟩
 obtain ⟨a2, c2, rfl, _, _⟩ := id hI
 obtain ⟨hc2, hf2⟩ := bcell hb2
 have hz6 := hb2.size
 simp at hz6
 have hz7 : w.heap.size + 1 + 1 < w2.heap.size := by omega
 have hz8 : w.heap.size + 1 < w2.heap.size := by omega
 have hz9 : w.heap.size < w2.heap.size := by omega
 have HI := Lib.hid hI
 have HB2 := Lib.hid (show Below w.heap.size w w2 from ((HB1.out.setCell (p := ⟨w.heap.size + 1 + 1, 0, none⟩) (by show w.heap.size ≤ w.heap.size + 1 + 1; omega) (.int .i64 p)).setCell (p := ⟨w.heap.size + 1 + 1, 1, none⟩) (by show w.heap.size ≤ w.heap.size + 1 + 1; omega) (.int .i64 q)).trans (hb2.mono (by simp; omega)))
 clear hI hb1 hb2
 go_wp2_with fail
 refine bodyPost_ret (v := .agg #[.int .i64 p, .int .i64 q, .slice a2 L.length c2]) (by simp [results, Tryz.results29, go_sem]; go_simp) rfl ⟨a2, c2, rfl, ?_, ?_⟩
 · refine IsPairs.mono (B := w1.heap.size) (C := w2.heap.size) ?_ zO (by simp) (by simp)
   refine (((HI.out.mono (B' := w1.heap.size) (C' := w2.heap.size) (by simp) (Nat.le_refl _) (Nat.le_refl _)).set ?_ _).set ?_ _).set ?_ _ |>.set ?_ _
   all_goals (show _ < w1.heap.size; omega)
 · exact (((HB2.out.setCell zs _).setCell zs _).setCell zs _).setCell zs _
end
section
open Go.RowKit
def IsDeeds (B C : Nat) (w : World) (v : Value) (L : List DeedN) : Prop :=
 ∃ (a : Option Addr) (cap : Nat), v = .slice a L.length cap ∧ C ≤ w.heap.size ∧
   (L = [] ∨ ∃ g off, a = some ⟨g, off, none⟩ ∧ B ≤ g ∧ (g < C ∧ L.length ≤ cap) ∧
     (∀ (i : Nat) (p : DeedN), L[i]? = some p → w.cell? ⟨g, off + i * 3, none⟩ = some (.int .i64 p.kind) ∧ w.cell? ⟨g, off + i * 3 + 1, none⟩ = some (.int .i64 p.a) ∧ w.cell? ⟨g, off + i * 3 + 2, none⟩ = some (.int .i64 p.b)) ∧ (∀ i, i < 3 * L.length → w.frozen? ⟨g, off + i, none⟩ = false))
theorem IsDeeds.below {B C D : Nat} {w w' : World} {v : Value} {L : List DeedN} (h : IsDeeds B C w v L) (hb : Below D w w') (hD : C ≤ D) : IsDeeds B C w' v L := by
 obtain ⟨a, cap, rfl, hC, hs⟩ := h
 refine ⟨a, cap, rfl, Nat.le_trans hC hb.size, ?_⟩
 rcases hs with hs | ⟨g, off, ha, h1, h2, hc, hf⟩
 · exact .inl hs
 · exact .inr ⟨g, off, ha, h1, h2, fun i p hi => ⟨(hb.cell (p := ⟨g, off + i * 3, none⟩) (by show g < D; omega)).trans (hc i p hi).1, (hb.cell (p := ⟨g, off + i * 3 + 1, none⟩) (by show g < D; omega)).trans (hc i p hi).2.1, (hb.cell (p := ⟨g, off + i * 3 + 2, none⟩) (by show g < D; omega)).trans (hc i p hi).2.2⟩, fun i hi => (hb.frozen (p := ⟨g, off + i, none⟩) (by show g < D; omega)).trans (hf i hi)⟩
theorem IsDeeds.mono {B B' C C' : Nat} {w : World} {v : Value} {L : List DeedN} (h : IsDeeds B C w v L) (h1 : B' ≤ B) (h2 : C ≤ C') (h3 : C' ≤ w.heap.size) : IsDeeds B' C' w v L := by
 obtain ⟨a, cap, rfl, hC, hs⟩ := h
 refine ⟨a, cap, rfl, h3, ?_⟩
 rcases hs with hs | ⟨g, off, ha, k1, k2, hc, hf⟩
 · exact .inl hs
 · exact .inr ⟨g, off, ha, by omega, by omega, hc, hf⟩
theorem IsDeeds.empty (B : Nat) (w : World) (a : Option Addr) (c : Nat) : IsDeeds B w.heap.size w (.slice a 0 c) [] := ⟨a, c, rfl, Nat.le_refl _, .inl rfl⟩
theorem IsDeeds.drop {B C : Nat} {w : World} {a : Addr} {n cap : Nat} {L : List DeedN} (h : IsDeeds B C w (.slice (some a) n cap) L) (k c : Nat) (hk : k < n) (hkc : n - k ≤ c) : IsDeeds B C w (.slice (some ⟨a.block, a.off + k * 3, none⟩) (n - k) c) (L.drop k) := by
 obtain ⟨a', cap', e, hC, hs⟩ := h
 obtain ⟨rfl, rfl, rfl⟩ : some a = a' ∧ n = L.length ∧ cap = cap' := by simpa using e
 refine ⟨_, c, by rw [List.length_drop], hC, ?_⟩
 rcases hs with hs | ⟨g, off, ha, h1, h2, hc, hf⟩
 · subst hs; simp at hk
 · cases ha
   refine .inr ⟨g, off + k * 3, rfl, h1, ⟨h2.1, by rw [List.length_drop]; exact hkc⟩, fun i p hi => ?_, fun i hi => ?_⟩
   · rw [List.getElem?_drop] at hi
     have := hc _ _ hi
     rw [show off + k * 3 + i * 3 = off + (k + i) * 3 by omega]
     exact this
   · rw [List.length_drop] at hi
     rw [show off + k * 3 + i = off + (k * 3 + i) by omega]
     exact hf _ zO
theorem IsDeeds.take {B C : Nat} {w : World} {a : Option Addr} {n cap : Nat} {L : List DeedN} (h : IsDeeds B C w (.slice a n cap) L) (k c : Nat) (hk : k ≤ n) (hkc : k ≤ c) : IsDeeds B C w (.slice a k c) (L.take k) := by
 obtain ⟨a', cap', e, hC, hs⟩ := h
 obtain ⟨rfl, rfl, rfl⟩ : a = a' ∧ n = L.length ∧ cap = cap' := by simpa using e
 refine ⟨a, c, by rw [List.length_take, Nat.min_eq_left hk], hC, ?_⟩
 rcases hs with hs | ⟨g, off, ha, h1, h2, hc, hf⟩
 · subst hs; exact .inl (by simp)
 · refine .inr ⟨g, off, ha, h1, ⟨h2.1, by rw [List.length_take]; omega⟩, fun i p hi => hc i p ?_, fun i hi => hf i (by rw [List.length_take] at hi; omega)⟩
   rw [List.getElem?_take] at hi
   split at hi
   · exact hi
   · cases hi
def deedCells (L : List DeedN) : List Value := L.flatMap fun p => [.int .i64 p.kind, .int .i64 p.a, .int .i64 p.b]
theorem deedCells_len (L : List DeedN) : (deedCells L).length = L.length * 3 := by
 induction L with
 | nil => rfl
 | cons p L ih => simp only [deedCells, List.flatMap_cons, List.length_append, List.length_cons, List.length_nil] at ih ⊢; rw [ih]; omega
theorem deedCells_append (L M : List DeedN) : deedCells L ++ deedCells M = deedCells (L ++ M) := by simp [deedCells]
theorem deedCells_get : ∀ (L : List DeedN) (i : Nat) (p : DeedN), L[i]? = some p → (deedCells L)[i * 3]? = some (.int .i64 p.kind) ∧ (deedCells L)[i * 3 + 1]? = some (.int .i64 p.a) ∧ (deedCells L)[i * 3 + 2]? = some (.int .i64 p.b)
 | [], i, p, h => by simp at h
 | q :: L, 0, p, h => by simp at h; subst h; exact ⟨rfl, rfl, rfl⟩
 | q :: L, i + 1, p, h => by
   have := deedCells_get L i p (by simpa using h)
   rw [show (i + 1) * 3 = i * 3 + 1 + 1 + 1 by omega]
   exact this
theorem IsDeeds.of_owns {B : Nat} {w : World} {e : TypeId} {v : Value} {L : List DeedN} {n : Nat} (h : w.ownsRow B e 3 v n (deedCells L)) : IsDeeds B w.heap.size w v L := by
 have hc := fun g (hg : v.ownBlock = some g) => h.cells hg
 obtain ⟨hl, h⟩ := h
 rw [deedCells_len] at hl
 have hn : L.length = n := by omega
 rcases h with ⟨rfl, rfl⟩ | ⟨g, cap, cur, rfl, hb, hg, hnc, hm, hcs, htk⟩
 · obtain rfl : L = [] := List.length_eq_zero_iff.1 hn
   exact IsDeeds.empty B w none 0
 · have hlt : g < w.heap.size := (Array.getElem?_eq_some_iff.1 hg).1
   have hcell : ∀ (k : Nat) (x : Value), (deedCells L)[k]? = some x → w.cell? ⟨g, 0 + k, none⟩ = some x := fun k x hk => by
     have := hc g rfl k x hk
     rw [Nat.zero_add]
     by_cases h0 : k = 0
     · subst h0; simpa [Addr.add] using this
     · simpa [Addr.add, h0] using this
   refine ⟨_, cap, by rw [hn], Nat.le_refl _, .inr ⟨g, 0, rfl, hb, ⟨hlt, by omega⟩, fun i p hi => ?_, fun i hi => ?_⟩⟩
   · obtain ⟨k1, k2, k3⟩ := deedCells_get L i p hi
     exact ⟨hcell _ _ k1, hcell _ _ k2, hcell _ _ k3⟩
   · simp [World.frozen?, hg]
end
section
open Go.ChangeShapes Go.WideShapes Go.ChangeAt Go.RowKit Go.Joins Go.Deep
theorem list_2 {cs : List Value} (h : cs.length = 2) : ∃ a b, cs = [a, b] := by
 match cs, h with
 | [a, b], _ => exact ⟨a, b, rfl⟩
def SeesDeeds (w : World) (v : Value) (L : List DeedN) : Prop :=
 ∃ (a : Option Addr) (cap : Nat), v = .slice a L.length cap ∧
   (L = [] ∨ ∃ g off, a = some ⟨g, off, none⟩ ∧ g < w.heap.size ∧ ∀ (i : Nat) (p : DeedN), L[i]? = some p → w.cell? ⟨g, off + i * 3, none⟩ = some (.int .i64 p.kind) ∧ w.cell? ⟨g, off + i * 3 + 1, none⟩ = some (.int .i64 p.a) ∧ w.cell? ⟨g, off + i * 3 + 2, none⟩ = some (.int .i64 p.b))
theorem SeesDeeds.below {w w' : World} {v : Value} {L : List DeedN} (h : SeesDeeds w v L) (hb : Below w.heap.size w w') : SeesDeeds w' v L := by
 obtain ⟨a, cap, rfl, hs⟩ := h
 refine ⟨a, cap, rfl, ?_⟩
 rcases hs with hs | ⟨g, off, ha, hg, hc⟩
 · exact .inl hs
 · exact .inr ⟨g, off, ha, Nat.lt_of_lt_of_le hg hb.size, fun i p hi => ⟨(hb.cell (p := ⟨g, off + i * 3, none⟩) hg).trans (hc i p hi).1, (hb.cell (p := ⟨g, off + i * 3 + 1, none⟩) hg).trans (hc i p hi).2.1, (hb.cell (p := ⟨g, off + i * 3 + 2, none⟩) hg).trans (hc i p hi).2.2⟩⟩
theorem sees_pairs {H : Type} {enc : TypeId × Value → H} {w : World} {base : Nat} {spare : Nat → Bool} {held : Bool} {fuel : Nat} {cs : List Value} {x : DataW H × List MemPlace} (h : DataW.trod enc Tryz.prog w base spare held fuel 55 cs = some x) :
   ∃ (u : Value) (L : List (Int × Int)), cs = [u] ∧ SeesPairs w u L ∧ L.length ≤ maxLen := by
 rcases Go.Deep.open_slice Tryz.underlying55 h with ⟨rfl, _⟩ | ⟨a, len, cap, m, n, D, Pl, rfl, _, hl, hm, hmm, _, hi⟩
 · exact ⟨_, [], rfl, ⟨none, 0, rfl, .inl rfl⟩, by simp⟩
 · have hC : Tryz.prog.cellsOf 54 = 2 := by kernel_rfl
   have hI : Tryz.prog.cellsOf 3 = 1 := by kernel_rfl
   rw [hC] at hi
   have key : ∀ i, i < len → ∃ p : (Int × Int), w.cell? (a.add (i * 2)) = some (.int .i64 p.1) ∧ w.cell? (a.add (i * 2 + 1)) = some (.int .i64 p.2) := fun i hil => by
     obtain ⟨cs', hc, ht'⟩ := hi i (by rw [hmm]; split <;> omega)
     obtain ⟨_, hcl, hat⟩ := World.cells?_some hc
     obtain ⟨y0, y1, n', _, _, h0, h1⟩ := trod_struct2 Tryz.underlying54 ht'
     obtain ⟨c0, c1, rfl⟩ := list_2 hcl
     simp [hI] at h0 h1
     obtain ⟨a0, e0, _, _⟩ := DataW.trod_int Tryz.underlying3 h0
     simp at e0
     subst e0
     obtain ⟨a1, e1, _, _⟩ := DataW.trod_int Tryz.underlying3 h1
     simp at e1
     subst e1
     have k0 := hat 0 zO
     have k1 := hat 1 zO
     simp only [Go.Deep.add_add, List.getElem?_cons_zero, List.getElem?_cons_succ, Nat.add_zero] at k0 k1
     exact ⟨⟨a0, a1⟩, by simpa using k0, by simpa using k1⟩
   obtain ⟨f, hf⟩ : ∃ f : Nat → (Int × Int), ∀ i, i < len → w.cell? (a.add (i * 2)) = some (.int .i64 (f i).1) ∧ w.cell? (a.add (i * 2 + 1)) = some (.int .i64 (f i).2) :=
     ⟨fun i => if h : i < len then (key i h).choose else ⟨0, 0⟩, fun i h => by simp only [h, dif_pos]; exact (key i h).choose_spec⟩
   refine ⟨_, (List.range len).map f, rfl, ⟨some a, cap, by simp, ?_⟩, by simp; omega⟩
   rcases Nat.eq_zero_or_pos len with rfl | hp
   · exact .inl rfl
   · have h0 := (hf 0 hp).1
     rw [Nat.zero_mul, show a.add 0 = a from rfl] at h0
     have hsp := World.cell?_spot h0
     have hlt := World.block_lt_of_cell? w a h0
     obtain ⟨g, off, sp⟩ := a
     simp at hsp
     subst hsp
     refine .inr ⟨g, off, rfl, hlt, fun i p hi => ?_⟩
     have hil : i < len := by
       have := (List.getElem?_eq_some_iff.1 hi).1
       simpa using this
     have hpf : f i = p := by simpa [hil] using hi
     subst hpf
     have := hf i hil
     simp only [add_row] at this
     exact this
set_option maxRecDepth 100000 in
theorem open_desk {H : Type} {enc : TypeId × Value → H} {w : World} {base : Nat} {spare : Nat → Bool} {held : Bool} {r : Reach} {b0 : Nat} {v : Value} {d : DataW H} {p : List MemPlace} (hv : Value.okWide Tryz.prog w r b0 57 v) (h : DataW.Trod enc Tryz.prog w base spare held 57 v d p) :
   ∃ (x y : Int) (u : Value) (L : List (Int × Int)), v = .agg #[.int .i64 x, .int .i64 y, u] ∧ SeesPairs w u L ∧ L.length ≤ maxLen := by
 have hC : Tryz.prog.cellsOf 57 = 3 := by kernel_rfl
 have hP : Tryz.prog.cellsOf 54 = 2 := by kernel_rfl
 have hS : Tryz.prog.cellsOf 55 = 1 := by kernel_rfl
 have hI : Tryz.prog.cellsOf 3 = 1 := by kernel_rfl
 obtain ⟨cs, rfl, hsz⟩ := okWide_struct Tryz.underlying57 hv
 obtain ⟨c0, c1, c2, rfl⟩ := array3 (hsz.trans hC)
 obtain ⟨fuel, hf⟩ := h
 obtain ⟨y0, y1, n, hx, _, h0, h1⟩ := trod_struct2 Tryz.underlying57 hf
 simp [hP, hS, Value.cells] at h0 h1
 obtain ⟨y2, y3, n', _, _, h2, h3⟩ := trod_struct2 Tryz.underlying54 h0
 simp [hI] at h2 h3
 obtain ⟨a2, e2, _, _⟩ := DataW.trod_int Tryz.underlying3 h2
 obtain ⟨a3, e3, _, _⟩ := DataW.trod_int Tryz.underlying3 h3
 simp at e2 e3
 subst e2 e3
 obtain ⟨u, L, e4, hL, hm⟩ := sees_pairs h1
 simp at e4
 subst e4
 exact ⟨_, _, _, L, rfl, hL, hm⟩
end
section
open Go.RowKit
theorem szPairS_fit (a : Option Addr) (n cap left : Nat) (hl : left ≤ 1048576) (h : n ≤ left) (w : World) : Calls Tryz.prog 70 #[.slice a n cap, .int .i64 left] w fun e w' => e = .returned (.int .i64 ((left - n : Nat) : Int)) ∧ Below w.heap.size w w' := by
 have h1 : (n : Int) ≤ (left : Int) := by omega
 have h2 : IntKind.i64.wrap ((left : Int) - (n : Int)) = ((left - n : Nat) : Int) := by rw [IntKind.wrap_i64]; omega
 have h3 : ¬ (((left - n : Nat) : Int) < 0) := by omega
 go_enter Tryz.func70, Tryz.ntmps70
 go_wp2
 go_ret
 exact ⟨rfl, Below.refl _ _⟩
theorem szPairS_big (a : Option Addr) (n cap left : Nat) (hl : left ≤ 1048576) (h : left < n) (hn : n ≤ maxLen) (w : World) : Calls Tryz.prog 70 #[.slice a n cap, .int .i64 left] w fun e w' => e = .returned (.int .i64 (-1)) ∧ Below w.heap.size w w' := by
 have hm : maxLen = 9223372036854775807 := rfl
 have h2 : IntKind.i64.wrap ((left : Int) - (n : Int)) = (left : Int) - (n : Int) := by rw [IntKind.wrap_i64]; omega
 have h3 : (left : Int) - (n : Int) < 0 := by omega
 go_enter Tryz.func70, Tryz.ntmps70
 go_wp2
 go_ret
 exact ⟨rfl, Below.refl _ _⟩
theorem szDesk_fit (p q : Int) (a : Option Addr) (n cap left : Nat) (hl : left ≤ 1048576) (h : n ≤ left) (w : World) : Calls Tryz.prog 28 #[.agg #[.int .i64 p, .int .i64 q, .slice a n cap], .int .i64 left] w fun e w' => e = .returned (.int .i64 ((left - n : Nat) : Int)) ∧ Below w.heap.size w w' := by
 have h3 : ¬ (((left - n : Nat) : Int) < 0) := by omega
 go_enter Tryz.func28, Tryz.ntmps28
 go_wp2_with fail
 refine (szPairS_fit a n cap left hl h _).mono ?_
 rintro e w1 ⟨rfl, hb1⟩
 go_wp2
 go_ret
 exact ⟨rfl, by exact zb⟩
theorem szDesk_big (p q : Int) (a : Option Addr) (n cap left : Nat) (hl : left ≤ 1048576) (h : left < n) (hn : n ≤ maxLen) (w : World) : Calls Tryz.prog 28 #[.agg #[.int .i64 p, .int .i64 q, .slice a n cap], .int .i64 left] w fun e w' => e = .returned (.int .i64 (-1)) ∧ Below w.heap.size w w' := by
 go_enter Tryz.func28, Tryz.ntmps28
 go_wp2_with fail
 refine (szPairS_big a n cap left hl h hn _).mono ?_
 rintro e w1 ⟨rfl, hb1⟩
 go_wp2
 go_ret
 exact ⟨rfl, by exact zb⟩
end
section
open Go.RowKit
theorem IsPairs.markedS2 {B C B0 C0 : Nat} {w w' : World} {v : Value} {L : List (Int × Int)} (h : IsPairs B0 C0 w v L) (hm : MarkedS B C w w') (hd : C0 ≤ B ∨ C ≤ B0) : IsPairs B0 C0 w' v L := by
 obtain ⟨a, cap, rfl, hC, hs⟩ := h
 obtain ⟨row, hg, hr⟩ := hm
 refine ⟨a, cap, rfl, Nat.le_trans hC hg.size, ?_⟩
 rcases hs with hs | ⟨g, off, ha, h1, h2, hc, hf⟩
 · exact .inl hs
 · have hne : some g ≠ row := fun e => by have := hr g e.symm; omega
   exact .inr ⟨g, off, ha, h1, h2, fun i p hi => ⟨(hg.cell_far ⟨g, off + i * 2, none⟩ (by show g < w.heap.size; omega) hne).trans (hc i p hi).1, (hg.cell_far ⟨g, off + i * 2 + 1, none⟩ (by show g < w.heap.size; omega) hne).trans (hc i p hi).2⟩, fun i hi => (hg.frozen_far ⟨g, off + i, none⟩ (by show g < w.heap.size; omega) hne).trans (hf i hi)⟩
theorem MarkedS.cell {B C : Nat} {w w' : World} (hm : MarkedS B C w w') {b : Nat} (hb : b < w.heap.size) (hd : b < B ∨ C ≤ b) (o : Nat) : w'.cell? ⟨b, o, none⟩ = w.cell? ⟨b, o, none⟩ := by
 obtain ⟨row, hg, hr⟩ := hm
 exact hg.cell_far ⟨b, o, none⟩ hb (fun e => by have := hr b e.symm; omega)
theorem MarkedS.size {B C : Nat} {w w' : World} (hm : MarkedS B C w w') : w.heap.size ≤ w'.heap.size := by obtain ⟨_, hg, _⟩ := hm; exact hg.size
end
section
open Go.RowKit
theorem info_deed : (Tryz.prog.info? 40).map (fun i => (i.zero, i.size, i.bytes)) = some (some (.agg #[.int .i64 0, .int .i64 0, .int .i64 0]), 3, 24) := by kernel_rfl
theorem info_parts3 {P : Program} {t : TypeId} {z : Option Value} {s b : Nat} (h : (P.info? t).map (fun i => (i.zero, i.size, i.bytes)) = some (z, s, b)) : ∃ i, P.info? t = some i ∧ i.zero = z ∧ i.size = s ∧ i.bytes = b := by
 cases hi : P.info? t with
 | none => rw [hi] at h; cases h
 | some i => rw [hi] at h; simp at h; exact ⟨i, rfl, h⟩
end
section
def doR (d : DeskN) (x : DeedN) : DeskN × Bool := if deskN d = true then doN d x else (⟨(0, 0), []⟩, false)
theorem doR_no {d : DeskN} {x : DeedN} (h : deskN d = false) : doR d x = (⟨(0, 0), []⟩, false) := by unfold doR; rw [if_neg (by rw [h]; decide)]
theorem doR_yes {d : DeskN} {x : DeedN} (h : deskN d = true) : doR d x = doN d x := by unfold doR; rw [if_pos h]
theorem doN_last (p q r s : Int) (M : List (Int × Int)) : doN ⟨(p, q), M ++ [(r, s)]⟩ ⟨4, 0, 0⟩ = (⟨(r, s), M⟩, true) := by simp [doN, backN]
theorem doN_not {p q k x y : Int} {L : List (Int × Int)} (hk : ¬ (k = 4 ∧ x = 0 ∧ y = 0)) (hm : ∀ r s, madeN (p, q) ⟨k, x, y⟩ = some (r, s) → pairB r s = false ∨ (r, s) = (p, q)) : doN ⟨(p, q), L⟩ ⟨k, x, y⟩ = (⟨(p, q), L⟩, false) := by
 unfold doN
 rw [if_neg (fun e => hk (by unfold backN at e; injection e with e1 e2 e3; exact ⟨e1, e2, e3⟩))]
 have ht : takenN (p, q) ⟨k, x, y⟩ = none := by
   cases h : takenN (p, q) ⟨k, x, y⟩ with
   | none => rfl
   | some r =>
     obtain ⟨h1, h2, h3⟩ := takenN_some h
     rcases hm r.1 r.2 h1 with h4 | h4
     · have : pairB r.1 r.2 = true := h2
       rw [h4] at this; cases this
     · exact absurd h4 h3
 show (match takenN (p, q) ⟨k, x, y⟩ with | some r => _ | none => _) = _
 rw [ht]
theorem doN_is {p q k x y r s : Int} {L : List (Int × Int)} (hm : madeN (p, q) ⟨k, x, y⟩ = some (r, s)) (hr : pairB r s = true) (hne : ¬ (r = p ∧ s = q)) : doN ⟨(p, q), L⟩ ⟨k, x, y⟩ = (⟨(r, s), (L ++ [(p, q)]).drop (L.length + 1 - 8)⟩, true) := by
 unfold doN
 rw [if_neg (fun e => by rw [e, backN_made] at hm; cases hm)]
 have ht : takenN (p, q) ⟨k, x, y⟩ = some (r, s) := by
   unfold takenN
   rw [hm, Option.filter_some, if_pos]
   have h1 : pairN (r, s) = true := hr
   have h2 : ((r, s) : Int × Int) ≠ (p, q) := fun e => hne (by injection e with e1 e2; exact ⟨e1, e2⟩)
   simp only [h1, h2, ne_eq, not_false_eq_true, decide_true, Bool.and_self]
 show (match takenN (p, q) ⟨k, x, y⟩ with | some r => _ | none => _) = _
 rw [ht]
def byN (p : Int × Int) (k a b : Int) : Int × Int := if k = 0 then (a, b) else if k = 1 then (-p.1, p.2) else if k = 2 then (p.1 + 1, p.2 + 1) else if k = 3 then (p.1 - 1, p.2 - 1) else p
def laidN (p q : Int) (L : List (Int × Int)) (r s : Int) : DeskN × Bool := if (r = p ∧ s = q) ∨ pairB r s = false then (⟨(p, q), L⟩, false) else (⟨(r, s), (L ++ [(p, q)]).drop (L.length + 1 - 8)⟩, true)
theorem madeN_other {p q k a b : Int} (hk : ¬ k = 0) (hab : ¬ (a = 0 ∧ b = 0)) : madeN (p, q) ⟨k, a, b⟩ = none := by
 unfold madeN
 rw [if_neg hk, if_neg hab]
theorem doN_laid {p q k a b : Int} {L : List (Int × Int)} (h : k = 0 ∨ (¬ k = 4 ∧ a = 0 ∧ b = 0)) : doN ⟨(p, q), L⟩ ⟨k, a, b⟩ = laidN p q L (byN (p, q) k a b).1 (byN (p, q) k a b).2 := by
 have hk4 : ¬ (k = 4 ∧ a = 0 ∧ b = 0) := by omega
 unfold laidN
 by_cases hm : madeN (p, q) ⟨k, a, b⟩ = none
 · have hby : byN (p, q) k a b = (p, q) := by
     unfold madeN at hm
     unfold byN
     by_cases h0 : k = 0
     · rw [if_pos h0] at hm; cases hm
     · rw [if_neg h0]
       rw [if_neg h0, if_pos (by rcases h with h | h; exact absurd h h0; exact h.2)] at hm
       by_cases h1 : k = 1
       · rw [if_pos h1] at hm; cases hm
       · rw [if_neg h1] at hm ⊢
         by_cases h2 : k = 2
         · rw [if_pos h2] at hm; cases hm
         · rw [if_neg h2] at hm ⊢
           by_cases h3 : k = 3
           · rw [if_pos h3] at hm; cases hm
           · rw [if_neg h3]
   rw [hby, if_pos (.inl ⟨rfl, rfl⟩)]
   exact doN_not hk4 (fun r s e => by rw [hm] at e; cases e)
 · have hby : madeN (p, q) ⟨k, a, b⟩ = some (byN (p, q) k a b) := by
     unfold madeN at hm ⊢
     unfold byN
     by_cases h0 : k = 0
     · rw [if_pos h0, if_pos h0]
     · rw [if_neg h0] at hm ⊢
       rw [if_neg h0]
       rw [if_pos (by rcases h with h | h; exact absurd h h0; exact h.2)] at hm ⊢
       by_cases h1 : k = 1
       · rw [if_pos h1, if_pos h1]
       · rw [if_neg h1] at hm ⊢
         rw [if_neg h1]
         by_cases h2 : k = 2
         · rw [if_pos h2, if_pos h2]
         · rw [if_neg h2] at hm ⊢
           rw [if_neg h2]
           by_cases h3 : k = 3
           · rw [if_pos h3, if_pos h3]
           · rw [if_neg h3] at hm; exact absurd rfl hm
   obtain ⟨r, s, hrs⟩ : ∃ r s, byN (p, q) k a b = (r, s) := ⟨_, _, rfl⟩
   rw [hrs] at hby ⊢
   dsimp only
   by_cases hc : (r = p ∧ s = q) ∨ pairB r s = false
   · rw [if_pos hc]
     refine doN_not hk4 (fun r' s' e => ?_)
     rw [hby] at e
     cases e
     rcases hc with ⟨h1, h2⟩ | hc
     · right; rw [h1, h2]
     · exact .inl hc
   · rw [if_neg hc]
     refine doN_is hby ?_ (fun e => hc (.inl e))
     cases hp : pairB r s with
     | true => rfl
     | false => exact absurd (.inr hp) hc
end
section
open Go.RowKit
theorem cells_of_cell' {W : World} {a : Addr} {v : Value} (h : W.cell? a = some v) : ∃ o : Obj, W.heap[a.block]? = some o ∧ True := by
 unfold World.cell? at h
 cases ho : W.heap[a.block]? with
 | none => simp [ho] at h
 | some o => exact ⟨o, rfl, trivial⟩
def Rd (w : World) (R : Nat) (k : Nat) : Prop :=
 ∃ (a : Option Addr) (len cap p : Nat), w.cell? ⟨R, 0, none⟩ = some (.slice a len cap) ∧ w.cell? ⟨R, 1, none⟩ = some (.int .i64 p) ∧ w.frozen? ⟨R, 1, none⟩ = false ∧ p ≤ k ∧ len ≤ 2000 ∧
   (len = 0 ∨ ∃ b off, a = some ⟨b, off, none⟩ ∧ b < R ∧ ∀ i, i < len → ∃ x : Int, 0 ≤ x ∧ x ≤ 255 ∧ w.cell? ⟨b, off + i, none⟩ = some (.int .u8 x))
theorem Rd.mono {w : World} {R k k' : Nat} (h : Rd w R k) (hk : k ≤ k') : Rd w R k' := by
 obtain ⟨a, len, cap, p, h0, h1, hf, hp, hl, hs⟩ := h
 exact ⟨a, len, cap, p, h0, h1, hf, by omega, hl, hs⟩
theorem Rd.lt {w : World} {R k : Nat} (h : Rd w R k) : R < w.heap.size := by
 obtain ⟨a, len, cap, p, h0, _⟩ := h
 obtain ⟨o, ho, _⟩ := cells_of_cell' h0
 exact (Array.getElem?_eq_some_iff.1 ho).1
theorem Rd.below {w w' : World} {R k B : Nat} (h : Rd w R k) (hb : Below B w w') (hB : w.heap.size ≤ B) : Rd w' R k := by
 have hlt := h.lt
 obtain ⟨a, len, cap, p, h0, h1, hf, hp, hl, hs⟩ := h
 refine ⟨a, len, cap, p, (hb.cell (p := ⟨R, 0, none⟩) (by show R < B; omega)).trans h0, (hb.cell (p := ⟨R, 1, none⟩) (by show R < B; omega)).trans h1, (hb.frozen (p := ⟨R, 1, none⟩) (by show R < B; omega)).trans hf, hp, hl, ?_⟩
 rcases hs with hs | ⟨b, off, ha, hne, hc⟩
 · exact .inl hs
 · refine .inr ⟨b, off, ha, hne, fun i hi => ?_⟩
   obtain ⟨x, hx0, hx1, hx⟩ := hc i hi
   obtain ⟨o, ho, _⟩ := cells_of_cell' hx
   have hbl : b < w.heap.size := (Array.getElem?_eq_some_iff.1 ho).1
   exact ⟨x, hx0, hx1, (hb.cell (p := ⟨b, off + i, none⟩) (by show b < B; omega)).trans hx⟩
theorem Rd.set {w : World} {R k : Nat} (h : Rd w R k) {q : Addr} (hq : R < q.block) (u : Value) : Rd (w.setCell q u) R k := by
 obtain ⟨a, len, cap, p, h0, h1, hf, hp, hl, hs⟩ := h
 have other : ∀ b o, b ≤ R → (w.setCell q u).cell? ⟨b, o, none⟩ = w.cell? ⟨b, o, none⟩ := fun b o hb => World.cell?_setCell_other w q ⟨b, o, none⟩ u (fun e => by rw [e] at hq; exact absurd hq (by show ¬ R < b; omega))
 refine ⟨a, len, cap, p, (other R 0 (Nat.le_refl _)).trans h0, (other R 1 (Nat.le_refl _)).trans h1, by rw [World.frozen?_setCell]; exact hf, hp, hl, ?_⟩
 rcases hs with hs | ⟨b, off, ha, hne, hc⟩
 · exact .inl hs
 · refine .inr ⟨b, off, ha, hne, fun i hi => ?_⟩
   obtain ⟨x, hx0, hx1, hx⟩ := hc i hi
   exact ⟨x, hx0, hx1, (other b (off + i) zO).trans hx⟩
theorem Rd.alloc {w : World} {R k : Nat} (h : Rd w R k) (o : Obj) : Rd (w.alloc o) R k := h.below ((Below.refl _ _).alloc (Nat.le_refl _) o) (Nat.le_refl _)
theorem Rd.asked {w : World} {R k : Nat} {a : Option Addr} {len cap p : Nat} (nq : Nat) (h0 : w.cell? ⟨R, 0, none⟩ = some (.slice a len cap)) (h1 : w.cell? ⟨R, 1, none⟩ = some (.int .i64 p)) (hf : w.frozen? ⟨R, 1, none⟩ = false) (hp : p ≤ k) (hl : len ≤ 2000)
   (hs : len = 0 ∨ ∃ b off, a = some ⟨b, off, none⟩ ∧ b < R ∧ ∀ i, i < len → ∃ x : Int, 0 ≤ x ∧ x ≤ 255 ∧ w.cell? ⟨b, off + i, none⟩ = some (.int .u8 x)) :
   Rd ((w.setCell ⟨R, 1, none⟩ (.int .i64 (p + 1))).drewN nq) R (k + 1) ∧ w.grownBy ((w.setCell ⟨R, 1, none⟩ (.int .i64 (p + 1))).drewN nq) (some R) := by
 refine ⟨⟨a, len, cap, p + 1, ?_, ?_, ?_, by omega, hl, ?_⟩, ⟨rfl, rfl, rfl, by simp [World.setCell], ?_⟩⟩
 · rw [World.cell?_drewN]; exact (World.cell?_setCell_other w ⟨R, 1, none⟩ ⟨R, 0, none⟩ _ (by simp)).trans h0
 · rw [World.cell?_drewN]; exact World.cell?_setCell_same' _ _ _ (by rw [h1]; rfl)
 · rw [World.frozen?_drewN, World.frozen?_setCell]; exact hf
 · rcases hs with hs | ⟨b, off, ha, hne, hc⟩
   · exact .inl hs
   · refine .inr ⟨b, off, ha, hne, fun i hi => ?_⟩
     obtain ⟨x, hx0, hx1, hx⟩ := hc i hi
     exact ⟨x, hx0, hx1, by rw [World.cell?_drewN]; exact (World.cell?_setCell_other w ⟨R, 1, none⟩ ⟨b, off + i, none⟩ _ (fun e => by injection e; omega)).trans hx⟩
 · intro j _ hj
   rw [World.heap_drewN]
   exact Below.heap_setCell _ _ _ _ (fun e => hj (by rw [e]))
def Picked (w : World) (R k : Nat) (n : Int) (e : Ending) (w' : World) : Prop :=
 ∃ v : Int, e = .returned (.int .i64 v) ∧ 0 ≤ v ∧ (v < n ∨ v = 0) ∧ Rd w' R (k + 1) ∧ w.grownBy w' (some R)
theorem xor_i64 (a b : Nat) (ha : a < 4611686018427387904) (hb : b < 4611686018427387904) : bits .xor .i64 (a : Int) (b : Int) = ((a ^^^ b : Nat) : Int) ∧ a ^^^ b < 4611686018427387904 := by
 have hx : a ^^^ b < 2 ^ 62 := Nat.xor_lt_two_pow zO zO
 have h1 : (BitVec.ofInt 64 (a : Int)).toNat = a := by rw [BitVec.ofInt_natCast, BitVec.toNat_ofNat]; exact Nat.mod_eq_of_lt zO
 have h2 : (BitVec.ofInt 64 (b : Int)).toNat = b := by rw [BitVec.ofInt_natCast, BitVec.toNat_ofNat]; exact Nat.mod_eq_of_lt zO
 refine ⟨?_, by omega⟩
 show IntKind.i64.wrap ((BitVec.ofInt 64 (a : Int) ^^^ BitVec.ofInt 64 (b : Int)).toNat : Int) = _
 rw [BitVec.toNat_xor, h1, h2, IntKind.wrap_i64]
 omega
theorem mix_i64 (X : Nat) (hX : X ≤ 10000000000000) : ∃ Z : Nat, Z < 4611686018427387904 ∧ bits .xor .i64 (X : Int) ((X : Int) / 64) = (Z : Int) := by
 have h := xor_i64 X (X / 64) zO zO
 exact ⟨_, h.2, h.1⟩
set_option maxHeartbeats 1000000 in
theorem pick_far (R : Nat) (n : Int) (w : World) (len cap p b off : Nat) (x y : Int) (hn : 1 ≤ n) (hn2 : n ≤ 1000000000)
  (h0 : w.cell? ⟨R, 0, none⟩ = some (.slice (some ⟨b, off, none⟩) len cap)) (h1 : w.cell? ⟨R, 1, none⟩ = some (.int .i64 p)) (hf : w.frozen? ⟨R, 1, none⟩ = false) (hp : p ≤ 1000000000)
  (hlen : 0 < len) (hlen2 : len ≤ 2000) (hge : len ≤ p) (hb : b ≠ R)
  (hx0 : 0 ≤ x) (hx1 : x ≤ 255) (hx : w.cell? ⟨b, off + p % len, none⟩ = some (.int .u8 x))
  (hy0 : 0 ≤ y) (hy1 : y ≤ 255) (hy : w.cell? ⟨b, off + (p * 7 + 3) % len, none⟩ = some (.int .u8 y)) :
   Calls Tryz.prog 41 #[.pointer (some ⟨R, 0, none⟩), .int .i64 n] w fun e w' => ∃ v : Int, e = .returned (.int .i64 v) ∧ 0 ≤ v ∧ (v < n ∨ v = 0) ∧ ∃ nq, w' = (w.setCell ⟨R, 1, none⟩ (.int .i64 (p + 1))).drewN nq := by
 have hlz : ((len : Int) == 0) = false := by simp; omega
 have k0 : (0 : Int) ≤ (p : Int) % (len : Int) := Int.emod_nonneg _ zO
 have k1 : (p : Int) % (len : Int) < (len : Int) := Int.emod_lt_of_pos _ zO
 have k2 : ((p : Int) % (len : Int)).toNat = p % len := by rw [← Int.natCast_emod]; rfl
 have j0 : (0 : Int) ≤ ((p : Int) * 7 + 3) % (len : Int) := Int.emod_nonneg _ zO
 have j1 : ((p : Int) * 7 + 3) % (len : Int) < (len : Int) := Int.emod_lt_of_pos _ zO
 have j2 : (((p : Int) * 7 + 3) % (len : Int)).toNat = (p * 7 + 3) % len := by
   have e : ((p : Int) * 7 + 3) % (len : Int) = (((p * 7 + 3) % len : Nat) : Int) := by rw [Int.natCast_emod]; rfl
   rw [e]; rfl
 have q0 : (0 : Int) ≤ (p : Int) / (len : Int) := Int.ediv_nonneg zO zO
 have q1 : (p : Int) / (len : Int) ≤ 1000000000 := Int.le_trans (Int.ediv_le_self _ zO) zO
 obtain ⟨X, hX⟩ : ∃ X : Nat, x * 131 + y * 1117 + (p : Int) * 29 + (p : Int) / (len : Int) * 53 = (X : Int) := ⟨_, (Int.toNat_of_nonneg zO).symm⟩
 have hX2 : X ≤ 10000000000000 := by omega
 obtain ⟨Z, hZ1, hZ⟩ := mix_i64 X hX2
 have r0 : (0 : Int) ≤ (Z : Int) % n := Int.emod_nonneg _ zO
 have r1 : (Z : Int) % n < n := Int.emod_lt_of_pos _ zO
 have HX := Lib.hid hX
 clear hX
 go_enter Tryz.func41, Tryz.ntmps41
 go_wp2
 go_quiet (fail)
 rw [HX.out]
 go_wp2
 go_ret
 exact ⟨_, rfl, r0, .inl r1, _, rfl⟩
set_option maxHeartbeats 1000000 in
theorem pick_near (R : Nat) (n : Int) (w : World) (len cap p b off : Nat) (x : Int) (hn : 1 ≤ n) (hn2 : n ≤ 1000000000)
  (h0 : w.cell? ⟨R, 0, none⟩ = some (.slice (some ⟨b, off, none⟩) len cap)) (h1 : w.cell? ⟨R, 1, none⟩ = some (.int .i64 p)) (hf : w.frozen? ⟨R, 1, none⟩ = false) (hp : p ≤ 1000000000)
  (hlen : 0 < len) (hlen2 : len ≤ 2000) (hge : p < len) (hb : b ≠ R)
  (hx0 : 0 ≤ x) (hx1 : x ≤ 255) (hx : w.cell? ⟨b, off + p, none⟩ = some (.int .u8 x)) :
   Calls Tryz.prog 41 #[.pointer (some ⟨R, 0, none⟩), .int .i64 n] w fun e w' => ∃ v : Int, e = .returned (.int .i64 v) ∧ 0 ≤ v ∧ (v < n ∨ v = 0) ∧ ∃ nq, w' = (w.setCell ⟨R, 1, none⟩ (.int .i64 (p + 1))).drewN nq := by
 have hlz : ((len : Int) == 0) = false := by simp; omega
 have r0 : (0 : Int) ≤ x % n := Int.emod_nonneg _ zO
 have r1 : x % n < n := Int.emod_lt_of_pos _ zO
 go_enter Tryz.func41, Tryz.ntmps41
 go_wp2
 go_ret
 exact ⟨_, rfl, r0, .inl r1, 0, rfl⟩
set_option maxHeartbeats 1000000 in
theorem pick_none (R : Nat) (n : Int) (w : World) (a : Option Addr) (cap p : Nat) (hn : 1 ≤ n)
  (h0 : w.cell? ⟨R, 0, none⟩ = some (.slice a 0 cap)) (h1 : w.cell? ⟨R, 1, none⟩ = some (.int .i64 p)) (hf : w.frozen? ⟨R, 1, none⟩ = false) (hp : p ≤ 1000000000) :
   Calls Tryz.prog 41 #[.pointer (some ⟨R, 0, none⟩), .int .i64 n] w fun e w' => ∃ v : Int, e = .returned (.int .i64 v) ∧ 0 ≤ v ∧ (v < n ∨ v = 0) ∧ ∃ nq, w' = (w.setCell ⟨R, 1, none⟩ (.int .i64 (p + 1))).drewN nq := by
 go_enter Tryz.func41, Tryz.ntmps41
 go_wp2
 go_ret
 exact ⟨_, rfl, by omega, .inr rfl, 0, rfl⟩
set_option maxHeartbeats 1000000 in
theorem pick_neg (R : Nat) (n : Int) (w : World) (p : Nat) (hn : n < 1) (h1 : w.cell? ⟨R, 1, none⟩ = some (.int .i64 p)) (hf : w.frozen? ⟨R, 1, none⟩ = false) (hp : p ≤ 1000000000) :
   Calls Tryz.prog 41 #[.pointer (some ⟨R, 0, none⟩), .int .i64 n] w fun e w' => ∃ v : Int, e = .returned (.int .i64 v) ∧ 0 ≤ v ∧ (v < n ∨ v = 0) ∧ ∃ nq, w' = (w.setCell ⟨R, 1, none⟩ (.int .i64 (p + 1))).drewN nq := by
 go_enter Tryz.func41, Tryz.ntmps41
 go_wp2
 go_ret
 exact ⟨_, rfl, by omega, .inr rfl, 0, rfl⟩
theorem pick_any (R k : Nat) (n : Int) (w : World) (h : Rd w R k) (hk : k ≤ 1000000000) (hn : n ≤ 1000000000) :
   Calls Tryz.prog 41 #[.pointer (some ⟨R, 0, none⟩), .int .i64 n] w (Picked w R k n) := by
 obtain ⟨a, len, cap, p, h0, h1, hf, hp, hl, hs⟩ := h
 have fin : ∀ e w', (∃ v : Int, e = .returned (.int .i64 v) ∧ 0 ≤ v ∧ (v < n ∨ v = 0) ∧ ∃ nq, w' = (w.setCell ⟨R, 1, none⟩ (.int .i64 (p + 1))).drewN nq) → Picked w R k n e w' := by
   rintro e w' ⟨v, rfl, hv0, hv1, nq, rfl⟩
   exact ⟨v, rfl, hv0, hv1, Rd.asked nq h0 h1 hf hp hl hs⟩
 by_cases hn1 : n < 1
 · exact (pick_neg R n w p hn1 h1 hf zO).mono fin
 · have hn' : 1 ≤ n := by omega
   rcases hs with rfl | ⟨b, off, rfl, hne, hc⟩
   · exact (pick_none R n w a cap p hn' h0 h1 hf zO).mono fin
   · by_cases hl0 : len = 0
     · subst hl0
       exact (pick_none R n w _ cap p hn' h0 h1 hf zO).mono fin
     · by_cases hlt : p < len
       · obtain ⟨x, hx0, hx1, hx⟩ := hc p hlt
         exact (pick_near R n w len cap p b off x hn' hn h0 h1 hf zO zO hl hlt zO hx0 hx1 hx).mono fin
       · obtain ⟨x, hx0, hx1, hx⟩ := hc (p % len) (Nat.mod_lt _ zO)
         obtain ⟨y, hy0, hy1, hy⟩ := hc ((p * 7 + 3) % len) (Nat.mod_lt _ zO)
         exact (pick_far R n w len cap p b off x y hn' hn h0 h1 hf zO zO hl zO zO hx0 hx1 hx hy0 hy1 hy).mono fin
end
section
open Go.RowKit
theorem gcell {W w1 : World} {R : Nat} (hg : W.grownBy w1 (some R)) : (∀ b o, b < W.heap.size → b ≠ R → w1.cell? ⟨b, o, none⟩ = W.cell? ⟨b, o, none⟩) ∧ (∀ b o, b < W.heap.size → b ≠ R → w1.frozen? ⟨b, o, none⟩ = W.frozen? ⟨b, o, none⟩) :=
 ⟨fun b o h hne => World.cell?_of_block (a := ⟨b, o, none⟩) (hg.block b h (by simpa using hne)), fun b o h hne => World.frozen?_of_block (a := ⟨b, o, none⟩) (hg.block b h (by simpa using hne))⟩
def IsRow (w : World) (a : Option Addr) (len cap : Nat) (zs : List Int) : Prop :=
 (a = none ∧ len = 0 ∧ cap = 0 ∧ zs = []) ∨
 ∃ x, a = some x ∧ len ≤ cap ∧ cap ≤ maxLen ∧ zs.length = cap ∧ (∀ i, i < zs.length → w.cell? (x.add i) = some (.int .u8 (zs.getD i 0))) ∧ ∀ n ∈ zs, (Lit.int .u8 n).wf = true
theorem byte_wf {n : Int} (h : (Lit.int .u8 n).wf = true) : 0 ≤ n ∧ n ≤ 255 := by
 have := h
 simp [Lit.wf, IntKind.min, IntKind.max, IntKind.signed, IntKind.bits] at this
 omega
theorem IsRow.cells {w : World} {a : Option Addr} {len cap : Nat} {zs : List Int} (h : IsRow w a len cap zs) : len = 0 ∨ ∃ b off, a = some ⟨b, off, none⟩ ∧ b < w.heap.size ∧ len ≤ cap ∧ cap ≤ maxLen ∧ ∀ i, i < len → ∃ x : Int, 0 ≤ x ∧ x ≤ 255 ∧ w.cell? ⟨b, off + i, none⟩ = some (.int .u8 x) := by
 rcases h with ⟨_, h, _, _⟩ | ⟨⟨b, off, spot⟩, rfl, hl, hm, hz, hc, hw⟩
 · exact .inl h
 · by_cases h0 : len = 0
   · exact .inl h0
   · have hc0 := hc 0 zO
     have hs : spot = none := by simpa [Addr.add] using World.cell?_spot hc0
     subst hs
     refine .inr ⟨b, off, rfl, ?_, hl, hm, fun i hi => ?_⟩
     · obtain ⟨o, ho, _⟩ := cells_of_cell' hc0
       exact (Array.getElem?_eq_some_iff.1 ho).1
     · have hz' : zs.getD i 0 ∈ zs := by
         rw [List.getD_eq_getElem?_getD, List.getElem?_eq_getElem zO]; simp
       have := byte_wf (hw _ hz')
       have hci := hc i zO
       refine ⟨_, this.1, this.2, ?_⟩
       by_cases hi0 : i = 0
       · subst hi0; simpa [Addr.add] using hci
       · simpa [Addr.add, hi0] using hci
def Opened (w : World) (e : Ending) (w' : World) : Prop :=
 e = .returned (.pointer (some ⟨w.heap.size, 0, none⟩)) ∧ Rd w' w.heap.size 0 ∧ Below w.heap.size w w' ∧ w.heap.size < w'.heap.size
theorem opened (w : World) (a : Option Addr) (len cap : Nat) (hl : len ≤ 2000)
   (hs : len = 0 ∨ ∃ b off, a = some ⟨b, off, none⟩ ∧ b < w.heap.size ∧ ∀ i, i < len → ∃ x : Int, 0 ≤ x ∧ x ≤ 255 ∧ w.cell? ⟨b, off + i, none⟩ = some (.int .u8 x)) :
   Opened w (.returned (.pointer (some ⟨w.heap.size, 0, none⟩))) (w.alloc (.cells #[.slice a len cap, .int .i64 0] 109)) := by
 have hb : Below w.heap.size w (w.alloc (.cells #[.slice a len cap, .int .i64 0] 109)) := (Below.refl _ _).alloc (Nat.le_refl _) _
 refine ⟨rfl, ⟨a, len, cap, 0, by simp [go_sem], by simp [go_sem], by simp [go_sem], Nat.le_refl _, hl, ?_⟩, hb, by simp⟩
 rcases hs with hs | ⟨b, off, ha, hlt, hc⟩
 · exact .inl hs
 · refine .inr ⟨b, off, ha, by omega, fun i hi => ?_⟩
   obtain ⟨x, hx0, hx1, hx⟩ := hc i hi
   exact ⟨x, hx0, hx1, (hb.cell (p := ⟨b, off + i, none⟩) hlt).trans hx⟩
set_option maxHeartbeats 400000 in
theorem open_any (w : World) (a : Option Addr) (len cap : Nat) (zs : List Int) (h : IsRow w a len cap zs) :
   Calls Tryz.prog 38 #[.slice a len cap] w (Opened w) := by
 rcases h.cells with rfl | ⟨b, off, rfl, hlt, hlc, hm, hc⟩
 · have H := Lib.hid (opened w a 0 cap zO (.inl rfl))
   go_enter Tryz.func38, Tryz.ntmps38
   go_wp2
   go_ret
   exact H.out
 · unfold maxLen at hm
   by_cases hbig : 2000 < len
   · have H := Lib.hid (opened w (some ⟨b, off, none⟩) 2000 cap zO (.inr ⟨b, off, rfl, hlt, fun i hi => hc i zO⟩))
     clear hc
     go_enter Tryz.func38, Tryz.ntmps38
     go_wp2
     go_ret
     exact H.out
   · have H := Lib.hid (opened w (some ⟨b, off, none⟩) len cap zO (.inr ⟨b, off, rfl, hlt, hc⟩))
     have hs : len ≤ 2000 := by omega
     clear hc
     go_enter Tryz.func38, Tryz.ntmps38
     go_wp2
     go_ret
     exact H.out
def PairDrawn (w : World) (R k m : Nat) (e : Ending) (w' : World) : Prop :=
 ∃ p q : Int, e = .returned (pr p q) ∧ -5 ≤ p ∧ p ≤ 100 ∧ -5 ≤ q ∧ q ≤ 100 ∧ Rd w' R (k + m) ∧ w.grownBy w' (some R)
def BoolDrawn (w : World) (R k : Nat) (e : Ending) (w' : World) : Prop :=
 ∃ b : Bool, e = .returned (.bool b) ∧ Rd w' R (k + 1) ∧ w.grownBy w' (some R)
set_option maxHeartbeats 400000 in
theorem odd_any (R k : Nat) (n : Int) (w : World) (h : Rd w R k) (hk : k ≤ 500000000) (hn : n ≤ 1000000) :
   Calls Tryz.prog 47 #[.pointer (some ⟨R, 0, none⟩), .int .i64 n] w (BoolDrawn w R k) := by
 by_cases hn0 : 0 < n
 · go_enter Tryz.func47, Tryz.ntmps47
   go_wp2_with fail
   refine (pick_any R k n _ h zO zO).mono ?_
   rintro e w1 ⟨v1, rfl, va1, vb1, hR1, hh1⟩
   have vc1 : v1 ≤ max (n - 1) 0 := by omega
   clear vb1
   obtain ⟨hc1, hf1⟩ := gcell hh1
   have hz1 := hh1.size
   try simp only [World.size_alloc] at hz1
   go_wp2
   go_ret
   exact ⟨_, rfl, hR1, hh1⟩
 · have hn1 : n ≤ 0 := by omega
   go_enter Tryz.func47, Tryz.ntmps47
   go_wp2
   go_ret
   exact ⟨_, rfl, h.mono zO, ⟨rfl, rfl, rfl, Nat.le_refl _, fun _ _ _ => rfl⟩⟩
end
section
open Go.RowKit
theorem gr_refl (w : World) (R : Nat) : w.grownBy w (some R) := ⟨rfl, rfl, rfl, Nat.le_refl _, fun _ _ _ => rfl⟩
theorem gr_trans {w w1 w2 : World} {R : Nat} (h : w.grownBy w1 (some R)) (k : w1.grownBy w2 (some R)) : w.grownBy w2 (some R) :=
 ⟨k.os.trans h.os, k.tape.trans h.tape, k.output.trans h.output, Nat.le_trans h.size k.size, fun j hj hne => (k.block j (Nat.lt_of_lt_of_le hj h.size) hne).trans (h.block j hj hne)⟩
theorem gr_below {w w1 w2 : World} {R : Nat} (h : w.grownBy w1 (some R)) (k : Below w1.heap.size w1 w2) : w.grownBy w2 (some R) :=
 ⟨k.os.trans h.os, k.tape.trans h.tape, k.output.trans h.output, Nat.le_trans h.size k.size, fun j hj hne => (k.block j (Nat.lt_of_lt_of_le hj h.size)).trans (h.block j hj hne)⟩
theorem gr_alloc {w w1 : World} {R : Nat} (h : w.grownBy w1 (some R)) (o : Obj) : w.grownBy (w1.alloc o) (some R) := gr_below h ((Below.refl _ _).alloc (Nat.le_refl _) o)
theorem gr_set {w w1 : World} {R : Nat} (h : w.grownBy w1 (some R)) {p : Addr} (hp : w.heap.size ≤ p.block) (v : Value) : w.grownBy (w1.setCell p v) (some R) :=
 ⟨h.os, h.tape, h.output, by simpa [World.setCell] using h.size, fun j hj hne => (Below.heap_setCell _ _ _ _ zO).trans (h.block j hj hne)⟩
theorem gr_drew {w w1 : World} {R : Nat} (h : w.grownBy w1 (some R)) : w.grownBy w1.drew (some R) := ⟨h.os, h.tape, h.output, h.size, h.block⟩
theorem seven {v : Int} (h0 : 0 ≤ v) (h1 : v ≤ 6) : v = 0 ∨ v = 1 ∨ v = 2 ∨ v = 3 ∨ v = 4 ∨ v = 5 ∨ v = 6 := by omega
theorem three {v : Int} (h0 : 0 ≤ v) (h1 : v ≤ 2) : v = 0 ∨ v = 1 ∨ v = 2 := by omega
set_option maxHeartbeats 4000000 in
theorem l20Pair_any (R k : Nat) (n : Int) (w : World) (h : Rd w R k) (hk : k ≤ 100000000) (hn : n ≤ 1000000) :
   Calls Tryz.prog 84 #[.pointer (some ⟨R, 0, none⟩), .int .i64 n] w (PairDrawn w R k 5) := by
 have hRlt := h.lt
 have hR0 : Rd (w.alloc (.cells #[.int .i64 0, .int .i64 0] 29)) R k := h.below ((Below.refl _ _).alloc (Nat.le_refl _) _) (Nat.le_refl _)
 go_enter Tryz.func84, Tryz.ntmps84
 go_wp2_with fail
 refine (pick_any R k 9 _ hR0 zO zO).mono ?_
 rintro e w1 ⟨v1, rfl, va1, vb1, hR1, hh1⟩
 have vc1 : v1 ≤ max (9 - 1) 0 := by omega
 clear vb1
 obtain ⟨hc1, hf1⟩ := gcell hh1
 have hz1 := hh1.size
 try simp only [World.size_alloc] at hz1
 have hz1_0 : w.heap.size < w1.heap.size := by omega
 have hn1_0 : ¬ w.heap.size = R := by omega
 have kb1_0_0 : w1.cell? ⟨w.heap.size, 0, none⟩ = some (.int .i64 0) := by go_simp
 have kf1_0_0 : w1.frozen? ⟨w.heap.size, 0, none⟩ = false := by go_simp
 have kb1_0_1 : w1.cell? ⟨w.heap.size, 1, none⟩ = some (.int .i64 0) := by go_simp
 have kf1_0_1 : w1.frozen? ⟨w.heap.size, 1, none⟩ = false := by go_simp
 clear hc1 hf1
 go_wp2_with fail
 refine (pick_any R (k + 1) 9 _ hR1 zO zO).mono ?_
 rintro e w2 ⟨v2, rfl, va2, vb2, hR2, hh2⟩
 have vc2 : v2 ≤ max (9 - 1) 0 := by omega
 clear vb2
 obtain ⟨hc2, hf2⟩ := gcell hh2
 have hz2 := hh2.size
 try simp only [World.size_alloc] at hz2
 have hz2_0 : w.heap.size < w2.heap.size := by omega
 have hn2_0 : ¬ w.heap.size = R := by omega
 have kb2_0_0 : w2.cell? ⟨w.heap.size, 0, none⟩ = some (.int .i64 0) := by go_simp
 have kf2_0_0 : w2.frozen? ⟨w.heap.size, 0, none⟩ = false := by go_simp
 have kb2_0_1 : w2.cell? ⟨w.heap.size, 1, none⟩ = some (.int .i64 0) := by go_simp
 have kf2_0_1 : w2.frozen? ⟨w.heap.size, 1, none⟩ = false := by go_simp
 clear hc2 hf2
 go_wp2_with fail
 refine (pick_any R (k + 1 + 1) 7 _ (hR2.below ((Below.refl _ _).alloc (Nat.le_refl _) _) (Nat.le_refl _)) zO zO).mono ?_
 rintro e w3 ⟨v3, rfl, va3, vb3, hR3, hh3⟩
 have vc3 : v3 ≤ max (7 - 1) 0 := by omega
 clear vb3
 obtain ⟨hc3, hf3⟩ := gcell hh3
 have hz3 := hh3.size
 try simp only [World.size_alloc] at hz3
 have hz3_0 : w.heap.size < w3.heap.size := by omega
 have hz3_1 : w2.heap.size < w3.heap.size := by omega
 have hn3_0 : ¬ w.heap.size = R := by omega
 have hn3_1 : ¬ w2.heap.size = R := by omega
 obtain ⟨a, b, ha0, ha1, hb0, hb1, cA, cB⟩ : ∃ a b : Int, -5 ≤ a ∧ a ≤ 100 ∧ -5 ≤ b ∧ b ≤ 100 ∧ w3.cell? ⟨w2.heap.size, (v3 / 2).toNat * 2, none⟩ = some (.int .i64 a) ∧ w3.cell? ⟨w2.heap.size, (v3 / 2).toNat * 2 + 1, none⟩ = some (.int .i64 b) := by
   rcases (show v3 / 2 = 0 ∨ v3 / 2 = 1 ∨ v3 / 2 = 2 ∨ v3 / 2 = 3 by omega) with e | e | e | e
   · rw [e]; exact ⟨1, -1, by omega, by omega, by omega, by omega, by go_simp, by go_simp⟩
   · rw [e]; exact ⟨2, -1, by omega, by omega, by omega, by omega, by go_simp, by go_simp⟩
   · rw [e]; exact ⟨3, 2, by omega, by omega, by omega, by omega, by go_simp, by go_simp⟩
   · rw [e]; exact ⟨v1 - 4, v2 - 4, by omega, by omega, by omega, by omega, by go_simp, by go_simp⟩
 have q0 : (0 : Int) ≤ v3 / 2 := by omega
 have q1 : v3 / 2 < 4 := by omega
 have kb3_0_0 : w3.cell? ⟨w.heap.size, 0, none⟩ = some (.int .i64 0) := by go_simp
 have kf3_0_0 : w3.frozen? ⟨w.heap.size, 0, none⟩ = false := by go_simp
 have kb3_0_1 : w3.cell? ⟨w.heap.size, 1, none⟩ = some (.int .i64 0) := by go_simp
 have kf3_0_1 : w3.frozen? ⟨w.heap.size, 1, none⟩ = false := by go_simp
 clear hc3 hf3
 go_wp2_with fail
 refine (odd_any R (k + 1 + 1 + 1) n _ (hR3.below ((Below.refl _ _).alloc (Nat.le_refl _) _) (Nat.le_refl _)) zO hn).mono ?_
 rintro e w4 ⟨bb, rfl, hR4, hh4⟩
 obtain ⟨hc4, hf4⟩ := gcell hh4
 have hz4 := hh4.size
 try simp only [World.size_alloc] at hz4
 have hz4_0 : w.heap.size < w4.heap.size := by omega
 have hz4_1 : w3.heap.size < w4.heap.size := by omega
 have hn4_0 : ¬ w.heap.size = R := by omega
 have hn4_1 : ¬ w3.heap.size = R := by omega
 have kb4_0_0 : w4.cell? ⟨w.heap.size, 0, none⟩ = some (.int .i64 0) := by go_simp
 have kf4_0_0 : w4.frozen? ⟨w.heap.size, 0, none⟩ = false := by go_simp
 have kb4_0_1 : w4.cell? ⟨w.heap.size, 1, none⟩ = some (.int .i64 0) := by go_simp
 have kf4_0_1 : w4.frozen? ⟨w.heap.size, 1, none⟩ = false := by go_simp
 have kb4_1_0 : w4.cell? ⟨w3.heap.size, 0, none⟩ = some (.int .i64 a) := by go_simp
 have kf4_1_0 : w4.frozen? ⟨w3.heap.size, 0, none⟩ = false := by go_simp
 have kb4_1_1 : w4.cell? ⟨w3.heap.size, 1, none⟩ = some (.int .i64 b) := by go_simp
 have kf4_1_1 : w4.frozen? ⟨w3.heap.size, 1, none⟩ = false := by go_simp
 clear hc4 hf4
 cases bb with
 | false =>
   go_wp2
   refine bodyPost_ret (v := pr (a) (b)) (by simp [results, Tryz.results84, go_sem, kb4_0_0, kb4_0_1]) rfl ⟨_, _, rfl, by omega, by omega, by omega, by omega, ?_, ?_⟩
   · refine Rd.mono (k := k + 1 + 1 + 1 + 1) ?_ (show k + 1 + 1 + 1 + 1 ≤ k + 5 by omega)
     (repeat (first | assumption | refine Rd.set ?_ zo _ | refine Rd.alloc ?_ _ | refine Rd.below ?_ (by assumption) (Nat.le_refl _)))
   · (repeat (first | exact gr_refl _ _ | refine gr_set ?_ zo _ | refine gr_alloc ?_ _ | refine gr_trans ?_ (by assumption) | refine gr_below ?_ (by assumption)))
 | true =>
   go_wp2_with fail
   refine (pick_any R (k + 1 + 1 + 1 + 1) 3 _ (hR4.below ((Below.refl _ _).alloc (Nat.le_refl _) _) (Nat.le_refl _)) zO zO).mono ?_
   rintro e w5 ⟨v5, rfl, va5, vb5, hR5, hh5⟩
   have vc5 : v5 ≤ max (3 - 1) 0 := by omega
   clear vb5
   obtain ⟨hc5, hf5⟩ := gcell hh5
   have hz5 := hh5.size
   try simp only [World.size_alloc] at hz5
   have hz5_0 : w.heap.size < w5.heap.size := by omega
   have hz5_1 : w4.heap.size < w5.heap.size := by omega
   have hn5_0 : ¬ w.heap.size = R := by omega
   have hn5_1 : ¬ w4.heap.size = R := by omega
   have kb5_0_0 : w5.cell? ⟨w.heap.size, 0, none⟩ = some (.int .i64 0) := by go_simp
   have kf5_0_0 : w5.frozen? ⟨w.heap.size, 0, none⟩ = false := by go_simp
   have kb5_0_1 : w5.cell? ⟨w.heap.size, 1, none⟩ = some (.int .i64 0) := by go_simp
   have kf5_0_1 : w5.frozen? ⟨w.heap.size, 1, none⟩ = false := by go_simp
   have kb5_1_0 : w5.cell? ⟨w4.heap.size, 0, none⟩ = some (.int .i64 5) := by go_simp
   have kf5_1_0 : w5.frozen? ⟨w4.heap.size, 0, none⟩ = false := by go_simp
   have kb5_1_1 : w5.cell? ⟨w4.heap.size, 1, none⟩ = some (.int .i64 0) := by go_simp
   have kf5_1_1 : w5.frozen? ⟨w4.heap.size, 1, none⟩ = false := by go_simp
   have kb5_1_2 : w5.cell? ⟨w4.heap.size, 2, none⟩ = some (.int .i64 0) := by go_simp
   have kf5_1_2 : w5.frozen? ⟨w4.heap.size, 2, none⟩ = false := by go_simp
   have kb5_1_3 : w5.cell? ⟨w4.heap.size, 3, none⟩ = some (.int .i64 (-5)) := by go_simp
   have kf5_1_3 : w5.frozen? ⟨w4.heap.size, 3, none⟩ = false := by go_simp
   have kb5_1_4 : w5.cell? ⟨w4.heap.size, 4, none⟩ = some (.int .i64 100) := by go_simp
   have kf5_1_4 : w5.frozen? ⟨w4.heap.size, 4, none⟩ = false := by go_simp
   have kb5_1_5 : w5.cell? ⟨w4.heap.size, 5, none⟩ = some (.int .i64 100) := by go_simp
   have kf5_1_5 : w5.frozen? ⟨w4.heap.size, 5, none⟩ = false := by go_simp
   clear hc5 hf5
   rcases three va5 zO with rfl | rfl | rfl
   · go_wp2
     refine bodyPost_ret (v := pr (5) (0)) (by simp [results, Tryz.results84, go_sem, kb5_0_0, kb5_0_1]) rfl ⟨_, _, rfl, by omega, by omega, by omega, by omega, ?_, ?_⟩
     · refine Rd.mono (k := k + 1 + 1 + 1 + 1 + 1) ?_ (show k + 1 + 1 + 1 + 1 + 1 ≤ k + 5 by omega)
       (repeat (first | assumption | refine Rd.set ?_ zo _ | refine Rd.alloc ?_ _ | refine Rd.below ?_ (by assumption) (Nat.le_refl _)))
     · (repeat (first | exact gr_refl _ _ | refine gr_set ?_ zo _ | refine gr_alloc ?_ _ | refine gr_trans ?_ (by assumption) | refine gr_below ?_ (by assumption)))
   · go_wp2
     refine bodyPost_ret (v := pr (0) (-5)) (by simp [results, Tryz.results84, go_sem, kb5_0_0, kb5_0_1]) rfl ⟨_, _, rfl, by omega, by omega, by omega, by omega, ?_, ?_⟩
     · refine Rd.mono (k := k + 1 + 1 + 1 + 1 + 1) ?_ (show k + 1 + 1 + 1 + 1 + 1 ≤ k + 5 by omega)
       (repeat (first | assumption | refine Rd.set ?_ zo _ | refine Rd.alloc ?_ _ | refine Rd.below ?_ (by assumption) (Nat.le_refl _)))
     · (repeat (first | exact gr_refl _ _ | refine gr_set ?_ zo _ | refine gr_alloc ?_ _ | refine gr_trans ?_ (by assumption) | refine gr_below ?_ (by assumption)))
   · go_wp2
     refine bodyPost_ret (v := pr (100) (100)) (by simp [results, Tryz.results84, go_sem, kb5_0_0, kb5_0_1]) rfl ⟨_, _, rfl, by omega, by omega, by omega, by omega, ?_, ?_⟩
     · refine Rd.mono (k := k + 1 + 1 + 1 + 1 + 1) ?_ (show k + 1 + 1 + 1 + 1 + 1 ≤ k + 5 by omega)
       (repeat (first | assumption | refine Rd.set ?_ zo _ | refine Rd.alloc ?_ _ | refine Rd.below ?_ (by assumption) (Nat.le_refl _)))
     · (repeat (first | exact gr_refl _ _ | refine gr_set ?_ zo _ | refine gr_alloc ?_ _ | refine gr_trans ?_ (by assumption) | refine gr_below ?_ (by assumption)))
end
section
open Go.RowKit
theorem IsRow.below {w w' : World} {a : Option Addr} {len cap : Nat} {zs : List Int} (h : IsRow w a len cap zs) (hb : Below w.heap.size w w') : IsRow w' a len cap zs := by
 rcases h with h | ⟨x, rfl, hl, hm, hz, hc, hw⟩
 · exact .inl h
 · refine .inr ⟨x, rfl, hl, hm, hz, fun i hi => ?_, hw⟩
   have hci := hc i hi
   obtain ⟨o, ho, _⟩ := cells_of_cell' hci
   exact (hb.cell (Array.getElem?_eq_some_iff.1 ho).1).trans hci
end
section
open Go.RowKit
set_option maxHeartbeats 400000 in
theorem alive_any (w : World) : Calls Tryz.prog 19 #[] w fun e w' => e = .returned (.bool true) ∧ Below w.heap.size w w' := by
 go_enter Tryz.func19, Tryz.ntmps19
 go_wp2_with fail
 refine (implPairOk_yes 1 (-1) _ zd).mono ?_
 rintro e w1 ⟨rfl, hh1⟩
 obtain ⟨hc1, hf1⟩ := bcell hh1
 have hz1 := hh1.size
 try simp only [World.size_alloc] at hz1
 go_wp2_with fail
 refine (implPairOk_no 5 0 _ zd).mono ?_
 rintro e w2 ⟨rfl, hh2⟩
 obtain ⟨hc2, hf2⟩ := bcell hh2
 have hz2 := hh2.size
 try simp only [World.size_alloc] at hz2
 go_wp2
 go_ret
 exact ⟨rfl, by exact zb⟩
theorem implTurned_yes (p q : Int) (w : World) (h : pairB p q = true) : Calls Tryz.prog 122 #[pr p q] w fun e w' => e = .returned (pr (-p) q) ∧ Below w.heap.size w w' := by
 have := implTurned_any p q w; rw [turnP, if_pos h, turnQ, if_pos h] at this; exact this
end
section
open Go.RowKit
set_option maxHeartbeats 2000000 in
theorem implDeskOk_any (B C : Nat) (p0 q0 : Int) (L : List (Int × Int)) (v : Value) (w : World) (h : IsPairs B C w v L) (hn : L.length ≤ 1048600) :
   Calls Tryz.prog 23 #[.agg #[.int .i64 p0, .int .i64 q0, v]] w fun e w' => e = .returned (.bool (deskN ⟨(p0, q0), L⟩)) ∧ Below w.heap.size w w' := by
 obtain ⟨a, cap, rfl, hC, hs⟩ := h
 have hmk : ∀ b : Bool, deskN ⟨(p0, q0), L⟩ = b → Ending.returned (.bool b) = .returned (.bool (deskN ⟨(p0, q0), L⟩)) := fun b e => by rw [e]
 replace hmk := Lib.hid hmk
 cases hb : pairB p0 q0 with
 | false =>
   clear hs
   go_enter Tryz.func23, Tryz.ntmps23
   go_wp2_with (go_at_call 60; refine (implPairOk_no p0 q0 _ hb).mono ?_; rintro e w1 ⟨rfl, hb1⟩; obtain ⟨hc1, hf1⟩ := bcell hb1; have hz1 := hb1.size)
   go_ret
   refine ⟨hmk.out _ ?_, ((Below.refl _ _).alloc (Nat.le_refl _) _).trans (hb1.mono (by simp))⟩
   simp [deskN, pairN, hb]
 | true =>
   by_cases h8 : 8 < L.length
   · have h8i : (8 : Int) < (L.length : Int) := by omega
     have h8b : decide ((8 : Int) < (L.length : Int)) = true := by simp; omega
     clear hs
     go_enter Tryz.func23, Tryz.ntmps23
     go_wp2_with (go_at_call 60; refine (implPairOk_yes p0 q0 _ hb).mono ?_; rintro e w1 ⟨rfl, hb1⟩; obtain ⟨hc1, hf1⟩ := bcell hb1; have hz1 := hb1.size; simp at hz1; have hz1a : w.heap.size < w1.heap.size := zO)
     go_ret
     refine ⟨hmk.out _ ?_, ((Below.refl _ _).alloc (Nat.le_refl _) _).trans (hb1.mono (by simp))⟩
     simp [deskN]
     omega
   · have h8i : (L.length : Int) ≤ 8 := by omega
     have h8b : decide ((8 : Int) < (L.length : Int)) = false := by simp; omega
     go_enter Tryz.func23, Tryz.ntmps23
     go_wp2_with (go_at_call 60; refine (implPairOk_yes p0 q0 _ hb).mono ?_; rintro e w1 ⟨rfl, hb1⟩; obtain ⟨hc1, hf1⟩ := bcell hb1; have hz1 := hb1.size; simp at hz1; have hz1a : w.heap.size < w1.heap.size := zO)
     have HB1 := Lib.hid (((Below.refl w.heap.size w).alloc (Nat.le_refl _) (.cells #[.int .i64 p0, .int .i64 q0, .slice a L.length cap] 32)).trans (hb1.mono (by simp)))
     go_loopw [18] (fun k wr => ∃ i : Nat, i ≤ L.length ∧ k = .int .i64 i ∧ (∀ (j : Nat) (p : Int × Int), j < i → L[j]? = some p → pairN p = true) ∧ Below w.heap.size w wr) (fun k _ => L.length - (intOf k).toNat)
     case atStart => exact ⟨0, Nat.zero_le _, rfl, fun j p hj => absurd hj zO, HB1.out⟩
     case round =>
       obtain ⟨i, hi, rfl, hall, hB⟩ := hrel
       by_cases hlt : i < L.length
       · rcases hs with rfl | ⟨g, off, rfl, h1, h2, hc, hf⟩
         · simp at hlt
         obtain ⟨⟨x, y⟩, hp⟩ : ∃ p, L[i]? = some p := ⟨L[i], by simp [hlt]⟩
         have c1 : wr.cell? ⟨g, off + i * 2, none⟩ = some (.int .i64 x) := (hB.cell (p := ⟨g, off + i * 2, none⟩) (by show g < _; omega)).trans (hc i _ hp).1
         have c2 : wr.cell? ⟨g, off + i * 2 + 1, none⟩ = some (.int .i64 y) := (hB.cell (p := ⟨g, off + i * 2 + 1, none⟩) (by show g < _; omega)).trans (hc i _ hp).2
         have hii : (i : Int) < (L.length : Int) := by omega
         have i0 : (0 : Int) ≤ (i : Int) := by omega
         have hwz := hB.size
         have HA := Lib.hid hall
         have HP := Lib.hid hp
         clear hc hf hall hp hc1 hf1 hb1
         cases hbb : pairB x y with
         | true =>
           go_wp2_with (go_at_call 60; refine (implPairOk_yes x y _ hbb).mono ?_; rintro e w2 ⟨rfl, hb2⟩; obtain ⟨hc2, hf2⟩ := bcell hb2; have hz2 := hb2.size)
           go_roundw
           case rel =>
             refine ⟨i + 1, by omega, congrArg (Value.int .i64) zO, fun j p hj hp' => ?_, (hB.alloc zO _).trans (hb2.mono (by simp; omega))⟩
             rcases Nat.lt_or_ge j i with hj' | hj'
             · exact HA.out j p hj' hp'
             · have hji : j = i := by omega
               rw [hji, HP.out] at hp'
               cases hp'
               exact hbb
           case measure => simp [intOf]; omega
         | false =>
           go_wp2_with (go_at_call 60; refine (implPairOk_no x y _ hbb).mono ?_; rintro e w2 ⟨rfl, hb2⟩; obtain ⟨hc2, hf2⟩ := bcell hb2; have hz2 := hb2.size)
           go_ret
           refine ⟨hmk.out _ ?_, (hB.alloc zO _).trans (hb2.mono (by simp; omega))⟩
           cases hd : deskN ⟨(p0, q0), L⟩ with
           | false => rfl
           | true =>
             have := (deskN_of hd).2.2 _ (List.mem_of_getElem? HP.out)
             exact absurd (this.symm.trans hbb) zd
       · obtain rfl : i = L.length := by omega
         have HA := Lib.hid (show deskN ⟨(p0, q0), L⟩ = true from deskN_mk hb (by show L.length ≤ 8; omega) (fun p hp => by
           obtain ⟨j, hj, rfl⟩ := List.mem_iff_getElem.1 hp
           exact hall j _ hj (by simp [hj])))
         clear hall hs hc1 hf1 hb1
         go_wp2
         go_ret
         exact ⟨hmk.out _ HA.out, hB⟩
theorem namesNone_yes (k : Int) (w : World) : Calls Tryz.prog 56 #[.agg #[.int .i64 k, .int .i64 0, .int .i64 0]] w fun e w' => e = .returned (.bool true) ∧ Below w.heap.size w w' := by
 go_enter Tryz.func56, Tryz.ntmps56
 go_wp2
 go_ret
 exact ⟨rfl, (Below.refl _ _).alloc (Nat.le_refl _) _⟩
theorem namesNone_no (k a b : Int) (w : World) (h : ¬ (a = 0 ∧ b = 0)) : Calls Tryz.prog 56 #[.agg #[.int .i64 k, .int .i64 a, .int .i64 b]] w fun e w' => e = .returned (.bool false) ∧ Below w.heap.size w w' := by
 by_cases ha : a = 0
 · subst ha
   have hb : ¬ b = 0 := fun e => h ⟨rfl, e⟩
   clear h
   go_enter Tryz.func56, Tryz.ntmps56
   go_wp2
   go_ret
   exact ⟨ret_bool (by simp_all), (Below.refl _ _).alloc (Nat.le_refl _) _⟩
 · clear h
   go_enter Tryz.func56, Tryz.ntmps56
   go_wp2
   go_ret
   exact ⟨ret_bool (by simp_all), (Below.refl _ _).alloc (Nat.le_refl _) _⟩
end
section
open Go.RowKit
set_option maxRecDepth 100000 in
theorem own_grown {w : World} {base n : Nat} {e : TypeId} (hb : base ≤ w.heap.size) (hn : n ≤ maxLen) : (w.drew.alloc (.cells (Builtin.zeroCells #[.int .i64 0, .int .i64 0] n ++ Builtin.zeroCells #[.int .i64 0, .int .i64 0] (grownCap w n 0 e - n)) e)).ownsRow base e 2 (.slice (some ⟨w.heap.size, 0, none⟩) 0 (grownCap w n 0 e)) 0 [] := by
 have h1 := grownCap_ge w n 0 e
 have h2 := grownCap_le_maxLen w n 0 e hn
 refine ⟨rfl, .inr ⟨w.heap.size, _, _, rfl, hb, heap_alloc_new w.drew _, Nat.zero_le _, h2, ?_, rfl⟩⟩
 simp only [Array.size_append, size_zeroCells]
 show n * 2 + (grownCap w n 0 e - n) * 2 = _
 omega
set_option maxRecDepth 100000 in
set_option maxHeartbeats 1000000 in
theorem growNil_any (n : Nat) (w : World) (h1 : 1 ≤ n) (h2 : n ≤ 2000000) :
   Calls Tryz.prog 157 #[.slice none 0 0, .int .i64 n] w fun e w' => ∃ g c, e = .returned (.slice (some ⟨g, 0, none⟩) 0 c) ∧ w'.ownsRow w.heap.size 29 2 (.slice (some ⟨g, 0, none⟩) 0 c) 0 [] ∧ Below w.heap.size w w' := by
 obtain ⟨i0, hi0, hz0, hzs1, hz2⟩ := info_parts info_pair
 have hr := Lib.run_append_nil_zeros (P := Tryz.prog) w 30 3 30 29 i0 _ .i64 .i64 Tryz.underlying30 Tryz.underlying3 hi0 hz0 n h1 zO zO (by rw [hz2]; omega)
 have HR := Lib.hid hr
 have HO := Lib.hid (own_grown (w := w) (base := w.heap.size) (n := n) (e := 29) (Nat.le_refl _) (by unfold maxLen; omega))
 have W1 : IntKind.i64.wrap (n : Int) = (n : Int) := by rw [IntKind.wrap_i64]; omega
 have hni : (0 : Int) < (n : Int) := by omega
 clear hr
 go_enter Tryz.func157, Tryz.ntmps157
 go_wp2_with (at_builtin; refine Lib.wpList_append_run _ rfl _ _ _ _ rfl _ _ rfl rfl _ _ HR.out ?_)
 go_ret
 exact ⟨w.heap.size, grownCap w n 0 29, rfl, HO.out, ((Below.refl _ _).alloc (Nat.le_refl _) _).drew⟩
def CatOf (X : List (Int × Int)) (w : World) (e : Ending) (w' : World) : Prop :=
 ∃ a c, e = .returned (.slice a X.length c) ∧ w'.ownsRow w.heap.size 29 2 (.slice a X.length c) X.length (pairCells X) ∧ Below w.heap.size w w'
set_option maxRecDepth 100000 in
set_option maxHeartbeats 2000000 in
theorem concat_any (V B C B' C' : Nat) (v u : Value) (L M : List (Int × Int)) (w : World) (h : IsPairs B C w v L) (k : IsPairs B' C' w u M) (hn : L.length ≤ 100000) (hm : M.length ≤ 100000) (h1 : 1 ≤ L.length + M.length) (v0 : w.cell? ⟨V, 0, none⟩ = some v) (v1 : w.cell? ⟨V, 1, none⟩ = some u) :
   Calls Tryz.prog 121 #[.slice (some ⟨V, 0, none⟩) 2 2] w (CatOf (L ++ M) w) := by
 obtain ⟨i0, hi0, hz0, hzs1, hz2⟩ := info_parts info_pair
 obtain ⟨a, ca, rfl, hC, _⟩ := id h
 obtain ⟨b, cb, rfl, hC', _⟩ := id k
 have H := Lib.hid h
 have K := Lib.hid k
 have W1 : IntKind.i64.wrap ((L.length : Int) + (M.length : Int)) = (L.length : Int) + (M.length : Int) := by rw [IntKind.wrap_i64]; omega
 have W2 : IntKind.i64.wrap (L.length : Int) = (L.length : Int) := by rw [IntKind.wrap_i64]; omega
 have n1 : ¬ ((L.length : Int) + (M.length : Int) < 0) := by omega
 have n2 : ¬ ((L.length : Int) < 0) := by omega
 have hV : V < w.heap.size := World.block_lt_of_cell? w _ v0
 have HG := Lib.hid (fun w => (by have := growNil_any (L.length + M.length) w h1 zO; rwa [Int.natCast_add] at this : Calls Tryz.prog 157 #[.slice none 0 0, .int .i64 ((L.length : Int) + (M.length : Int))] w fun e w' => ∃ g c, e = .returned (.slice (some ⟨g, 0, none⟩) 0 c) ∧ w'.ownsRow w.heap.size 29 2 (.slice (some ⟨g, 0, none⟩) 0 c) 0 [] ∧ Below w.heap.size w w'))
 have HC := Lib.hid (show pairCells L ++ pairCells M = pairCells (L ++ M) from pairCells_append L M)
 have HLn := Lib.hid (show (L ++ M).length = L.length + M.length by simp)
 clear h k h1
 go_enter Tryz.func121, Tryz.ntmps121
 go_wp2_with fail
 go_loop [3, 5, 11] (fun x3 x5 x11 => ∃ i : Nat, i ≤ 2 ∧ x11 = .int .i64 i ∧ x3 = .int .i64 (if i = 0 then 0 else if i = 1 then (L.length : Int) else (L.length : Int) + (M.length : Int))) (fun _ _ x11 => 2 - (intOf x11).toNat)
 case atStart => exact ⟨0, by omega, rfl, rfl⟩
 case round =>
   obtain ⟨i, hi, rfl, rfl⟩ := hrel
   rcases (show i = 0 ∨ i = 1 ∨ i = 2 by omega) with rfl | rfl | rfl
   · go_wp2_with fail
     go_round
     case rel => exact ⟨1, by omega, rfl, rfl⟩
     case measure => simp [intOf]
   · go_wp2_with fail
     go_round
     case rel => exact ⟨2, by omega, rfl, rfl⟩
     case measure => simp [intOf]
   · go_wp2_with fail
     refine (HG.out _).mono ?_
     rintro e w1 ⟨g1, c1, rfl, hown1, hb1⟩
     have v0' := cell_belowP hb1 v0
     have v1' := cell_belowP hb1 v1
     have HO1 := Lib.hid hown1
     have HB1 := Lib.hid hb1
     clear hown1 hb1 v0 v1
     go_wp2_with fail
     go_loopw [6, 8, 27] (fun x6 x8 x27 wr => ∃ (i N : Nat) (X : List (Int × Int)) (a6 : Option Addr) (c6 : Nat), i ≤ 2 ∧ x27 = .int .i64 i ∧ x6 = .slice a6 N c6 ∧ Hid (wr.ownsRow w.heap.size 29 2 (.slice a6 N c6) N (pairCells X) ∧ (i = 0 → N = 0 ∧ X = []) ∧ (i = 1 → N = L.length ∧ L = X) ∧ (i = 2 → N = L.length + M.length ∧ X = L ++ M)) ∧ Below w.heap.size w wr ∧ wr.cell? ⟨V, 0, none⟩ = some (.slice a L.length ca) ∧ wr.cell? ⟨V, 1, none⟩ = some (.slice b M.length cb)) (fun _ _ x27 _ => 2 - (intOf x27).toNat)
     case atStart => exact ⟨0, 0, [], some ⟨g1, 0, none⟩, c1, by omega, rfl, rfl, Lib.hid ⟨HO1.out, fun _ => ⟨rfl, rfl⟩, fun e => by omega, fun e => by omega⟩, HB1.out, v0', v1'⟩
     case round =>
       obtain ⟨i, N, X, a6, c6, hi, rfl, rfl, HX, hB, u0, u1⟩ := hrel
       rcases (show i = 0 ∨ i = 1 ∨ i = 2 by omega) with rfl | rfl | rfl
       · obtain ⟨hown, hx, _, _⟩ := id HX.out
         obtain ⟨rfl, rfl⟩ := hx rfl
         have HB := Lib.hid hB
         have hbz := hB.size
         clear hB HX hx
         go_wp2_with (at_builtin; refine wpList_append_pairs _ rfl _ _ 30 rfl w.heap.size 29 i0 _ 16 Tryz.underlying30 hi0 hz0 hzs1 hz2 rfl (.slice a6 0 c6) 0 [] rfl hown B C _ L rfl (H.out.below HB.out hC) (L.length) zO (pairCells L) rfl (by unfold maxLen; omega) zO hbz ?_)
         intro a7 c7 w7 hown7 hgrow7 hat7
         have u0' := (hgrow7.cell_far ⟨V, 0, none⟩ (World.block_lt_of_cell? wr _ u0) (fun e => by have := (hown.lt _ e.symm).1; simp at this; omega)).trans u0
         have u1' := (hgrow7.cell_far ⟨V, 1, none⟩ (World.block_lt_of_cell? wr _ u1) (fun e => by have := (hown.lt _ e.symm).1; simp at this; omega)).trans u1
         have HB7 := Lib.hid (HB.out.grown hgrow7 hbz (fun k e => (hown.lt k e).1))
         have HO7 := Lib.hid hown7
         clear hown7 hgrow7 hat7 hown u0 u1
         go_wp2_with fail
         go_roundw
         case rel => exact ⟨1, _, L, a7, c7, by omega, rfl, rfl, Lib.hid ⟨HO7.out, fun e => by omega, fun _ => ⟨rfl, rfl⟩, fun e => by omega⟩, HB7.out, u0', u1'⟩
         case measure => simp [intOf]
       · obtain ⟨hown, _, hx, _⟩ := id HX.out
         obtain ⟨rfl, rfl⟩ := hx rfl
         have HB := Lib.hid hB
         have hbz := hB.size
         clear hB HX hx
         go_wp2_with (at_builtin; refine wpList_append_pairs _ rfl _ _ 30 rfl w.heap.size 29 i0 _ 16 Tryz.underlying30 hi0 hz0 hzs1 hz2 rfl (.slice a6 L.length c6) L.length (pairCells L) rfl hown B' C' _ M rfl (K.out.below HB.out hC') (L.length + M.length) zO (pairCells (L ++ M)) HC.out (by unfold maxLen; omega) zO hbz ?_)
         intro a7 c7 w7 hown7 hgrow7 hat7
         have u0' := (hgrow7.cell_far ⟨V, 0, none⟩ (World.block_lt_of_cell? wr _ u0) (fun e => by have := (hown.lt _ e.symm).1; simp at this; omega)).trans u0
         have u1' := (hgrow7.cell_far ⟨V, 1, none⟩ (World.block_lt_of_cell? wr _ u1) (fun e => by have := (hown.lt _ e.symm).1; simp at this; omega)).trans u1
         have HB7 := Lib.hid (HB.out.grown hgrow7 hbz (fun k e => (hown.lt k e).1))
         have HO7 := Lib.hid hown7
         clear hown7 hgrow7 hat7 hown u0 u1
         go_wp2_with fail
         go_roundw
         case rel => exact ⟨2, _, L ++ M, a7, c7, by omega, rfl, rfl, Lib.hid ⟨HO7.out, fun e => by omega, fun e => by omega, fun _ => ⟨rfl, rfl⟩⟩, HB7.out, u0', u1'⟩
         case measure => simp [intOf]
       · obtain ⟨hown, _, _, hx⟩ := id HX.out
         obtain ⟨rfl, rfl⟩ := hx rfl
         have HB := Lib.hid hB
         have HO := Lib.hid hown
         clear hB HX hx hown
         go_wp2_with fail
         go_ret
         unfold CatOf
         rw [HLn.out]
         exact ⟨a6, c6, rfl, HO.out, HB.out⟩
end
section
open Go.RowKit
set_option maxHeartbeats 2000000 in
theorem eqDesk_same (B C B' C' : Nat) (p q : Int) (v u : Value) (L : List (Int × Int)) (w : World) (h : IsPairs B C w v L) (k : IsPairs B' C' w u L) (hn : L.length ≤ 1048600) :
   Calls Tryz.prog 30 #[.agg #[.int .i64 p, .int .i64 q, v], .agg #[.int .i64 p, .int .i64 q, u]] w fun e w' => e = .returned (.bool true) ∧ Below w.heap.size w w' := by
 obtain ⟨a, ca, rfl, hC, _⟩ := id h
 obtain ⟨b, cb, rfl, hC', _⟩ := id k
 have H := Lib.hid h
 have K := Lib.hid k
 clear h k
 go_enter Tryz.func30, Tryz.ntmps30
 go_wp2_with fail
 refine (eqPair_any p q _).mono ?_
 rintro e w1 ⟨rfl, hb1⟩
 obtain ⟨hc1, hf1⟩ := bcell hb1
 have hz1 := hb1.size
 simp at hz1
 have hz2 : w.heap.size < w1.heap.size := by omega
 have hz3 : w.heap.size + 1 < w1.heap.size := by omega
 have HB1 := Lib.hid (show Below w.heap.size w w1 by (repeat (first | exact Below.refl _ _ | refine Below.alloc ?_ zo _ | refine Below.trans ?_ (Below.mono (by assumption) zo))))
 clear hb1
 go_wp2_with fail
 refine (eqPairS_same _ _ _ _ _ _ L _ (H.out.below HB1.out hC) (K.out.below HB1.out hC') hn).mono ?_
 rintro e w2 ⟨rfl, hb2⟩
 have HB2 := Lib.hid (HB1.out.trans (hb2.mono HB1.out.size))
 clear hb2
 go_wp2
 go_ret
 exact ⟨rfl, HB2.out⟩
set_option maxHeartbeats 2000000 in
theorem markDesk_any (B C : Nat) (p q : Int) (v : Value) (L : List (Int × Int)) (k0 : Int) (w : World) (h : IsPairs B C w v L) (hn : L.length ≤ 1048600) (hk : 0 ≤ k0) (hk1 : k0 ≤ 100000000) :
   Calls Tryz.prog 31 #[.agg #[.int .i64 p, .int .i64 q, v], .int .i64 k0] w fun e w' => e = .returned (.int .i64 (k0 + 2 * (L.length : Int))) ∧ IsPairs B C w' v (markL k0 L.length) ∧ MarkedS B C w w' := by
 obtain ⟨a, ca, rfl, hC, _⟩ := id h
 have H := Lib.hid h
 clear h
 go_enter Tryz.func31, Tryz.ntmps31
 go_wp2_with fail
 refine (markPairS_any B C _ L k0 _ (H.out.below ((Below.refl _ _).alloc (Nat.le_refl _) _) hC) hn hk hk1).mono ?_
 rintro e w1 ⟨rfl, hI, hM⟩
 have HI := Lib.hid hI
 have HM := Lib.hid hM
 clear hI hM
 go_wp2
 go_ret
 obtain ⟨row, hg, hr⟩ := HM.out
 exact ⟨rfl, HI.out, row, ⟨hg.os, hg.tape, hg.output, Nat.le_trans (by simp) hg.size, fun j hj hne => (hg.block j (by simp; omega) hne).trans (Below.heap_alloc _ _ _ hj)⟩, hr⟩
set_option maxHeartbeats 2000000 in
theorem heldDesk_any (B C n : Nat) (p q : Int) (v : Value) (k0 : Int) (w : World) (h : IsPairs B C w v (markL k0 n)) (hn : n ≤ 1048600) (hk : 0 ≤ k0) (hk1 : k0 ≤ 100000000) :
   Calls Tryz.prog 32 #[.agg #[.int .i64 p, .int .i64 q, v], .int .i64 k0] w fun e w' => e = .returned (.int .i64 (k0 + 2 * (n : Int))) ∧ Below w.heap.size w w' := by
 obtain ⟨a, ca, rfl, hC, _⟩ := id h
 have hB0 : ∀ o, Below w.heap.size w (w.alloc o) := fun o => (Below.refl _ _).alloc (Nat.le_refl _) o
 have HB0 := Lib.hid hB0
 have H := Lib.hid h
 clear h hB0
 rw [markL_len] at H ⊢
 go_enter Tryz.func32, Tryz.ntmps32
 go_wp2_with fail
 refine (heldPairS_any B C n _ k0 _ (H.out.below (HB0.out _) hC) hn hk hk1).mono ?_
 rintro e w1 ⟨rfl, rfl⟩
 go_wp2
 go_ret
 exact ⟨rfl, HB0.out _⟩
def deskEq (d e : DeskN) : Bool := decide (d = e)
theorem deskEq_no {p q p' q' : Int} {L M : List (Int × Int)} (h : ¬ (p = p' ∧ q = q' ∧ L = M)) : deskEq ⟨(p, q), L⟩ ⟨(p', q'), M⟩ = false := by
 unfold deskEq
 rw [decide_eq_false_iff_not]
 intro e
 injection e with e1 e2
 injection e1 with e1 e3
 exact h ⟨e1, e3, e2⟩
theorem deskEq_yes {p q : Int} {L M : List (Int × Int)} (h : L = M) : deskEq ⟨(p, q), L⟩ ⟨(p, q), M⟩ = true := by
 subst h; exact decide_eq_true rfl
set_option maxHeartbeats 4000000 in
theorem sameDesk_any (B C B' C' : Nat) (p q p' q' : Int) (v u : Value) (L M : List (Int × Int)) (w : World) (h : IsPairs B C w v L) (k : IsPairs B' C' w u M) (hn : L.length ≤ 1048600) (hm : M.length ≤ 1048600) :
   Calls Tryz.prog 18 #[.agg #[.int .i64 p, .int .i64 q, v], .agg #[.int .i64 p', .int .i64 q', u]] w fun e w' => e = .returned (.bool (deskEq ⟨(p, q), L⟩ ⟨(p', q'), M⟩)) ∧ Below w.heap.size w w' := by
 obtain ⟨a, ca, rfl, hC, hs⟩ := h
 obtain ⟨b, cb, rfl, hC', ks⟩ := k
 by_cases hp : p = p'
 · subst hp
   by_cases hq : q = q'
   · subst hq
     by_cases hl : L.length = M.length
     · have HNO := Lib.hid (fun h : L ≠ M => deskEq_no (p := p) (q := q) (p' := p) (q' := q) (L := L) (M := M) (fun e => h e.2.2))
       have HYES := Lib.hid (fun h : L = M => deskEq_yes (p := p) (q := q) h)
       have HL := Lib.hid hl
       rw [← hl] at hm ⊢
       clear hl
       go_enter Tryz.func18, Tryz.ntmps18
       go_wp2_with fail
       go_loopw [5] (fun k wr => ∃ i : Nat, i ≤ L.length ∧ k = .int .i64 i ∧ (∀ j, j < i → L[j]? = M[j]?) ∧ wr.cell? ⟨w.heap.size, 2, none⟩ = some (.slice a L.length ca) ∧ wr.cell? ⟨w.heap.size + 1, 2, none⟩ = some (.slice b L.length cb) ∧ Below w.heap.size w wr) (fun k _ => L.length - (intOf k).toNat)
       case atStart => exact ⟨0, Nat.zero_le _, rfl, fun j hj => absurd hj zO, by go_simp, by go_simp, ((Below.refl _ _).alloc (Nat.le_refl _) _).alloc (by simp) _⟩
       case round =>
         obtain ⟨i, hi, rfl, hall, k0, k1, hB⟩ := hrel
         by_cases hlt : i < L.length
         · rcases hs with rfl | ⟨g, off, rfl, h1, h2, hc, hf⟩
           · simp at hlt
           rcases ks with rfl | ⟨g', off', rfl, h1', h2', hc', hf'⟩
           · have := HL.out; simp at this; rw [this] at hlt; simp at hlt
           obtain ⟨x, y, hx⟩ := list_at hlt
           obtain ⟨x', y', hx'⟩ := list_at (L := M) (i := i) (by rw [← HL.out]; exact hlt)
           have c1 : wr.cell? ⟨g, off + i * 2, none⟩ = some (.int .i64 x) := (hB.cell (p := ⟨g, off + i * 2, none⟩) (by show g < _; omega)).trans (hc i _ hx).1
           have c2 : wr.cell? ⟨g, off + i * 2 + 1, none⟩ = some (.int .i64 y) := (hB.cell (p := ⟨g, off + i * 2 + 1, none⟩) (by show g < _; omega)).trans (hc i _ hx).2
           have c3 : wr.cell? ⟨g', off' + i * 2, none⟩ = some (.int .i64 x') := (hB.cell (p := ⟨g', off' + i * 2, none⟩) (by show g' < _; omega)).trans (hc' i _ hx').1
           have c4 : wr.cell? ⟨g', off' + i * 2 + 1, none⟩ = some (.int .i64 y') := (hB.cell (p := ⟨g', off' + i * 2 + 1, none⟩) (by show g' < _; omega)).trans (hc' i _ hx').2
           have hii : (i : Int) < (L.length : Int) := by omega
           have i0 : (0 : Int) ≤ (i : Int) := by omega
           have HA := Lib.hid hall
           have HX := Lib.hid hx
           have HX' := Lib.hid hx'
           clear hc hc' hf hf' hall hx hx'
           by_cases hxy : x = x' ∧ y = y'
           · obtain ⟨rfl, rfl⟩ := hxy
             go_wp2
             go_quiet (fail)
             go_wp2
             go_roundw
             case rel =>
               refine ⟨i + 1, by omega, congrArg (Value.int .i64) zO, fun j hj => ?_, k0, k1, Go.below_drewN hB _⟩
               by_cases e : j = i
               · subst e; rw [HX.out, HX'.out]
               · exact HA.out j zO
             case measure => simp [intOf]; omega
           · have HE := Lib.hid (HNO.out (fun e => hxy (by
               subst e
               have := HX.out.symm.trans HX'.out
               simpa using this)))
             by_cases hx1 : x = x'
             · subst hx1
               have hy1 : ¬ y = y' := fun e => hxy ⟨rfl, e⟩
               clear hxy
               go_wp2
               go_quiet (fail)
               go_wp2
               go_ret
               exact ⟨ret_bool HE.out.symm, Go.below_drewN hB _⟩
             · clear hxy
               go_wp2
               go_quiet (fail)
               go_wp2
               go_ret
               exact ⟨ret_bool HE.out.symm, Go.below_drewN hB _⟩
         · obtain rfl : i = L.length := by omega
           have HE := Lib.hid (HYES.out (by
             apply List.ext_getElem?
             intro j
             rcases Nat.lt_or_ge j L.length with hj | hj
             · exact hall j hj
             · rw [List.getElem?_eq_none hj, List.getElem?_eq_none (by rw [← HL.out]; exact hj)]))
           clear hall hs ks
           go_wp2
           go_ret
           exact ⟨ret_bool HE.out.symm, hB⟩
     · have HE := Lib.hid (deskEq_no (p := p) (q := q) (p' := p) (q' := q) (L := L) (M := M) (fun e => hl (by rw [e.2.2])))
       have hl' : ¬ ((L.length : Int) = (M.length : Int)) := by omega
       clear hs ks
       go_enter Tryz.func18, Tryz.ntmps18
       go_wp2
       go_ret
       exact ⟨ret_bool HE.out.symm, ((Below.refl _ _).alloc (Nat.le_refl _) _).alloc (by simp) _⟩
   · have HE := Lib.hid (deskEq_no (p := p) (q := q) (p' := p) (q' := q') (L := L) (M := M) (fun e => hq e.2.1))
     clear hs ks
     go_enter Tryz.func18, Tryz.ntmps18
     go_wp2
     go_ret
     exact ⟨ret_bool HE.out.symm, ((Below.refl _ _).alloc (Nat.le_refl _) _).alloc (by simp) _⟩
 · have HE := Lib.hid (deskEq_no (p := p) (q := q) (p' := p') (q' := q') (L := L) (M := M) (fun e => hp e.1))
   clear hs ks
   go_enter Tryz.func18, Tryz.ntmps18
   go_wp2
   go_ret
   exact ⟨ret_bool HE.out.symm, ((Below.refl _ _).alloc (Nat.le_refl _) _).alloc (by simp) _⟩
set_option maxHeartbeats 2000000 in
theorem noDesk_zero (w : World) (a : Option Addr) (c : Nat) :
   Calls Tryz.prog 22 #[.agg #[.int .i64 0, .int .i64 0, .slice a 0 c]] w fun e w' => e = .returned (.bool true) ∧ Below w.heap.size w w' := by
 have hcall := fun w => sameDesk_any w.heap.size w.heap.size w.heap.size w.heap.size 0 0 0 0 (.slice a 0 c) (.slice none 0 0) [] [] w (IsPairs.empty _ _ _ _) (IsPairs.empty _ _ _ _) (by simp) (by simp)
 go_enter Tryz.func22, Tryz.ntmps22
 go_wp2_with fail
 refine (hcall _).mono ?_
 rintro e w1 ⟨rfl, hb1⟩
 have HB1 := Lib.hid (show Below w.heap.size w w1 by (repeat (first | exact Below.refl _ _ | refine Below.alloc ?_ zo _ | refine Below.trans ?_ (Below.mono (by assumption) zo))))
 clear hb1 hcall
 go_wp2
 go_ret
 exact ⟨rfl, HB1.out⟩
end
section
open Go.RowKit
theorem cell_alloc_is {w : World} {a : Addr} {v : Value} (o : Obj) (h : w.cell? a = some v) : (w.alloc o).cell? a = some v := (World.cell?_alloc_lt _ _ _ (World.block_lt_of_cell? w a h)).trans h
theorem cell_set_is {w : World} {b o b' o' : Nat} {v x : Value} (h : w.cell? ⟨b, o, none⟩ = some v) (hne : b' ≠ b) : (w.setCell ⟨b', o', none⟩ x).cell? ⟨b, o, none⟩ = some v := (World.cell?_setCell_other _ _ _ _ (fun e => hne (by injection e))).trans h
theorem cell_drew_is {w : World} {a : Addr} {v : Value} (h : w.cell? a = some v) : w.drew.cell? a = some v := h
theorem region_namedD {P : Program} {Q : Exit → Act → World → Prop} {c : Code} {a : Act} {w : World} (h : ∀ W, W = w → c.wp P Q a W) : c.wp P Q a w := h w rfl
theorem calls_namedD {P : Program} {f : FuncId} {args : Array Value} {w : World} {Q : Ending → World → Prop} (h : ∀ W, W = w → Calls P f args W Q) : Calls P f args w Q := h w rfl
end
section
open Go
theorem isDig_iff {c : UInt8} : isDig c = true ↔ 48 ≤ c.toNat ∧ c.toNat ≤ 57 := by simp [isDig]
theorem fold_ge (s : List UInt8) : ∀ n : Nat, n ≤ s.foldl (fun n c => 10 * n + (c.toNat - 48)) n := by
 induction s with
 | nil => intro n; exact Nat.le_refl _
 | cons c cs ih => intro n; exact Nat.le_trans (show n ≤ 10 * n + (c.toNat - 48) by omega) (ih _)
theorem valN_pos {s : List UInt8} (h0 : s ≠ []) (hd : s.all isDig = true) (hh : s.head? ≠ some 48) : 1 ≤ valN s := by
 cases s with
 | nil => exact absurd rfl h0
 | cons c cs =>
   simp only [List.all_cons, Bool.and_eq_true] at hd
   have h1 := isDig_iff.1 hd.1
   have h2 : c.toNat ≠ 48 := fun e => hh (by rw [List.head?_cons]; congr 1; rw [← UInt8.toNat_inj]; exact e)
   have := fold_ge cs (10 * 0 + (c.toNat - 48))
   exact Nat.le_trans zO this
theorem dig_back {c : UInt8} (h : isDig c = true) : UInt8.ofNat (48 + (c.toNat - 48)) = c := by
 have h1 := isDig_iff.1 h
 rw [← UInt8.toNat_inj, UInt8.toNat_ofNat_of_lt' (by show 48 + (c.toNat - 48) < 256; omega)]
 omega
theorem decN_val : ∀ (f : Nat) (t : List UInt8), t ≠ [] → t.all isDig = true → t.head? ≠ some 48 → t.length ≤ f → decN f (valN t) = t
 | 0, t, h0, _, _, hl => by cases t; exact absurd rfl h0; simp at hl
 | f + 1, t, h0, hd, hh, hl => by
   obtain ⟨t', c, rfl⟩ : ∃ t' c, t = t' ++ [c] := ⟨t.dropLast, t.getLast h0, (List.dropLast_concat_getLast h0).symm⟩
   simp only [List.all_append, List.all_cons, List.all_nil, Bool.and_true, Bool.and_eq_true] at hd
   have hc := isDig_iff.1 hd.2
   rw [valN_snoc, decN]
   by_cases ht : t' = []
   · subst ht
     rw [if_pos (by simp [valN]; omega)]
     simp only [valN, List.foldl_nil, Nat.mul_zero, Nat.zero_add, dig_back hd.2, List.nil_append]
   · have hh' : t'.head? ≠ some 48 := by
       cases t' with
       | nil => exact absurd rfl ht
       | cons a b => simpa using hh
     have hp := valN_pos ht hd.1 hh'
     rw [if_neg zO, show (10 * valN t' + (c.toNat - 48)) / 10 = valN t' by omega, show (10 * valN t' + (c.toNat - 48)) % 10 = c.toNat - 48 by omega, dig_back hd.2,
       decN_val f t' ht hd.1 hh' (by simp at hl; omega)]
theorem number_told {t : List UInt8} {n : Nat} (h : digitsN t = some n) : numberT (n : Int) = t := by
 unfold digitsN at h
 split at h
 · rename_i hs
   obtain ⟨h1, h9, hz, hd⟩ := hs
   cases h
   unfold numberT
   rw [if_neg zO, show ((valN t : Nat) : Int).natAbs = valN t by omega]
   by_cases hh : t.head? = some 48
   · have hl : t.length = 1 := by rcases hz with hz | hz; exact hz; exact absurd hh hz
     cases t with
     | nil => simp at hl
     | cons c cs =>
       obtain rfl : cs = [] := by cases cs; rfl; simp at hl
       obtain rfl : c = 48 := by simpa using hh
       decide
   · exact decN_val 20 t (by intro e; subst e; simp at h1) hd hh zO
 · cases h
theorem decN_all : ∀ (f n : Nat), (decN f n).all isDig = true
 | 0, _ => rfl
 | f + 1, n => by
   unfold decN
   split
   · rename_i h
     simp only [List.all_cons, List.all_nil, Bool.and_true]
     rw [isDig_iff, UInt8.toNat_ofNat_of_lt' (by show 48 + n < 256; omega)]
     omega
   · rw [List.all_append, decN_all f, Bool.true_and]
     simp only [List.all_cons, List.all_nil, Bool.and_true]
     rw [isDig_iff, UInt8.toNat_ofNat_of_lt' (by show 48 + n % 10 < 256; omega)]
     omega
theorem decN_valN : ∀ (f n : Nat), n < 10 ^ f → valN (decN f n) = n
 | 0, n, h => by simp at h; subst h; rfl
 | f + 1, n, h => by
   unfold decN
   split
   · rename_i h9
     show 10 * 0 + ((UInt8.ofNat (48 + n)).toNat - 48) = n
     rw [UInt8.toNat_ofNat_of_lt' (by show 48 + n < 256; omega)]
     omega
   · rw [valN_snoc, decN_valN f (n / 10) (by rw [Nat.pow_succ] at h; omega), UInt8.toNat_ofNat_of_lt' (by show 48 + n % 10 < 256; omega)]
     omega
theorem decN_lenL : ∀ (f n k : Nat), n < 10 ^ k → 0 < k → (decN f n).length ≤ k
 | 0, _, _, _, _ => by simp [decN]
 | f + 1, n, k, h, hk => by
   unfold decN
   split
   · simp; omega
   · rename_i h9
     cases k with
     | zero => omega
     | succ k =>
       cases k with
       | zero => simp at h; omega
       | succ k =>
         have := decN_lenL f (n / 10) (k + 1) (by rw [Nat.pow_succ] at h; omega) zO
         rw [List.length_append]; simp; omega
theorem decN_head : ∀ (f n : Nat), 1 ≤ n → n < 10 ^ f → (decN f n).head? ≠ some 48
 | 0, n, h, h' => by simp at h'; omega
 | f + 1, n, h, h' => by
   unfold decN
   split
   · rename_i h9
     intro e
     rw [List.head?_cons] at e
     have e1 := congrArg UInt8.toNat (Option.some.inj e)
     rw [UInt8.toNat_ofNat_of_lt' (by show 48 + n < 256; omega)] at e1
     have : (48 : UInt8).toNat = 48 := rfl
     omega
   · rename_i h9
     have ih := decN_head f (n / 10) zO (by rw [Nat.pow_succ] at h'; omega)
     cases f with
     | zero => simp at h'; omega
     | succ f =>
       have hne := @decN_ne f (n / 10)
       cases hc : decN (f + 1) (n / 10) with
       | nil => exact absurd hc hne
       | cons a b => rw [hc] at ih; simpa using ih
theorem told_number {n : Nat} (h : n ≤ 999999999) : digitsN (numberT (n : Int)) = some n := by
 unfold numberT
 rw [if_neg zO, show ((n : Nat) : Int).natAbs = n by omega]
 have hl := decN_lenL 20 n 9 zO zO
 have h0 : 1 ≤ (decN 20 n).length := List.length_pos_iff.2 decN_ne
 have hv := decN_valN 20 n zO
 unfold digitsN
 rw [if_pos, hv]
 refine ⟨h0, hl, ?_, decN_all 20 n⟩
 rcases Nat.eq_zero_or_pos n with rfl | hp
 · exact .inl zd
 · exact .inr (decN_head 20 n hp zO)
theorem decFrom_dig : ∀ (l : List UInt8) (a : Nat), l.all isDig = true → Lib.decFrom a l = some (l.foldl (fun n c => 10 * n + (c.toNat - 48)) a)
 | [], _, _ => rfl
 | c :: r, a, h => by
   simp only [List.all_cons, Bool.and_eq_true] at h
   have hc := isDig_iff.1 h.1
   have e : Lib.decFrom a (c :: r) = Lib.decFrom (10 * a + (c.toNat - 48)) r := by
     simp only [Lib.decFrom, Lib.digitVal, if_pos hc]
     congr 1
     omega
   rw [e, decFrom_dig r _ h.2]
   rfl
theorem atoi_told {t : List UInt8} {n : Nat} (h : digitsN t = some n) : Lib.atoiAll t = .ok (n : Int) := by
 unfold digitsN at h
 split at h
 · rename_i hs
   obtain ⟨h1, h9, hz, hd⟩ := hs
   cases h
   cases t with
   | nil => simp at h1
   | cons c r =>
     have hd' := hd
     simp only [List.all_cons, Bool.and_eq_true] at hd'
     have hc := isDig_iff.1 hd'.1
     have hlt := valN_lt (c :: r) hd
     have hp : 10 ^ (c :: r).length ≤ 10 ^ 9 := Nat.pow_le_pow_right zd h9
     rw [Lib.atoiAll_plain c r zO zO, Lib.parseMag_short _ zO]
     have e : Lib.decNat (c :: r) = some (valN (c :: r)) := decFrom_dig (c :: r) 0 hd
     rw [e]
     show (if 9223372036854775808 ≤ valN (c :: r) then _ else _) = _
     rw [if_neg zO]
 · cases h
theorem piece_yes {t : List UInt8} {n : Nat} (h : digitsN t = some n) : Lib.atoiAll t = .ok (n : Int) ∧ numberT (n : Int) = t ∧ n ≤ 999999999 := ⟨atoi_told h, number_told h, by have := digitsN_lt h; omega⟩
theorem piece_no {t : List UInt8} {v : Int} (h : digitsN t = none) (ha : Lib.atoiAll t = .ok v) : ¬ (numberT v = t) ∨ v < 0 ∨ 999999999 < v := by
 by_cases h1 : numberT v = t
 · by_cases h2 : v < 0
   · exact .inr (.inl h2)
   · by_cases h3 : 999999999 < v
     · exact .inr (.inr h3)
     · exfalso
       obtain ⟨n, rfl⟩ : ∃ n : Nat, v = n := ⟨v.toNat, by omega⟩
       have := told_number (n := n) zO
       rw [h1, h] at this
       cases this
 · exact .inl h1
theorem dig_told {t : List UInt8} {n : Nat} (h : digitsN t = some n) : digZ t = ((n : Int), true) := by
 cases t with
 | nil => simp [digitsN] at h
 | cons c r =>
   have hc : c ≠ 45 := by
     intro e
     subst e
     unfold digitsN at h
     split at h
     · rename_i hs
       have := hs.2.2.2
       simp [isDig] at this
     · cases h
   rw [digZ, if_neg (fun e => hc e.1), h]
theorem dig_not {t : List UInt8} (h : digitsN t = none) : (digZ t).2 = false ∨ (digZ t).1 < 0 := by
 cases t with
 | nil => exact .inl rfl
 | cons c r =>
   rw [digZ]
   split
   · by_cases hp : 0 < (digZ r).1
     · right; show -(digZ r).1 < 0; omega
     · left; simp [hp]
   · rw [h]; exact .inl rfl
/-! Words and pieces. -/
theorem words_cut {t r : List UInt8} (h : (32 : UInt8) ∉ t) : wordsN [] (t ++ 32 :: r) = t :: wordsN [] r := by
 rw [wordsN_skip [] t _ h, List.nil_append, wordsN, if_pos rfl]
theorem words_none {l : List UInt8} (h : (32 : UInt8) ∉ l) : wordsN [] l = [l] := by
 have := wordsN_skip [] l [] h
 simpa [wordsN] using this
theorem index_split {l : List UInt8} {o : Nat} (h : Lib.indexByte l 32 = o) : ∃ t r, l = t ++ 32 :: r ∧ t.length = o ∧ (32 : UInt8) ∉ t := by
 obtain ⟨h1, h2⟩ := Lib.indexByte_some h
 obtain ⟨ho, e⟩ := List.getElem?_eq_some_iff.1 h1
 refine ⟨l.take o, l.drop (o + 1), ?_, by rw [List.length_take]; omega, fun hm => ?_⟩
 · rw [← e, ← List.drop_eq_getElem_cons ho, List.take_append_drop]
 · obtain ⟨k, hk⟩ := List.mem_iff_getElem?.1 hm
   rw [List.getElem?_take] at hk
   split at hk
   · rename_i hlt; exact h2 k hlt hk
   · cases hk
theorem index_misses {l : List UInt8} (h : Lib.indexByte l 32 = -1) : (32 : UInt8) ∉ l := fun hm => by
 obtain ⟨k, hk⟩ := List.mem_iff_getElem?.1 hm
 exact Lib.indexByte_none h k hk
theorem extract_toList (s : ByteArray) (a b : Nat) : (s.extract a b).data.toList = (s.data.toList.drop a).take (b - a) := by rw [Lib.extract_eq]
theorem words_pos (l : List UInt8) : 1 ≤ (wordsN [] l).length := List.length_pos_iff.2 (wordsN_ne _ _)
theorem pieces_words : ∀ (k : Nat) (s : ByteArray) (l : List UInt8), s.data.toList = l →
   ((wordsN [] l).length ≤ k + 1 → (Lib.splitB (txt [32]) 0 k s).map (fun x => x.data.toList) = wordsN [] l) ∧
   (k + 1 < (wordsN [] l).length → (Lib.splitB (txt [32]) 0 k s).length = k + 1 ∧ (0 < k → ((Lib.splitB (txt [32]) 0 k s).getD 0 ByteArray.empty).data.toList = (wordsN [] l).getD 0 []) ∧ (32 : UInt8) ∈ ((Lib.splitB (txt [32]) 0 k s).getD k ByteArray.empty).data.toList)
 | 0, s, l, hs => by
   by_cases hm : (32 : UInt8) ∈ l
   · refine ⟨fun h => ?_, fun _ => ⟨rfl, fun h => absurd h zO, by show (32 : UInt8) ∈ s.data.toList; rw [hs]; exact hm⟩⟩
     exfalso
     have hge := Lib.indexByte_ge l 32
     by_cases hn : Lib.indexByte l 32 = -1
     · exact index_misses hn hm
     · obtain ⟨t, r, e, _, hnt⟩ := index_split (l := l) (o := (Lib.indexByte l 32).toNat) zO
       rw [e, words_cut hnt, List.length_cons] at h
       have := words_pos r
       omega
   · refine ⟨fun _ => ?_, fun h => ?_⟩
     · rw [words_none hm, Lib.splitB_zero]; simp [hs]
     · rw [words_none hm] at h; simp at h
 | k + 1, s, l, hs => by
   have hix : Lib.indexB s (txt [32]) = Lib.indexByte l 32 := by
     show Lib.index s.data.toList [32] = _
     rw [Lib.index_one, hs]
   have hge := Lib.indexByte_ge l 32
   by_cases hn : Lib.indexByte l 32 = -1
   · have hm := index_misses hn
     rw [words_none hm, Lib.splitB_miss _ _ _ _ (hix.trans hn)]
     exact ⟨fun _ => by simp [hs], fun h => by simp at h⟩
   · obtain ⟨t, r, e, ht, hnt⟩ := index_split (l := l) (o := (Lib.indexByte l 32).toNat) zO
     have hlen : s.size = l.length := by rw [← hs]; rfl
     have hll : l.length = t.length + (r.length + 1) := by rw [e]; simp
     rw [Lib.splitB_hit (txt [32]) 0 k s t.length (by rw [hix]; omega)]
     have e1 : (s.extract 0 (t.length + 0)).data.toList = t := by rw [extract_toList, hs, e]; simp
     have e2 : (s.extract (t.length + (txt [32]).size) s.size).data.toList = r := by
       rw [extract_toList, hs, hlen, hll, e, show (txt [32]).size = 1 from rfl]
       rw [List.drop_append, List.drop_of_length_le zO, List.nil_append, show t.length + 1 - t.length = 1 by omega]
       simp only [List.drop_succ_cons, List.drop_zero]
       exact List.take_of_length_le zO
     obtain ⟨i1, i2⟩ := pieces_words k _ r e2
     rw [e, words_cut hnt]
     refine ⟨fun h => ?_, fun h => ?_⟩
     · rw [List.map_cons, e1, i1 (by simp at h; omega)]
     · obtain ⟨j1, j2, j3⟩ := i2 (by simp at h; omega)
       exact ⟨by simp [j1], fun _ => e1, j3⟩
end
end Go.Proofs.YtblphilcmfabkaaGreatDoor
