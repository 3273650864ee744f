/- Contracts that the statement's proof stands on. -/
import Derived.Test.YtlmlcbhllodncaaAll0b
import Derived.Deep.RegionHeld3
import Derived.Deep.AppendLies

namespace Go.Proofs.Ytlmlcbhllodncaa
open Go.RowKit
def mkB (l : List UInt8) : ByteArray := ⟨l.toArray⟩
theorem mkB_size (l : List UInt8) : (mkB l).size = l.length := by simp [mkB, ByteArray.size]
theorem mkB_cons (x : UInt8) (l : List UInt8) : (⟨#[x]⟩ : ByteArray) ++ mkB l = mkB (x :: l) := by
  have h : ((⟨#[x]⟩ : ByteArray) ++ mkB l).data = (mkB (x :: l)).data := by
    rw [ByteArray.data_append]; simp [mkB]
  cases hq : (⟨#[x]⟩ : ByteArray) ++ mkB l with
  | mk d => rw [hq] at h; simp [mkB] at h; rw [h]; rfl
def strB (L : List (List UInt8)) : List ByteArray := L.map mkB
def strC (L : List (List UInt8)) : List Value := L.map fun l => .string (mkB l)
theorem strB_at {L : List (List UInt8)} {k : Nat} (h : k < L.length) : (strB L).getD k ⟨#[]⟩ = mkB (L[k]) := by simp [strB, h]
theorem info_str : (Try.prog.info? 9).map (fun i => (i.zero, i.size, i.bytes)) = some (some (.string ⟨#[]⟩), 1, 16) := by kernel_rfl
/-- What a call that hands back a list of texts returns. -/
def StrsOf (L : List (List UInt8)) (w : World) (e : Ending) (w' : World) : Prop :=
  ∃ v, e = .returned v ∧ IsStrs w.heap.size w'.heap.size w' v (strB L).length (fun i => (strB L).getD i ⟨#[]⟩) ∧ Below w.heap.size w w'
theorem IsStrs.of_row {B n : Nat} {w : World} {e : TypeId} {v : Value} {L : List (List UInt8)} (h : w.ownsRow B e 1 v n (strC L)) (hn : n = L.length) : IsStrs B w.heap.size w v (strB L).length (fun i => (strB L).getD i ⟨#[]⟩) := by
  have hl : (strB L).length = n := by simp [strB, hn]
  rw [hl]
  refine IsStrs.of_owns (e := e) ?_
  have : strC L = (List.range n).map fun i => .string ((strB L).getD i ⟨#[]⟩) := by
    refine List.ext_getElem (by simp [strC, hn]) fun i h1 h2 => ?_
    have h3 : i < L.length := by simpa [strC] using h1
    simp only [strC, List.getElem_map, List.getElem_range]
    rw [strB_at h3]
  rw [← this]; exact h
theorem IsStrs.grown {B C : Nat} {w w' : World} {v : Value} {n : Nat} {f : Nat → ByteArray} {row : Option Nat} (h : IsStrs B C w v n f) (hg : w.grownBy w' row) (hd : ∀ k, row = some k → k < B ∨ C ≤ k) : IsStrs B C w' v n f := by
  obtain ⟨a, cap, rfl, hC, hs⟩ := h
  refine ⟨a, cap, rfl, Nat.le_trans hC hg.size, ?_⟩
  rcases hs with hs | ⟨g, off, ha, h1, h2, hc, hf⟩
  · exact .inl hs
  · have hne : some g ≠ row := fun e => by have := hd g e.symm; omega
    exact .inr ⟨g, off, ha, h1, h2, fun i hi => (hg.cell_far ⟨g, off + i, none⟩ (by show g < w.heap.size; omega) hne).trans (hc i hi), fun i hi => (hg.frozen_far ⟨g, off + i, none⟩ (by show g < w.heap.size; omega) hne).trans (hf i hi)⟩
theorem dom_text : ∀ k, k < 3 → (⟨#[65, 66, 67]⟩ : ByteArray).extract k (k + 1) = ⟨#[domB k]⟩ := by decide
theorem sq_text : ∀ k, k < 3 → (⟨#[97, 98, 99]⟩ : ByteArray).extract k (k + 1) = ⟨#[sqB k]⟩ := by decide
/-- The ways of a list that begin with one of the first i letters, behind others. -/
def wayG (g : Nat → UInt8) (R D : List (List UInt8)) (i : Nat) : List (List UInt8) := D ++ (List.range i).flatMap fun k => R.map (g k :: ·)
theorem wayG_next (g : Nat → UInt8) (R D : List (List UInt8)) (i : Nat) : wayG g R D (i + 1) = wayG g R D i ++ R.map (g i :: ·) := by
  simp [wayG, List.range_succ, List.flatMap_append]
theorem wayG_len (g : Nat → UInt8) (R D : List (List UInt8)) (i : Nat) : (wayG g R D i).length = D.length + i * R.length := by
  rw [wayG, List.length_append, List.length_flatMap]
  simp only [List.length_map]
  rw [sum_const, List.length_range]
theorem wayN_two (a b n : Nat) : wayN a b (n + 2) = wayG sqB (wayN a b (n + 1)) (wayG domB (wayN a b n) [] b) a := by simp [wayN, wayG]
theorem wayN_one (a b : Nat) : wayN a b 1 = wayG sqB (wayN a b 0) [] a := by simp [wayN, wayG]
theorem own_kept {w w' : World} {base : Nat} {e : TypeId} {size : Nat} {v : Value} {n : Nat} {xs : List Value} (h : w.ownsRow base e size v n xs) (hb : Below w.heap.size w w') : w'.ownsRow base e size v n xs :=
  h.kept (row := none) ⟨hb.os, hb.tape, hb.output, hb.size, fun j hj _ => hb.block j hj⟩ (by cases v.ownBlock <;> simp)
theorem own_none {w : World} {base g : Nat} (hb : base ≤ g) (h : w.heap[g]? = some (.cells #[] 9 (0, 0))) : w.ownsRow base 9 1 (.slice (some ⟨g, 0, none⟩) 0 0) 0 [] :=
  ⟨rfl, .inr ⟨g, 0, #[], rfl, hb, h, Nat.le_refl _, by unfold maxLen; omega, rfl, rfl⟩⟩
set_option maxHeartbeats 2000000 in
theorem ways_none (a b : Nat) (w : World) : Calls Try.prog 52 #[.int .i64 (0 : Nat), .int .i64 a, .int .i64 b] w (StrsOf (wayN a b 0) w) := by
  go_enter Try.func52, Try.ntmps52
  go_wp2
  go_ret
  refine ⟨_, rfl, ⟨some ⟨w.heap.size, 0, none⟩, 1, rfl, by simp, .inr ⟨w.heap.size, 0, rfl, Nat.le_refl _, by simp, fun i hi => ?_, fun i hi => ?_⟩⟩, by (repeat (first | exact Below.refl _ _ | refine Below.setCell ?_ (by first | omega | (simp <;> omega)) _ | refine Below.alloc ?_ (by first | omega | (simp <;> omega)) _ | refine Below.drew ?_ | refine Below.trans ?_ (Below.mono (by assumption) (by first | omega | (simp <;> omega))) | refine Below.grown ?_ (by assumption) (by first | omega | (simp <;> omega)) (fun k e => by cases e; first | omega | (simp <;> omega))))⟩
  · obtain rfl : i = 0 := by simp [strB, wayN] at hi; exact hi
    simp [strB, wayN, mkB]
  · simp
set_option maxRecDepth 100000 in
set_option maxHeartbeats 8000000 in
theorem ways_two (a b n : Nat) (a3 : a ≤ 3) (b3 : b ≤ 3) (n6 : n ≤ 6) (IH0 : ∀ w, Calls Try.prog 52 #[.int .i64 n, .int .i64 a, .int .i64 b] w (StrsOf (wayN a b n) w))
    (IH1 : ∀ w, Calls Try.prog 52 #[.int .i64 ((n + 1 : Nat) : Int), .int .i64 a, .int .i64 b] w (StrsOf (wayN a b (n + 1)) w)) (w : World) :
    Calls Try.prog 52 #[.int .i64 ((n + 2 : Nat) : Int), .int .i64 a, .int .i64 b] w (StrsOf (wayN a b (n + 2)) w) := by
  obtain ⟨z0, hz0, hzz, hzs1, hzs2⟩ := info_parts info_str
  have l0 := cntN_bd a (by omega) b (by omega) n (by omega)
  have l1 := cntN_bd a (by omega) b (by omega) (n + 1) (by omega)
  rw [← wayN_len] at l0 l1
  have lb := wayG_len domB (wayN a b n) [] b
  have mb := Nat.mul_le_mul b3 l0
  have ma := Nat.mul_le_mul a3 l1
  have DIH := Lib.hid IH0
  have SIH := Lib.hid IH1
  have DRB := Lib.hid l0
  have SRB := Lib.hid l1
  have DLB := Lib.hid (show ∀ i, i ≤ b → i * (wayN a b n).length ≤ 600000 from fun i hi => Nat.le_trans (Nat.mul_le_mul (Nat.le_trans hi b3) l0) (by omega))
  have SLB := Lib.hid (show ∀ i, i ≤ a → i * (wayN a b (n + 1)).length ≤ 600000 from fun i hi => Nat.le_trans (Nat.mul_le_mul (Nat.le_trans hi a3) l1) (by omega))
  have DLEN := Lib.hid (show ∀ l ∈ wayN a b n, l.length ≤ 8 from fun l hl => by have := (wayN_mem a3 b3 n l hl).2.2; omega)
  have SLEN := Lib.hid (show ∀ l ∈ wayN a b (n + 1), l.length ≤ 8 from fun l hl => by have := (wayN_mem a3 b3 (n + 1) l hl).2.2; omega)
  have DL := Lib.hid (show (wayG domB (wayN a b n) [] b).length ≤ 600000 by rw [lb]; simp; omega)
  have HW := Lib.hid (wayN_two a b n)
  have E2 : IntKind.i64.wrap (((n + 2 : Nat) : Int) - 2) = (n : Int) := by rw [IntKind.wrap_i64]; omega
  have E1 : IntKind.i64.wrap (((n + 2 : Nat) : Int) - 1) = ((n + 1 : Nat) : Int) := by rw [IntKind.wrap_i64]; omega
  have N1 : (1 : Int) < ((n + 2 : Nat) : Int) := by omega
  have N0 : (((n + 2 : Nat) : Int) == 0) = false := by rw [beq_eq_false_iff_ne]; omega
  obtain ⟨N, hN⟩ : ∃ N, n + 2 = N := ⟨_, rfl⟩
  obtain ⟨M, hM⟩ : ∃ M, n + 1 = M := ⟨_, rfl⟩
  rw [hM] at SIH SRB SLB SLEN HW E1
  rw [hN] at HW E2 E1 N1 N0 ⊢
  have hO : (w.alloc (.cells #[] 9 (0, 0))).ownsRow w.heap.size 9 1 (.slice (some ⟨w.heap.size, 0, none⟩) 0 0) 0 [] := own_none (base := w.heap.size) (Nat.le_refl _) (heap_alloc_new w _)
  have HO := Lib.hid hO
  clear l0 l1 lb mb ma IH0 IH1 hN hM hO
  go_enter Try.func52, Try.ntmps52
  go_wp2_with fail
  go_loopw [7, 8, 9, 10] (fun u x _ _ wr => ∃ i cO gO : Nat, i ≤ b ∧ x = .int .i64 i ∧ u = .slice (some ⟨gO, 0, none⟩) (wayG domB (wayN a b n) [] i).length cO ∧ wr.ownsRow w.heap.size 9 1 u (wayG domB (wayN a b n) [] i).length (strC (wayG domB (wayN a b n) [] i)) ∧ Below w.heap.size w wr) (fun _ x _ _ _ => 10 - (intOf x).toNat)
  case atStart => exact ⟨0, 0, w.heap.size, by omega, rfl, rfl, HO.out, by (repeat (first | exact Below.refl _ _ | refine Below.setCell ?_ (by first | omega | (simp <;> omega)) _ | refine Below.alloc ?_ (by first | omega | (simp <;> omega)) _ | refine Below.drew ?_ | refine Below.trans ?_ (Below.mono (by assumption) (by first | omega | (simp <;> omega))) | refine Below.grown ?_ (by assumption) (by first | omega | (simp <;> omega)) (fun k e => by cases e; first | omega | (simp <;> omega))))⟩
  case round =>
    rename World => W1
    obtain ⟨i, cO, gO, hi, rfl, rfl, hown, hB⟩ := hrel
    by_cases hlt : i < b
    · have hii : (i : Int) < (b : Int) := by omega
      have i0 : (0 : Int) ≤ (i : Int) := by omega
      have HO := Lib.hid hown
      have HB := Lib.hid hB
      have hbl := wayG_len domB (wayN a b n) [] i
      obtain ⟨P, hP⟩ : ∃ P, wayG domB (wayN a b n) [] i = P := ⟨_, rfl⟩
      have hnx := wayG_next domB (wayN a b n) [] i
      rw [hP] at HO hnx hbl ⊢
      have HN := Lib.hid hnx
      have hPb : P.length ≤ 2000000 := by have := DLB.out i hi; have := DL.out; (try simp at hbl); omega
      clear hP hown hB hnx hbl
      go_wp2_with fail
      refine (DIH.out _).mono ?_
      rintro e w3 ⟨v3, rfl, hI3, hh3⟩
      have hz3 := hh3.size
      have hown3 := own_kept HO.out hh3
      have hB3 : Below w.heap.size w w3 := HB.out.trans (hh3.mono HB.out.size)
      have hlk3 := HO.out.lt
      have hwz := HB.out.size
      have HAT := Lib.hid (show ∀ g, (Value.slice (some ⟨gO, 0, none⟩) P.length cO).ownBlock = some g → g < W1.heap.size ∨ w3.heap.size ≤ g from fun g hg => .inl (hlk3 g hg).2)
      obtain ⟨R, hR⟩ : ∃ R, (wayN a b n) = R := ⟨_, rfl⟩
      have hlR : R.length ≤ 200000 := by rw [← hR]; exact DRB.out
      rw [hR] at hI3
      have HI3 := Lib.hid hI3
      have HR := Lib.hid hR
      obtain ⟨a3, c3, rfl, _, _⟩ := hI3
      have hrl : (strB R).length = R.length := by simp [strB]
      rw [hrl]
      rw [hrl] at HI3
      clear hlk3 hh3 HO HB hR hrl
      go_wp2_with fail
      go_loopw [7, 10] (fun u y wq => ∃ q cQ gQ : Nat, q ≤ R.length ∧ y = .int .i64 q ∧ u = .slice (some ⟨gQ, 0, none⟩) (P.length + q) cQ ∧ wq.ownsRow w.heap.size 9 1 u (P.length + q) (strC (P ++ (R.take q).map (domB i :: ·))) ∧ (∀ g, u.ownBlock = some g → g < W1.heap.size ∨ w3.heap.size ≤ g) ∧ IsStrs W1.heap.size w3.heap.size wq (.slice a3 R.length c3) R.length (fun z => (strB R).getD z ⟨#[]⟩) ∧ w3.heap.size ≤ wq.heap.size ∧ Below w.heap.size w wq) (fun _ y _ => 300000 - (intOf y).toNat)
      case atStart => exact ⟨0, cO, gO, by omega, rfl, rfl, by simpa using hown3, HAT.out, HI3.out, Nat.le_refl _, hB3⟩
      case round =>
        obtain ⟨q, cQ, gQ, hq, rfl, rfl, hownq, hatq, hIq, hszq, hBq⟩ := hrel
        by_cases hltq : q < R.length
        · obtain ⟨_, _, hve, hCq, hsq⟩ := id hIq
          cases hve
          rcases hsq with hsq | ⟨g3, o3, rfl, hg3, hg4, hcq, hfq⟩
          · omega
          have hqi : (q : Int) < (R.length : Int) := by omega
          have q0 : (0 : Int) ≤ (q : Int) := by omega
          have hcell : wr.cell? ⟨g3, o3 + q, none⟩ = some (.string (mkB (R[q]))) := by rw [← strB_at hltq]; exact hcq q hltq
          have hln := DLEN.out (R[q]) (by rw [HR.out]; exact List.getElem_mem _)
          have htk : R.take (q + 1) = R.take q ++ [R[q]] := List.take_succ_eq_append_getElem hltq
          have HCE := Lib.hid (show strC (P ++ (R.take q).map (domB i :: ·)) ++ [.string (mkB (domB i :: R[q]))] = strC (P ++ (R.take (q + 1)).map (domB i :: ·)) by rw [htk, List.map_append, ← List.append_assoc]; simp only [strC, List.map_append, List.map_cons, List.map_nil])
          obtain ⟨l, hl⟩ : ∃ l, R[q] = l := ⟨_, rfl⟩
          rw [hl] at hcell hln HCE
          obtain ⟨y, hy⟩ : ∃ y, mkB l = y := ⟨_, rfl⟩
          have hys : y.size ≤ 8 := by rw [← hy, mkB_size]; exact hln
          have hcat : (⟨#[domB i]⟩ : ByteArray) ++ y = mkB (domB i :: l) := by rw [← hy]; exact mkB_cons _ _
          rw [hy] at hcell
          have hext := dom_text i (by omega)
          have hs1 : 1 + y.size ≤ 9223372036854775807 := by omega
          have hs2 : ¬ 9223372036854775807 < 1 + y.size := by omega
          have e1 : (i : Int) + 1 ≤ 3 := by omega
          have e2 : i + 1 ≤ 3 := by omega
          have e3 : i ≤ 3 := by omega
          have e5 : i ≤ 2 := by omega
          have e6 : (i : Int) ≤ 2 := by omega
          have e7 : (i : Int) ≤ 3 := by omega
          have e8 : (i : Int) ≤ (i : Int) + 1 := by omega
          have e4 : (0 : Int) ≤ (i : Int) + 1 := by omega
          have U1 : IntKind.i64.wrap ((i : Int) + 1) = (i : Int) + 1 := by rw [IntKind.wrap_i64]; omega
          have HIq := Lib.hid hIq
          have HHQ := Lib.hid hatq
          have hlk := hownq.lt
          have hBz := hBq.size
          clear hy hl htk hIq hatq hcq hfq hln
          go_wp2
          go_region_held3 (fun w' => w'.cell? ⟨g3, o3 + q, none⟩ = some (.string y))
            (first | go_keep | exact keep0)
            ((refine step_append_lies _ (by rfl) _ _ _ (by rfl) w.heap.size 9 z0 _ 1 16 Try.underlying30 hz0 hzz hzs1 hzs2 rfl (by omega) (.slice (some ⟨gQ, 0, none⟩) (P.length + q) cQ) (P.length + q) _ (by rfl) ((hownq.alloc _).drew) ⟨wr.heap.size, 0, none⟩ 1 1 [.string (mkB (domB i :: l))] (by rfl) (by rfl) (World.news_of_block (cs := #[.string (mkB (domB i :: l))]) (t := 9) (fr := (0, 0)) (heap_alloc_new wr _)) (by simp [Value.oneCell']) (by omega) (by unfold maxLen; omega) (by omega) (by simp; omega) (wr.heap.size + 1) (by simp) ?_; intro g1 c1 w4 hown4 hgrow4 hat4 hlt4; have keep0 : w4.cell? ⟨g3, o3 + q, none⟩ = some (.string y) := (hgrow4.cell_far ⟨g3, o3 + q, none⟩ (by simp; omega) (fun e => by have := HHQ.out g3 (by simpa [Value.ownBlock] using e.symm); omega)).trans ((World.cell?_alloc_past _ _ _ (by show g3 < _; omega)).trans hcell)))
          rw [HCE.out] at hown4
          have hz4 : wr.heap.size + 1 ≤ w4.heap.size := by have := hgrow4.size; simpa using this
          have hB4 : Below w.heap.size w w4 := ((hBq.alloc hBz _).drew).grown hgrow4 (by simp; omega) (fun k e => by have := hlk _ e; omega)
          have HIS := Lib.hid (((HIq.out.below (show Below wr.heap.size wr ((wr.alloc (.cells #[.string (mkB (domB i :: l))] 9)).drew) from ((Below.refl _ _).alloc (Nat.le_refl _) _).drew) (by omega))).grown hgrow4 (fun k e => HHQ.out k e))
          have HAT4 := Lib.hid (show ∀ g, (Value.slice (some ⟨g1, 0, none⟩) (P.length + q + 1) c1).ownBlock = some g → g < W1.heap.size ∨ w3.heap.size ≤ g from fun g e => by
            have e1 : g1 = g := by simpa [Value.ownBlock] using e
            subst e1
            rcases hat4 with h | h
            · exact HHQ.out g1 h
            · right; omega)
          clear hownq hgrow4 hat4 hlk hcell keep0 hcat hext
          go_wp2
          go_roundw
          case rel => exact ⟨q + 1, c1, g1, by omega, congrArg (Value.int .i64) (by omega), rfl, hown4, HAT4.out, HIS.out, by omega, hB4⟩
          case measure => simp [intOf]; omega
        · obtain rfl : q = R.length := by omega
          rw [List.take_length] at hownq
          have HNL := Lib.hid (show (wayG domB (wayN a b n) [] (i + 1)).length = P.length + R.length by rw [HN.out, HR.out]; simp)
          have HOQ := Lib.hid (show wr.ownsRow w.heap.size 9 1 (.slice (some ⟨gQ, 0, none⟩) (P.length + R.length) cQ) (P.length + R.length) (strC (wayG domB (wayN a b n) [] (i + 1))) by rw [HN.out, HR.out]; exact hownq)
          clear hownq hatq hIq
          go_wp2
          go_roundw
          case rel => exact ⟨i + 1, cQ, gQ, by omega, congrArg (Value.int .i64) (by omega), by rw [HNL.out], by rw [HNL.out]; exact HOQ.out, hBq⟩
          case measure => simp [intOf]; omega
    · obtain rfl : b = i := by omega
      have HD := Lib.hid hown
      have HBD := Lib.hid hB
      have DLn := DL.out
      obtain ⟨D, hD⟩ : ∃ D, wayG domB (wayN a b n) [] b = D := ⟨_, rfl⟩
      rw [hD] at HD HW DLn ⊢
      clear DL hD hown hB
      have DL := Lib.hid DLn
      clear DLn
      go_wp2
      go_loopw [7, 11, 12, 13] (fun u x _ _ wr => ∃ i cO gO : Nat, i ≤ a ∧ x = .int .i64 i ∧ u = .slice (some ⟨gO, 0, none⟩) (wayG sqB (wayN a b M) D i).length cO ∧ wr.ownsRow w.heap.size 9 1 u (wayG sqB (wayN a b M) D i).length (strC (wayG sqB (wayN a b M) D i)) ∧ Below w.heap.size w wr) (fun _ x _ _ _ => 10 - (intOf x).toNat)
      case atStart => exact ⟨0, cO, gO, by omega, rfl, by simp [wayG], by simpa [wayG] using HD.out, HBD.out⟩
      case round =>
        rename World => W1
        obtain ⟨i, cO, gO, hi, rfl, rfl, hown, hB⟩ := hrel
        by_cases hlt : i < a
        · have hii : (i : Int) < (a : Int) := by omega
          have i0 : (0 : Int) ≤ (i : Int) := by omega
          have HO := Lib.hid hown
          have HB := Lib.hid hB
          have hbl := wayG_len sqB (wayN a b M) D i
          obtain ⟨P, hP⟩ : ∃ P, wayG sqB (wayN a b M) D i = P := ⟨_, rfl⟩
          have hnx := wayG_next sqB (wayN a b M) D i
          rw [hP] at HO hnx hbl ⊢
          have HN := Lib.hid hnx
          have hPb : P.length ≤ 2000000 := by have := SLB.out i hi; have := DL.out; (try simp at hbl); omega
          clear hP hown hB hnx hbl
          go_wp2_with fail
          refine (SIH.out _).mono ?_
          rintro e w3 ⟨v3, rfl, hI3, hh3⟩
          have hz3 := hh3.size
          have hown3 := own_kept HO.out hh3
          have hB3 : Below w.heap.size w w3 := HB.out.trans (hh3.mono HB.out.size)
          have hlk3 := HO.out.lt
          have hwz := HB.out.size
          have HAT := Lib.hid (show ∀ g, (Value.slice (some ⟨gO, 0, none⟩) P.length cO).ownBlock = some g → g < W1.heap.size ∨ w3.heap.size ≤ g from fun g hg => .inl (hlk3 g hg).2)
          obtain ⟨R, hR⟩ : ∃ R, (wayN a b M) = R := ⟨_, rfl⟩
          have hlR : R.length ≤ 200000 := by rw [← hR]; exact SRB.out
          rw [hR] at hI3
          have HI3 := Lib.hid hI3
          have HR := Lib.hid hR
          obtain ⟨a3, c3, rfl, _, _⟩ := hI3
          have hrl : (strB R).length = R.length := by simp [strB]
          rw [hrl]
          rw [hrl] at HI3
          clear hlk3 hh3 HO HB hR hrl
          go_wp2_with fail
          go_loopw [7, 13] (fun u y wq => ∃ q cQ gQ : Nat, q ≤ R.length ∧ y = .int .i64 q ∧ u = .slice (some ⟨gQ, 0, none⟩) (P.length + q) cQ ∧ wq.ownsRow w.heap.size 9 1 u (P.length + q) (strC (P ++ (R.take q).map (sqB i :: ·))) ∧ (∀ g, u.ownBlock = some g → g < W1.heap.size ∨ w3.heap.size ≤ g) ∧ IsStrs W1.heap.size w3.heap.size wq (.slice a3 R.length c3) R.length (fun z => (strB R).getD z ⟨#[]⟩) ∧ w3.heap.size ≤ wq.heap.size ∧ Below w.heap.size w wq) (fun _ y _ => 300000 - (intOf y).toNat)
          case atStart => exact ⟨0, cO, gO, by omega, rfl, rfl, by simpa using hown3, HAT.out, HI3.out, Nat.le_refl _, hB3⟩
          case round =>
            obtain ⟨q, cQ, gQ, hq, rfl, rfl, hownq, hatq, hIq, hszq, hBq⟩ := hrel
            by_cases hltq : q < R.length
            · obtain ⟨_, _, hve, hCq, hsq⟩ := id hIq
              cases hve
              rcases hsq with hsq | ⟨g3, o3, rfl, hg3, hg4, hcq, hfq⟩
              · omega
              have hqi : (q : Int) < (R.length : Int) := by omega
              have q0 : (0 : Int) ≤ (q : Int) := by omega
              have hcell : wr.cell? ⟨g3, o3 + q, none⟩ = some (.string (mkB (R[q]))) := by rw [← strB_at hltq]; exact hcq q hltq
              have hln := SLEN.out (R[q]) (by rw [HR.out]; exact List.getElem_mem _)
              have htk : R.take (q + 1) = R.take q ++ [R[q]] := List.take_succ_eq_append_getElem hltq
              have HCE := Lib.hid (show strC (P ++ (R.take q).map (sqB i :: ·)) ++ [.string (mkB (sqB i :: R[q]))] = strC (P ++ (R.take (q + 1)).map (sqB i :: ·)) by rw [htk, List.map_append, ← List.append_assoc]; simp only [strC, List.map_append, List.map_cons, List.map_nil])
              obtain ⟨l, hl⟩ : ∃ l, R[q] = l := ⟨_, rfl⟩
              rw [hl] at hcell hln HCE
              obtain ⟨y, hy⟩ : ∃ y, mkB l = y := ⟨_, rfl⟩
              have hys : y.size ≤ 8 := by rw [← hy, mkB_size]; exact hln
              have hcat : (⟨#[sqB i]⟩ : ByteArray) ++ y = mkB (sqB i :: l) := by rw [← hy]; exact mkB_cons _ _
              rw [hy] at hcell
              have hext := sq_text i (by omega)
              have hs1 : 1 + y.size ≤ 9223372036854775807 := by omega
              have hs2 : ¬ 9223372036854775807 < 1 + y.size := by omega
              have e1 : (i : Int) + 1 ≤ 3 := by omega
              have e2 : i + 1 ≤ 3 := by omega
              have e3 : i ≤ 3 := by omega
              have e5 : i ≤ 2 := by omega
              have e6 : (i : Int) ≤ 2 := by omega
              have e7 : (i : Int) ≤ 3 := by omega
              have e8 : (i : Int) ≤ (i : Int) + 1 := by omega
              have e4 : (0 : Int) ≤ (i : Int) + 1 := by omega
              have U1 : IntKind.i64.wrap ((i : Int) + 1) = (i : Int) + 1 := by rw [IntKind.wrap_i64]; omega
              have HIq := Lib.hid hIq
              have HHQ := Lib.hid hatq
              have hlk := hownq.lt
              have hBz := hBq.size
              clear hy hl htk hIq hatq hcq hfq hln
              go_wp2
              go_region_held3 (fun w' => w'.cell? ⟨g3, o3 + q, none⟩ = some (.string y))
                (first | go_keep | exact keep0)
                ((refine step_append_lies _ (by rfl) _ _ _ (by rfl) w.heap.size 9 z0 _ 1 16 Try.underlying30 hz0 hzz hzs1 hzs2 rfl (by omega) (.slice (some ⟨gQ, 0, none⟩) (P.length + q) cQ) (P.length + q) _ (by rfl) ((hownq.alloc _).drew) ⟨wr.heap.size, 0, none⟩ 1 1 [.string (mkB (sqB i :: l))] (by rfl) (by rfl) (World.news_of_block (cs := #[.string (mkB (sqB i :: l))]) (t := 9) (fr := (0, 0)) (heap_alloc_new wr _)) (by simp [Value.oneCell']) (by omega) (by unfold maxLen; omega) (by omega) (by simp; omega) (wr.heap.size + 1) (by simp) ?_; intro g1 c1 w4 hown4 hgrow4 hat4 hlt4; have keep0 : w4.cell? ⟨g3, o3 + q, none⟩ = some (.string y) := (hgrow4.cell_far ⟨g3, o3 + q, none⟩ (by simp; omega) (fun e => by have := HHQ.out g3 (by simpa [Value.ownBlock] using e.symm); omega)).trans ((World.cell?_alloc_past _ _ _ (by show g3 < _; omega)).trans hcell)))
              rw [HCE.out] at hown4
              have hz4 : wr.heap.size + 1 ≤ w4.heap.size := by have := hgrow4.size; simpa using this
              have hB4 : Below w.heap.size w w4 := ((hBq.alloc hBz _).drew).grown hgrow4 (by simp; omega) (fun k e => by have := hlk _ e; omega)
              have HIS := Lib.hid (((HIq.out.below (show Below wr.heap.size wr ((wr.alloc (.cells #[.string (mkB (sqB i :: l))] 9)).drew) from ((Below.refl _ _).alloc (Nat.le_refl _) _).drew) (by omega))).grown hgrow4 (fun k e => HHQ.out k e))
              have HAT4 := Lib.hid (show ∀ g, (Value.slice (some ⟨g1, 0, none⟩) (P.length + q + 1) c1).ownBlock = some g → g < W1.heap.size ∨ w3.heap.size ≤ g from fun g e => by
                have e1 : g1 = g := by simpa [Value.ownBlock] using e
                subst e1
                rcases hat4 with h | h
                · exact HHQ.out g1 h
                · right; omega)
              clear hownq hgrow4 hat4 hlk hcell keep0 hcat hext
              go_wp2
              go_roundw
              case rel => exact ⟨q + 1, c1, g1, by omega, congrArg (Value.int .i64) (by omega), rfl, hown4, HAT4.out, HIS.out, by omega, hB4⟩
              case measure => simp [intOf]; omega
            · obtain rfl : q = R.length := by omega
              rw [List.take_length] at hownq
              have HNL := Lib.hid (show (wayG sqB (wayN a b M) D (i + 1)).length = P.length + R.length by rw [HN.out, HR.out]; simp)
              have HOQ := Lib.hid (show wr.ownsRow w.heap.size 9 1 (.slice (some ⟨gQ, 0, none⟩) (P.length + R.length) cQ) (P.length + R.length) (strC (wayG sqB (wayN a b M) D (i + 1))) by rw [HN.out, HR.out]; exact hownq)
              clear hownq hatq hIq
              go_wp2
              go_roundw
              case rel => exact ⟨i + 1, cQ, gQ, by omega, congrArg (Value.int .i64) (by omega), by rw [HNL.out], by rw [HNL.out]; exact HOQ.out, hBq⟩
              case measure => simp [intOf]; omega
        · obtain rfl : a = i := by omega
          have HF := Lib.hid (IsStrs.of_row hown rfl)
          clear hown
          go_wp2
          go_ret
          exact ⟨_, rfl, by rw [HW.out]; exact HF.out.mono (by omega) (Nat.le_refl _) (Nat.le_refl _), hB⟩
set_option maxRecDepth 100000 in
set_option maxHeartbeats 8000000 in
theorem ways_one (a b : Nat) (a3 : a ≤ 3) (w : World) :
    Calls Try.prog 52 #[.int .i64 (1 : Nat), .int .i64 a, .int .i64 b] w (StrsOf (wayN a b 1) w) := by
  obtain ⟨z0, hz0, hzz, hzs1, hzs2⟩ := info_parts info_str
  have SIH := Lib.hid (show ∀ w, Calls Try.prog 52 #[.int .i64 0, .int .i64 a, .int .i64 b] w (StrsOf (wayN a b 0) w) from fun w => ways_none a b w)
  have SRB := Lib.hid (show (wayN a b 0).length ≤ 200000 by simp [wayN])
  have SLB := Lib.hid (show ∀ i, i ≤ a → i * (wayN a b 0).length ≤ 600000 from fun i hi => by simp [wayN]; omega)
  have SLEN := Lib.hid (show ∀ l ∈ wayN a b 0, l.length ≤ 8 from fun l hl => by simp [wayN] at hl; rw [hl]; simp)
  have DL := Lib.hid (show ([] : List (List UInt8)).length ≤ 600000 by simp)
  have HW := Lib.hid (wayN_one a b)
  have hO : (w.alloc (.cells #[] 9 (0, 0))).ownsRow w.heap.size 9 1 (.slice (some ⟨w.heap.size, 0, none⟩) 0 0) 0 [] := own_none (base := w.heap.size) (Nat.le_refl _) (heap_alloc_new w _)
  have HO := Lib.hid hO
  have HBA := Lib.hid (show Below w.heap.size w (w.alloc (.cells #[] 9 (0, 0))) by (repeat (first | exact Below.refl _ _ | refine Below.setCell ?_ (by first | omega | (simp <;> omega)) _ | refine Below.alloc ?_ (by first | omega | (simp <;> omega)) _ | refine Below.drew ?_ | refine Below.trans ?_ (Below.mono (by assumption) (by first | omega | (simp <;> omega))) | refine Below.grown ?_ (by assumption) (by first | omega | (simp <;> omega)) (fun k e => by cases e; first | omega | (simp <;> omega)))))
  clear hO
  by_cases hb : 0 < b
  · have hbi : (0 : Int) < (b : Int) := by omega
    clear hb
    go_enter Try.func52, Try.ntmps52
    go_wp2_with fail
    go_loopw [7, 8, 9, 10] (fun u x _ _ wr => u = .slice (some ⟨w.heap.size, 0, none⟩) 0 0 ∧ x = .int .i64 0 ∧ wr.ownsRow w.heap.size 9 1 (.slice (some ⟨w.heap.size, 0, none⟩) 0 0) 0 [] ∧ Below w.heap.size w wr) (fun _ _ _ _ _ => 0)
    case atStart => exact ⟨rfl, rfl, HO.out, HBA.out⟩
    case round =>
      obtain ⟨rfl, rfl, hO2, hB2⟩ := hrel
      go_wp2
      go_loopw [7, 11, 12, 13] (fun u x _ _ wr => ∃ i cO gO : Nat, i ≤ a ∧ x = .int .i64 i ∧ u = .slice (some ⟨gO, 0, none⟩) (wayG sqB (wayN a b 0) [] i).length cO ∧ wr.ownsRow w.heap.size 9 1 u (wayG sqB (wayN a b 0) [] i).length (strC (wayG sqB (wayN a b 0) [] i)) ∧ Below w.heap.size w wr) (fun _ x _ _ _ => 10 - (intOf x).toNat)
      case atStart => exact ⟨0, 0, w.heap.size, by omega, rfl, rfl, hO2, hB2⟩
      case round =>
        rename World => W1
        obtain ⟨i, cO, gO, hi, rfl, rfl, hown, hB⟩ := hrel
        by_cases hlt : i < a
        · have hii : (i : Int) < (a : Int) := by omega
          have i0 : (0 : Int) ≤ (i : Int) := by omega
          have HO := Lib.hid hown
          have HB := Lib.hid hB
          have hbl := wayG_len sqB (wayN a b 0) [] i
          obtain ⟨P, hP⟩ : ∃ P, wayG sqB (wayN a b 0) [] i = P := ⟨_, rfl⟩
          have hnx := wayG_next sqB (wayN a b 0) [] i
          rw [hP] at HO hnx hbl ⊢
          have HN := Lib.hid hnx
          have hPb : P.length ≤ 2000000 := by have := SLB.out i hi; have := DL.out; (try simp at hbl); omega
          clear hP hown hB hnx hbl
          go_wp2_with fail
          refine (SIH.out _).mono ?_
          rintro e w3 ⟨v3, rfl, hI3, hh3⟩
          have hz3 := hh3.size
          have hown3 := own_kept HO.out hh3
          have hB3 : Below w.heap.size w w3 := HB.out.trans (hh3.mono HB.out.size)
          have hlk3 := HO.out.lt
          have hwz := HB.out.size
          have HAT := Lib.hid (show ∀ g, (Value.slice (some ⟨gO, 0, none⟩) P.length cO).ownBlock = some g → g < W1.heap.size ∨ w3.heap.size ≤ g from fun g hg => .inl (hlk3 g hg).2)
          obtain ⟨R, hR⟩ : ∃ R, (wayN a b 0) = R := ⟨_, rfl⟩
          have hlR : R.length ≤ 200000 := by rw [← hR]; exact SRB.out
          rw [hR] at hI3
          have HI3 := Lib.hid hI3
          have HR := Lib.hid hR
          obtain ⟨a3, c3, rfl, _, _⟩ := hI3
          have hrl : (strB R).length = R.length := by simp [strB]
          rw [hrl]
          rw [hrl] at HI3
          clear hlk3 hh3 HO HB hR hrl
          go_wp2_with fail
          go_loopw [7, 13] (fun u y wq => ∃ q cQ gQ : Nat, q ≤ R.length ∧ y = .int .i64 q ∧ u = .slice (some ⟨gQ, 0, none⟩) (P.length + q) cQ ∧ wq.ownsRow w.heap.size 9 1 u (P.length + q) (strC (P ++ (R.take q).map (sqB i :: ·))) ∧ (∀ g, u.ownBlock = some g → g < W1.heap.size ∨ w3.heap.size ≤ g) ∧ IsStrs W1.heap.size w3.heap.size wq (.slice a3 R.length c3) R.length (fun z => (strB R).getD z ⟨#[]⟩) ∧ w3.heap.size ≤ wq.heap.size ∧ Below w.heap.size w wq) (fun _ y _ => 300000 - (intOf y).toNat)
          case atStart => exact ⟨0, cO, gO, by omega, rfl, rfl, by simpa using hown3, HAT.out, HI3.out, Nat.le_refl _, hB3⟩
          case round =>
            obtain ⟨q, cQ, gQ, hq, rfl, rfl, hownq, hatq, hIq, hszq, hBq⟩ := hrel
            by_cases hltq : q < R.length
            · obtain ⟨_, _, hve, hCq, hsq⟩ := id hIq
              cases hve
              rcases hsq with hsq | ⟨g3, o3, rfl, hg3, hg4, hcq, hfq⟩
              · omega
              have hqi : (q : Int) < (R.length : Int) := by omega
              have q0 : (0 : Int) ≤ (q : Int) := by omega
              have hcell : wr.cell? ⟨g3, o3 + q, none⟩ = some (.string (mkB (R[q]))) := by rw [← strB_at hltq]; exact hcq q hltq
              have hln := SLEN.out (R[q]) (by rw [HR.out]; exact List.getElem_mem _)
              have htk : R.take (q + 1) = R.take q ++ [R[q]] := List.take_succ_eq_append_getElem hltq
              have HCE := Lib.hid (show strC (P ++ (R.take q).map (sqB i :: ·)) ++ [.string (mkB (sqB i :: R[q]))] = strC (P ++ (R.take (q + 1)).map (sqB i :: ·)) by rw [htk, List.map_append, ← List.append_assoc]; simp only [strC, List.map_append, List.map_cons, List.map_nil])
              obtain ⟨l, hl⟩ : ∃ l, R[q] = l := ⟨_, rfl⟩
              rw [hl] at hcell hln HCE
              obtain ⟨y, hy⟩ : ∃ y, mkB l = y := ⟨_, rfl⟩
              have hys : y.size ≤ 8 := by rw [← hy, mkB_size]; exact hln
              have hcat : (⟨#[sqB i]⟩ : ByteArray) ++ y = mkB (sqB i :: l) := by rw [← hy]; exact mkB_cons _ _
              rw [hy] at hcell
              have hext := sq_text i (by omega)
              have hs1 : 1 + y.size ≤ 9223372036854775807 := by omega
              have hs2 : ¬ 9223372036854775807 < 1 + y.size := by omega
              have e1 : (i : Int) + 1 ≤ 3 := by omega
              have e2 : i + 1 ≤ 3 := by omega
              have e3 : i ≤ 3 := by omega
              have e5 : i ≤ 2 := by omega
              have e6 : (i : Int) ≤ 2 := by omega
              have e7 : (i : Int) ≤ 3 := by omega
              have e8 : (i : Int) ≤ (i : Int) + 1 := by omega
              have e4 : (0 : Int) ≤ (i : Int) + 1 := by omega
              have U1 : IntKind.i64.wrap ((i : Int) + 1) = (i : Int) + 1 := by rw [IntKind.wrap_i64]; omega
              have HIq := Lib.hid hIq
              have HHQ := Lib.hid hatq
              have hlk := hownq.lt
              have hBz := hBq.size
              clear hy hl htk hIq hatq hcq hfq hln
              go_wp2
              go_region_held3 (fun w' => w'.cell? ⟨g3, o3 + q, none⟩ = some (.string y))
                (first | go_keep | exact keep0)
                ((refine step_append_lies _ (by rfl) _ _ _ (by rfl) w.heap.size 9 z0 _ 1 16 Try.underlying30 hz0 hzz hzs1 hzs2 rfl (by omega) (.slice (some ⟨gQ, 0, none⟩) (P.length + q) cQ) (P.length + q) _ (by rfl) ((hownq.alloc _).drew) ⟨wr.heap.size, 0, none⟩ 1 1 [.string (mkB (sqB i :: l))] (by rfl) (by rfl) (World.news_of_block (cs := #[.string (mkB (sqB i :: l))]) (t := 9) (fr := (0, 0)) (heap_alloc_new wr _)) (by simp [Value.oneCell']) (by omega) (by unfold maxLen; omega) (by omega) (by simp; omega) (wr.heap.size + 1) (by simp) ?_; intro g1 c1 w4 hown4 hgrow4 hat4 hlt4; have keep0 : w4.cell? ⟨g3, o3 + q, none⟩ = some (.string y) := (hgrow4.cell_far ⟨g3, o3 + q, none⟩ (by simp; omega) (fun e => by have := HHQ.out g3 (by simpa [Value.ownBlock] using e.symm); omega)).trans ((World.cell?_alloc_past _ _ _ (by show g3 < _; omega)).trans hcell)))
              rw [HCE.out] at hown4
              have hz4 : wr.heap.size + 1 ≤ w4.heap.size := by have := hgrow4.size; simpa using this
              have hB4 : Below w.heap.size w w4 := ((hBq.alloc hBz _).drew).grown hgrow4 (by simp; omega) (fun k e => by have := hlk _ e; omega)
              have HIS := Lib.hid (((HIq.out.below (show Below wr.heap.size wr ((wr.alloc (.cells #[.string (mkB (sqB i :: l))] 9)).drew) from ((Below.refl _ _).alloc (Nat.le_refl _) _).drew) (by omega))).grown hgrow4 (fun k e => HHQ.out k e))
              have HAT4 := Lib.hid (show ∀ g, (Value.slice (some ⟨g1, 0, none⟩) (P.length + q + 1) c1).ownBlock = some g → g < W1.heap.size ∨ w3.heap.size ≤ g from fun g e => by
                have e1 : g1 = g := by simpa [Value.ownBlock] using e
                subst e1
                rcases hat4 with h | h
                · exact HHQ.out g1 h
                · right; omega)
              clear hownq hgrow4 hat4 hlk hcell keep0 hcat hext
              go_wp2
              go_roundw
              case rel => exact ⟨q + 1, c1, g1, by omega, congrArg (Value.int .i64) (by omega), rfl, hown4, HAT4.out, HIS.out, by omega, hB4⟩
              case measure => simp [intOf]; omega
            · obtain rfl : q = R.length := by omega
              rw [List.take_length] at hownq
              have HNL := Lib.hid (show (wayG sqB (wayN a b 0) [] (i + 1)).length = P.length + R.length by rw [HN.out, HR.out]; simp)
              have HOQ := Lib.hid (show wr.ownsRow w.heap.size 9 1 (.slice (some ⟨gQ, 0, none⟩) (P.length + R.length) cQ) (P.length + R.length) (strC (wayG sqB (wayN a b 0) [] (i + 1))) by rw [HN.out, HR.out]; exact hownq)
              clear hownq hatq hIq
              go_wp2
              go_roundw
              case rel => exact ⟨i + 1, cQ, gQ, by omega, congrArg (Value.int .i64) (by omega), by rw [HNL.out], by rw [HNL.out]; exact HOQ.out, hBq⟩
              case measure => simp [intOf]; omega
        · obtain rfl : a = i := by omega
          have HF := Lib.hid (IsStrs.of_row hown rfl)
          clear hown
          go_wp2
          go_ret
          exact ⟨_, rfl, by rw [HW.out]; exact HF.out.mono (by omega) (Nat.le_refl _) (Nat.le_refl _), hB⟩
  · have hbi : (b : Int) ≤ 0 := by omega
    clear hb
    go_enter Try.func52, Try.ntmps52
    go_wp2_with fail
    go_loopw [7, 8, 9, 10] (fun u x _ _ wr => u = .slice (some ⟨w.heap.size, 0, none⟩) 0 0 ∧ x = .int .i64 0 ∧ wr.ownsRow w.heap.size 9 1 (.slice (some ⟨w.heap.size, 0, none⟩) 0 0) 0 [] ∧ Below w.heap.size w wr) (fun _ _ _ _ _ => 0)
    case atStart => exact ⟨rfl, rfl, HO.out, HBA.out⟩
    case round =>
      obtain ⟨rfl, rfl, hO2, hB2⟩ := hrel
      go_wp2
      go_loopw [7, 11, 12, 13] (fun u x _ _ wr => ∃ i cO gO : Nat, i ≤ a ∧ x = .int .i64 i ∧ u = .slice (some ⟨gO, 0, none⟩) (wayG sqB (wayN a b 0) [] i).length cO ∧ wr.ownsRow w.heap.size 9 1 u (wayG sqB (wayN a b 0) [] i).length (strC (wayG sqB (wayN a b 0) [] i)) ∧ Below w.heap.size w wr) (fun _ x _ _ _ => 10 - (intOf x).toNat)
      case atStart => exact ⟨0, 0, w.heap.size, by omega, rfl, rfl, hO2, hB2⟩
      case round =>
        rename World => W1
        obtain ⟨i, cO, gO, hi, rfl, rfl, hown, hB⟩ := hrel
        by_cases hlt : i < a
        · have hii : (i : Int) < (a : Int) := by omega
          have i0 : (0 : Int) ≤ (i : Int) := by omega
          have HO := Lib.hid hown
          have HB := Lib.hid hB
          have hbl := wayG_len sqB (wayN a b 0) [] i
          obtain ⟨P, hP⟩ : ∃ P, wayG sqB (wayN a b 0) [] i = P := ⟨_, rfl⟩
          have hnx := wayG_next sqB (wayN a b 0) [] i
          rw [hP] at HO hnx hbl ⊢
          have HN := Lib.hid hnx
          have hPb : P.length ≤ 2000000 := by have := SLB.out i hi; have := DL.out; (try simp at hbl); omega
          clear hP hown hB hnx hbl
          go_wp2_with fail
          refine (SIH.out _).mono ?_
          rintro e w3 ⟨v3, rfl, hI3, hh3⟩
          have hz3 := hh3.size
          have hown3 := own_kept HO.out hh3
          have hB3 : Below w.heap.size w w3 := HB.out.trans (hh3.mono HB.out.size)
          have hlk3 := HO.out.lt
          have hwz := HB.out.size
          have HAT := Lib.hid (show ∀ g, (Value.slice (some ⟨gO, 0, none⟩) P.length cO).ownBlock = some g → g < W1.heap.size ∨ w3.heap.size ≤ g from fun g hg => .inl (hlk3 g hg).2)
          obtain ⟨R, hR⟩ : ∃ R, (wayN a b 0) = R := ⟨_, rfl⟩
          have hlR : R.length ≤ 200000 := by rw [← hR]; exact SRB.out
          rw [hR] at hI3
          have HI3 := Lib.hid hI3
          have HR := Lib.hid hR
          obtain ⟨a3, c3, rfl, _, _⟩ := hI3
          have hrl : (strB R).length = R.length := by simp [strB]
          rw [hrl]
          rw [hrl] at HI3
          clear hlk3 hh3 HO HB hR hrl
          go_wp2_with fail
          go_loopw [7, 13] (fun u y wq => ∃ q cQ gQ : Nat, q ≤ R.length ∧ y = .int .i64 q ∧ u = .slice (some ⟨gQ, 0, none⟩) (P.length + q) cQ ∧ wq.ownsRow w.heap.size 9 1 u (P.length + q) (strC (P ++ (R.take q).map (sqB i :: ·))) ∧ (∀ g, u.ownBlock = some g → g < W1.heap.size ∨ w3.heap.size ≤ g) ∧ IsStrs W1.heap.size w3.heap.size wq (.slice a3 R.length c3) R.length (fun z => (strB R).getD z ⟨#[]⟩) ∧ w3.heap.size ≤ wq.heap.size ∧ Below w.heap.size w wq) (fun _ y _ => 300000 - (intOf y).toNat)
          case atStart => exact ⟨0, cO, gO, by omega, rfl, rfl, by simpa using hown3, HAT.out, HI3.out, Nat.le_refl _, hB3⟩
          case round =>
            obtain ⟨q, cQ, gQ, hq, rfl, rfl, hownq, hatq, hIq, hszq, hBq⟩ := hrel
            by_cases hltq : q < R.length
            · obtain ⟨_, _, hve, hCq, hsq⟩ := id hIq
              cases hve
              rcases hsq with hsq | ⟨g3, o3, rfl, hg3, hg4, hcq, hfq⟩
              · omega
              have hqi : (q : Int) < (R.length : Int) := by omega
              have q0 : (0 : Int) ≤ (q : Int) := by omega
              have hcell : wr.cell? ⟨g3, o3 + q, none⟩ = some (.string (mkB (R[q]))) := by rw [← strB_at hltq]; exact hcq q hltq
              have hln := SLEN.out (R[q]) (by rw [HR.out]; exact List.getElem_mem _)
              have htk : R.take (q + 1) = R.take q ++ [R[q]] := List.take_succ_eq_append_getElem hltq
              have HCE := Lib.hid (show strC (P ++ (R.take q).map (sqB i :: ·)) ++ [.string (mkB (sqB i :: R[q]))] = strC (P ++ (R.take (q + 1)).map (sqB i :: ·)) by rw [htk, List.map_append, ← List.append_assoc]; simp only [strC, List.map_append, List.map_cons, List.map_nil])
              obtain ⟨l, hl⟩ : ∃ l, R[q] = l := ⟨_, rfl⟩
              rw [hl] at hcell hln HCE
              obtain ⟨y, hy⟩ : ∃ y, mkB l = y := ⟨_, rfl⟩
              have hys : y.size ≤ 8 := by rw [← hy, mkB_size]; exact hln
              have hcat : (⟨#[sqB i]⟩ : ByteArray) ++ y = mkB (sqB i :: l) := by rw [← hy]; exact mkB_cons _ _
              rw [hy] at hcell
              have hext := sq_text i (by omega)
              have hs1 : 1 + y.size ≤ 9223372036854775807 := by omega
              have hs2 : ¬ 9223372036854775807 < 1 + y.size := by omega
              have e1 : (i : Int) + 1 ≤ 3 := by omega
              have e2 : i + 1 ≤ 3 := by omega
              have e3 : i ≤ 3 := by omega
              have e5 : i ≤ 2 := by omega
              have e6 : (i : Int) ≤ 2 := by omega
              have e7 : (i : Int) ≤ 3 := by omega
              have e8 : (i : Int) ≤ (i : Int) + 1 := by omega
              have e4 : (0 : Int) ≤ (i : Int) + 1 := by omega
              have U1 : IntKind.i64.wrap ((i : Int) + 1) = (i : Int) + 1 := by rw [IntKind.wrap_i64]; omega
              have HIq := Lib.hid hIq
              have HHQ := Lib.hid hatq
              have hlk := hownq.lt
              have hBz := hBq.size
              clear hy hl htk hIq hatq hcq hfq hln
              go_wp2
              go_region_held3 (fun w' => w'.cell? ⟨g3, o3 + q, none⟩ = some (.string y))
                (first | go_keep | exact keep0)
                ((refine step_append_lies _ (by rfl) _ _ _ (by rfl) w.heap.size 9 z0 _ 1 16 Try.underlying30 hz0 hzz hzs1 hzs2 rfl (by omega) (.slice (some ⟨gQ, 0, none⟩) (P.length + q) cQ) (P.length + q) _ (by rfl) ((hownq.alloc _).drew) ⟨wr.heap.size, 0, none⟩ 1 1 [.string (mkB (sqB i :: l))] (by rfl) (by rfl) (World.news_of_block (cs := #[.string (mkB (sqB i :: l))]) (t := 9) (fr := (0, 0)) (heap_alloc_new wr _)) (by simp [Value.oneCell']) (by omega) (by unfold maxLen; omega) (by omega) (by simp; omega) (wr.heap.size + 1) (by simp) ?_; intro g1 c1 w4 hown4 hgrow4 hat4 hlt4; have keep0 : w4.cell? ⟨g3, o3 + q, none⟩ = some (.string y) := (hgrow4.cell_far ⟨g3, o3 + q, none⟩ (by simp; omega) (fun e => by have := HHQ.out g3 (by simpa [Value.ownBlock] using e.symm); omega)).trans ((World.cell?_alloc_past _ _ _ (by show g3 < _; omega)).trans hcell)))
              rw [HCE.out] at hown4
              have hz4 : wr.heap.size + 1 ≤ w4.heap.size := by have := hgrow4.size; simpa using this
              have hB4 : Below w.heap.size w w4 := ((hBq.alloc hBz _).drew).grown hgrow4 (by simp; omega) (fun k e => by have := hlk _ e; omega)
              have HIS := Lib.hid (((HIq.out.below (show Below wr.heap.size wr ((wr.alloc (.cells #[.string (mkB (sqB i :: l))] 9)).drew) from ((Below.refl _ _).alloc (Nat.le_refl _) _).drew) (by omega))).grown hgrow4 (fun k e => HHQ.out k e))
              have HAT4 := Lib.hid (show ∀ g, (Value.slice (some ⟨g1, 0, none⟩) (P.length + q + 1) c1).ownBlock = some g → g < W1.heap.size ∨ w3.heap.size ≤ g from fun g e => by
                have e1 : g1 = g := by simpa [Value.ownBlock] using e
                subst e1
                rcases hat4 with h | h
                · exact HHQ.out g1 h
                · right; omega)
              clear hownq hgrow4 hat4 hlk hcell keep0 hcat hext
              go_wp2
              go_roundw
              case rel => exact ⟨q + 1, c1, g1, by omega, congrArg (Value.int .i64) (by omega), rfl, hown4, HAT4.out, HIS.out, by omega, hB4⟩
              case measure => simp [intOf]; omega
            · obtain rfl : q = R.length := by omega
              rw [List.take_length] at hownq
              have HNL := Lib.hid (show (wayG sqB (wayN a b 0) [] (i + 1)).length = P.length + R.length by rw [HN.out, HR.out]; simp)
              have HOQ := Lib.hid (show wr.ownsRow w.heap.size 9 1 (.slice (some ⟨gQ, 0, none⟩) (P.length + R.length) cQ) (P.length + R.length) (strC (wayG sqB (wayN a b 0) [] (i + 1))) by rw [HN.out, HR.out]; exact hownq)
              clear hownq hatq hIq
              go_wp2
              go_roundw
              case rel => exact ⟨i + 1, cQ, gQ, by omega, congrArg (Value.int .i64) (by omega), by rw [HNL.out], by rw [HNL.out]; exact HOQ.out, hBq⟩
              case measure => simp [intOf]; omega
        · obtain rfl : a = i := by omega
          have HF := Lib.hid (IsStrs.of_row hown rfl)
          clear hown
          go_wp2
          go_ret
          exact ⟨_, rfl, by rw [HW.out]; exact HF.out.mono (by omega) (Nat.le_refl _) (Nat.le_refl _), hB⟩
theorem specWays_at (a b : Nat) (a3 : a ≤ 3) (b3 : b ≤ 3) : ∀ n : Nat, n ≤ 8 → ∀ w, Calls Try.prog 52 #[.int .i64 (n : Int), .int .i64 a, .int .i64 b] w (StrsOf (wayN a b n) w)
  | 0, _, w => ways_none a b w
  | 1, _, w => ways_one a b a3 w
  | n + 2, h, w => ways_two a b n a3 b3 (by omega) (specWays_at a b a3 b3 n (by omega)) (specWays_at a b a3 b3 (n + 1) (by omega)) w
/-- The ways that are told. -/
def waysB (c s d : Int) : Bool := tileB c s d && decide (countV c s d ≤ 2000)
def waysL (c s d : Int) : List (List UInt8) := if waysB c s d = true then wayN s.toNat d.toNat c.toNat else []
theorem waysL_no {c s d : Int} (h : waysB c s d = false) : waysL c s d = [] := by rw [waysL, if_neg (by simp [h])]
theorem waysL_is {c s d : Nat} (h : waysB c s d = true) : waysL c s d = wayN s d c := by rw [waysL, if_pos h]; rfl
set_option maxHeartbeats 2000000 in
theorem specWays_any (c s d : Int) (w : World) : Calls Try.prog 24 #[.int .i64 c, .int .i64 s, .int .i64 d] w (StrsOf (waysL c s d) w) := by
  cases ht : tileB c s d with
  | false =>
    have HL := Lib.hid (waysL_no (c := c) (s := s) (d := d) (by rw [waysB, ht]; rfl))
    have HC := Lib.hid (countV_no ht)
    clear ht
    go_enter Try.func24, Try.ntmps24
    go_wp2_with fail
    refine (specCount_is c s d (-1) _ HC.out).mono ?_
    rintro e wx ⟨rfl, rfl⟩
    go_wp2_with fail
    refine (specCount_is c s d (-1) _ HC.out).mono ?_
    rintro e wx ⟨rfl, rfl⟩
    go_wp2
    go_ret
    rw [HL.out]
    exact ⟨_, rfl, IsStrs.empty _ _ _ _ _, by (repeat (first | exact Below.refl _ _ | refine Below.setCell ?_ (by first | omega | (simp <;> omega)) _ | refine Below.alloc ?_ (by first | omega | (simp <;> omega)) _ | refine Below.drew ?_ | refine Below.trans ?_ (Below.mono (by assumption) (by first | omega | (simp <;> omega))) | refine Below.grown ?_ (by assumption) (by first | omega | (simp <;> omega)) (fun k e => by cases e; first | omega | (simp <;> omega))))⟩
  | true =>
    obtain ⟨n, x, y, rfl, rfl, rfl, n8, x3, y3⟩ := tileB_true ht
    have hC := countV_is ht
    have hW : decide (countV n x y ≤ 2000) = waysB n x y := by rw [waysB, ht]; rfl
    have hNo := waysL_no (c := n) (s := x) (d := y)
    have hIs := waysL_is (c := n) (s := x) (d := y)
    obtain ⟨t, htt⟩ : ∃ t, cntN x y n = t := ⟨_, rfl⟩
    rw [htt] at hC
    rw [hC] at hW
    have HC := Lib.hid hC
    by_cases h2 : t ≤ 2000
    · have HL := Lib.hid (hIs (by rw [← hW]; simp; omega))
      have t0 : (0 : Int) ≤ (t : Int) := by omega
      have t1 : (t : Int) ≤ 2000 := by omega
      have HX := Lib.hid (specWays_at x y x3 y3 n n8)
      clear ht hC hW hNo hIs htt h2
      go_enter Try.func24, Try.ntmps24
      go_wp2_with fail
      refine (specCount_is _ _ _ t _ HC.out).mono ?_
      rintro e wx ⟨rfl, rfl⟩
      go_wp2_with fail
      refine (specCount_is _ _ _ t _ HC.out).mono ?_
      rintro e wx ⟨rfl, rfl⟩
      go_wp2_with fail
      refine (HX.out _).mono ?_
      rintro e w2 ⟨v2, rfl, hI2, hh2⟩
      go_wp2
      go_ret
      rw [HL.out]
      exact ⟨_, rfl, hI2, hh2⟩
    · have HL := Lib.hid (hNo (by rw [← hW]; simp; omega))
      have t1 : (2000 : Int) < (t : Int) := by omega
      clear ht hC hW hNo hIs htt h2
      go_enter Try.func24, Try.ntmps24
      go_wp2_with fail
      refine (specCount_is _ _ _ t _ HC.out).mono ?_
      rintro e wx ⟨rfl, rfl⟩
      go_wp2
      go_ret
      rw [HL.out]
      exact ⟨_, rfl, IsStrs.empty _ _ _ _ _, by (repeat (first | exact Below.refl _ _ | refine Below.setCell ?_ (by first | omega | (simp <;> omega)) _ | refine Below.alloc ?_ (by first | omega | (simp <;> omega)) _ | refine Below.drew ?_ | refine Below.trans ?_ (Below.mono (by assumption) (by first | omega | (simp <;> omega))) | refine Below.grown ?_ (by assumption) (by first | omega | (simp <;> omega)) (fun k e => by cases e; first | omega | (simp <;> omega))))⟩
theorem specWays_is (c s d : Int) (L : List (List UInt8)) (w : World) (h : waysL c s d = L) : Calls Try.prog 24 #[.int .i64 c, .int .i64 s, .int .i64 d] w (StrsOf L w) := by rw [← h]; exact specWays_any c s d w
end Go.Proofs.Ytlmlcbhllodncaa
